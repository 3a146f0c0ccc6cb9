/- The program's Row. -/
import Derived.Test.YtejionmgpplniaaP
import Derived.Test.YtejionmgpplniaaF
namespace Go.Proofs.Ytejionmgpplniaa.T
open Go.RowKit
set_option linter.unusedVariables false
set_option linter.unusedSimpArgs false
theorem chk0 {L : List Mv} {tmp : Int} (h : chkN L tmp = 0) : L.length ≤ 100 ∧ (∀ m, m ∈ L → okM m = true) ∧ placeB (false, tmp) = true ∧ ¬ dupP L ∧ ∀ m, m ∈ L → isM (false, tmp) m = false := by
  unfold chkN at h
  split at h
  · cases h
  · split at h
    · cases h
    · rename_i h2
      split at h
      · cases h
      · rename_i h3
        split at h
        · cases h
        · rename_i h4
          split at h
          · cases h
          · rename_i h5
            refine ⟨by omega, by simpa using h2, ?_, h4, fun m hm => ?_⟩
            · unfold placeB
              simp
              omega
            · cases e : isM (false, tmp) m with
              | false => rfl
              | true => exact absurd ⟨m, hm, e⟩ h5
/-- What Row leaves. -/
def PRw (w : World) (L : List Mv) (tmp : Int) (e : Ending) (w' : World) : Prop := ∃ u R, e = .returned (.tuple #[u, .int .i64 (chkN L tmp)]) ∧ Prs w' u R ∧ Below w.heap.size w w' ∧ (¬ chkN L tmp = 0 → R = []) ∧ (chkN L tmp = 0 → R.length ≤ L.length + L.length / 2 ∧ ∀ p, p ≠ (false, tmp) → atN (rowL R) p = atN (L.map swp) p)
theorem PRw.mk {w : World} {L : List Mv} {tmp : Int} {e : Ending} {w' : World} (u : Value) (R : List Mv) (h1 : e = .returned (.tuple #[u, .int .i64 (chkN L tmp)])) (h2 : Prs w' u R) (h3 : Below w.heap.size w w') (h4 : ¬ chkN L tmp = 0 → R = []) (h5 : chkN L tmp = 0 → R.length ≤ L.length + L.length / 2 ∧ ∀ p, p ≠ (false, tmp) → atN (rowL R) p = atN (L.map swp) p) : PRw w L tmp e w' := ⟨u, R, h1, h2, h3, h4, h5⟩
set_option maxRecDepth 100000 in
set_option maxHeartbeats 2000000 in
theorem roww_any (v : Value) (L : List Mv) (tmp : Int) (w : World) (hL : Prs w v L) (hl : L.length ≤ 9223372036854775807) : Calls Try.prog 4 #[v, .int .i64 tmp] w (PRw w L tmp) := by
  have HL := hide hL
  obtain ⟨a, cp, rfl, -⟩ := hL
  have HF := hide ((Fr.start w).alloc (q := w.heap.size) rfl #[.bool false, .int .i64 tmp] 31)
  have HC := hide (wrong_any _ L tmp _ (HL.out.below HF.out.below) hl)
  have HZ : Hid (∀ e w' (u : Value) (R : List Mv), e = .returned (.tuple #[u, .int .i64 (chkN L tmp)]) → Prs w' u R → Below w.heap.size w w' → (¬ chkN L tmp = 0 → R = []) → (chkN L tmp = 0 → R.length ≤ L.length + L.length / 2 ∧ ∀ p, p ≠ (false, tmp) → atN (rowL R) p = atN (L.map swp) p) → PRw w L tmp e w') := fun e w' u R => PRw.mk u R
  have HK : Hid (chkN L tmp = 0 → _) := chk0 (L := L) (tmp := tmp)
  generalize hE : chkN L tmp = E at *
  clear hE
  go_enter Try.func4, Try.ntmps4
  go_wp2_with fail
  go_at_call 9
  refine HC.out.mono ?_
  rintro e w1 ⟨rfl, hb⟩
  replace HF := hide (HF.out.call hb)
  clear hb HC
  by_cases h0 : E = 0
  case neg =>
    have h0' : ¬ (E : Int) = 0 := by omega
    have h0'' : ((E : Int) == 0) = false := by simpa using h0'
    go_wp2_with fail
    go_ret2
    exact HZ.out _ _ (.slice none 0 0) [] rfl ⟨none, 0, rfl, fun h => absurd h (by simp)⟩ HF.out.below (fun _ => rfl) (fun h => absurd h h0)
  subst h0
  obtain ⟨h100, hok, hp, hd, hm⟩ := HK.out rfl
  have HI := hide (Inv.start hd hm)
  have HO : Hid (∀ m, m ∈ L.filter movM → Wf m.1 ∧ Wf m.2) := fun m hm => ok_parts (hok m (List.mem_filter.1 hm).1)
  have HT := hide (wf_place hp)
  have hfl : (L.filter movM).length ≤ L.length := List.length_filter_le _ _
  clear HK hok hp hd hm
  have HB := hide (fun w' (hb : Below w.heap.size w w') => btw_any _ L w' (HL.out.below hb) h100)
  go_wp2_with fail
  replace HF := hide HF.out.drew
  refine wp_region_held_drew (S := fun w' => (∀ o, w'.cell? ⟨w.heap.size, o, none⟩ = (#[Value.bool false, .int .i64 tmp])[o]?)) (by kernel_rfl) (HF.out.cell 0 rfl) (fun hHeld => ?_)
  refine wpAnyH_take (i := 0) (v := ?_) rfl (by kernel_rfl) (by kernel_rfl) (by kernel_rfl) (fun _ _ _ h => h) (Or.inl ⟨by rfl, ?_⟩) (by assumption) ?_
  rotate_left
  · (intro w hSw; (try dsimp only at hSw); skip; go_simp) <;> with_reducible rfl
  (simp only [Act.put, List.getElem_toArray, List.getElem_cons_zero, List.getElem_cons_succ, List.setIfInBounds_toArray, List.set_cons_zero, List.set_cons_succ])
  refine wpAnyH_take (i := 2) (v := ?_) rfl (by kernel_rfl) (by kernel_rfl) (by kernel_rfl) (fun _ _ _ h => h) (Or.inl ⟨by rfl, ?_⟩) (by assumption) ?_
  rotate_left
  · (intro w hSw; (try dsimp only at hSw); skip; go_simp) <;> with_reducible rfl
  (simp only [Act.put, List.getElem_toArray, List.getElem_cons_zero, List.getElem_cons_succ, List.setIfInBounds_toArray, List.set_cons_zero, List.set_cons_succ])
  refine wpAnyH_ready (rs := [1]) (by kernel_rfl) (by simp) ?_
  refine AllReadyH.cons rfl (fun K hK => ?_) AllReadyH.nil
  go_simp
  refine (HB.out _ HF.out.below).mono ?_
  rintro e w3 ⟨u, rfl, hown, hb⟩
  have HF3 := hide ((Fr.start _).take hb hown)
  clear hb hown HB
  have hS3 := (HF.out.call HF3.out.below).cell 0 rfl
  refine hK.out _ _ hS3 (fun hHeld1 => ?_)
  clear hK K
  (try (simp only [Act.put, List.getElem_toArray, List.getElem_cons_zero, List.getElem_cons_succ, List.setIfInBounds_toArray, List.set_cons_zero, List.set_cons_succ]))
  refine wpAnyH_ready (rs := [3]) (by kernel_rfl) (by simp) ?_
  refine AllReadyH.cons rfl (fun K hK => ?_) AllReadyH.nil
  go_simp
  refine (inrow_any _ _ _ _ _ tmp _ _ HF3.out (by omega) (by omega) HO.out HT.out HI.out).mono ?_
  rintro e w4 ⟨u', R, rfl, hinv, hfr⟩
  have HR := hide hinv.ends
  have HF4 := hide hfr
  clear hinv hfr hS3
  have hS4 := (HF.out.call HF4.out.below).cell 0 rfl
  have HB4 := hide (HF.out.call HF4.out.below).below
  refine hK.out _ _ hS4 (fun hHeld2 => ?_)
  clear hK K
  (try (simp only [Act.put, List.getElem_toArray, List.getElem_cons_zero, List.getElem_cons_succ, List.setIfInBounds_toArray, List.set_cons_zero, List.set_cons_succ]))
  refine wpAnyH_take (i := 4) (v := ?_) rfl (by kernel_rfl) (by kernel_rfl) (by kernel_rfl) (fun _ _ _ h => h) (Or.inl ⟨by rfl, ?_⟩) (by assumption) ?_
  rotate_left
  · (intro w hSw; (try dsimp only at hSw); skip; go_simp) <;> with_reducible rfl
  (simp only [Act.put, List.getElem_toArray, List.getElem_cons_zero, List.getElem_cons_succ, List.setIfInBounds_toArray, List.set_cons_zero, List.set_cons_succ])
  refine wpAnyH_take (i := 5) (v := ?_) rfl (by kernel_rfl) (by kernel_rfl) (by kernel_rfl) (fun _ _ _ h => h) (Or.inl ⟨by rfl, ?_⟩) (by assumption) ?_
  rotate_left
  · (intro w hSw; (try dsimp only at hSw); skip; go_simp) <;> with_reducible rfl
  (simp only [Act.put, List.getElem_toArray, List.getElem_cons_zero, List.getElem_cons_succ, List.setIfInBounds_toArray, List.set_cons_zero, List.set_cons_succ])
  refine wpAnyH_done (by kernel_rfl) ?_ _
  go_wp2_with fail
  go_ret2
  refine HZ.out _ _ u' R rfl (Prs.of (HF4.out.get (i := 0) rfl)) HB4.out (fun h => absurd h (by simp)) (fun _ => ⟨?_, HR.out.2⟩)
  have := HR.out.1
  omega
theorem pr10 : Pr10 := fun v L tmp w hL hl => roww_any v L tmp w hL hl
end Go.Proofs.Ytejionmgpplniaa.T
