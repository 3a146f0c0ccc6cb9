/- The program's twiceTo. -/
import Derived.Test.YtejionmgpplniaaI
import Derived.Deep.RegionHeldLaw
import Derived.Carry
namespace Go.Proofs.Ytejionmgpplniaa.T
open Go.RowKit
set_option linter.unusedVariables false
set_option linter.unusedSimpArgs false
theorem Fr.allocMap {n0 : Nat} {w0 w : World} {L : List Rs} (h : Fr n0 w0 w L) {q : Nat} (hq : w.heap.size = q) : Fr n0 w0 (w.alloc (.map #[] 0)) (.mp q (fun _ => 0) :: L) := by
  subst hq
  refine (h.call ((Below.refl _ _).alloc (Nat.le_refl _) _)).add (r := .mp w.heap.size (fun _ => 0)) ⟨h.le, Mp.made w⟩ fun x hx q hq he => ?_
  have := ((h.ok x hx).lt he).2
  have e : w.heap.size = q := Option.some.inj hq
  omega
theorem wf_place {p : Lc} (h : placeB p = true) : Wf p := by
  unfold placeB at h
  unfold Wf
  rw [Bool.and_eq_true, decide_eq_true_eq, decide_eq_true_eq] at h
  obtain ⟨h1, h2⟩ := h
  split at h2 <;> omega
theorem ok_parts {m : Lc × Lc} (h : okM m = true) : Wf m.1 ∧ Wf m.2 := by
  unfold okM at h
  rw [Bool.and_eq_true] at h
  exact ⟨wf_place h.1, wf_place h.2⟩
/-- How many of the first k moves go to p. -/
def cT (L : List (Lc × Lc)) (k : Nat) (p : Lc) : Int := (((L.take k).countP (fun m => decide (m.2 = p)) : Nat) : Int)
theorem cT_zero (L : List (Lc × Lc)) : cT L 0 = fun _ => 0 := by funext p; simp [cT]
theorem cT_succ {L : List (Lc × Lc)} {k : Nat} (h : k < L.length) : cT L (k + 1) = upd (cT L k) L[k].2 (cT L k L[k].2 + 1) := by
  funext p
  unfold cT upd
  rw [(List.take_append_getElem h).symm, List.countP_append]
  by_cases hp : p = L[k].2
  · subst hp; rw [if_pos rfl]; simp
  · rw [if_neg hp]; simp [Ne.symm hp]
theorem cT_bound {L : List (Lc × Lc)} (h : L.length ≤ 100) (k : Nat) (p : Lc) : 0 ≤ cT L k p ∧ cT L k p ≤ 100 := by
  unfold cT
  have h1 := List.countP_le_length (p := fun m : Lc × Lc => decide (m.2 = p)) (l := L.take k)
  have h2 : (L.take k).length ≤ L.length := by simp; omega
  omega
theorem cT_pos {L : List (Lc × Lc)} {k : Nat} {p : Lc} : 0 < cT L k p ↔ ∃ j, ∃ (h : j < L.length), j < k ∧ L[j].2 = p := by
  unfold cT
  rw [Int.natCast_pos, List.countP_pos_iff]
  constructor
  · rintro ⟨m, hm, e⟩
    obtain ⟨j, hj, rfl⟩ := List.getElem_of_mem hm
    have hj' : j < k ∧ j < L.length := by simp at hj; omega
    exact ⟨j, hj'.2, hj'.1, by simpa using e⟩
  · rintro ⟨j, hj, hk, e⟩
    exact ⟨L[j], List.mem_take_iff_getElem.2 ⟨j, by omega, rfl⟩, by simpa using e⟩
/-- What twiceTo leaves. -/
def PTwo (w : World) (L : List (Lc × Lc)) (e : Ending) (w' : World) : Prop := ∃ B : Bool, e = .returned (.bool B) ∧ (B = true ↔ dupP L) ∧ Below w.heap.size w w'
theorem PTwo.mk {w : World} {L : List (Lc × Lc)} {e : Ending} {w' : World} (B : Bool) (h1 : e = .returned (.bool B)) (h2 : B = true ↔ dupP L) (h3 : Below w.heap.size w w') : PTwo w L e w' := ⟨B, h1, h2, h3⟩
set_option maxRecDepth 100000 in
set_option maxHeartbeats 4000000 in
theorem two_any (v : Value) (L : List (Lc × Lc)) (w : World) (hL : Prs w v L) (hl : L.length ≤ 100) (hok : ∀ m, m ∈ L → okM m = true) :
    Calls Try.prog 17 #[v] w (PTwo w L) := by
  obtain ⟨a, cp, rfl, H⟩ := hL
  have HH := hide (prs_at (c := cp) H)
  have HK := hide hok
  clear H hok
  have hmm := @run_makeMap Try.prog
  have HF0 := hide ((Fr.start w).allocMap (q := w.heap.size) rfl)
  go_enter Try.func17, Try.ntmps17
  go_wp2_with fail
  generalize hbm : w.heap.size = bm at *
  clear hmm
  have HB0 : Hid (w.heap.size = bm) := hbm
  clear hbm
  go_loopw [9] (fun i wr => ∃ k : Nat, k ≤ L.length ∧ i = .int .i64 k ∧ Hid (Fr bm w wr [.mp bm (cT L k)]) ∧ Hid (∀ i (hi : i < L.length) j (hj : j < i), i < k → (L[j]'(by omega)).2 ≠ L[i].2)) (fun i _ => L.length - (intOf i).toNat)
  case atStart => exact ⟨0, Nat.zero_le _, rfl, by rw [cT_zero]; exact HF0, fun i hi j hj hk => absurd hk (by omega)⟩
  case round =>
    clear HF0
    obtain ⟨k, hk, rfl, HF, HN⟩ := hrel
    by_cases hlt : k < L.length
    · have hlt' : (k : Int) < L.length := by omega
      have hidx : (0 : Int) ≤ k ∧ (k : Int) < L.length := by omega
      obtain ⟨g, o, rfl, E⟩ := HH.out (by omega)
      obtain ⟨d0, d1, d2, d3⟩ := E _ HF.out.below k hlt
      clear E
      have hcb := cT_bound hl k L[k].2
      have HW : Hid (Wf L[k].2) := (ok_parts (HK.out _ (List.getElem_mem hlt))).2
      have HS : Hid (cT L (k + 1) = upd (cT L k) L[k].2 (cT L k L[k].2 + 1)) := cT_succ hlt
      have HD1 : Hid (0 < cT L k L[k].2 → dupP L) := fun h => by
        obtain ⟨j, hj, hjk, e⟩ := cT_pos.1 h
        exact ⟨k, j, hlt, hjk, e⟩
      have HN2 : Hid (¬ 0 < cT L k L[k].2 → ∀ i (hi : i < L.length) j (hj : j < i), i < k + 1 → (L[j]'(by omega)).2 ≠ L[i].2) := fun h i hi j hj hik => by
        by_cases q : i = k
        · subst q; exact fun e => h (cT_pos.2 ⟨j, by omega, hj, e⟩)
        · exact HN.out i hi j hj (by omega)
      generalize L[k] = y at *
      obtain ⟨⟨s1, x1⟩, ⟨s2, x2⟩⟩ := y
      simp only at d0 d1 d2 d3 hcb HW HS HD1 HN2
      obtain ⟨c, HFC⟩ : ∃ c, Hid (cT L k (s2, x2) = c) := ⟨_, rfl⟩
      rw [HFC.out] at hcb HS HD1 HN2
      obtain ⟨hc0, hc1⟩ := hcb
      have HA := hide ((HF.out.alloc (q := wr.heap.size) rfl #[.bool s1, .int .i64 x1, .bool s2, .int .i64 x2] 33).drew)
      go_wp2_with fail
      generalize hbq : wr.heap.size = bq at *
      clear hbq
      have hwr : IntKind.i64.wrap (c + 1) = c + 1 := by rw [IntKind.wrap_i64]; omega
      refine wp_region_held_drew (S := fun w' => (∀ o, w'.cell? ⟨bq, o, none⟩ = (#[Value.bool s1, .int .i64 x1, .bool s2, .int .i64 x2])[o]?)) (by kernel_rfl) (HA.out.cell 0 rfl) (fun hHeld => ?_)
      refine wpAnyH_take (i := 0) (v := ?_) rfl (by kernel_rfl) (by kernel_rfl) (by kernel_rfl) (fun _ _ _ h => h) (Or.inl ⟨by rfl, ?_⟩) (by assumption) ?_
      rotate_left
      · (intro w hSw; (try dsimp only at hSw); skip; go_simp) <;> with_reducible rfl
      (simp only [Act.put, List.getElem_toArray, List.getElem_cons_zero, List.getElem_cons_succ, List.setIfInBounds_toArray, List.set_cons_zero, List.set_cons_succ])
      refine wpAnyH_take (i := 1) (v := ?_) rfl (by kernel_rfl) (by kernel_rfl) (by kernel_rfl) (fun _ _ _ h => h) (Or.inl ⟨by rfl, ?_⟩) (by assumption) ?_
      rotate_left
      · (intro w hSw; (try dsimp only at hSw); skip; go_simp) <;> with_reducible rfl
      (simp only [Act.put, List.getElem_toArray, List.getElem_cons_zero, List.getElem_cons_succ, List.setIfInBounds_toArray, List.set_cons_zero, List.set_cons_succ])
      refine wpAnyH_take (i := 2) (v := ?_) rfl (by kernel_rfl) (by kernel_rfl) (by kernel_rfl) (fun _ _ _ h => h) (Or.inl ⟨by rfl, ?_⟩) (by assumption) ?_
      rotate_left
      · (intro w hSw; (try dsimp only at hSw); skip; go_simp) <;> with_reducible rfl
      (simp only [Act.put, List.getElem_toArray, List.getElem_cons_zero, List.getElem_cons_succ, List.setIfInBounds_toArray, List.set_cons_zero, List.set_cons_succ])
      refine wpAnyH_ready (rs := [3, 5]) (by kernel_rfl) (by simp) ?_
      refine AllReadyH.cons rfl (fun K hK => ?_) (AllReadyH.cons rfl (fun K hK => ?_) AllReadyH.nil)
      · have hlk := ((HA.out.get (i := 1) rfl).2).look (p := (s2, x2)) HW.out
        unfold kV at hlk
        (try simp only [HFC.out] at hlk)
        go_simp
        clear hlk
        refine hK.out _ _ (HA.out.cell 0 rfl) (fun hHeld1 => ?_)
        clear hK K
        (try (simp only [Act.put, List.getElem_toArray, List.getElem_cons_zero, List.getElem_cons_succ, List.setIfInBounds_toArray, List.set_cons_zero, List.set_cons_succ]))
        refine wpAnyH_take (i := 4) (v := ?_) rfl (by kernel_rfl) (by kernel_rfl) (by kernel_rfl) (fun _ _ _ h => h) (Or.inl ⟨by rfl, ?_⟩) (by assumption) ?_
        rotate_left
        · (intro w hSw; (try dsimp only at hSw); skip; go_simp) <;> with_reducible rfl
        (simp only [Act.put, List.getElem_toArray, List.getElem_cons_zero, List.getElem_cons_succ, List.setIfInBounds_toArray, List.set_cons_zero, List.set_cons_succ])
        refine wpAnyH_ready (rs := [5]) (by kernel_rfl) (by simp) ?_
        refine AllReadyH.cons rfl (fun K hK => ?_) AllReadyH.nil
        obtain ⟨w5, st, hent, hEn, hg⟩ := (HA.out.get (i := 1) rfl).2.entry (p := (s2, x2)) HW.out
        unfold kV at hent
        (try simp only [HFC.out] at hent)
        have HEa := hide (HA.out.mapd 1 rfl rfl hg (r' := .en bm (cT L k) (s2, x2) st) ⟨(HA.out.get (i := 1) rfl).1, hEn⟩ rfl)
        go_simp
        clear hent hEn hg
        refine hK.out _ _ (HEa.out.cell 0 rfl) (fun hHeld2 => ?_)
        clear hK K
        (try (simp only [Act.put, List.getElem_toArray, List.getElem_cons_zero, List.getElem_cons_succ, List.setIfInBounds_toArray, List.set_cons_zero, List.set_cons_succ]))
        refine wpAnyH_take (i := 6) (v := ?_) rfl (by kernel_rfl) (by kernel_rfl) (by kernel_rfl) (fun _ _ _ h => h) (Or.inl ⟨by rfl, ?_⟩) (by assumption) ?_
        rotate_left
        · (intro w hSw; (try dsimp only at hSw); skip; go_simp) <;> with_reducible rfl
        (simp only [Act.put, List.getElem_toArray, List.getElem_cons_zero, List.getElem_cons_succ, List.setIfInBounds_toArray, List.set_cons_zero, List.set_cons_succ])
        refine wpAnyH_ready (rs := [7]) (by kernel_rfl) (by simp) ?_
        refine AllReadyH.cons rfl (fun K hK => ?_) AllReadyH.nil
        obtain ⟨w7, hst, hMp, hg⟩ := (HEa.out.get (i := 1) rfl).2.store (c + 1)
        have HEb := hide (HEa.out.mapd 1 rfl rfl hg (r' := .mp bm (upd (cT L k) (s2, x2) (c + 1))) ⟨(HEa.out.get (i := 1) rfl).1, hMp⟩ rfl)
        go_simp
        clear hst hMp hg
        refine hK.out _ _ (HEb.out.cell 0 rfl) (fun hHeld3 => ?_)
        clear hK K
        (try (simp only [Act.put, List.getElem_toArray, List.getElem_cons_zero, List.getElem_cons_succ, List.setIfInBounds_toArray, List.set_cons_zero, List.set_cons_succ]))
        refine wpAnyH_done (by kernel_rfl) ?_ _
        have hlk2 := (HEb.out.get (i := 1) rfl).2.look (p := (s2, x2)) HW.out
        unfold kV at hlk2
        rw [show upd (cT L k) (s2, x2) (c + 1) (s2, x2) = c + 1 from if_pos rfl] at hlk2
        have cbq := HEb.out.cell 0 rfl
        by_cases hpos : 0 < c
        · have h1 : 1 < c + 1 := by omega
          go_wp2_with fail
          go_ret
          exact PTwo.mk true rfl ⟨fun _ => HD1.out hpos, fun _ => rfl⟩ (HB0.out ▸ HEb.out.below)
        · have h1 : ¬ 1 < c + 1 := by omega
          go_wp2_with fail
          go_roundw
          case rel => exact ⟨k + 1, by omega, by go_num, by rw [HS.out]; exact HEb.out.tail, HN2.out (by omega)⟩
          case measure => simp [intOf]; omega
      · obtain ⟨w5, st, hent, hEn, hg⟩ := (HA.out.get (i := 1) rfl).2.entry (p := (s2, x2)) HW.out
        unfold kV at hent
        (try simp only [HFC.out] at hent)
        have HEa := hide (HA.out.mapd 1 rfl rfl hg (r' := .en bm (cT L k) (s2, x2) st) ⟨(HA.out.get (i := 1) rfl).1, hEn⟩ rfl)
        go_simp
        clear hent hEn hg
        refine hK.out _ _ (HEa.out.cell 0 rfl) (fun hHeld4 => ?_)
        clear hK K
        (try (simp only [Act.put, List.getElem_toArray, List.getElem_cons_zero, List.getElem_cons_succ, List.setIfInBounds_toArray, List.set_cons_zero, List.set_cons_succ]))
        refine wpAnyH_take (i := 6) (v := ?_) rfl (by kernel_rfl) (by kernel_rfl) (by kernel_rfl) (fun _ _ _ h => h) (Or.inl ⟨by rfl, ?_⟩) (by assumption) ?_
        rotate_left
        · (intro w hSw; (try dsimp only at hSw); skip; go_simp) <;> with_reducible rfl
        (simp only [Act.put, List.getElem_toArray, List.getElem_cons_zero, List.getElem_cons_succ, List.setIfInBounds_toArray, List.set_cons_zero, List.set_cons_succ])
        refine wpAnyH_ready (rs := [3]) (by kernel_rfl) (by simp) ?_
        refine AllReadyH.cons rfl (fun K hK => ?_) AllReadyH.nil
        have hlk := ((HEa.out.get (i := 1) rfl).2.mp).look (p := (s2, x2)) HW.out
        unfold kV at hlk
        (try simp only [HFC.out] at hlk)
        go_simp
        clear hlk
        refine hK.out _ _ (HEa.out.cell 0 rfl) (fun hHeld5 => ?_)
        clear hK K
        (try (simp only [Act.put, List.getElem_toArray, List.getElem_cons_zero, List.getElem_cons_succ, List.setIfInBounds_toArray, List.set_cons_zero, List.set_cons_succ]))
        refine wpAnyH_take (i := 4) (v := ?_) rfl (by kernel_rfl) (by kernel_rfl) (by kernel_rfl) (fun _ _ _ h => h) (Or.inl ⟨by rfl, ?_⟩) (by assumption) ?_
        rotate_left
        · (intro w hSw; (try dsimp only at hSw); skip; go_simp) <;> with_reducible rfl
        (simp only [Act.put, List.getElem_toArray, List.getElem_cons_zero, List.getElem_cons_succ, List.setIfInBounds_toArray, List.set_cons_zero, List.set_cons_succ])
        refine wpAnyH_ready (rs := [7]) (by kernel_rfl) (by simp) ?_
        refine AllReadyH.cons rfl (fun K hK => ?_) AllReadyH.nil
        obtain ⟨w7, hst, hMp, hg⟩ := (HEa.out.get (i := 1) rfl).2.store (c + 1)
        have HEb := hide (HEa.out.mapd 1 rfl rfl hg (r' := .mp bm (upd (cT L k) (s2, x2) (c + 1))) ⟨(HEa.out.get (i := 1) rfl).1, hMp⟩ rfl)
        go_simp
        clear hst hMp hg
        refine hK.out _ _ (HEb.out.cell 0 rfl) (fun hHeld6 => ?_)
        clear hK K
        (try (simp only [Act.put, List.getElem_toArray, List.getElem_cons_zero, List.getElem_cons_succ, List.setIfInBounds_toArray, List.set_cons_zero, List.set_cons_succ]))
        refine wpAnyH_done (by kernel_rfl) ?_ _
        have hlk2 := (HEb.out.get (i := 1) rfl).2.look (p := (s2, x2)) HW.out
        unfold kV at hlk2
        rw [show upd (cT L k) (s2, x2) (c + 1) (s2, x2) = c + 1 from if_pos rfl] at hlk2
        have cbq := HEb.out.cell 0 rfl
        by_cases hpos : 0 < c
        · have h1 : 1 < c + 1 := by omega
          go_wp2_with fail
          go_ret
          exact PTwo.mk true rfl ⟨fun _ => HD1.out hpos, fun _ => rfl⟩ (HB0.out ▸ HEb.out.below)
        · have h1 : ¬ 1 < c + 1 := by omega
          go_wp2_with fail
          go_roundw
          case rel => exact ⟨k + 1, by omega, by go_num, by rw [HS.out]; exact HEb.out.tail, HN2.out (by omega)⟩
          case measure => simp [intOf]; omega
    · have hlt' : ¬ (k : Int) < L.length := by omega
      go_wp2_with fail
      go_ret
      refine PTwo.mk false rfl ⟨fun h => absurd h (by decide), ?_⟩ (HB0.out ▸ HF.out.below)
      rintro ⟨i, j, hi, hj, e⟩
      exact absurd e (HN.out i hi j hj (by omega))
end Go.Proofs.Ytejionmgpplniaa.T
