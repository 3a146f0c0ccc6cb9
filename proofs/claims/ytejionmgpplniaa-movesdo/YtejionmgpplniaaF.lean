/- The law MovesDo, given what the program's Row answers. -/
import Derived.Test.YtejionmgpplniaaC
import Derived.Test.YtejionmgpplniaaE
import Derived.Deep.RegionWith
namespace Go.Proofs.Ytejionmgpplniaa.T
open Go.RowKit
set_option linter.unusedVariables false
set_option linter.unusedSimpArgs false
/-- What the program's Row is to answer. -/
def Pr10 : Prop := ∀ (v : Value) (L : List (Lc × Lc)) (tmp : Int) (w : World), Prs w v L → L.length ≤ 9223372036854775807 → Calls Try.prog 4 #[v, .int .i64 tmp] w fun e w' => ∃ u R, e = .returned (.tuple #[u, .int .i64 (chkN L tmp)]) ∧ Prs w' u R ∧ Below w.heap.size w w' ∧ (¬ chkN L tmp = 0 → R = []) ∧ (chkN L tmp = 0 → R.length ≤ L.length + L.length / 2 ∧ ∀ p, p ≠ (false, tmp) → atN (rowL R) p = atN (L.map swp) p)
def lcV (L : List Lc) : List Value := L.flatMap fun l => [.bool l.1, .int .i64 l.2]
theorem lcV_append (L K : List Lc) : lcV (L ++ K) = lcV L ++ lcV K := by simp [lcV]
theorem lcV_at : ∀ (L : List Lc) (j : Nat) (h : j < L.length), (lcV L)[j * 2]? = some (.bool L[j].1) ∧ (lcV L)[j * 2 + 1]? = some (.int .i64 L[j].2)
  | l :: L, 0, _ => ⟨rfl, rfl⟩
  | l :: L, j + 1, h => by
    have := lcV_at L j (by simpa using h)
    have e : lcV (l :: L) = .bool l.1 :: .int .i64 l.2 :: lcV L := rfl
    rw [e, show (j + 1) * 2 = j * 2 + 2 by omega, show j * 2 + 2 + 1 = (j * 2 + 1) + 2 by omega]
    simpa using this
theorem lcs_of {w : World} {ob : Nat} {e : TypeId} {v : Value} {L : List Lc} (h : Rs.ok ob w (.row v e 2 L.length (lcV L))) : ∃ a c, v = .slice a L.length c ∧ (0 < L.length → ∃ g, a = some ⟨g, 0, none⟩ ∧ ∀ j (h : j < L.length), w.cell? ⟨g, 0 + j * 2, none⟩ = some (.bool L[j].1) ∧ w.cell? ⟨g, 0 + j * 2 + 1, none⟩ = some (.int .i64 L[j].2)) := by
  rcases h.2 with ⟨hv, h0⟩ | ⟨g, cap, cur, rfl, hg, hh, _, _, hs, ht⟩
  · subst hv
    exact ⟨none, 0, by rw [h0], fun h => by omega⟩
  · refine ⟨_, cap, rfl, fun _ => ⟨g, rfl, fun j hj => ?_⟩⟩
    have key : ∀ i, i < L.length * 2 → w.cell? ⟨g, 0 + i, none⟩ = (lcV L)[i]? := fun i hi => by
      rw [← ht, List.getElem?_take_of_lt (by omega), Array.getElem?_toList]
      simp [World.cell?, hh]
    have := lcV_at L j hj
    exact ⟨(key _ (by omega)).trans this.1, (key (j * 2 + 1) (by omega)).trans this.2⟩
theorem info31 : (Try.prog.info? 31).map (fun i => (i.zero, i.size, i.bytes)) = some (some (.agg #[.bool false, .int .i64 0]), 2, 16) := by kernel_rfl
theorem chk_len {L : List (Lc × Lc)} {tmp : Int} (h : chkN L tmp = 0) : L.length ≤ 100 := by
  unfold chkN at h
  split at h
  · cases h
  · omega
def plc1 (L : List (Lc × Lc)) : List Lc := L.flatMap fun m => [m.2, m.1]
theorem plc1_len : ∀ L : List (Lc × Lc), (plc1 L).length = L.length * 2
  | [] => rfl
  | l :: L => by have := plc1_len L; simp only [plc1, List.flatMap_cons, List.length_append, List.length_cons, List.length_nil] at *; omega
set_option maxRecDepth 100000 in
set_option maxHeartbeats 4000000 in
theorem mdo_any (HP : Pr10) (v : Value) (L : List (Lc × Lc)) (tmp : Int) (w : World) (hL : Prs w v L) (hl : L.length ≤ 9223372036854775807) :
    Calls Try.prog 3 #[v, .int .i64 tmp] w fun e w' => e = .returned (.bool true) ∧ Below w.heap.size w w' := by
  have HC1 := hide (HP v L tmp w hL hl)
  have HC2 : Hid (∀ w', Below w.heap.size w w' → Calls Try.prog 5 #[v, .int .i64 tmp] w' fun e w2 => e = .returned (.int .i64 (chkN L tmp)) ∧ Below w'.heap.size w' w2) := fun w' hb => check_any v L tmp w' (hL.below hb) hl
  have HL := hide hL
  obtain ⟨a, c, rfl, -⟩ := hL
  have HZ : Hid (chkN L tmp = 0 → L.length ≤ 100) := chk_len
  generalize chkN L tmp = E at *
  clear HP
  go_enter Try.func3, Try.ntmps3
  go_wp2_with fail
  go_at_call 4
  refine HC1.out.mono ?_
  rintro e w1 ⟨u, R, rfl, hR, hb1, hz, ho⟩
  have HR := hide hR
  obtain ⟨ua, uc, rfl, -⟩ := hR
  have HZ2 := hide hz
  have HO := hide ho
  have HB1 := hide hb1
  clear hz ho HC1 hb1
  go_wp2_with fail
  go_at_call 5
  refine (HC2.out _ HB1.out).mono ?_
  rintro e w2 ⟨rfl, hb2⟩
  have HB2 : Hid (Below w.heap.size w w2) := HB1.out.trans (hb2.mono HB1.out.size)
  replace HR := hide (HR.out.below hb2)
  replace HL := hide (HL.out.below HB2.out)
  clear hb2 HC2 HB1
  by_cases hE : E = 0
  case neg =>
    have hE' : ¬ (E : Int) = 0 := by omega
    have hE'' : ((E : Int) == 0) = false := by simpa using hE'
    have hR0 : R.length = 0 := by rw [HZ2.out hE]; rfl
    go_wp2_with fail
    go_ret
    exact ⟨by simp, HB2.out⟩
  subst hE
  have hl100 := HZ.out rfl
  obtain ⟨hRl, hsem⟩ := HO.out rfl
  have HS := hide hsem
  clear HZ HO HZ2 hsem
  have hq : (L.length : Int).tdiv 2 = ((L.length / 2 : Nat) : Int) := by rw [Int.tdiv_eq_ediv_of_nonneg (by omega)]; omega
  have hnl : ¬ (L.length : Int) + ((L.length / 2 : Nat) : Int) < R.length := by omega
  go_wp2_with fail
  go_at_call 6
  refine (once_any _ L w2 HL.out (by omega)).mono ?_
  rintro e w3 ⟨ou, rfl, hown3, hb3⟩
  have HF := hide ((Fr.start w2).take hb3 hown3)
  replace HR3 := hide (HR.out.below hb3)
  clear hown3 hb3
  go_wp2_with fail
  go_at_call 7
  refine (row_any _ R w3 HR3.out (by omega)).mono ?_
  rintro e w4 ⟨tu, rfl, hown4, hb4⟩
  replace HF := hide (((HF.out.take hb4 hown4)).nil 31 2)
  clear hown4 hb4 HR3 hq hnl
  go_wp2_with fail
  have HHL := hide (prs_at (c := c) (by obtain ⟨_, _, e, H⟩ := HL.out; cases e; exact H))
  have HHR := hide (prs_at (c := uc) (by obtain ⟨_, _, e, H⟩ := HR.out; cases e; exact H))
  clear HL HR
  go_loopw [10, 11] (fun pl i wr => ∃ k : Nat, k ≤ L.length ∧ i = .int .i64 k ∧ Hid (Fr w2.heap.size w2 wr [.row pl 31 2 (k * 2) (lcV (plc1 (L.take k))), .row tu 41 4 R.length (prV (rowL R)), .row ou 41 4 L.length (prV (L.map swp))])) (fun _ i _ => L.length - (intOf i).toNat)
  case atStart => exact ⟨0, Nat.zero_le _, rfl, HF⟩
  case round =>
    clear HF
    obtain ⟨k, hk, rfl, HF⟩ := hrel
    by_cases hlt : k < L.length
    · have hlt' : (k : Int) < L.length := by omega
      have hidx : (0 : Int) ≤ k ∧ (k : Int) < L.length := by omega
      obtain ⟨g, o, rfl, E⟩ := HHL.out (by omega)
      obtain ⟨e0, e1, e2, e3⟩ := E _ HF.out.below k hlt
      clear E
      have HT : Hid (plc1 (L.take (k + 1)) = plc1 (L.take k) ++ [L[k].2, L[k].1]) := by show _ = _; rw [(List.take_append_getElem hlt).symm]; unfold plc1; rw [List.flatMap_append]; rfl
      generalize L[k] = y at *
      obtain ⟨⟨s1, x1⟩, ⟨s2, x2⟩⟩ := y
      simp only at e0 e1 e2 e3 HT
      have HA := ((HF.out.alloc rfl #[.bool s2, .int .i64 x2, .bool s1, .int .i64 x1] 31).drew)
      go_wp2_with fail
      go_region_law (refine Fr.stepMany 29 2 info31 Try.underlying29 rfl (by decide) (by decide) HA 0 (v := u10) (n := k * 2) rfl (by omega) (.tmp 50) (.tmp 61) rfl rfl rfl rfl rfl (by decide) (by decide) rfl ?_; intro g7 cap7 w7 h7 _; have HF7 := hide h7; clear h7)
      all_goals
        go_wp2_with fail
        go_roundw
        case rel => exact ⟨k + 1, by omega, by go_num, by rw [HT.out, lcV_append, Nat.succ_mul]; exact HF7⟩
        case measure => simp [intOf]; omega
    · obtain rfl : k = L.length := by omega
      have hlt' : ¬ (L.length : Int) < L.length := by omega
      rw [List.take_length] at HF
      go_wp2_with fail
      clear hlt'
      go_loopw [10, 12] (fun pl i wr => ∃ k : Nat, k ≤ R.length ∧ i = .int .i64 k ∧ Hid (Fr w2.heap.size w2 wr [.row pl 31 2 (L.length * 2 + k) (lcV (plc1 L ++ (R.take k).map (·.2))), .row tu 41 4 R.length (prV (rowL R)), .row ou 41 4 L.length (prV (L.map swp))])) (fun _ i _ => R.length - (intOf i).toNat)
      case atStart => exact ⟨0, Nat.zero_le _, rfl, by rw [List.take_zero, List.map_nil, List.append_nil]; exact HF⟩
      case round =>
        clear HF
        obtain ⟨k, hk, rfl, HF⟩ := hrel
        by_cases hlt : k < R.length
        · have hlt' : (k : Int) < R.length := by omega
          have hidx : (0 : Int) ≤ k ∧ (k : Int) < R.length := by omega
          obtain ⟨g, o, rfl, E⟩ := HHR.out (by omega)
          obtain ⟨e0, e1, e2, e3⟩ := E _ HF.out.below k hlt
          clear E
          have HT : Hid ((R.take (k + 1)).map (·.2) = (R.take k).map (·.2) ++ [R[k].2]) := by show _ = _; rw [(List.take_append_getElem hlt).symm, List.map_append]; rfl
          generalize R[k] = y at *
          obtain ⟨⟨s1, x1⟩, ⟨s2, x2⟩⟩ := y
          simp only at e0 e1 e2 e3 HT
          have HA := HF.out.alloc rfl #[.bool s2, .int .i64 x2] 31
          go_wp2_with (at_builtin; first | (refine Fr.one 29 info31 Try.underlying29 rfl (by decide) (by decide) HA 0 (v := u10) (n := L.length * 2 + k) rfl (by omega) _ _ rfl rfl rfl rfl rfl rfl ?_; intro g7 cap7 w7 h7 _; have HF7 := hide h7; clear h7))
          go_roundw
          case rel => exact ⟨k + 1, by omega, by go_num, by rw [HT.out, ← List.append_assoc, lcV_append]; exact HF7⟩
          case measure => simp [intOf]; omega
        · obtain rfl : k = R.length := by omega
          have hlt' : ¬ (R.length : Int) < R.length := by omega
          rw [List.take_length] at HF
          have hML : (plc1 L ++ R.map (·.2)).length = L.length * 2 + R.length := by simp [plc1_len]
          have hML0 := hML
          rw [← hML] at HF
          clear hML
          generalize plc1 L ++ R.map (·.2) = M at *
          have HM : Hid (M.length ≤ 400) := by have := hML0; show _ ≤ 400; omega
          clear hML0
          go_wp2_with fail
          clear hlt'
          go_loopw [13] (fun i wr => ∃ j : Nat, j ≤ M.length ∧ i = .int .i64 j ∧ Hid (Fr w2.heap.size w2 wr [.row u10 31 2 M.length (lcV M), .row tu 41 4 R.length (prV (rowL R)), .row ou 41 4 L.length (prV (L.map swp))])) (fun i _ => M.length - (intOf i).toNat)
          case atStart => exact ⟨0, Nat.zero_le _, rfl, HF⟩
          case round =>
            clear HF
            obtain ⟨j, hj, rfl, HF⟩ := hrel
            obtain ⟨a9, c9, rfl, K9⟩ := lcs_of (HF.out.get (i := 0) rfl)
            have hM4 := HM.out
            by_cases hjl : j < M.length
            · have hjl' : (j : Int) < M.length := by omega
              have hidx : (0 : Int) ≤ j ∧ (j : Int) < M.length := by omega
              obtain ⟨g9, rfl, E9⟩ := K9 (by omega)
              have hg9 : g9 < wr.heap.size := (HF.out.lt 0 rfl (q := g9) rfl).2
              obtain ⟨e0, e1⟩ := E9 j hjl
              clear E9
              rw [Nat.zero_add] at e0 e1
              generalize M[j] = y at *
              obtain ⟨s, x⟩ := y
              simp only at e0 e1
              by_cases hq : (s, x) = (false, tmp)
              · obtain ⟨rfl, rfl⟩ : s = false ∧ x = tmp := Prod.mk.injEq .. ▸ hq
                go_wp2_with fail
                go_roundw
                case rel => exact ⟨j + 1, by omega, by go_num, HF⟩
                case measure => simp [intOf]; omega
              have HEq := hide (HS.out (s, x) hq)
              have HA1 : Hid (∀ w', Below wr.heap.size wr w' → Calls Try.prog 8 #[ou, .agg #[.bool s, .int .i64 x]] w' fun e w2 => e = .returned (.agg #[.bool (atN (L.map swp) (s, x)).1, .int .i64 (atN (L.map swp) (s, x)).2]) ∧ Below w'.heap.size w' w2) := fun w' hb => at_any ou (L.map swp) s x w' (Prs.of (ob := w2.heap.size) (e := 41) (by rw [List.length_map]; exact (HF.out.call hb).get (i := 2) rfl)) (by rw [List.length_map]; omega)
              have HA2 : Hid (∀ w', Below wr.heap.size wr w' → Calls Try.prog 8 #[tu, .agg #[.bool s, .int .i64 x]] w' fun e w2 => e = .returned (.agg #[.bool (atN (rowL R) (s, x)).1, .int .i64 (atN (rowL R) (s, x)).2]) ∧ Below w'.heap.size w' w2) := fun w' hb => at_any tu (rowL R) s x w' (Prs.of (ob := w2.heap.size) (e := 41) (by have := rowL_len R R.length (Nat.le_refl _); rw [List.take_length] at this; rw [this]; exact (HF.out.call hb).get (i := 1) rfl)) (by have := rowL_len R R.length (Nat.le_refl _); rw [List.take_length] at this; omega)
              rw [HEq.out] at HA2
              generalize atN (L.map swp) (s, x) = z at *
              obtain ⟨z1, z2⟩ := z
              simp only at HA1 HA2
              clear HEq
              by_cases hs : s = true
              · subst hs
                go_wp2_with fail
                go_region_with (first | (go_at_call_of 8 ou; refine (HA1.out _ (Below.refl _ _).drew).mono ?_; rintro e w5 ⟨rfl, hb5⟩; have HB5 := hide ((Below.refl wr.heap.size wr).drew.trans (hb5.mono (Nat.le_refl _))); have e5 := (HB5.out.cell (p := ⟨g9, j * 2, none⟩) hg9).trans e0; have e6 := (HB5.out.cell (p := ⟨g9, j * 2 + 1, none⟩) hg9).trans e1; clear hb5) | (go_at_call_of 8 tu; refine (HA2.out _ HB5.out).mono ?_; rintro e w6 ⟨rfl, hb6⟩; have HB6 := hide (HB5.out.trans (hb6.mono HB5.out.size)); clear hb6))
                all_goals
                  go_wp2_with fail
                  go_roundw
                  case rel => exact ⟨j + 1, by omega, by go_num, HF.out.call HB6.out⟩
                  case measure => simp [intOf]; omega
              · have hs' : s = false := by simpa using hs
                subst hs'
                have hx : ¬ x = tmp := fun h => hq (by rw [h])
                have hx' : (x == tmp) = false := by simpa using hx
                go_wp2_with fail
                go_region_with (first | (go_at_call_of 8 ou; refine (HA1.out _ (Below.refl _ _).drew).mono ?_; rintro e w5 ⟨rfl, hb5⟩; have HB5 := hide ((Below.refl wr.heap.size wr).drew.trans (hb5.mono (Nat.le_refl _))); have e5 := (HB5.out.cell (p := ⟨g9, j * 2, none⟩) hg9).trans e0; have e6 := (HB5.out.cell (p := ⟨g9, j * 2 + 1, none⟩) hg9).trans e1; clear hb5) | (go_at_call_of 8 tu; refine (HA2.out _ HB5.out).mono ?_; rintro e w6 ⟨rfl, hb6⟩; have HB6 := hide (HB5.out.trans (hb6.mono HB5.out.size)); clear hb6))
                all_goals
                  go_wp2_with fail
                  go_roundw
                  case rel => exact ⟨j + 1, by omega, by go_num, HF.out.call HB6.out⟩
                  case measure => simp [intOf]; omega
            · have hjl' : ¬ (j : Int) < M.length := by omega
              go_wp2_with fail
              go_ret
              exact ⟨rfl, HB2.out.trans (HF.out.below.mono HB2.out.size)⟩
end Go.Proofs.Ytejionmgpplniaa.T
