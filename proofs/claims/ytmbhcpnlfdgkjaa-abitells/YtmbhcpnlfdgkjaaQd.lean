/- The program's wrong, results, wordsOf. -/
import Derived.Test.YtmbhcpnlfdgkjaaQb
import Derived.LoopTactic
namespace Go.Proofs.Ytmbhcpnlfdgkjaa.T
open Go.RowKit
set_option linter.unusedVariables false
set_option linter.unusedSimpArgs false
theorem bad_num {t : Ty} (h : kindT t = 1 ∨ kindT t = 2) : badB t = !(mayN 4 t) := by
  unfold badB
  rcases h with h | h <;> simp [h]
theorem bad_other {t : Ty} (h1 : ¬ kindT t = 1) (h2 : ¬ kindT t = 2) : badB t = true := by
  unfold badB
  rcases t with _ | ⟨kind, name, nn, names, pn, parts, many⟩
  · rw [mayN_leaf]; rfl
  · simp only [kindT] at *
    cases hm : mayN 4 (.mk kind name nn names pn parts many)
    · rfl
    · rw [mayN_succ] at hm
      simp only [Bool.not_true, Bool.false_or, decide_eq_true_eq]
      rw [Bool.and_eq_true] at hm
      have := hm.2
      split at this
      · next h => subst h; simp [kindT]
      · rw [Bool.and_eq_true] at this
        have := this.2
        split at this
        · next h => subst h; simp [kindT]
        · simp [h1, h2] at this
theorem any_yes {p : Nat → Bool} {n k : Nat} (hk : k < n) (h : p k = true) : (List.range n).any p = true := List.any_eq_true.2 ⟨k, List.mem_range.2 hk, h⟩
set_option maxRecDepth 100000 in
set_option maxHeartbeats 1000000 in
theorem wrong_1 (T : Ty) (v bv : Value) (w : World) (hv : TyV w T v) (hk : ¬ kindT T = 4) : Calls Try.prog 9 #[v, bv] w fun e w' => e = .returned (.int .i64 3) ∧ Below w.heap.size w w' := by
  rcases T with _ | ⟨kind, name, nn, names, pn, parts, many⟩
  · exact (TyV_leaf hv).elim
  obtain ⟨na, nc, pa, pc, rfl, -⟩ := hv.part
  have k4 : ¬ kind = 4 := hk
  have k4' : (kind == 4) = false := by simpa using k4
  have HF := hide ((Fr.start w).alloc rfl #[.int .i64 kind, .string name, .slice na nn nc, .slice pa pn pc, .bool many] 25)
  clear hv hk
  go_enter Try.func9, Try.ntmps9
  go_wp2_with fail
  go_ret
  exact ⟨rfl, HF.out.below⟩
set_option maxRecDepth 100000 in
set_option maxHeartbeats 1000000 in
theorem wrong_2 (T : Ty) (v bv : Value) (w : World) (hv : TyV w T v) (hk : kindT T = 4) (hm : mayN 4 T = false) : Calls Try.prog 9 #[v, bv] w fun e w' => e = .returned (.int .i64 3) ∧ Below w.heap.size w w' := by
  rcases T with _ | ⟨kind, name, nn, names, pn, parts, many⟩
  · exact (TyV_leaf hv).elim
  obtain ⟨na, nc, pa, pc, rfl, -⟩ := hv.part
  obtain rfl : kind = 4 := hk
  have HF := hide ((Fr.start w).alloc rfl #[.int .i64 4, .string name, .slice na nn nc, .slice pa pn pc, .bool many] 25)
  have hcal := pMay_any _ _ _ (hv.below HF.out.below)
  rw [hm] at hcal
  have HC := hide hcal
  clear hv hcal
  go_enter Try.func9, Try.ntmps9
  go_wp2_with fail
  go_at_call 23
  refine HC.out.mono ?_
  rintro e w1 ⟨rfl, hb⟩
  replace HF := hide (HF.out.call hb)
  clear hb HC
  go_wp2_with fail
  go_ret
  exact ⟨rfl, HF.out.below⟩
set_option maxRecDepth 100000 in
set_option maxHeartbeats 1000000 in
theorem wrong_3 (T : Ty) (v : Value) (ba : Option Addr) (bn bc : Nat) (w : World) (hv : TyV w T v) (hk : kindT T = 4) (hm : mayN 4 T = true) (hbn : bn ≤ 9223372036854775807) (hr : 6 < bn ∨ (0 < bn ∧ manyT T = false)) : Calls Try.prog 9 #[v, .slice ba bn bc] w fun e w' => e = .returned (.int .i64 6) ∧ Below w.heap.size w w' := by
  rcases T with _ | ⟨kind, name, nn, names, pn, parts, many⟩
  · exact (TyV_leaf hv).elim
  obtain ⟨na, nc, pa, pc, rfl, -⟩ := hv.part
  obtain rfl : kind = 4 := hk
  have HF := hide ((Fr.start w).alloc rfl #[.int .i64 4, .string name, .slice na nn nc, .slice pa pn pc, .bool many] 25)
  have hcal := pMay_any _ _ _ (hv.below HF.out.below)
  rw [hm] at hcal
  have HC := hide hcal
  have h0' : (0 : Int) < bn := by omega
  have hr' : many = false ∨ (many = true ∧ 6 < bn) := by
    cases many
    · exact Or.inl rfl
    · exact Or.inr ⟨rfl, by rcases hr with h | ⟨_, h⟩; exact h; cases h⟩
  clear hv hcal hr
  go_enter Try.func9, Try.ntmps9
  go_wp2_with fail
  go_at_call 23
  refine HC.out.mono ?_
  rintro e w1 ⟨rfl, hb⟩
  replace HF := hide (HF.out.call hb)
  clear hb HC
  have c0 := HF.out.cell 0 rfl
  rcases hr' with rfl | ⟨rfl, h6⟩
  · go_wp2_with fail
    go_ret
    exact ⟨rfl, HF.out.below⟩
  · have h6' : (6 : Int) < bn := by omega
    go_wp2_with fail
    go_ret
    exact ⟨rfl, HF.out.below⟩
set_option maxRecDepth 100000 in
set_option maxHeartbeats 1000000 in
theorem wrong_4 (T : Ty) (v : Value) (ba : Option Addr) (bn bc : Nat) (bs : Nat → Ty) (w : World) (hv : TyV w T v) (hbs : Tys w (.slice ba bn bc) bn bs) (hk : kindT T = 4) (hm : mayN 4 T = true) (hr : ¬ (6 < bn ∨ (0 < bn ∧ manyT T = false))) : Calls Try.prog 9 #[v, .slice ba bn bc] w fun e w' => e = .returned (.int .i64 (if ((List.range bn).any fun i => badB (bs i)) = true then 3 else 0)) ∧ Below w.heap.size w w' := by
  rcases T with _ | ⟨kind, name, nn, names, pn, parts, many⟩
  · exact (TyV_leaf hv).elim
  obtain ⟨na, nc, pa, pc, rfl, -⟩ := hv.part
  obtain rfl : kind = 4 := hk
  have HF := hide ((Fr.start w).alloc rfl #[.int .i64 4, .string name, .slice na nn nc, .slice pa pn pc, .bool many] 25)
  have hcal := pMay_any _ _ _ (hv.below HF.out.below)
  rw [hm] at hcal
  have HC := hide hcal
  obtain ⟨ba', bc', eb, hb1, hb2, HB⟩ := hbs
  obtain ⟨rfl, rfl⟩ : ba' = ba ∧ bc' = bc := by cases eb; exact ⟨rfl, rfl⟩
  have HBs := hide HB
  have h6 : bn ≤ 6 := by omega
  have h6' : ¬ (6 : Int) < bn := by omega
  have HM : Hid (0 < bn → many = true) := fun h => by cases many; exact absurd (Or.inr ⟨h, rfl⟩) hr; rfl
  obtain ⟨E, hE⟩ : ∃ E : Int, (if ((List.range bn).any fun i => badB (bs i)) = true then 3 else 0) = E := ⟨_, rfl⟩
  rw [hE]
  have HE := hide hE
  clear hv hcal hr hm eb HB hE
  go_enter Try.func9, Try.ntmps9
  go_wp2_with fail
  go_at_call 23
  refine HC.out.mono ?_
  rintro e w1 ⟨rfl, hb⟩
  replace HF := hide (HF.out.call hb)
  clear hb HC
  have c0 := HF.out.cell 0 rfl
  have hgo : (0 < bn ∧ many = true) ∨ bn = 0 := by by_cases h : 0 < bn; exact Or.inl ⟨h, HM.out h⟩; exact Or.inr (by omega)
  clear HM
  rcases hgo with ⟨h0, rfl⟩ | rfl
  · have h0' : (0 : Int) < bn := by omega
    go_wp2_with fail
    clear c0 h0'
    go_loopw [32] (fun i wr => ∃ k : Nat, k ≤ bn ∧ i = .int .i64 k ∧ Hid ((List.range k).any (fun i => badB (bs i)) = false) ∧ Hid (Fr w.heap.size w wr [.blk w.heap.size #[.int .i64 4, .string name, .slice na nn nc, .slice pa pn pc, .bool true] 25])) (fun i _ => bn - (intOf i).toNat)
    case atStart => exact ⟨0, Nat.zero_le _, rfl, rfl, HF⟩
    case round =>
      clear HF
      obtain ⟨k, hk, rfl, HG, HF⟩ := hrel
      by_cases hlt : k < bn
      · have hlt' : (k : Int) < bn := by omega
        have hidx : (0 : Int) ≤ k ∧ (k : Int) < bn := by omega
        obtain ⟨gb, go, rfl, hgb, hgc⟩ := HBs.out (by omega)
        obtain ⟨kind, nm, xa, xn, xc, ya, yn, yc, mn, G0, G1, G2, G3, G4, HT5, HKD⟩ := part_at hgb hgc HF.out.below k hlt
        clear hgc
        have HF2 := hide (HF.out.alloc rfl #[.int .i64 kind, .string nm, .slice xa xn xc, .slice ya yn yc, .bool mn] 25)
        have c2 := HF2.out.cell 0 rfl
        by_cases h12 : kind = 1 ∨ kind = 2
        · have hcal := pMay_any _ _ _ (HT5.out.below HF2.out.below)
          have HBd := hide (bad_num (by rw [← HKD.out]; exact h12))
          cases hmk : mayN 4 (bs k)
          · rw [hmk] at hcal HBd
            have HCM := hide hcal
            clear hcal hmk
            have hans : E = 3 := by rw [← HE.out, if_pos (any_yes hlt HBd.out)]
            subst hans
            rcases h12 with rfl | rfl
            all_goals
              go_wp2_with fail
              go_at_call 23
              refine HCM.out.mono ?_
              rintro e w3 ⟨rfl, hb⟩
              replace HF2 := hide (HF2.out.call hb)
              clear hb
              go_wp2_with fail
              go_ret
              exact ⟨rfl, HF2.out.below⟩
          · rw [hmk] at hcal HBd
            have HCM := hide hcal
            clear hcal hmk
            rcases h12 with rfl | rfl
            all_goals
              go_wp2_with fail
              go_at_call 23
              refine HCM.out.mono ?_
              rintro e w3 ⟨rfl, hb⟩
              replace HF2 := hide (HF2.out.call hb)
              clear hb
              go_wp2_with fail
              go_roundw
              case rel => exact ⟨k + 1, by omega, by go_num, any_step HG.out HBd.out, hide HF2.out.tail⟩
              case measure => simp [intOf]; omega
        · have n1 : ¬ kind = 1 := fun e => h12 (Or.inl e)
          have n2 : ¬ kind = 2 := fun e => h12 (Or.inr e)
          have n1' : (kind == 1) = false := by simpa using n1
          have n2' : (kind == 2) = false := by simpa using n2
          have HBd := hide (bad_other (t := bs k) (by rw [← HKD.out]; exact n1) (by rw [← HKD.out]; exact n2))
          have hans : E = 3 := by rw [← HE.out, if_pos (any_yes hlt HBd.out)]
          subst hans
          clear h12
          go_wp2_with fail
          go_ret
          exact ⟨rfl, HF2.out.below⟩
      · obtain rfl : k = bn := by omega
        have hlt' : ¬ (k : Int) < k := by omega
        have hans : E = 0 := by rw [← HE.out, if_neg (by rw [HG.out]; simp)]
        subst hans
        go_wp2_with fail
        go_ret
        exact ⟨rfl, HF.out.below⟩
  · have hans : E = 0 := HE.out.symm
    subst hans
    go_wp2_with fail
    go_loopw [32] (fun i wr => i = .int .i64 0 ∧ Hid (Fr w.heap.size w wr [.blk w.heap.size #[.int .i64 4, .string name, .slice na nn nc, .slice pa pn pc, .bool many] 25])) (fun i _ => 0)
    case atStart => exact ⟨rfl, HF⟩
    case round =>
      clear HF
      obtain ⟨rfl, HF⟩ := hrel
      go_wp2_with fail
      go_ret
      exact ⟨rfl, HF.out.below⟩
theorem wrong_any (T : Ty) (v : Value) (ba : Option Addr) (bn bc : Nat) (bs : Nat → Ty) (w : World) (hv : TyV w T v) (hbs : Tys w (.slice ba bn bc) bn bs) : Calls Try.prog 9 #[v, .slice ba bn bc] w fun e w' => e = .returned (.int .i64 (errP T bn bs)) ∧ Below w.heap.size w w' := by
  by_cases hk : kindT T = 4
  · cases hm : mayN 4 T
    · have : errP T bn bs = 3 := by unfold errP; rw [if_pos (Or.inr hm)]
      rw [this]
      exact wrong_2 T v _ w hv hk hm
    · by_cases hr : 6 < bn ∨ (0 < bn ∧ manyT T = false)
      · have : errP T bn bs = 6 := by unfold errP; rw [if_neg (by rw [hm]; simp [hk]), if_pos hr]
        rw [this]
        obtain ⟨ba', bc', eb, hb1, hb2, HB⟩ := hbs
        obtain ⟨rfl, rfl⟩ : ba' = ba ∧ bc' = bc := by cases eb; exact ⟨rfl, rfl⟩
        exact wrong_3 T v ba' bn bc' w hv hk hm (by omega) hr
      · have : (errP T bn bs : Int) = (if ((List.range bn).any fun i => badB (bs i)) = true then 3 else 0) := by unfold errP; rw [if_neg (by rw [hm]; simp [hk]), if_neg hr]; split <;> rfl
        rw [this]
        exact wrong_4 T v ba bn bc bs w hv hbs hk hm hr
  · have : errP T bn bs = 3 := by unfold errP; rw [if_pos (Or.inl hk)]
    rw [this]
    exact wrong_1 T v _ w hv hk
def resL (n : Nat) : List Nat := if 2 < n then [] else List.range n
set_option maxRecDepth 100000 in
set_option maxHeartbeats 1000000 in
theorem res_any (T : Ty) (v : Value) (w : World) (hv : TyV w T v) (hm : mayN 4 T = true) : Calls Try.prog 10 #[v] w fun e w' => ∃ rv, e = .returned rv ∧ Below w.heap.size w w' ∧ w'.ownsRow w.heap.size 3 1 rv (resL (sizeT T)).length ((resL (sizeT T)).map fun (n : Nat) => Value.int .i64 n) := by
  have hsm := (sizeT_le hm).2
  obtain ⟨kind, name, nn, names, pn, parts, many, rfl⟩ : ∃ kind name nn names pn parts many, T = .mk kind name nn names pn parts many := by
    rcases T with _ | ⟨kind, name, nn, names, pn, parts, many⟩
    · exact (TyV_leaf hv).elim
    · exact ⟨_, _, _, _, _, _, _, rfl⟩
  obtain ⟨na, nc, pa, pc, rfl, -⟩ := hv.part
  have HF := hide ((Fr.start w).alloc rfl #[.int .i64 kind, .string name, .slice na nn nc, .slice pa pn pc, .bool many] 25)
  have HC := hide (pWords_t _ _ _ hm (hv.below HF.out.below))
  clear hv hm
  generalize sizeT (.mk kind name nn names pn parts many) = sz at *
  go_enter Try.func10, Try.ntmps10
  go_wp2_with fail
  go_at_call 13
  refine HC.out.mono ?_
  rintro e w1 ⟨rfl, hb⟩
  replace HF := hide (HF.out.call hb)
  clear hb HC
  by_cases h2 : 2 < sz
  · have h2' : (2 : Int) < sz := by omega
    have hx : Hid (resL sz = []) := by show _ = _; unfold resL; rw [if_pos h2]
    go_wp2_with fail
    go_ret
    refine ⟨_, rfl, HF.out.below, ?_⟩
    rw [hx.out]
    exact ⟨rfl, Or.inl ⟨rfl, rfl⟩⟩
  · have h2' : ¬ (2 : Int) < sz := by omega
    have hx : Hid (resL sz = List.range sz) := by show _ = _; unfold resL; rw [if_neg h2]
    have HZ := hide (HF.out.nil 3 1)
    go_wp2_with fail
    go_loopw [4, 5, 11] (fun rv j i wr => ∃ k : Nat, k ≤ sz ∧ i = .int .i64 k ∧ Hid (Fr w.heap.size w wr [.row rv 3 1 k ((List.range k).map fun (n : Nat) => Value.int .i64 n), .blk w.heap.size #[.int .i64 kind, .string name, .slice na nn nc, .slice pa pn pc, .bool many] 25])) (fun _ _ i _ => sz - (intOf i).toNat)
    case atStart => exact ⟨0, Nat.zero_le _, rfl, HZ⟩
    case round =>
      clear HF HZ
      obtain ⟨k, hk, rfl, HF⟩ := hrel
      by_cases hlt : k < sz
      · have hlt' : (k : Int) < sz := by omega
        go_wp2_with (at_builtin; first | (have HAl := HF.out.alloc rfl #[.int .i64 k] 3; refine Fr.one 28 info3 Try.underlying28 rfl (by decide) (by decide) HAl 0 (n := k) rfl (by omega) _ _ rfl rfl rfl rfl rfl rfl ?_; intro g5 cap5 w5 h5 _; have HF5 := hide h5; clear h5))
        go_roundw
        case rel =>
          refine ⟨k + 1, by omega, by go_num, ?_⟩
          show Fr _ _ _ _
          rw [List.range_succ, List.map_append]
          exact HF5.out
        case measure => simp [intOf]; omega
      · obtain rfl : k = sz := by omega
        have hlt' : ¬ (k : Int) < k := by omega
        go_wp2_with fail
        go_ret
        refine ⟨_, rfl, HF.out.below, ?_⟩
        rw [hx.out, List.length_range]
        exact HF.out.get (i := 0) rfl
set_option maxRecDepth 100000 in
set_option maxHeartbeats 1000000 in
theorem wof_any (ba : Option Addr) (bn bc : Nat) (bs : Nat → Ty) (w : World) (hbs : Tys w (.slice ba bn bc) bn bs) (hbn : bn ≤ 6) (hg : (List.range bn).any (fun i => badB (bs i)) = false) : Calls Try.prog 16 #[.slice ba bn bc] w fun e w' => e = .returned (.int .i64 (sumN bs bn)) ∧ Below w.heap.size w w' := by
  obtain ⟨ba', bc', eb, hb1, hb2, HB⟩ := hbs
  obtain ⟨rfl, rfl⟩ : ba' = ba ∧ bc' = bc := by cases eb; exact ⟨rfl, rfl⟩
  have HBs := hide HB
  have HM : Hid (∀ k, k < bn → mayN 4 (bs k) = true) := fun k hk => by
    have := List.any_eq_false.1 hg k (List.mem_range.2 hk)
    unfold badB at this
    cases hm : mayN 4 (bs k)
    · rw [hm] at this; simp at this
    · rfl
  have HS : Hid (∀ k, k ≤ bn → sumN bs k ≤ 12 * k) := fun k hk => sum_le (by
    rw [List.any_eq_false] at hg ⊢
    intro x hx
    exact hg x (List.mem_range.2 (by have := List.mem_range.1 hx; omega)))
  clear eb HB hg
  have HF := hide (Fr.start w)
  go_enter Try.func16, Try.ntmps16
  go_wp2_with fail
  go_loopw [3, 8] (fun s i wr => ∃ k : Nat, k ≤ bn ∧ i = .int .i64 k ∧ s = .int .i64 (sumN bs k) ∧ Hid (Fr w.heap.size w wr [])) (fun _ i _ => bn - (intOf i).toNat)
  case atStart => exact ⟨0, Nat.zero_le _, rfl, rfl, HF⟩
  case round =>
    clear HF
    obtain ⟨k, hk, rfl, rfl, HF⟩ := hrel
    by_cases hlt : k < bn
    · have hlt' : (k : Int) < bn := by omega
      have hidx : (0 : Int) ≤ k ∧ (k : Int) < bn := by omega
      obtain ⟨gb, go, rfl, hgb, hgc⟩ := HBs.out (by omega)
      obtain ⟨kind, nm, xa, xn, xc, ya, yn, yc, mn, G0, G1, G2, G3, G4, HT5, HKD⟩ := part_at hgb hgc HF.out.below k hlt
      clear hgc
      have HF2 := hide (HF.out.alloc rfl #[.int .i64 kind, .string nm, .slice xa xn xc, .slice ya yn yc, .bool mn] 25)
      have HCM := hide (pWords_t _ _ _ (HM.out k hlt) (HT5.out.below HF2.out.below))
      have hs1 := HS.out k hk
      have hs2 := (sizeT_le (HM.out k hlt)).2
      have HSS : Hid (sumN bs (k + 1) = sumN bs k + sizeT (bs k)) := rfl
      generalize sizeT (bs k) = sz at *
      generalize sumN bs k = su at *
      go_wp2_with fail
      go_at_call 13
      refine HCM.out.mono ?_
      rintro e w3 ⟨rfl, hb⟩
      replace HF2 := hide (HF2.out.call hb)
      clear hb
      go_wp2_with fail
      go_roundw
      case rel => exact ⟨k + 1, by omega, by go_num, by rw [HSS.out]; go_num, hide HF2.out.tail⟩
      case measure => simp [intOf]; omega
    · obtain rfl : k = bn := by omega
      have hlt' : ¬ (k : Int) < k := by omega
      go_wp2_with fail
      go_ret
      exact ⟨rfl, HF.out.below⟩
end Go.Proofs.Ytmbhcpnlfdgkjaa.T
