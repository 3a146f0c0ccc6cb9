/- The program's wrong and between. -/
import Derived.Test.YtejionmgpplniaaJ
import Derived.Test.YtejionmgpplniaaE
namespace Go.Proofs.Ytejionmgpplniaa.T
open Go.RowKit
set_option linter.unusedVariables false
set_option linter.unusedSimpArgs false
theorem chk1 {L : List (Lc × Lc)} {tmp : Int} (h : 100 < L.length) : chkN L tmp = 1 := if_pos h
theorem chk6 {L : List (Lc × Lc)} {tmp : Int} (h : ¬ 100 < L.length) (h2 : placeB (false, tmp) = false ∨ 0 ≤ idxP (fun m : Lc × Lc => !okM m) L) : chkN L tmp = 6 := by
  unfold chkN
  rw [if_neg h]
  split
  · rfl
  · rename_i hall
    rw [if_pos]
    rcases h2 with h2 | h2
    · unfold placeB at h2
      simp only [Bool.and_eq_false_iff, decide_eq_false_iff_not] at h2
      simp at h2
      omega
    · obtain ⟨m, hm, hp⟩ := idx_any.1 h2
      exact absurd (fun hh => by rw [hh m hm] at hp; cases hp) hall
theorem chk_ok {L : List (Lc × Lc)} (h : ¬ 0 ≤ idxP (fun m : Lc × Lc => !okM m) L) : ∀ m, m ∈ L → okM m = true := fun m hm => by
  cases e : okM m with
  | true => rfl
  | false => exact absurd (idx_any.2 ⟨m, hm, by simp [e]⟩) h
theorem chk_rest {L : List (Lc × Lc)} {tmp : Int} (h : ¬ 100 < L.length) (hp : placeB (false, tmp) = true) (hi : ¬ 0 ≤ idxP (fun m : Lc × Lc => !okM m) L) : (dupP L → chkN L tmp = 5) ∧ (¬ dupP L → 0 ≤ idxP (isM (false, tmp)) L → chkN L tmp = 3) ∧ (¬ dupP L → ¬ 0 ≤ idxP (isM (false, tmp)) L → chkN L tmp = 0) := by
  have h2 : ¬ (tmp < 0 ∨ 15 < tmp) := by
    unfold placeB at hp
    simp only [Bool.and_eq_true, decide_eq_true_eq] at hp
    simp at hp
    omega
  have hall := chk_ok hi
  unfold chkN
  rw [if_neg h, if_neg (by simpa using hall), if_neg h2]
  refine ⟨fun hd => if_pos hd, fun hd hm => ?_, fun hd hm => ?_⟩
  · rw [if_neg hd, if_pos (idx_any.1 hm)]
  · rw [if_neg hd, if_neg (fun hh => hm (idx_any.2 hh))]
set_option maxRecDepth 100000 in
set_option maxHeartbeats 2000000 in
theorem wrong_any (v : Value) (L : List (Lc × Lc)) (tmp : Int) (w : World) (hL : Prs w v L) (hl : L.length ≤ 9223372036854775807) :
    Calls Try.prog 9 #[v, .agg #[.bool false, .int .i64 tmp]] w fun e w' => e = .returned (.int .i64 (chkN L tmp)) ∧ Below w.heap.size w w' := by
  have HL := hide hL
  obtain ⟨a, cp, rfl, -⟩ := hL
  have HF := hide ((Fr.start w).alloc rfl #[.bool false, .int .i64 tmp] 31)
  by_cases h100 : 100 < L.length
  · have HC := hide (chk1 (tmp := tmp) h100)
    have h100' : (100 : Int) < L.length := by omega
    go_enter Try.func9, Try.ntmps9
    go_wp2_with fail
    go_ret
    exact ⟨by rw [HC.out]; rfl, HF.out.below⟩
  have H100 := hide h100
  have h100' : ¬ (100 : Int) < L.length := by omega
  have HLN : Hid (L.length ≤ 100) := by show _ ≤ _; omega
  clear h100 hl
  have HC1 := hide (isp_any false tmp)
  go_enter Try.func9, Try.ntmps9
  go_wp2_with fail
  go_at_call 14
  refine (HC1.out _).mono ?_
  rintro e w1 ⟨rfl, hb⟩
  replace HF := hide (HF.out.call hb)
  clear hb HC1 h100'
  cases hp : placeB (false, tmp)
  · have HC := hide (chk6 H100.out (Or.inl hp))
    go_wp2_with fail
    go_ret
    exact ⟨by rw [HC.out]; rfl, HF.out.below⟩
  have HP := hide hp
  clear hp
  have HC2 := hide (cf13_any _ L w1 (HL.out.below HF.out.below) HLN.out)
  by_cases hi : 0 ≤ idxP (fun m : Lc × Lc => !okM m) L
  · have HC := hide (chk6 (tmp := tmp) H100.out (Or.inr hi))
    rw [decide_eq_true hi] at HC2
    clear hi
    go_wp2_with fail
    go_at_call 16
    refine HC2.out.mono ?_
    rintro e w2 ⟨rfl, hb⟩
    replace HF := hide (HF.out.call hb)
    clear hb HC2
    go_wp2_with fail
    go_ret
    exact ⟨by rw [HC.out]; rfl, HF.out.below⟩
  rw [decide_eq_false hi] at HC2
  have HOK := hide (chk_ok hi)
  obtain ⟨r5, r3, r0⟩ := chk_rest H100.out HP.out hi
  have R5 := hide r5
  have R3 := hide r3
  have R0 := hide r0
  clear hi r5 r3 r0
  go_wp2_with fail
  go_at_call 16
  refine HC2.out.mono ?_
  rintro e w2 ⟨rfl, hb⟩
  replace HF := hide (HF.out.call hb)
  clear hb HC2
  have HC3 := hide (two_any _ L w2 (HL.out.below HF.out.below) HLN.out HOK.out)
  go_wp2_with fail
  go_at_call 17
  refine HC3.out.mono ?_
  rintro e w3 ⟨B, rfl, hB, hb⟩
  replace HF := hide (HF.out.call hb)
  have HBD := hide hB
  clear hb HC3 hB
  cases B
  · have HND : Hid (¬ dupP L) := fun h => absurd (HBD.out.2 h) (by decide)
    have HC4 := hide (cf15_any w.heap.size tmp _ L w3 (HL.out.below HF.out.below) HLN.out (HF.out.get (i := 0) rfl).2)
    by_cases hi : 0 ≤ idxP (isM (false, tmp)) L
    · have HC := hide (R3.out HND.out hi)
      rw [decide_eq_true hi] at HC4
      clear hi
      go_wp2_with fail
      go_at_call 16
      refine HC4.out.mono ?_
      rintro e w4 ⟨rfl, hb⟩
      replace HF := hide (HF.out.call hb)
      clear hb HC4
      go_wp2_with fail
      go_ret
      exact ⟨by rw [HC.out]; rfl, HF.out.below⟩
    · have HC := hide (R0.out HND.out (by omega))
      rw [decide_eq_false hi] at HC4
      clear hi
      go_wp2_with fail
      go_at_call 16
      refine HC4.out.mono ?_
      rintro e w4 ⟨rfl, hb⟩
      replace HF := hide (HF.out.call hb)
      clear hb HC4
      go_wp2_with fail
      go_ret
      exact ⟨by rw [HC.out]; rfl, HF.out.below⟩
  · have HC := hide (R5.out (HBD.out.1 rfl))
    go_wp2_with fail
    go_ret
    exact ⟨by rw [HC.out]; rfl, HF.out.below⟩
def movM (m : Lc × Lc) : Bool := decide (m.1 ≠ m.2)
theorem info33 : (Try.prog.info? 33).map (fun i => (i.zero, i.size, i.bytes)) = some (some (.agg #[.bool false, .int .i64 0, .bool false, .int .i64 0]), 4, 32) := by kernel_rfl
theorem filt_yes {L : List (Lc × Lc)} {k : Nat} (h : k < L.length) (hm : L[k].1 ≠ L[k].2) : (L.take (k + 1)).filter movM = (L.take k).filter movM ++ [L[k]] := by
  rw [(List.take_append_getElem h).symm, List.filter_append]
  simp [movM, hm]
theorem filt_no {L : List (Lc × Lc)} {k : Nat} (h : k < L.length) (hm : L[k].1 = L[k].2) : (L.take (k + 1)).filter movM = (L.take k).filter movM := by
  rw [(List.take_append_getElem h).symm, List.filter_append]
  simp [movM, hm]
set_option maxRecDepth 100000 in
set_option maxHeartbeats 4000000 in
theorem btw_any (v : Value) (L : List (Lc × Lc)) (w : World) (hL : Prs w v L) (hl : L.length ≤ 100) :
    Calls Try.prog 11 #[v] w fun e w' => ∃ u, e = .returned u ∧ w'.ownsRow w.heap.size 33 4 u (L.filter movM).length (prV (L.filter movM)) ∧ Below w.heap.size w w' := by
  obtain ⟨a, cp, rfl, H⟩ := hL
  have HH := hide (prs_at (c := cp) H)
  clear H
  go_enter Try.func11, Try.ntmps11
  go_wp2_with fail
  go_loopw [3, 8] (fun u i wr => ∃ k : Nat, k ≤ L.length ∧ i = .int .i64 k ∧ Hid (Fr w.heap.size w wr [.row u 33 4 ((L.take k).filter movM).length (prV ((L.take k).filter movM))])) (fun _ i _ => L.length - (intOf i).toNat)
  case atStart => exact ⟨0, Nat.zero_le _, rfl, (Fr.start w).nil 33 4⟩
  case round =>
    obtain ⟨k, hk, rfl, HF⟩ := hrel
    by_cases hlt : k < L.length
    · have hlt' : (k : Int) < L.length := by omega
      have hidx : (0 : Int) ≤ k ∧ (k : Int) < L.length := by omega
      obtain ⟨g, o, rfl, E⟩ := HH.out (by omega)
      obtain ⟨d0, d1, d2, d3⟩ := E _ HF.out.below k hlt
      clear E
      have hfl : ((L.take k).filter movM).length ≤ 100 := Nat.le_trans (List.length_filter_le _ _) (by simp; omega)
      have HY : Hid (L[k].1 ≠ L[k].2 → (L.take (k + 1)).filter movM = (L.take k).filter movM ++ [L[k]]) := filt_yes hlt
      have HN : Hid (L[k].1 = L[k].2 → (L.take (k + 1)).filter movM = (L.take k).filter movM) := filt_no hlt
      generalize L[k] = y at *
      obtain ⟨⟨s1, x1⟩, ⟨s2, x2⟩⟩ := y
      simp only at d0 d1 d2 d3 HY HN
      generalize hM : (L.take k).filter movM = M at *
      clear hM
      have HA := hide (HF.out.alloc (q := wr.heap.size) rfl #[.bool s1, .int .i64 x1, .bool s2, .int .i64 x2] 33)
      cases s1 <;> cases s2
      · by_cases hx : x1 = x2
        · subst hx
          have HE := hide (HN.out rfl)
          go_wp2_with fail
          go_roundw
          case rel => exact ⟨k + 1, by omega, by go_num, by rw [HE.out]; exact HA.out.tail⟩
          case measure => simp [intOf]; omega
        · have hx' : (x1 == x2) = false := by simpa using hx
          have HE := hide (HY.out (by simpa using hx))
          have cm := HA.out.cell 0 rfl
          have HA2 := hide (HA.out.alloc (q := wr.heap.size + 1) (by simp) #[.bool false, .int .i64 x1, .bool false, .int .i64 x2] 33)
          go_wp2_with (at_builtin; first | (have HAl := HA2.out; refine Fr.one 22 info33 Try.underlying22 rfl (by decide) (by decide) HAl 1 (v := u3) (n := M.length) rfl (by omega) _ _ rfl rfl rfl rfl rfl rfl ?_; intro g7 cap7 w7 h7 _; have HF7 := hide h7; clear h7))
          go_roundw
          case rel => exact ⟨k + 1, by omega, by go_num, by rw [HE.out, prV_snoc, List.length_append]; exact HF7.out.tail⟩
          case measure => simp [intOf]; omega
      · have HE := hide (HY.out (by simp))
        have cm := HA.out.cell 0 rfl
        have HA2 := hide (HA.out.alloc (q := wr.heap.size + 1) (by simp) #[.bool false, .int .i64 x1, .bool true, .int .i64 x2] 33)
        go_wp2_with (at_builtin; first | (have HAl := HA2.out; refine Fr.one 22 info33 Try.underlying22 rfl (by decide) (by decide) HAl 1 (v := u3) (n := M.length) rfl (by omega) _ _ rfl rfl rfl rfl rfl rfl ?_; intro g7 cap7 w7 h7 _; have HF7 := hide h7; clear h7))
        go_roundw
        case rel => exact ⟨k + 1, by omega, by go_num, by rw [HE.out, prV_snoc, List.length_append]; exact HF7.out.tail⟩
        case measure => simp [intOf]; omega
      · have HE := hide (HY.out (by simp))
        have cm := HA.out.cell 0 rfl
        have HA2 := hide (HA.out.alloc (q := wr.heap.size + 1) (by simp) #[.bool true, .int .i64 x1, .bool false, .int .i64 x2] 33)
        go_wp2_with (at_builtin; first | (have HAl := HA2.out; refine Fr.one 22 info33 Try.underlying22 rfl (by decide) (by decide) HAl 1 (v := u3) (n := M.length) rfl (by omega) _ _ rfl rfl rfl rfl rfl rfl ?_; intro g7 cap7 w7 h7 _; have HF7 := hide h7; clear h7))
        go_roundw
        case rel => exact ⟨k + 1, by omega, by go_num, by rw [HE.out, prV_snoc, List.length_append]; exact HF7.out.tail⟩
        case measure => simp [intOf]; omega
      · by_cases hx : x1 = x2
        · subst hx
          have HE := hide (HN.out rfl)
          go_wp2_with fail
          go_roundw
          case rel => exact ⟨k + 1, by omega, by go_num, by rw [HE.out]; exact HA.out.tail⟩
          case measure => simp [intOf]; omega
        · have hx' : (x1 == x2) = false := by simpa using hx
          have HE := hide (HY.out (by simpa using hx))
          have cm := HA.out.cell 0 rfl
          have HA2 := hide (HA.out.alloc (q := wr.heap.size + 1) (by simp) #[.bool true, .int .i64 x1, .bool true, .int .i64 x2] 33)
          go_wp2_with (at_builtin; first | (have HAl := HA2.out; refine Fr.one 22 info33 Try.underlying22 rfl (by decide) (by decide) HAl 1 (v := u3) (n := M.length) rfl (by omega) _ _ rfl rfl rfl rfl rfl rfl ?_; intro g7 cap7 w7 h7 _; have HF7 := hide h7; clear h7))
          go_roundw
          case rel => exact ⟨k + 1, by omega, by go_num, by rw [HE.out, prV_snoc, List.length_append]; exact HF7.out.tail⟩
          case measure => simp [intOf]; omega
    · obtain rfl : k = L.length := by omega
      have hlt' : ¬ (L.length : Int) < L.length := by omega
      go_wp2_with fail
      go_ret
      refine ⟨_, rfl, ?_, HF.out.below⟩
      have hx := HF.out.get (i := 0) rfl
      rw [List.take_length] at hx
      exact hx
end Go.Proofs.Ytejionmgpplniaa.T
