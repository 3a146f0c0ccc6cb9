/- The program's isPlace, and its closures. -/
import Derived.Test.YtejionmgpplniaaC
namespace Go.Proofs.Ytejionmgpplniaa.T
open Go.RowKit
set_option linter.unusedVariables false
set_option linter.unusedSimpArgs false
theorem isp_any (s : Bool) (n : Int) (w : World) : Calls Try.prog 14 #[.agg #[.bool s, .int .i64 n]] w fun e w' => e = .returned (.bool (placeB (s, n))) ∧ Below w.heap.size w w' := by
  have HF := hide ((Fr.start w).alloc rfl #[.bool s, .int .i64 n] 31)
  have hp : placeB (s, n) = (decide (0 ≤ n) && decide (n ≤ if s = true then 999 else 15)) := rfl
  obtain ⟨B, HB⟩ : ∃ B, Hid (placeB (s, n) = B) := ⟨placeB (s, n), rfl⟩
  rw [HB.out]
  rw [HB.out] at hp
  have HP := hide hp
  clear hp HB
  cases s
  · by_cases h0 : 0 ≤ n
    · by_cases h1 : n ≤ 15
      · obtain rfl : B = true := HP.out.trans (by simp [h0, h1])
        have h2 : n < 16 := by omega
        go_enter Try.func14, Try.ntmps14
        go_wp2_with fail
        go_ret
        exact ⟨by simp [h0, h1, h2], HF.out.below⟩
      · obtain rfl : B = false := HP.out.trans (by simp [h0, h1])
        have h2 : ¬ n < 16 := by omega
        go_enter Try.func14, Try.ntmps14
        go_wp2_with fail
        go_ret
        exact ⟨by simp [h0, h1, h2], HF.out.below⟩
    · obtain rfl : B = false := HP.out.trans (by simp [h0])
      go_enter Try.func14, Try.ntmps14
      go_wp2_with fail
      go_ret
      exact ⟨by simp [h0], HF.out.below⟩
  · by_cases h0 : 0 ≤ n
    · by_cases h1 : n ≤ 999
      · obtain rfl : B = true := HP.out.trans (by simp [h0, h1])
        have h2 : n < 1000 := by omega
        go_enter Try.func14, Try.ntmps14
        go_wp2_with fail
        go_ret
        exact ⟨by simp [h0, h1, h2], HF.out.below⟩
      · obtain rfl : B = false := HP.out.trans (by simp [h0, h1])
        have h2 : ¬ n < 1000 := by omega
        go_enter Try.func14, Try.ntmps14
        go_wp2_with fail
        go_ret
        exact ⟨by simp [h0, h1, h2], HF.out.below⟩
    · obtain rfl : B = false := HP.out.trans (by simp [h0])
      go_enter Try.func14, Try.ntmps14
      go_wp2_with fail
      go_ret
      exact ⟨by simp [h0], HF.out.below⟩
theorem c13_any (s1 : Bool) (x1 : Int) (s2 : Bool) (x2 : Int) (w : World) : Calls Try.prog 13 #[.agg #[.bool s1, .int .i64 x1, .bool s2, .int .i64 x2]] w fun e w' => e = .returned (.bool (!okM ((s1, x1), (s2, x2)))) ∧ Below w.heap.size w w' := by
  have HF := hide ((Fr.start w).alloc rfl #[.bool s1, .int .i64 x1, .bool s2, .int .i64 x2] 33)
  obtain ⟨A, HA⟩ : ∃ A, Hid (placeB (s1, x1) = A) := ⟨_, rfl⟩
  obtain ⟨B, HB⟩ : ∃ B, Hid (placeB (s2, x2) = B) := ⟨_, rfl⟩
  have HR : Hid ((!okM ((s1, x1), (s2, x2))) = !(A && B)) := by show _ = _; rw [← HA.out, ← HB.out]; rfl
  have HC1 := hide (isp_any s1 x1)
  have HC2 := hide (isp_any s2 x2)
  rw [HA.out] at HC1
  rw [HB.out] at HC2
  rw [HR.out]
  clear HA HB HR
  go_enter Try.func13, Try.ntmps13
  go_wp2_with fail
  go_at_call 14
  refine (HC1.out _).mono ?_
  rintro e w1 ⟨rfl, hb⟩
  replace HF := hide (HF.out.call hb)
  have c := HF.out.cell 0 rfl
  clear hb HC1
  cases A
  · go_wp2_with fail
    go_ret
    exact ⟨rfl, HF.out.below⟩
  · go_wp2_with fail
    go_at_call 14
    refine (HC2.out _).mono ?_
    rintro e w2 ⟨rfl, hb⟩
    replace HF := hide (HF.out.call hb)
    clear hb HC2 c
    go_wp2_with fail
    go_ret
    exact ⟨by cases B <;> rfl, HF.out.below⟩
set_option maxHeartbeats 1000000 in
theorem c15_any (q : Nat) (tmp : Int) (s1 : Bool) (x1 : Int) (s2 : Bool) (x2 : Int) (w : World) (hq : w.heap[q]? = some (.cells #[.bool false, .int .i64 tmp] 31 (0, 0))) : Calls Try.prog 15 #[.agg #[.bool s1, .int .i64 x1, .bool s2, .int .i64 x2], .pointer (some ⟨q, 0, none⟩)] w fun e w' => e = .returned (.bool (isM (false, tmp) ((s1, x1), (s2, x2)))) ∧ Below w.heap.size w w' := by
  have HF := hide ((Fr.start w).alloc rfl #[.bool s1, .int .i64 x1, .bool s2, .int .i64 x2] 33)
  have hlt := (Array.getElem?_eq_some_iff.1 hq).1
  have cq := fr_cells ((HF.out.below.block q hlt).trans hq)
  clear hlt hq
  have HR : Hid (isM (false, tmp) ((s1, x1), (s2, x2)) = (decide ((s1, x1) = (false, tmp)) || decide ((s2, x2) = (false, tmp)))) := rfl
  rw [HR.out]
  clear HR
  cases s1
  · by_cases h1 : x1 = tmp
    · subst h1
      go_enter Try.func15, Try.ntmps15
      go_wp2_with fail
      go_ret
      exact ⟨by simp [*], HF.out.below⟩
    · have h1' : (x1 == tmp) = false := by simpa using h1
      cases s2
      · by_cases h2 : x2 = tmp
        · subst h2
          go_enter Try.func15, Try.ntmps15
          go_wp2_with fail
          go_ret
          exact ⟨by simp [*], HF.out.below⟩
        · have h2' : (x2 == tmp) = false := by simpa using h2
          go_enter Try.func15, Try.ntmps15
          go_wp2_with fail
          go_ret
          exact ⟨by simp [*], HF.out.below⟩
      · skip
        go_enter Try.func15, Try.ntmps15
        go_wp2_with fail
        go_ret
        exact ⟨by simp [*], HF.out.below⟩
  · cases s2
    · by_cases h2 : x2 = tmp
      · subst h2
        go_enter Try.func15, Try.ntmps15
        go_wp2_with fail
        go_ret
        exact ⟨by simp [*], HF.out.below⟩
      · have h2' : (x2 == tmp) = false := by simpa using h2
        go_enter Try.func15, Try.ntmps15
        go_wp2_with fail
        go_ret
        exact ⟨by simp [*], HF.out.below⟩
    · skip
      go_enter Try.func15, Try.ntmps15
      go_wp2_with fail
      go_ret
      exact ⟨by simp [*], HF.out.below⟩
set_option maxHeartbeats 1000000 in
theorem c21_any (q : Nat) (s : Bool) (x : Int) (s1 : Bool) (x1 : Int) (s2 : Bool) (x2 : Int) (w : World) (hq : w.heap[q]? = some (.cells #[.bool s, .int .i64 x] 31 (0, 0))) : Calls Try.prog 21 #[.agg #[.bool s1, .int .i64 x1, .bool s2, .int .i64 x2], .pointer (some ⟨q, 0, none⟩)] w fun e w' => e = .returned (.bool (decide ((s1, x1) = (s, x)))) ∧ Below w.heap.size w w' := by
  have HF := hide ((Fr.start w).alloc rfl #[.bool s1, .int .i64 x1, .bool s2, .int .i64 x2] 33)
  have hlt := (Array.getElem?_eq_some_iff.1 hq).1
  have cq := fr_cells ((HF.out.below.block q hlt).trans hq)
  clear hlt hq
  cases s <;> cases s1
  · by_cases h1 : x1 = x
    · subst h1
      go_enter Try.func21, Try.ntmps21
      go_wp2_with fail
      go_ret
      exact ⟨by simp [*], HF.out.below⟩
    · have h1' : (x1 == x) = false := by simpa using h1
      go_enter Try.func21, Try.ntmps21
      go_wp2_with fail
      go_ret
      exact ⟨by simp [*], HF.out.below⟩
  · skip
    go_enter Try.func21, Try.ntmps21
    go_wp2_with fail
    go_ret
    exact ⟨by simp [*], HF.out.below⟩
  · skip
    go_enter Try.func21, Try.ntmps21
    go_wp2_with fail
    go_ret
    exact ⟨by simp [*], HF.out.below⟩
  · by_cases h1 : x1 = x
    · subst h1
      go_enter Try.func21, Try.ntmps21
      go_wp2_with fail
      go_ret
      exact ⟨by simp [*], HF.out.below⟩
    · have h1' : (x1 == x) = false := by simpa using h1
      go_enter Try.func21, Try.ntmps21
      go_wp2_with fail
      go_ret
      exact ⟨by simp [*], HF.out.below⟩
end Go.Proofs.Ytejionmgpplniaa.T
