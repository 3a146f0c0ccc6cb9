/- The contracts of the program's letter, digit, barred, Name. -/
import Derived.Test.YthbhlmbhnidbhaaLeaf
namespace Go.Proofs.Ythbhlmbhnidbhaa.T
open Go.RowKit
set_option linter.unusedVariables false
set_option linter.unusedSimpArgs false
theorem pletter_any (c : Nat) (w : World) (hc : c < 256) : Calls Try.prog 63 #[.int .u8 c] w fun e w' => e = .returned (.bool (letB c)) ∧ w' = w := by
  have key : ∀ b1 b2 b3 b4, decide (97 ≤ c) = b1 → decide (c ≤ 122) = b2 → decide (65 ≤ c) = b3 → decide (c ≤ 90) = b4 → letB c = ((b1 && b2) || (b3 && b4)) := fun _ _ _ _ h1 h2 h3 h4 => by unfold letB; rw [h1, h2, h3, h4]
  by_cases a1 : 97 ≤ c
  · by_cases a2 : c ≤ 122
    · rw [key true true _ _ (decide_eq_true a1) (decide_eq_true a2) rfl rfl]
      have d1 : (97 : Int) ≤ c := by omega
      have d2 : (c : Int) ≤ 122 := by omega
      go_enter Try.func63, Try.ntmps63
      go_wp2_with fail
      go_ret
      exact ⟨rfl, rfl⟩
    · rw [key true false true false (decide_eq_true a1) (decide_eq_false a2) (decide_eq_true (by omega)) (decide_eq_false (by omega))]
      have d1 : (97 : Int) ≤ c := by omega
      have d2 : ¬ (c : Int) ≤ 122 := by omega
      have d3 : (65 : Int) ≤ c := by omega
      have d4 : ¬ (c : Int) ≤ 90 := by omega
      go_enter Try.func63, Try.ntmps63
      go_wp2_with fail
      go_ret
      exact ⟨rfl, rfl⟩
  · by_cases a3 : 65 ≤ c
    · have d1 : ¬ (97 : Int) ≤ c := by omega
      have d3 : (65 : Int) ≤ c := by omega
      by_cases a4 : c ≤ 90
      · rw [key false true true true (decide_eq_false a1) (decide_eq_true (by omega)) (decide_eq_true a3) (decide_eq_true a4)]
        have d4 : (c : Int) ≤ 90 := by omega
        go_enter Try.func63, Try.ntmps63
        go_wp2_with fail
        go_ret
        exact ⟨rfl, rfl⟩
      · rw [key false true true false (decide_eq_false a1) (decide_eq_true (by omega)) (decide_eq_true a3) (decide_eq_false a4)]
        have d4 : ¬ (c : Int) ≤ 90 := by omega
        go_enter Try.func63, Try.ntmps63
        go_wp2_with fail
        go_ret
        exact ⟨rfl, rfl⟩
    · rw [key false true false true (decide_eq_false a1) (decide_eq_true (by omega)) (decide_eq_false a3) (decide_eq_true (by omega))]
      have d1 : ¬ (97 : Int) ≤ c := by omega
      have d3 : ¬ (65 : Int) ≤ c := by omega
      go_enter Try.func63, Try.ntmps63
      go_wp2_with fail
      go_ret
      exact ⟨rfl, rfl⟩
theorem pdigit_any (c : Nat) (w : World) (hc : c < 256) : Calls Try.prog 70 #[.int .u8 c] w fun e w' => e = .returned (.bool (digB c)) ∧ w' = w := by
  have key : ∀ b1 b2, decide (48 ≤ c) = b1 → decide (c ≤ 57) = b2 → digB c = (b1 && b2) := fun _ _ h1 h2 => by unfold digB; rw [h1, h2]
  by_cases a1 : 48 ≤ c
  · have d1 : (48 : Int) ≤ c := by omega
    by_cases a2 : c ≤ 57
    · rw [key true true (decide_eq_true a1) (decide_eq_true a2)]
      have d2 : (c : Int) ≤ 57 := by omega
      go_enter Try.func70, Try.ntmps70
      go_wp2_with fail
      go_ret
      exact ⟨rfl, rfl⟩
    · rw [key true false (decide_eq_true a1) (decide_eq_false a2)]
      have d2 : ¬ (c : Int) ≤ 57 := by omega
      go_enter Try.func70, Try.ntmps70
      go_wp2_with fail
      go_ret
      exact ⟨rfl, rfl⟩
  · rw [key false true (decide_eq_false a1) (decide_eq_true (by omega))]
    have d1 : ¬ (48 : Int) ≤ c := by omega
    go_enter Try.func70, Try.ntmps70
    go_wp2_with fail
    go_ret
    exact ⟨rfl, rfl⟩
theorem bytes_eq (s : ByteArray) (l : List UInt8) (h : ¬ bytes s = l) : (s.toList == l) = false := by
  simp only [ByteArray.toList_eq, beq_eq_false_iff_ne, ne_eq]
  exact h
theorem bytes_same (s : ByteArray) (l : List UInt8) (h : bytes s = l) : (s.toList == l) = true := by
  simp only [ByteArray.toList_eq, beq_iff_eq]
  exact h
set_option maxRecDepth 100000 in
set_option maxHeartbeats 2000000 in
theorem barred_any (s : ByteArray) (w : World) : Calls Try.prog 65 #[.string s] w fun e w' => e = .returned (.bool (reserved.contains (bytes s))) ∧ w' = w := by
  by_cases a0 : bytes s = [98, 114, 101, 97, 107]
  · have d0 := bytes_same s [98, 114, 101, 97, 107] a0
    rw [show reserved.contains (bytes s) = true by rw [a0]; decide]
    clear a0
    go_enter Try.func65, Try.ntmps65
    go_wp2_with fail
    go_ret
    exact ⟨rfl, rfl⟩
  have d0 := bytes_eq s [98, 114, 101, 97, 107] a0
  by_cases a1 : bytes s = [99, 111, 117, 110, 116]
  · have d1 := bytes_same s [99, 111, 117, 110, 116] a1
    rw [show reserved.contains (bytes s) = true by rw [a1]; decide]
    clear a1
    go_enter Try.func65, Try.ntmps65
    go_wp2_with fail
    go_ret
    exact ⟨rfl, rfl⟩
  have d1 := bytes_eq s [99, 111, 117, 110, 116] a1
  by_cases a2 : bytes s = [101, 108, 115, 101]
  · have d2 := bytes_same s [101, 108, 115, 101] a2
    rw [show reserved.contains (bytes s) = true by rw [a2]; decide]
    clear a2
    go_enter Try.func65, Try.ntmps65
    go_wp2_with fail
    go_ret
    exact ⟨rfl, rfl⟩
  have d2 := bytes_eq s [101, 108, 115, 101] a2
  by_cases a3 : bytes s = [101, 120, 116, 101, 114, 110]
  · have d3 := bytes_same s [101, 120, 116, 101, 114, 110] a3
    rw [show reserved.contains (bytes s) = true by rw [a3]; decide]
    clear a3
    go_enter Try.func65, Try.ntmps65
    go_wp2_with fail
    go_ret
    exact ⟨rfl, rfl⟩
  have d3 := bytes_eq s [101, 120, 116, 101, 114, 110] a3
  by_cases a4 : bytes s = [101, 120, 116, 114, 97]
  · have d4 := bytes_same s [101, 120, 116, 114, 97] a4
    rw [show reserved.contains (bytes s) = true by rw [a4]; decide]
    clear a4
    go_enter Try.func65, Try.ntmps65
    go_wp2_with fail
    go_ret
    exact ⟨rfl, rfl⟩
  have d4 := bytes_eq s [101, 120, 116, 114, 97] a4
  by_cases a5 : bytes s = [102, 110]
  · have d5 := bytes_same s [102, 110] a5
    rw [show reserved.contains (bytes s) = true by rw [a5]; decide]
    clear a5
    go_enter Try.func65, Try.ntmps65
    go_wp2_with fail
    go_ret
    exact ⟨rfl, rfl⟩
  have d5 := bytes_eq s [102, 110] a5
  by_cases a6 : bytes s = [105, 102]
  · have d6 := bytes_same s [105, 102] a6
    rw [show reserved.contains (bytes s) = true by rw [a6]; decide]
    clear a6
    go_enter Try.func65, Try.ntmps65
    go_wp2_with fail
    go_ret
    exact ⟨rfl, rfl⟩
  have d6 := bytes_eq s [105, 102] a6
  by_cases a7 : bytes s = [105, 110, 116]
  · have d7 := bytes_same s [105, 110, 116] a7
    rw [show reserved.contains (bytes s) = true by rw [a7]; decide]
    clear a7
    go_enter Try.func65, Try.ntmps65
    go_wp2_with fail
    go_ret
    exact ⟨rfl, rfl⟩
  have d7 := bytes_eq s [105, 110, 116] a7
  by_cases a8 : bytes s = [108, 111, 110, 103]
  · have d8 := bytes_same s [108, 111, 110, 103] a8
    rw [show reserved.contains (bytes s) = true by rw [a8]; decide]
    clear a8
    go_enter Try.func65, Try.ntmps65
    go_wp2_with fail
    go_ret
    exact ⟨rfl, rfl⟩
  have d8 := bytes_eq s [108, 111, 110, 103] a8
  by_cases a9 : bytes s = [112, 117, 116]
  · have d9 := bytes_same s [112, 117, 116] a9
    rw [show reserved.contains (bytes s) = true by rw [a9]; decide]
    clear a9
    go_enter Try.func65, Try.ntmps65
    go_wp2_with fail
    go_ret
    exact ⟨rfl, rfl⟩
  have d9 := bytes_eq s [112, 117, 116] a9
  by_cases a10 : bytes s = [114, 101, 116, 117, 114, 110]
  · have d10 := bytes_same s [114, 101, 116, 117, 114, 110] a10
    rw [show reserved.contains (bytes s) = true by rw [a10]; decide]
    clear a10
    go_enter Try.func65, Try.ntmps65
    go_wp2_with fail
    go_ret
    exact ⟨rfl, rfl⟩
  have d10 := bytes_eq s [114, 101, 116, 117, 114, 110] a10
  by_cases a11 : bytes s = [115, 116, 97, 116, 105, 99]
  · have d11 := bytes_same s [115, 116, 97, 116, 105, 99] a11
    rw [show reserved.contains (bytes s) = true by rw [a11]; decide]
    clear a11
    go_enter Try.func65, Try.ntmps65
    go_wp2_with fail
    go_ret
    exact ⟨rfl, rfl⟩
  have d11 := bytes_eq s [115, 116, 97, 116, 105, 99] a11
  by_cases a12 : bytes s = [115, 116, 114, 117, 99, 116]
  · have d12 := bytes_same s [115, 116, 114, 117, 99, 116] a12
    rw [show reserved.contains (bytes s) = true by rw [a12]; decide]
    clear a12
    go_enter Try.func65, Try.ntmps65
    go_wp2_with fail
    go_ret
    exact ⟨rfl, rfl⟩
  have d12 := bytes_eq s [115, 116, 114, 117, 99, 116] a12
  by_cases a13 : bytes s = [119, 104, 105, 108, 101]
  · have d13 := bytes_same s [119, 104, 105, 108, 101] a13
    rw [show reserved.contains (bytes s) = true by rw [a13]; decide]
    clear a13
    go_enter Try.func65, Try.ntmps65
    go_wp2_with fail
    go_ret
    exact ⟨rfl, rfl⟩
  have d13 := bytes_eq s [119, 104, 105, 108, 101] a13
  have hn : reserved.contains (bytes s) = false := by
    rw [Bool.eq_false_iff]
    intro h
    rw [List.contains_iff_mem] at h
    simp only [reserved, List.mem_cons, List.not_mem_nil, or_false] at h
    rcases h with h | h | h | h | h | h | h | h | h | h | h | h | h | h
    · exact a0 h
    · exact a1 h
    · exact a2 h
    · exact a3 h
    · exact a4 h
    · exact a5 h
    · exact a6 h
    · exact a7 h
    · exact a8 h
    · exact a9 h
    · exact a10 h
    · exact a11 h
    · exact a12 h
    · exact a13 h
  rw [hn]
  clear hn a0 a1 a2 a3 a4 a5 a6 a7 a8 a9 a10 a11 a12 a13
  go_enter Try.func65, Try.ntmps65
  go_wp2_with fail
  go_ret
  exact ⟨rfl, rfl⟩
def inNB (c : Nat) : Bool := letB c || digB c || decide (c = 95)
theorem pin_any (c : Nat) (w : World) (hc : c < 256) : Calls Try.prog 64 #[.int .u8 c] w fun e w' => e = .returned (.bool (inNB c)) ∧ w' = w := by
  have hlet := fun w' => pletter_any c w' hc
  have hdig := fun w' => pdigit_any c w' hc
  obtain ⟨r, hr⟩ : ∃ r, r = inNB c := ⟨_, rfl⟩
  rw [← hr]
  unfold inNB at hr
  have HR := hide hr
  clear hr
  cases hL : letB c with
  | true =>
    rw [hL] at hlet
    obtain rfl : r = true := by rw [HR.out, hL]; rfl
    go_enter Try.func64, Try.ntmps64
    go_wp2_with fail
    go_at_call 63
    refine (hlet _).mono ?_
    rintro e w1 ⟨rfl, rfl⟩
    go_wp2_with fail
    go_ret
    exact ⟨rfl, rfl⟩
  | false =>
    rw [hL] at hlet
    cases hD : digB c with
    | true =>
      rw [hD] at hdig
      obtain rfl : r = true := by rw [HR.out, hL, hD]; rfl
      go_enter Try.func64, Try.ntmps64
      go_wp2_with fail
      go_at_call 63
      refine (hlet _).mono ?_
      rintro e w1 ⟨rfl, rfl⟩
      go_wp2_with fail
      go_at_call 70
      refine (hdig _).mono ?_
      rintro e w1 ⟨rfl, rfl⟩
      go_wp2_with fail
      go_ret
      exact ⟨rfl, rfl⟩
    | false =>
      rw [hD] at hdig
      obtain rfl : r = ((c : Int) == 95) := by
        rw [HR.out, hL, hD]
        by_cases h : c = 95
        · subst h; rfl
        · rw [decide_eq_false h]; simp; omega
      clear HR
      go_enter Try.func64, Try.ntmps64
      go_wp2_with fail
      go_at_call 63
      refine (hlet _).mono ?_
      rintro e w1 ⟨rfl, rfl⟩
      go_wp2_with fail
      go_at_call 70
      refine (hdig _).mono ?_
      rintro e w1 ⟨rfl, rfl⟩
      go_wp2_with fail
      go_ret
      exact ⟨rfl, rfl⟩
end Go.Proofs.Ythbhlmbhnidbhaa.T
