/- The contracts of the program's Letter, Digit, InName. -/
import Derived.Test.YtakijacfadpmoaaDoorLeaf
namespace Go.Proofs.YtakijacfadpmoaaDoor.T
open Go.RowKit
set_option linter.unusedVariables false
set_option linter.unusedSimpArgs false
theorem pletter_any (c : Nat) (w : World) (hc : c < 256) : Calls Tryd.prog 16 #[.int .u8 c] w fun e w' => e = .returned (.bool (letB c)) ∧ w' = w := by
  have key : ∀ b1 b2 b3 b4, decide (97 ≤ c) = b1 → decide (c ≤ 122) = b2 → decide (65 ≤ c) = b3 → decide (c ≤ 90) = b4 → letB c = ((b1 && b2) || (b3 && b4)) := fun _ _ _ _ h1 h2 h3 h4 => by unfold letB; rw [h1, h2, h3, h4]
  by_cases a1 : 97 ≤ c
  · by_cases a2 : c ≤ 122
    · rw [key true true _ _ (decide_eq_true a1) (decide_eq_true a2) rfl rfl]
      have d1 : (97 : Int) ≤ c := by omega
      have d2 : (c : Int) ≤ 122 := by omega
      go_enter Tryd.func16, Tryd.ntmps16
      go_wp2_with fail
      go_ret
      exact ⟨rfl, rfl⟩
    · rw [key true false true false (decide_eq_true a1) (decide_eq_false a2) (decide_eq_true (by omega)) (decide_eq_false (by omega))]
      have d1 : (97 : Int) ≤ c := by omega
      have d2 : ¬ (c : Int) ≤ 122 := by omega
      have d3 : (65 : Int) ≤ c := by omega
      have d4 : ¬ (c : Int) ≤ 90 := by omega
      go_enter Tryd.func16, Tryd.ntmps16
      go_wp2_with fail
      go_ret
      exact ⟨rfl, rfl⟩
  · by_cases a3 : 65 ≤ c
    · have d1 : ¬ (97 : Int) ≤ c := by omega
      have d3 : (65 : Int) ≤ c := by omega
      by_cases a4 : c ≤ 90
      · rw [key false true true true (decide_eq_false a1) (decide_eq_true (by omega)) (decide_eq_true a3) (decide_eq_true a4)]
        have d4 : (c : Int) ≤ 90 := by omega
        go_enter Tryd.func16, Tryd.ntmps16
        go_wp2_with fail
        go_ret
        exact ⟨rfl, rfl⟩
      · rw [key false true true false (decide_eq_false a1) (decide_eq_true (by omega)) (decide_eq_true a3) (decide_eq_false a4)]
        have d4 : ¬ (c : Int) ≤ 90 := by omega
        go_enter Tryd.func16, Tryd.ntmps16
        go_wp2_with fail
        go_ret
        exact ⟨rfl, rfl⟩
    · rw [key false true false true (decide_eq_false a1) (decide_eq_true (by omega)) (decide_eq_false a3) (decide_eq_true (by omega))]
      have d1 : ¬ (97 : Int) ≤ c := by omega
      have d3 : ¬ (65 : Int) ≤ c := by omega
      go_enter Tryd.func16, Tryd.ntmps16
      go_wp2_with fail
      go_ret
      exact ⟨rfl, rfl⟩
theorem pdigit_any (c : Nat) (w : World) (hc : c < 256) : Calls Tryd.prog 19 #[.int .u8 c] w fun e w' => e = .returned (.bool (digB c)) ∧ w' = w := by
  have key : ∀ b1 b2, decide (48 ≤ c) = b1 → decide (c ≤ 57) = b2 → digB c = (b1 && b2) := fun _ _ h1 h2 => by unfold digB; rw [h1, h2]
  by_cases a1 : 48 ≤ c
  · have d1 : (48 : Int) ≤ c := by omega
    by_cases a2 : c ≤ 57
    · rw [key true true (decide_eq_true a1) (decide_eq_true a2)]
      have d2 : (c : Int) ≤ 57 := by omega
      go_enter Tryd.func19, Tryd.ntmps19
      go_wp2_with fail
      go_ret
      exact ⟨rfl, rfl⟩
    · rw [key true false (decide_eq_true a1) (decide_eq_false a2)]
      have d2 : ¬ (c : Int) ≤ 57 := by omega
      go_enter Tryd.func19, Tryd.ntmps19
      go_wp2_with fail
      go_ret
      exact ⟨rfl, rfl⟩
  · rw [key false true (decide_eq_false a1) (decide_eq_true (by omega))]
    have d1 : ¬ (48 : Int) ≤ c := by omega
    go_enter Tryd.func19, Tryd.ntmps19
    go_wp2_with fail
    go_ret
    exact ⟨rfl, rfl⟩
theorem pin_any (c : Nat) (w : World) (hc : c < 256) : Calls Tryd.prog 18 #[.int .u8 c] w fun e w' => e = .returned (.bool (insB c)) ∧ w' = w := by
  have hlet := fun w' => pletter_any c w' hc
  have hdig := fun w' => pdigit_any c w' hc
  obtain ⟨r, hr⟩ : ∃ r, r = insB c := ⟨_, rfl⟩
  rw [← hr]
  unfold insB at hr
  have HR := hide hr
  clear hr
  cases hL : letB c with
  | true =>
    rw [hL] at hlet
    obtain rfl : r = true := by rw [HR.out, hL]; rfl
    go_enter Tryd.func18, Tryd.ntmps18
    go_wp2_with fail
    go_at_call 16
    refine (hlet _).mono ?_
    rintro e w1 ⟨rfl, rfl⟩
    go_wp2_with fail
    go_ret
    exact ⟨rfl, rfl⟩
  | false =>
    rw [hL] at hlet
    cases hD : digB c with
    | true =>
      rw [hD] at hdig
      obtain rfl : r = true := by rw [HR.out, hL, hD]; rfl
      go_enter Tryd.func18, Tryd.ntmps18
      go_wp2_with fail
      go_at_call 16
      refine (hlet _).mono ?_
      rintro e w1 ⟨rfl, rfl⟩
      go_wp2_with fail
      go_at_call 19
      refine (hdig _).mono ?_
      rintro e w1 ⟨rfl, rfl⟩
      go_wp2_with fail
      go_ret
      exact ⟨rfl, rfl⟩
    | false =>
      rw [hD] at hdig
      obtain rfl : r = ((c : Int) == 95) := by
        rw [HR.out, hL, hD]
        by_cases h : c = 95
        · subst h; rfl
        · rw [decide_eq_false h]; simp; omega
      clear HR
      go_enter Tryd.func18, Tryd.ntmps18
      go_wp2_with fail
      go_at_call 16
      refine (hlet _).mono ?_
      rintro e w1 ⟨rfl, rfl⟩
      go_wp2_with fail
      go_at_call 19
      refine (hdig _).mono ?_
      rintro e w1 ⟨rfl, rfl⟩
      go_wp2_with fail
      go_ret
      exact ⟨rfl, rfl⟩
end Go.Proofs.YtakijacfadpmoaaDoor.T
