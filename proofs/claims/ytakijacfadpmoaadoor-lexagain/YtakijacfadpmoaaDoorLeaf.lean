/- The contracts of the reference's Letter, Digit, inside, above. -/
import Derived.Test.YtakijacfadpmoaaDoorProg
import Derived.WalkKit
import Derived.WalkSpells
import Derived.Outline
import Derived.LoopTactic
import Derived.Laws.Cover1
import Derived.BigQuiet
namespace Go.Proofs.YtakijacfadpmoaaDoor.T
open Go.RowKit
set_option linter.unusedVariables false
set_option linter.unusedSimpArgs false
theorem hide {p : Prop} (h : p) : Hid p := h
def letB (c : Nat) : Bool := (decide (97 ≤ c) && decide (c ≤ 122)) || (decide (65 ≤ c) && decide (c ≤ 90))
def digB (c : Nat) : Bool := decide (48 ≤ c) && decide (c ≤ 57)
def insB (c : Nat) : Bool := letB c || digB c || decide (c = 95)
theorem letter_any (c : Nat) (w : World) (hc : c < 256) : Calls Tryd.prog 11 #[.int .u8 c] w fun e w' => e = .returned (.bool (letB c)) ∧ w' = w := by
  have key : ∀ b1 b2 b3 b4, decide (97 ≤ c) = b1 → decide (c ≤ 122) = b2 → decide (65 ≤ c) = b3 → decide (c ≤ 90) = b4 → letB c = ((b1 && b2) || (b3 && b4)) := fun _ _ _ _ h1 h2 h3 h4 => by unfold letB; rw [h1, h2, h3, h4]
  by_cases a1 : 97 ≤ c
  · by_cases a2 : c ≤ 122
    · rw [key true true _ _ (decide_eq_true a1) (decide_eq_true a2) rfl rfl]
      have d1 : (97 : Int) ≤ c := by omega
      have d2 : (c : Int) ≤ 122 := by omega
      go_enter Tryd.func11, Tryd.ntmps11
      go_wp2_with fail
      go_ret
      exact ⟨rfl, rfl⟩
    · rw [key true false true false (decide_eq_true a1) (decide_eq_false a2) (decide_eq_true (by omega)) (decide_eq_false (by omega))]
      have d1 : (97 : Int) ≤ c := by omega
      have d2 : ¬ (c : Int) ≤ 122 := by omega
      have d3 : (65 : Int) ≤ c := by omega
      have d4 : ¬ (c : Int) ≤ 90 := by omega
      go_enter Tryd.func11, Tryd.ntmps11
      go_wp2_with fail
      go_ret
      exact ⟨rfl, rfl⟩
  · by_cases a3 : 65 ≤ c
    · have d1 : ¬ (97 : Int) ≤ c := by omega
      have d3 : (65 : Int) ≤ c := by omega
      by_cases a4 : c ≤ 90
      · rw [key false true true true (decide_eq_false a1) (decide_eq_true (by omega)) (decide_eq_true a3) (decide_eq_true a4)]
        have d4 : (c : Int) ≤ 90 := by omega
        go_enter Tryd.func11, Tryd.ntmps11
        go_wp2_with fail
        go_ret
        exact ⟨rfl, rfl⟩
      · rw [key false true true false (decide_eq_false a1) (decide_eq_true (by omega)) (decide_eq_true a3) (decide_eq_false a4)]
        have d4 : ¬ (c : Int) ≤ 90 := by omega
        go_enter Tryd.func11, Tryd.ntmps11
        go_wp2_with fail
        go_ret
        exact ⟨rfl, rfl⟩
    · rw [key false true false true (decide_eq_false a1) (decide_eq_true (by omega)) (decide_eq_false a3) (decide_eq_true (by omega))]
      have d1 : ¬ (97 : Int) ≤ c := by omega
      have d3 : ¬ (65 : Int) ≤ c := by omega
      go_enter Tryd.func11, Tryd.ntmps11
      go_wp2_with fail
      go_ret
      exact ⟨rfl, rfl⟩
theorem digit_any (c : Nat) (w : World) (hc : c < 256) : Calls Tryd.prog 12 #[.int .u8 c] w fun e w' => e = .returned (.bool (digB c)) ∧ w' = w := by
  have key : ∀ b1 b2, decide (48 ≤ c) = b1 → decide (c ≤ 57) = b2 → digB c = (b1 && b2) := fun _ _ h1 h2 => by unfold digB; rw [h1, h2]
  by_cases a1 : 48 ≤ c
  · have d1 : (48 : Int) ≤ c := by omega
    by_cases a2 : c ≤ 57
    · rw [key true true (decide_eq_true a1) (decide_eq_true a2)]
      have d2 : (c : Int) ≤ 57 := by omega
      go_enter Tryd.func12, Tryd.ntmps12
      go_wp2_with fail
      go_ret
      exact ⟨rfl, rfl⟩
    · rw [key true false (decide_eq_true a1) (decide_eq_false a2)]
      have d2 : ¬ (c : Int) ≤ 57 := by omega
      go_enter Tryd.func12, Tryd.ntmps12
      go_wp2_with fail
      go_ret
      exact ⟨rfl, rfl⟩
  · rw [key false true (decide_eq_false a1) (decide_eq_true (by omega))]
    have d1 : ¬ (48 : Int) ≤ c := by omega
    go_enter Tryd.func12, Tryd.ntmps12
    go_wp2_with fail
    go_ret
    exact ⟨rfl, rfl⟩
theorem inside_any (c : Nat) (w : World) (hc : c < 256) : Calls Tryd.prog 9 #[.int .u8 c] w fun e w' => e = .returned (.bool (insB c)) ∧ w' = w := by
  have hlet := fun w' => letter_any c w' hc
  have hdig := fun w' => digit_any c w' hc
  obtain ⟨r, hr⟩ : ∃ r, r = insB c := ⟨_, rfl⟩
  rw [← hr]
  unfold insB at hr
  have HR := hide hr
  clear hr
  cases hL : letB c with
  | true =>
    rw [hL] at hlet
    obtain rfl : r = true := by rw [HR.out, hL]; rfl
    go_enter Tryd.func9, Tryd.ntmps9
    go_wp2_with fail
    go_at_call 11
    refine (hlet _).mono ?_
    rintro e w1 ⟨rfl, rfl⟩
    go_wp2_with fail
    go_ret
    exact ⟨rfl, rfl⟩
  | false =>
    rw [hL] at hlet
    cases hD : digB c with
    | true =>
      rw [hD] at hdig
      obtain rfl : r = true := by rw [HR.out, hL, hD]; rfl
      go_enter Tryd.func9, Tryd.ntmps9
      go_wp2_with fail
      go_at_call 11
      refine (hlet _).mono ?_
      rintro e w1 ⟨rfl, rfl⟩
      go_wp2_with fail
      go_at_call 12
      refine (hdig _).mono ?_
      rintro e w1 ⟨rfl, rfl⟩
      go_wp2_with fail
      go_ret
      exact ⟨rfl, rfl⟩
    | false =>
      rw [hD] at hdig
      obtain rfl : r = ((c : Int) == 95) := by
        rw [HR.out, hL, hD]
        by_cases h : c = 95
        · subst h; rfl
        · rw [decide_eq_false h]; simp; omega
      clear HR
      go_enter Tryd.func9, Tryd.ntmps9
      go_wp2_with fail
      go_at_call 11
      refine (hlet _).mono ?_
      rintro e w1 ⟨rfl, rfl⟩
      go_wp2_with fail
      go_at_call 12
      refine (hdig _).mono ?_
      rintro e w1 ⟨rfl, rfl⟩
      go_wp2_with fail
      go_ret
      exact ⟨rfl, rfl⟩
/-- Is a row of digits a greater number than another one (no nought ahead)? -/
def aboveB (a b : ByteArray) : Bool := decide (b.size < a.size) || (decide (a.size = b.size) && !(Op.bytesLess a.toList b.toList || a.toList == b.toList))
theorem above_any (a b : ByteArray) (w : World) (ha : a.size ≤ 4000) (hb : b.size ≤ 4000) : Calls Tryd.prog 23 #[.string a, .string b] w fun e w' => e = .returned (.bool (aboveB a b)) ∧ w' = w := by
  obtain ⟨r, hr⟩ : ∃ r, r = aboveB a b := ⟨_, rfl⟩
  rw [← hr]
  unfold aboveB at hr
  by_cases c1 : b.size < a.size
  · have h1 : (b.size : Int) < a.size := by omega
    obtain rfl : r = true := by rw [hr, decide_eq_true c1]; rfl
    clear hr
    go_enter Tryd.func23, Tryd.ntmps23
    go_wp2_with fail
    go_ret
    exact ⟨rfl, rfl⟩
  · have h1 : ¬ (b.size : Int) < a.size := by omega
    by_cases c2 : a.size = b.size
    · have h2 : ((a.size : Int) == (b.size : Int)) = true := by simp; omega
      obtain ⟨q, hq⟩ : ∃ q, q = (Op.bytesLess a.toList b.toList || a.toList == b.toList) := ⟨_, rfl⟩
      obtain rfl : r = !q := by rw [hr, decide_eq_false c1, decide_eq_true c2, hq]; rfl
      have hgt : ∀ t, binOp .gtr t (.string a) (.string b) = pure (.bool !q) := fun t => by rw [binOp_string_gtr, hq]
      have HQ := hide hq
      have HC := hide c2
      clear hr c1 c2 hq
      go_enter Tryd.func23, Tryd.ntmps23
      go_wp2_with fail
      go_ret
      exact ⟨rfl, rfl⟩
    · have h2 : ((a.size : Int) == (b.size : Int)) = false := by simp; omega
      have h3 : (a.size == b.size) = false := by simp; omega
      obtain rfl : r = false := by rw [hr, decide_eq_false c1, decide_eq_false c2]; rfl
      clear hr
      go_enter Tryd.func23, Tryd.ntmps23
      go_wp2_with fail
      go_ret
      exact ⟨rfl, rfl⟩
/-- A row of strings in the world. -/
def Strs (w : World) (na : Option Addr) (nn : Nat) (names : Nat → ByteArray) : Prop := 0 < nn → ∃ b o, na = some ⟨b, o, none⟩ ∧ b < w.heap.size ∧ ∀ j, j < nn → w.cell? ⟨b, o + j, none⟩ = some (.string (names j))
def signs : List (List UInt8) := [[46, 46, 46], [61, 61], [123], [125], [40], [41], [59], [44], [46], [61], [60], [43], [45], [42], [47], [37], [38], [124], [94], [33]]
def sigN (j : Nat) : ByteArray := ⟨(signs.getD j []).toArray⟩
set_option maxHeartbeats 1000000 in
theorem signs_any (w : World) : Calls Tryd.prog 22 #[] w fun e w' => ∃ na, e = .returned (.slice na 20 20) ∧ Strs w' na 20 sigN ∧ Below w.heap.size w w' := by
  go_enter Tryd.func22, Tryd.ntmps22
  go_wp2_with fail
  go_ret
  refine ⟨_, rfl, fun _ => ⟨w.heap.size, 0, rfl, by simp, fun j hj => ?_⟩, (Below.refl _ _).alloc (Nat.le_refl _) _⟩
  rw [World.cell?_alloc_at _ _ _ _ rfl, Nat.zero_add]
  have : j = 0 ∨ j = 1 ∨ j = 2 ∨ j = 3 ∨ j = 4 ∨ j = 5 ∨ j = 6 ∨ j = 7 ∨ j = 8 ∨ j = 9 ∨ j = 10 ∨ j = 11 ∨ j = 12 ∨ j = 13 ∨ j = 14 ∨ j = 15 ∨ j = 16 ∨ j = 17 ∨ j = 18 ∨ j = 19 := by omega
  rcases this with rfl | rfl | rfl | rfl | rfl | rfl | rfl | rfl | rfl | rfl | rfl | rfl | rfl | rfl | rfl | rfl | rfl | rfl | rfl | rfl <;> rfl
end Go.Proofs.YtakijacfadpmoaaDoor.T
