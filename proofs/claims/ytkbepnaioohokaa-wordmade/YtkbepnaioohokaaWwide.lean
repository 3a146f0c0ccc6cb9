/- Contracts of word.Wide and of its reference: for every operation and every two longs both answer wideN and wideB, and leave the world as it was. -/
import Derived.Test.YtkbepnaioohokaaRop
namespace Go.Proofs.Ytkbepnaioohokaa.W
open Go.RowKit Go.Proofs.Ytkbepnaioohokaa.M
set_option linter.unusedVariables false

def wideN (op a b : Int) : Int :=
  if op = 1 then wrap64 (a + b)
  else if op = 2 then wrap64 (a - b)
  else if op = 3 then wrap64 (a * b)
  else if op = 7 then bits .and .i64 a b
  else if op = 8 then bits .or .i64 a b
  else if op = 9 then bits .xor .i64 a b
  else if op = 10 then (if a < b then 1 else 0)
  else if op = 12 then (if a = b then 1 else 0)
  else 0
def wideB (op : Int) : Bool :=
  if op = 1 ∨ op = 2 ∨ op = 3 ∨ op = 7 ∨ op = 8 ∨ op = 9 ∨ op = 10 ∨ op = 12 then true else false

set_option maxHeartbeats 1000000 in
theorem wwide1 (a b : Int) (w : World) (h0 : -9223372036854775808 ≤ a) (h1 : a ≤ 9223372036854775807) (h2 : -9223372036854775808 ≤ b) (h3 : b ≤ 9223372036854775807) :
    Calls Try.prog 9 #[.int .i64 1, .int .i64 a, .int .i64 b] w fun e w' => e = .returned (.tuple #[.int .i64 (wideN 1 a b), .bool (wideB 1)]) ∧ w' = w := by
  go_enter Try.func9, Try.ntmps9
  go_wp2
  go_ret2
  exact ⟨ret_int_bool (rfl) (rfl), rfl⟩
set_option maxHeartbeats 1000000 in
theorem wwide2 (a b : Int) (w : World) (h0 : -9223372036854775808 ≤ a) (h1 : a ≤ 9223372036854775807) (h2 : -9223372036854775808 ≤ b) (h3 : b ≤ 9223372036854775807) :
    Calls Try.prog 9 #[.int .i64 2, .int .i64 a, .int .i64 b] w fun e w' => e = .returned (.tuple #[.int .i64 (wideN 2 a b), .bool (wideB 2)]) ∧ w' = w := by
  go_enter Try.func9, Try.ntmps9
  go_wp2
  go_ret2
  exact ⟨ret_int_bool (rfl) (rfl), rfl⟩
set_option maxHeartbeats 1000000 in
theorem wwide3 (a b : Int) (w : World) (h0 : -9223372036854775808 ≤ a) (h1 : a ≤ 9223372036854775807) (h2 : -9223372036854775808 ≤ b) (h3 : b ≤ 9223372036854775807) :
    Calls Try.prog 9 #[.int .i64 3, .int .i64 a, .int .i64 b] w fun e w' => e = .returned (.tuple #[.int .i64 (wideN 3 a b), .bool (wideB 3)]) ∧ w' = w := by
  go_enter Try.func9, Try.ntmps9
  go_wp2
  go_ret2
  exact ⟨ret_int_bool (rfl) (rfl), rfl⟩
set_option maxHeartbeats 1000000 in
theorem wwide7 (a b : Int) (w : World) (h0 : -9223372036854775808 ≤ a) (h1 : a ≤ 9223372036854775807) (h2 : -9223372036854775808 ≤ b) (h3 : b ≤ 9223372036854775807) :
    Calls Try.prog 9 #[.int .i64 7, .int .i64 a, .int .i64 b] w fun e w' => e = .returned (.tuple #[.int .i64 (wideN 7 a b), .bool (wideB 7)]) ∧ w' = w := by
  go_enter Try.func9, Try.ntmps9
  go_wp2
  go_ret2
  exact ⟨ret_int_bool (rfl) (rfl), rfl⟩
set_option maxHeartbeats 1000000 in
theorem wwide8 (a b : Int) (w : World) (h0 : -9223372036854775808 ≤ a) (h1 : a ≤ 9223372036854775807) (h2 : -9223372036854775808 ≤ b) (h3 : b ≤ 9223372036854775807) :
    Calls Try.prog 9 #[.int .i64 8, .int .i64 a, .int .i64 b] w fun e w' => e = .returned (.tuple #[.int .i64 (wideN 8 a b), .bool (wideB 8)]) ∧ w' = w := by
  go_enter Try.func9, Try.ntmps9
  go_wp2
  go_ret2
  exact ⟨ret_int_bool (rfl) (rfl), rfl⟩
set_option maxHeartbeats 1000000 in
theorem wwide9 (a b : Int) (w : World) (h0 : -9223372036854775808 ≤ a) (h1 : a ≤ 9223372036854775807) (h2 : -9223372036854775808 ≤ b) (h3 : b ≤ 9223372036854775807) :
    Calls Try.prog 9 #[.int .i64 9, .int .i64 a, .int .i64 b] w fun e w' => e = .returned (.tuple #[.int .i64 (wideN 9 a b), .bool (wideB 9)]) ∧ w' = w := by
  go_enter Try.func9, Try.ntmps9
  go_wp2
  go_ret2
  exact ⟨ret_int_bool (rfl) (rfl), rfl⟩
set_option maxHeartbeats 1000000 in
theorem wwide10 (a b : Int) (w : World) (h0 : -9223372036854775808 ≤ a) (h1 : a ≤ 9223372036854775807) (h2 : -9223372036854775808 ≤ b) (h3 : b ≤ 9223372036854775807) :
    Calls Try.prog 9 #[.int .i64 10, .int .i64 a, .int .i64 b] w fun e w' => e = .returned (.tuple #[.int .i64 (wideN 10 a b), .bool (wideB 10)]) ∧ w' = w := by
  by_cases c : a < b
  · have hc : decide (a < b) = true := by simpa using c
    go_enter Try.func9, Try.ntmps9
    go_wp2
    go_ret2
    exact ⟨ret_int_bool (by simp [wideN, c]) (rfl), rfl⟩
  · have hc : decide (a < b) = false := by simpa using c
    go_enter Try.func9, Try.ntmps9
    go_wp2
    go_ret2
    exact ⟨ret_int_bool (by simp [wideN, c]) (rfl), rfl⟩
set_option maxHeartbeats 1000000 in
theorem wwide12 (a b : Int) (w : World) (h0 : -9223372036854775808 ≤ a) (h1 : a ≤ 9223372036854775807) (h2 : -9223372036854775808 ≤ b) (h3 : b ≤ 9223372036854775807) :
    Calls Try.prog 9 #[.int .i64 12, .int .i64 a, .int .i64 b] w fun e w' => e = .returned (.tuple #[.int .i64 (wideN 12 a b), .bool (wideB 12)]) ∧ w' = w := by
  by_cases c : a = b
  · subst c
    go_enter Try.func9, Try.ntmps9
    go_wp2
    go_ret2
    exact ⟨ret_int_bool (by simp [wideN]) (rfl), rfl⟩
  · have hc : (a == b) = false := beq_eq_false_iff_ne.2 c
    go_enter Try.func9, Try.ntmps9
    go_wp2
    go_ret2
    exact ⟨ret_int_bool (by simp [wideN, c]) (rfl), rfl⟩
set_option maxHeartbeats 1000000 in
theorem wwidex (op a b : Int) (w : World) (h0 : -9223372036854775808 ≤ a) (h1 : a ≤ 9223372036854775807) (h2 : -9223372036854775808 ≤ b) (h3 : b ≤ 9223372036854775807) (h : ¬ (op = 1 ∨ op = 2 ∨ op = 3 ∨ op = 7 ∨ op = 8 ∨ op = 9 ∨ op = 10 ∨ op = 12)) :
    Calls Try.prog 9 #[.int .i64 op, .int .i64 a, .int .i64 b] w fun e w' => e = .returned (.tuple #[.int .i64 (wideN op a b), .bool (wideB op)]) ∧ w' = w := by
  have F1 : wideN op a b = 0 := by unfold wideN; repeat (rw [if_neg (by omega)])
  have F2 : wideB op = false := by unfold wideB; rw [if_neg h]
  rw [F1, F2]
  clear F1 F2
  have c1 : (op == 1) = false := beq_eq_false_iff_ne.2 (by omega)
  have c2 : (op == 2) = false := beq_eq_false_iff_ne.2 (by omega)
  have c3 : (op == 3) = false := beq_eq_false_iff_ne.2 (by omega)
  have c7 : (op == 7) = false := beq_eq_false_iff_ne.2 (by omega)
  have c8 : (op == 8) = false := beq_eq_false_iff_ne.2 (by omega)
  have c9 : (op == 9) = false := beq_eq_false_iff_ne.2 (by omega)
  have c10 : (op == 10) = false := beq_eq_false_iff_ne.2 (by omega)
  have c12 : (op == 12) = false := beq_eq_false_iff_ne.2 (by omega)
  clear h
  go_enter Try.func9, Try.ntmps9
  go_wp2
  go_ret2
  exact ⟨rfl, rfl⟩

theorem wwide_any (op a b : Int) (w : World) (h0 : -9223372036854775808 ≤ a) (h1 : a ≤ 9223372036854775807) (h2 : -9223372036854775808 ≤ b) (h3 : b ≤ 9223372036854775807) :
    Calls Try.prog 9 #[.int .i64 op, .int .i64 a, .int .i64 b] w fun e w' => e = .returned (.tuple #[.int .i64 (wideN op a b), .bool (wideB op)]) ∧ w' = w := by
  by_cases c1 : op = 1
  · subst c1; exact wwide1 a b w h0 h1 h2 h3
  by_cases c2 : op = 2
  · subst c2; exact wwide2 a b w h0 h1 h2 h3
  by_cases c3 : op = 3
  · subst c3; exact wwide3 a b w h0 h1 h2 h3
  by_cases c7 : op = 7
  · subst c7; exact wwide7 a b w h0 h1 h2 h3
  by_cases c8 : op = 8
  · subst c8; exact wwide8 a b w h0 h1 h2 h3
  by_cases c9 : op = 9
  · subst c9; exact wwide9 a b w h0 h1 h2 h3
  by_cases c10 : op = 10
  · subst c10; exact wwide10 a b w h0 h1 h2 h3
  by_cases c12 : op = 12
  · subst c12; exact wwide12 a b w h0 h1 h2 h3
  exact wwidex op a b w h0 h1 h2 h3 (by omega)

end Go.Proofs.Ytkbepnaioohokaa.W
