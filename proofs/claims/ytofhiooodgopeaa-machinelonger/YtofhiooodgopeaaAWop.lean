/- Contracts of word.Op: for every operation and every two words it answers opN and opB, and leaves the world as it was. -/
import Derived.Test.YtofhiooodgopeaaAOps
namespace Go.Proofs.Ytofhiooodgopeaa.AW
open Go.RowKit Go.Proofs.Ytofhiooodgopeaa.AM
set_option linter.unusedVariables false

def opN (op a b : Int) : Int :=
  if op = 1 then wrap32 (a + b)
  else if op = 2 then wrap32 (a - b)
  else if op = 3 then wrap32 (a * b)
  else if op = 4 then wrap32 ((a % 4294967296) * (b % 4294967296) / 4294967296)
  else if op = 5 then (if b = 0 then 0 else wrap32 (a.tdiv b))
  else if op = 6 then (if b = 0 then 0 else a.tmod b)
  else if op = 7 then bits .and .i32 a b
  else if op = 8 then bits .or .i32 a b
  else if op = 9 then bits .xor .i32 a b
  else if op = 10 then (if a < b then 1 else 0)
  else if op = 11 then (if a % 4294967296 < b % 4294967296 then 1 else 0)
  else if op = 12 then (if a = b then 1 else 0)
  else 0
def opB (op b : Int) : Bool :=
  if op = 5 then (if b = 0 then false else true)
  else if op = 6 then (if b = 0 then false else true)
  else if 1 ≤ op ∧ op ≤ 12 then true else false

set_option maxHeartbeats 1000000 in
theorem wop1 (a b : Int) (w : World) (h0 : -2147483648 ≤ a) (h1 : a ≤ 2147483647) (h2 : -2147483648 ≤ b) (h3 : b ≤ 2147483647) :
    Calls Try.prog 46 #[.int .i64 1, .int .i32 a, .int .i32 b] w fun e w' => e = .returned (.tuple #[.int .i32 (opN 1 a b), .bool (opB 1 b)]) ∧ w' = w := by
  go_enter Try.func46, Try.ntmps46
  go_wp2
  go_ret2
  exact ⟨ret_int_bool (rfl) rfl, rfl⟩
set_option maxHeartbeats 1000000 in
theorem wop2 (a b : Int) (w : World) (h0 : -2147483648 ≤ a) (h1 : a ≤ 2147483647) (h2 : -2147483648 ≤ b) (h3 : b ≤ 2147483647) :
    Calls Try.prog 46 #[.int .i64 2, .int .i32 a, .int .i32 b] w fun e w' => e = .returned (.tuple #[.int .i32 (opN 2 a b), .bool (opB 2 b)]) ∧ w' = w := by
  go_enter Try.func46, Try.ntmps46
  go_wp2
  go_ret2
  exact ⟨ret_int_bool (rfl) rfl, rfl⟩
set_option maxHeartbeats 1000000 in
theorem wop3 (a b : Int) (w : World) (h0 : -2147483648 ≤ a) (h1 : a ≤ 2147483647) (h2 : -2147483648 ≤ b) (h3 : b ≤ 2147483647) :
    Calls Try.prog 46 #[.int .i64 3, .int .i32 a, .int .i32 b] w fun e w' => e = .returned (.tuple #[.int .i32 (opN 3 a b), .bool (opB 3 b)]) ∧ w' = w := by
  go_enter Try.func46, Try.ntmps46
  go_wp2
  go_ret2
  exact ⟨ret_int_bool (rfl) rfl, rfl⟩
set_option maxHeartbeats 1000000 in
theorem wop4 (a b : Int) (w : World) (h0 : -2147483648 ≤ a) (h1 : a ≤ 2147483647) (h2 : -2147483648 ≤ b) (h3 : b ≤ 2147483647) :
    Calls Try.prog 46 #[.int .i64 4, .int .i32 a, .int .i32 b] w fun e w' => e = .returned (.tuple #[.int .i32 (opN 4 a b), .bool (opB 4 b)]) ∧ w' = w := by
  obtain ⟨p0, p1⟩ := mul_bound (x := a % 4294967296) (y := b % 4294967296) (m := 4294967295) (k := 4294967295) (by omega) (by omega) (by omega) (by omega)
  go_enter Try.func46, Try.ntmps46
  go_wp2
  go_ret2
  exact ⟨ret_int_bool (rfl) rfl, rfl⟩
set_option maxHeartbeats 1000000 in
theorem wop5 (a b : Int) (w : World) (h0 : -2147483648 ≤ a) (h1 : a ≤ 2147483647) (h2 : -2147483648 ≤ b) (h3 : b ≤ 2147483647) :
    Calls Try.prog 46 #[.int .i64 5, .int .i32 a, .int .i32 b] w fun e w' => e = .returned (.tuple #[.int .i32 (opN 5 a b), .bool (opB 5 b)]) ∧ w' = w := by
  by_cases c : b = 0
  · go_enter Try.func46, Try.ntmps46
    go_wp2
    go_ret2
    exact ⟨ret_int_bool (by simp [opN, c]) (by simp [opB, c]), rfl⟩
  · have hb : (b == 0) = false := beq_eq_false_iff_ne.2 c
    go_enter Try.func46, Try.ntmps46
    go_wp2
    go_ret2
    exact ⟨ret_int_bool (by simp [opN, c]) (by simp [opB, c]), rfl⟩
set_option maxHeartbeats 1000000 in
theorem wop6 (a b : Int) (w : World) (h0 : -2147483648 ≤ a) (h1 : a ≤ 2147483647) (h2 : -2147483648 ≤ b) (h3 : b ≤ 2147483647) :
    Calls Try.prog 46 #[.int .i64 6, .int .i32 a, .int .i32 b] w fun e w' => e = .returned (.tuple #[.int .i32 (opN 6 a b), .bool (opB 6 b)]) ∧ w' = w := by
  by_cases c : b = 0
  · go_enter Try.func46, Try.ntmps46
    go_wp2
    go_ret2
    exact ⟨ret_int_bool (by simp [opN, c]) (by simp [opB, c]), rfl⟩
  · have hb : (b == 0) = false := beq_eq_false_iff_ne.2 c
    go_enter Try.func46, Try.ntmps46
    go_wp2
    go_ret2
    exact ⟨ret_int_bool (by simp [opN, c]) (by simp [opB, c]), rfl⟩
set_option maxHeartbeats 1000000 in
theorem wop7 (a b : Int) (w : World) (h0 : -2147483648 ≤ a) (h1 : a ≤ 2147483647) (h2 : -2147483648 ≤ b) (h3 : b ≤ 2147483647) :
    Calls Try.prog 46 #[.int .i64 7, .int .i32 a, .int .i32 b] w fun e w' => e = .returned (.tuple #[.int .i32 (opN 7 a b), .bool (opB 7 b)]) ∧ w' = w := by
  go_enter Try.func46, Try.ntmps46
  go_wp2
  go_ret2
  exact ⟨ret_int_bool (rfl) rfl, rfl⟩
set_option maxHeartbeats 1000000 in
theorem wop8 (a b : Int) (w : World) (h0 : -2147483648 ≤ a) (h1 : a ≤ 2147483647) (h2 : -2147483648 ≤ b) (h3 : b ≤ 2147483647) :
    Calls Try.prog 46 #[.int .i64 8, .int .i32 a, .int .i32 b] w fun e w' => e = .returned (.tuple #[.int .i32 (opN 8 a b), .bool (opB 8 b)]) ∧ w' = w := by
  go_enter Try.func46, Try.ntmps46
  go_wp2
  go_ret2
  exact ⟨ret_int_bool (rfl) rfl, rfl⟩
set_option maxHeartbeats 1000000 in
theorem wop9 (a b : Int) (w : World) (h0 : -2147483648 ≤ a) (h1 : a ≤ 2147483647) (h2 : -2147483648 ≤ b) (h3 : b ≤ 2147483647) :
    Calls Try.prog 46 #[.int .i64 9, .int .i32 a, .int .i32 b] w fun e w' => e = .returned (.tuple #[.int .i32 (opN 9 a b), .bool (opB 9 b)]) ∧ w' = w := by
  go_enter Try.func46, Try.ntmps46
  go_wp2
  go_ret2
  exact ⟨ret_int_bool (rfl) rfl, rfl⟩
set_option maxHeartbeats 1000000 in
theorem wop10 (a b : Int) (w : World) (h0 : -2147483648 ≤ a) (h1 : a ≤ 2147483647) (h2 : -2147483648 ≤ b) (h3 : b ≤ 2147483647) :
    Calls Try.prog 46 #[.int .i64 10, .int .i32 a, .int .i32 b] w fun e w' => e = .returned (.tuple #[.int .i32 (opN 10 a b), .bool (opB 10 b)]) ∧ w' = w := by
  by_cases c : a < b
  · go_enter Try.func46, Try.ntmps46
    go_wp2
    go_ret2
    exact ⟨ret_int_bool (by simp [opN, c]) (rfl), rfl⟩
  · go_enter Try.func46, Try.ntmps46
    go_wp2
    go_ret2
    exact ⟨ret_int_bool (by simp [opN]; omega) (rfl), rfl⟩
set_option maxHeartbeats 1000000 in
theorem wop11 (a b : Int) (w : World) (h0 : -2147483648 ≤ a) (h1 : a ≤ 2147483647) (h2 : -2147483648 ≤ b) (h3 : b ≤ 2147483647) :
    Calls Try.prog 46 #[.int .i64 11, .int .i32 a, .int .i32 b] w fun e w' => e = .returned (.tuple #[.int .i32 (opN 11 a b), .bool (opB 11 b)]) ∧ w' = w := by
  by_cases c : a % 4294967296 < b % 4294967296
  · go_enter Try.func46, Try.ntmps46
    go_wp2
    go_ret2
    exact ⟨ret_int_bool (by simp [opN, c]) (rfl), rfl⟩
  · go_enter Try.func46, Try.ntmps46
    go_wp2
    go_ret2
    exact ⟨ret_int_bool (by simp [opN]; omega) (rfl), rfl⟩
set_option maxHeartbeats 1000000 in
theorem wop12 (a b : Int) (w : World) (h0 : -2147483648 ≤ a) (h1 : a ≤ 2147483647) (h2 : -2147483648 ≤ b) (h3 : b ≤ 2147483647) :
    Calls Try.prog 46 #[.int .i64 12, .int .i32 a, .int .i32 b] w fun e w' => e = .returned (.tuple #[.int .i32 (opN 12 a b), .bool (opB 12 b)]) ∧ w' = w := by
  by_cases c : a = b
  · go_enter Try.func46, Try.ntmps46
    go_wp2
    go_ret2
    exact ⟨ret_int_bool (by simp [opN, c]) (rfl), rfl⟩
  · have hb : (a == b) = false := beq_eq_false_iff_ne.2 c
    go_enter Try.func46, Try.ntmps46
    go_wp2
    go_ret2
    exact ⟨ret_int_bool (by simp [opN, c]) (rfl), rfl⟩
set_option maxHeartbeats 1000000 in
theorem wopx (op a b : Int) (w : World) (h0 : -2147483648 ≤ a) (h1 : a ≤ 2147483647) (h2 : -2147483648 ≤ b) (h3 : b ≤ 2147483647) (h : ¬ (1 ≤ op ∧ op ≤ 12)) :
    Calls Try.prog 46 #[.int .i64 op, .int .i32 a, .int .i32 b] w fun e w' => e = .returned (.tuple #[.int .i32 (opN op a b), .bool (opB op b)]) ∧ w' = w := by
  have F1 : opN op a b = 0 := by unfold opN; repeat (rw [if_neg (by omega)])
  have F2 : opB op b = false := by unfold opB; repeat (rw [if_neg (by omega)])
  rw [F1, F2]
  clear F1 F2
  have c1 : (op == 1) = false := beq_eq_false_iff_ne.2 (by omega)
  have c2 : (op == 2) = false := beq_eq_false_iff_ne.2 (by omega)
  have c3 : (op == 3) = false := beq_eq_false_iff_ne.2 (by omega)
  have c4 : (op == 4) = false := beq_eq_false_iff_ne.2 (by omega)
  have c5 : (op == 5) = false := beq_eq_false_iff_ne.2 (by omega)
  have c6 : (op == 6) = false := beq_eq_false_iff_ne.2 (by omega)
  have c7 : (op == 7) = false := beq_eq_false_iff_ne.2 (by omega)
  have c8 : (op == 8) = false := beq_eq_false_iff_ne.2 (by omega)
  have c9 : (op == 9) = false := beq_eq_false_iff_ne.2 (by omega)
  have c10 : (op == 10) = false := beq_eq_false_iff_ne.2 (by omega)
  have c11 : (op == 11) = false := beq_eq_false_iff_ne.2 (by omega)
  have c12 : (op == 12) = false := beq_eq_false_iff_ne.2 (by omega)
  clear h
  go_enter Try.func46, Try.ntmps46
  go_wp2
  go_ret2
  exact ⟨rfl, rfl⟩

theorem wop_any (op a b : Int) (w : World) (h0 : -2147483648 ≤ a) (h1 : a ≤ 2147483647) (h2 : -2147483648 ≤ b) (h3 : b ≤ 2147483647) :
    Calls Try.prog 46 #[.int .i64 op, .int .i32 a, .int .i32 b] w fun e w' => e = .returned (.tuple #[.int .i32 (opN op a b), .bool (opB op b)]) ∧ w' = w := by
  by_cases c1 : op = 1
  · subst c1; exact wop1 a b w h0 h1 h2 h3
  by_cases c2 : op = 2
  · subst c2; exact wop2 a b w h0 h1 h2 h3
  by_cases c3 : op = 3
  · subst c3; exact wop3 a b w h0 h1 h2 h3
  by_cases c4 : op = 4
  · subst c4; exact wop4 a b w h0 h1 h2 h3
  by_cases c5 : op = 5
  · subst c5; exact wop5 a b w h0 h1 h2 h3
  by_cases c6 : op = 6
  · subst c6; exact wop6 a b w h0 h1 h2 h3
  by_cases c7 : op = 7
  · subst c7; exact wop7 a b w h0 h1 h2 h3
  by_cases c8 : op = 8
  · subst c8; exact wop8 a b w h0 h1 h2 h3
  by_cases c9 : op = 9
  · subst c9; exact wop9 a b w h0 h1 h2 h3
  by_cases c10 : op = 10
  · subst c10; exact wop10 a b w h0 h1 h2 h3
  by_cases c11 : op = 11
  · subst c11; exact wop11 a b w h0 h1 h2 h3
  by_cases c12 : op = 12
  · subst c12; exact wop12 a b w h0 h1 h2 h3
  exact wopx op a b w h0 h1 h2 h3 (by omega)
end Go.Proofs.Ytofhiooodgopeaa.AW
