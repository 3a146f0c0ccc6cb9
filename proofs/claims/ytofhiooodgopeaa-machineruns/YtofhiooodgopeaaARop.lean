/- Contracts of the reference's Op: for every operation and every two words it answers opN and opB, and leaves the world as it was. -/
import Derived.Test.YtofhiooodgopeaaAWop
namespace Go.Proofs.Ytofhiooodgopeaa.AW
open Go.RowKit Go.Proofs.Ytofhiooodgopeaa.AM
set_option linter.unusedVariables false

theorem wrap_cut (n : Int) : wrap32 (n % 4294967296) = wrap32 n := by rw [w32, w32]; omega
theorem wrap_cut64 (n : Int) : wrap32 (wrap64 n % 4294967296) = wrap32 n := by rw [w32, w32, w64]; omega
theorem wrap_id (n : Int) (h0 : -2147483648 ≤ n) (h1 : n ≤ 2147483647) : wrap32 n = n := by rw [w32]; omega
theorem mul_cut (a b : Int) : (a % 4294967296) * (b % 4294967296) % 4294967296 = a * b % 4294967296 := (Int.mul_emod a b 4294967296).symm
theorem tmod_bd (a b : Int) (h0 : -2147483648 ≤ a) (h1 : a ≤ 2147483647) : -2147483648 ≤ a.tmod b ∧ a.tmod b ≤ 2147483647 := by
  have h : (a.tmod b).natAbs = a.natAbs % b.natAbs := Int.natAbs_tmod a b
  have h' := Nat.mod_le a.natAbs b.natAbs
  by_cases hn : 0 ≤ a
  · have h2 := Int.tmod_nonneg (a := a) b hn
    omega
  · have h2 := Int.tmod_nonneg (a := -a) b (by omega)
    rw [Int.neg_tmod] at h2
    omega
theorem tdiv_bd (a b : Int) (h0 : -2147483648 ≤ a) (h1 : a ≤ 2147483647) : -2147483648 ≤ a.tdiv b ∧ a.tdiv b ≤ 2147483648 := by
  have h : (a.tdiv b).natAbs = a.natAbs / b.natAbs := Int.natAbs_tdiv a b
  have h' := Nat.div_le_self a.natAbs b.natAbs
  omega

set_option maxHeartbeats 400000 in
theorem rtruth (b : Bool) (w : World) : Calls Try.prog 37 #[.bool b] w fun e w' => e = .returned (.int .i32 (if b then 1 else 0)) ∧ w' = w := by
  cases b
  all_goals
    go_enter Try.func37, Try.ntmps37
    go_wp2
    go_ret
    exact ⟨rfl, rfl⟩

set_option maxHeartbeats 1000000 in
theorem rop1 (a b : Int) (w : World) (h0 : -2147483648 ≤ a) (h1 : a ≤ 2147483647) (h2 : -2147483648 ≤ b) (h3 : b ≤ 2147483647) :
    Calls Try.prog 24 #[.int .i64 1, .int .i32 a, .int .i32 b] w fun e w' => e = .returned (.tuple #[.int .i32 (opN 1 a b), .bool (opB 1 b)]) ∧ w' = w := by
  go_enter Try.func24, Try.ntmps24
  go_wp2_with (first | (go_at_call 31; refine (cut_any _ _ (by omega) (by omega)).mono ?_; rintro e w' ⟨rfl, rfl⟩) | (go_at_call 21; refine (word_any _ _ (by omega) (by omega)).mono ?_; rintro e w' ⟨rfl, rfl⟩))
  go_ret2
  exact ⟨ret_int_bool (wrap_cut _) (rfl), rfl⟩
set_option maxHeartbeats 1000000 in
theorem rop2 (a b : Int) (w : World) (h0 : -2147483648 ≤ a) (h1 : a ≤ 2147483647) (h2 : -2147483648 ≤ b) (h3 : b ≤ 2147483647) :
    Calls Try.prog 24 #[.int .i64 2, .int .i32 a, .int .i32 b] w fun e w' => e = .returned (.tuple #[.int .i32 (opN 2 a b), .bool (opB 2 b)]) ∧ w' = w := by
  go_enter Try.func24, Try.ntmps24
  go_wp2_with (first | (go_at_call 31; refine (cut_any _ _ (by omega) (by omega)).mono ?_; rintro e w' ⟨rfl, rfl⟩) | (go_at_call 21; refine (word_any _ _ (by omega) (by omega)).mono ?_; rintro e w' ⟨rfl, rfl⟩))
  go_ret2
  exact ⟨ret_int_bool (wrap_cut _) (rfl), rfl⟩
set_option maxHeartbeats 1000000 in
theorem rop3 (a b : Int) (w : World) (h0 : -2147483648 ≤ a) (h1 : a ≤ 2147483647) (h2 : -2147483648 ≤ b) (h3 : b ≤ 2147483647) :
    Calls Try.prog 24 #[.int .i64 3, .int .i32 a, .int .i32 b] w fun e w' => e = .returned (.tuple #[.int .i32 (opN 3 a b), .bool (opB 3 b)]) ∧ w' = w := by
  obtain ⟨p0, p1⟩ := mul_bound (x := a % 4294967296) (y := b % 4294967296) (m := 4294967295) (k := 4294967295) (by omega) (by omega) (by omega) (by omega)
  go_enter Try.func24, Try.ntmps24
  go_wp2_with (first | (go_at_call 23; refine (free_any _ _ (by omega) (by omega)).mono ?_; rintro e w' ⟨rfl, rfl⟩) | (go_at_call 32; refine (product_any _ _ _ (by omega) (by omega) (by omega) (by omega)).mono ?_; rintro e w' ⟨rfl, rfl⟩) | (go_at_call 21; refine (word_any _ _ (by omega) (by omega)).mono ?_; rintro e w' ⟨rfl, rfl⟩))
  go_ret2
  exact ⟨ret_int_bool (by rw [mul_cut]; exact wrap_cut _) (rfl), rfl⟩
set_option maxHeartbeats 1000000 in
theorem rop4 (a b : Int) (w : World) (h0 : -2147483648 ≤ a) (h1 : a ≤ 2147483647) (h2 : -2147483648 ≤ b) (h3 : b ≤ 2147483647) :
    Calls Try.prog 24 #[.int .i64 4, .int .i32 a, .int .i32 b] w fun e w' => e = .returned (.tuple #[.int .i32 (opN 4 a b), .bool (opB 4 b)]) ∧ w' = w := by
  obtain ⟨p0, p1⟩ := mul_bound (x := a % 4294967296) (y := b % 4294967296) (m := 4294967295) (k := 4294967295) (by omega) (by omega) (by omega) (by omega)
  go_enter Try.func24, Try.ntmps24
  go_wp2_with (first | (go_at_call 23; refine (free_any _ _ (by omega) (by omega)).mono ?_; rintro e w' ⟨rfl, rfl⟩) | (go_at_call 32; refine (product_any _ _ _ (by omega) (by omega) (by omega) (by omega)).mono ?_; rintro e w' ⟨rfl, rfl⟩) | (go_at_call 21; refine (word_any _ _ (by omega) (by omega)).mono ?_; rintro e w' ⟨rfl, rfl⟩))
  go_ret2
  exact ⟨ret_int_bool (rfl) (rfl), rfl⟩
set_option maxHeartbeats 1000000 in
theorem rop5 (a b : Int) (w : World) (h0 : -2147483648 ≤ a) (h1 : a ≤ 2147483647) (h2 : -2147483648 ≤ b) (h3 : b ≤ 2147483647) :
    Calls Try.prog 24 #[.int .i64 5, .int .i32 a, .int .i32 b] w fun e w' => e = .returned (.tuple #[.int .i32 (opN 5 a b), .bool (opB 5 b)]) ∧ w' = w := by
  by_cases c : b = 0
  · subst c
    go_enter Try.func24, Try.ntmps24
    go_wp2_with (first | (go_at_call 31; refine (cut_any _ _ (by omega) (by omega)).mono ?_; rintro e w' ⟨rfl, rfl⟩) | (go_at_call 21; refine (word_any _ _ (by omega) (by omega)).mono ?_; rintro e w' ⟨rfl, rfl⟩))
    go_ret2
    exact ⟨ret_int_bool (rfl) (rfl), rfl⟩
  · have hb : (b == 0) = false := beq_eq_false_iff_ne.2 c
    obtain ⟨q0, q1⟩ := tdiv_bd a b h0 h1
    go_enter Try.func24, Try.ntmps24
    go_wp2_with (first | (go_at_call 31; refine (cut_any _ _ (by omega) (by omega)).mono ?_; rintro e w' ⟨rfl, rfl⟩) | (go_at_call 21; refine (word_any _ _ (by omega) (by omega)).mono ?_; rintro e w' ⟨rfl, rfl⟩))
    go_ret2
    exact ⟨ret_int_bool (by simp [opN, c]; exact wrap_cut _) (by simp [opB, c]), rfl⟩
set_option maxHeartbeats 1000000 in
theorem rop6 (a b : Int) (w : World) (h0 : -2147483648 ≤ a) (h1 : a ≤ 2147483647) (h2 : -2147483648 ≤ b) (h3 : b ≤ 2147483647) :
    Calls Try.prog 24 #[.int .i64 6, .int .i32 a, .int .i32 b] w fun e w' => e = .returned (.tuple #[.int .i32 (opN 6 a b), .bool (opB 6 b)]) ∧ w' = w := by
  by_cases c : b = 0
  · subst c
    go_enter Try.func24, Try.ntmps24
    go_wp2_with (first | (go_at_call 31; refine (cut_any _ _ (by omega) (by omega)).mono ?_; rintro e w' ⟨rfl, rfl⟩) | (go_at_call 21; refine (word_any _ _ (by omega) (by omega)).mono ?_; rintro e w' ⟨rfl, rfl⟩))
    go_ret2
    exact ⟨ret_int_bool (rfl) (rfl), rfl⟩
  · have hb : (b == 0) = false := beq_eq_false_iff_ne.2 c
    obtain ⟨q0, q1⟩ := tmod_bd a b h0 h1
    go_enter Try.func24, Try.ntmps24
    go_wp2_with (first | (go_at_call 31; refine (cut_any _ _ (by omega) (by omega)).mono ?_; rintro e w' ⟨rfl, rfl⟩) | (go_at_call 21; refine (word_any _ _ (by omega) (by omega)).mono ?_; rintro e w' ⟨rfl, rfl⟩))
    go_ret2
    exact ⟨ret_int_bool (by simp [opN, c]; rw [wrap_cut]; exact wrap_id _ q0 q1) (by simp [opB, c]), rfl⟩
set_option maxHeartbeats 1000000 in
theorem rop7 (a b : Int) (w : World) (h0 : -2147483648 ≤ a) (h1 : a ≤ 2147483647) (h2 : -2147483648 ≤ b) (h3 : b ≤ 2147483647) :
    Calls Try.prog 24 #[.int .i64 7, .int .i32 a, .int .i32 b] w fun e w' => e = .returned (.tuple #[.int .i32 (opN 7 a b), .bool (opB 7 b)]) ∧ w' = w := by
  go_enter Try.func24, Try.ntmps24
  go_wp2_with (first | (go_at_call 33; refine (bits_and _ _ _ h0 h1 h2 h3).mono ?_; rintro e w' ⟨rfl, rfl⟩))
  go_ret2
  exact ⟨ret_int_bool (rfl) (rfl), rfl⟩
set_option maxHeartbeats 1000000 in
theorem rop8 (a b : Int) (w : World) (h0 : -2147483648 ≤ a) (h1 : a ≤ 2147483647) (h2 : -2147483648 ≤ b) (h3 : b ≤ 2147483647) :
    Calls Try.prog 24 #[.int .i64 8, .int .i32 a, .int .i32 b] w fun e w' => e = .returned (.tuple #[.int .i32 (opN 8 a b), .bool (opB 8 b)]) ∧ w' = w := by
  go_enter Try.func24, Try.ntmps24
  go_wp2_with (first | (go_at_call 33; refine (bits_or _ _ _ h0 h1 h2 h3).mono ?_; rintro e w' ⟨rfl, rfl⟩))
  go_ret2
  exact ⟨ret_int_bool (rfl) (rfl), rfl⟩
set_option maxHeartbeats 1000000 in
theorem rop9 (a b : Int) (w : World) (h0 : -2147483648 ≤ a) (h1 : a ≤ 2147483647) (h2 : -2147483648 ≤ b) (h3 : b ≤ 2147483647) :
    Calls Try.prog 24 #[.int .i64 9, .int .i32 a, .int .i32 b] w fun e w' => e = .returned (.tuple #[.int .i32 (opN 9 a b), .bool (opB 9 b)]) ∧ w' = w := by
  go_enter Try.func24, Try.ntmps24
  go_wp2_with (first | (go_at_call 33; refine (bits_xor _ _ _ h0 h1 h2 h3).mono ?_; rintro e w' ⟨rfl, rfl⟩))
  go_ret2
  exact ⟨ret_int_bool (rfl) (rfl), rfl⟩
set_option maxHeartbeats 1000000 in
theorem rop10 (a b : Int) (w : World) (h0 : -2147483648 ≤ a) (h1 : a ≤ 2147483647) (h2 : -2147483648 ≤ b) (h3 : b ≤ 2147483647) :
    Calls Try.prog 24 #[.int .i64 10, .int .i32 a, .int .i32 b] w fun e w' => e = .returned (.tuple #[.int .i32 (opN 10 a b), .bool (opB 10 b)]) ∧ w' = w := by
  by_cases c : a < b
  · have hc : decide (a < b) = true := by simpa using c
    go_enter Try.func24, Try.ntmps24
    go_wp2_with (first | (go_at_call 37; refine (rtruth _ _).mono ?_; rintro e w' ⟨rfl, rfl⟩))
    go_ret2
    exact ⟨ret_int_bool (by simp [opN, c]) (rfl), rfl⟩
  · have hc : decide (a < b) = false := by simpa using c
    go_enter Try.func24, Try.ntmps24
    go_wp2_with (first | (go_at_call 37; refine (rtruth _ _).mono ?_; rintro e w' ⟨rfl, rfl⟩))
    go_ret2
    exact ⟨ret_int_bool (by simp [opN, c]) (rfl), rfl⟩
set_option maxHeartbeats 1000000 in
theorem rop11 (a b : Int) (w : World) (h0 : -2147483648 ≤ a) (h1 : a ≤ 2147483647) (h2 : -2147483648 ≤ b) (h3 : b ≤ 2147483647) :
    Calls Try.prog 24 #[.int .i64 11, .int .i32 a, .int .i32 b] w fun e w' => e = .returned (.tuple #[.int .i32 (opN 11 a b), .bool (opB 11 b)]) ∧ w' = w := by
  by_cases c : a % 4294967296 < b % 4294967296
  · have hc : decide (a % 4294967296 < b % 4294967296) = true := by simpa using c
    go_enter Try.func24, Try.ntmps24
    go_wp2_with (first | (go_at_call 23; refine (free_any _ _ (by omega) (by omega)).mono ?_; rintro e w' ⟨rfl, rfl⟩) | (go_at_call 37; refine (rtruth _ _).mono ?_; rintro e w' ⟨rfl, rfl⟩))
    go_ret2
    exact ⟨ret_int_bool (by simp [opN, c]) (rfl), rfl⟩
  · have hc : decide (a % 4294967296 < b % 4294967296) = false := by simpa using c
    go_enter Try.func24, Try.ntmps24
    go_wp2_with (first | (go_at_call 23; refine (free_any _ _ (by omega) (by omega)).mono ?_; rintro e w' ⟨rfl, rfl⟩) | (go_at_call 37; refine (rtruth _ _).mono ?_; rintro e w' ⟨rfl, rfl⟩))
    go_ret2
    exact ⟨ret_int_bool (by simp [opN, c]) (rfl), rfl⟩
set_option maxHeartbeats 1000000 in
theorem rop12 (a b : Int) (w : World) (h0 : -2147483648 ≤ a) (h1 : a ≤ 2147483647) (h2 : -2147483648 ≤ b) (h3 : b ≤ 2147483647) :
    Calls Try.prog 24 #[.int .i64 12, .int .i32 a, .int .i32 b] w fun e w' => e = .returned (.tuple #[.int .i32 (opN 12 a b), .bool (opB 12 b)]) ∧ w' = w := by
  by_cases c : a = b
  · subst c
    go_enter Try.func24, Try.ntmps24
    go_wp2_with (first | (go_at_call 37; refine (rtruth _ _).mono ?_; rintro e w' ⟨rfl, rfl⟩))
    go_ret2
    exact ⟨ret_int_bool (by simp [opN]) (rfl), rfl⟩
  · have hc : (a == b) = false := beq_eq_false_iff_ne.2 c
    go_enter Try.func24, Try.ntmps24
    go_wp2_with (first | (go_at_call 37; refine (rtruth _ _).mono ?_; rintro e w' ⟨rfl, rfl⟩))
    go_ret2
    exact ⟨ret_int_bool (by simp [opN, c]) (rfl), rfl⟩
set_option maxHeartbeats 1000000 in
theorem ropx (op a b : Int) (w : World) (h0 : -2147483648 ≤ a) (h1 : a ≤ 2147483647) (h2 : -2147483648 ≤ b) (h3 : b ≤ 2147483647) (h : ¬ (1 ≤ op ∧ op ≤ 12)) :
    Calls Try.prog 24 #[.int .i64 op, .int .i32 a, .int .i32 b] w fun e w' => e = .returned (.tuple #[.int .i32 (opN op a b), .bool (opB op b)]) ∧ w' = w := by
  have F1 : opN op a b = 0 := by unfold opN; repeat (rw [if_neg (by omega)])
  have F2 : opB op b = false := by unfold opB; repeat (rw [if_neg (by omega)])
  rw [F1, F2]
  clear F1 F2
  have c1 : (op == 1) = false := beq_eq_false_iff_ne.2 (by omega)
  have c2 : (op == 2) = false := beq_eq_false_iff_ne.2 (by omega)
  have c3 : (op == 3) = false := beq_eq_false_iff_ne.2 (by omega)
  have c4 : (op == 4) = false := beq_eq_false_iff_ne.2 (by omega)
  have c5 : (op == 5) = false := beq_eq_false_iff_ne.2 (by omega)
  have c6 : (op == 6) = false := beq_eq_false_iff_ne.2 (by omega)
  have c7 : (op == 7) = false := beq_eq_false_iff_ne.2 (by omega)
  have c8 : (op == 8) = false := beq_eq_false_iff_ne.2 (by omega)
  have c9 : (op == 9) = false := beq_eq_false_iff_ne.2 (by omega)
  have c10 : (op == 10) = false := beq_eq_false_iff_ne.2 (by omega)
  have c11 : (op == 11) = false := beq_eq_false_iff_ne.2 (by omega)
  have c12 : (op == 12) = false := beq_eq_false_iff_ne.2 (by omega)
  clear h
  go_enter Try.func24, Try.ntmps24
  go_wp2
  go_ret2
  exact ⟨rfl, rfl⟩

theorem rop_any (op a b : Int) (w : World) (h0 : -2147483648 ≤ a) (h1 : a ≤ 2147483647) (h2 : -2147483648 ≤ b) (h3 : b ≤ 2147483647) :
    Calls Try.prog 24 #[.int .i64 op, .int .i32 a, .int .i32 b] w fun e w' => e = .returned (.tuple #[.int .i32 (opN op a b), .bool (opB op b)]) ∧ w' = w := by
  by_cases c1 : op = 1
  · subst c1; exact rop1 a b w h0 h1 h2 h3
  by_cases c2 : op = 2
  · subst c2; exact rop2 a b w h0 h1 h2 h3
  by_cases c3 : op = 3
  · subst c3; exact rop3 a b w h0 h1 h2 h3
  by_cases c4 : op = 4
  · subst c4; exact rop4 a b w h0 h1 h2 h3
  by_cases c5 : op = 5
  · subst c5; exact rop5 a b w h0 h1 h2 h3
  by_cases c6 : op = 6
  · subst c6; exact rop6 a b w h0 h1 h2 h3
  by_cases c7 : op = 7
  · subst c7; exact rop7 a b w h0 h1 h2 h3
  by_cases c8 : op = 8
  · subst c8; exact rop8 a b w h0 h1 h2 h3
  by_cases c9 : op = 9
  · subst c9; exact rop9 a b w h0 h1 h2 h3
  by_cases c10 : op = 10
  · subst c10; exact rop10 a b w h0 h1 h2 h3
  by_cases c11 : op = 11
  · subst c11; exact rop11 a b w h0 h1 h2 h3
  by_cases c12 : op = 12
  · subst c12; exact rop12 a b w h0 h1 h2 h3
  exact ropx op a b w h0 h1 h2 h3 (by omega)
end Go.Proofs.Ytofhiooodgopeaa.AW
