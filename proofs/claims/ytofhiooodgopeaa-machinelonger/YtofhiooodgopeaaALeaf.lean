/- Contracts of the leaves of package word and of its reference: each call returns the named number and leaves the world as it was. -/
import Derived.Test.YtofhiooodgopeaaRows
import Derived.Test.YtofhiooodgopeaaAMath
import Derived.WalkKit
import Derived.WalkSpells
namespace Go.Proofs.Ytofhiooodgopeaa.AW
open Go.RowKit Go.Proofs.Ytofhiooodgopeaa.AM
set_option linter.unusedVariables false

theorem ret_int {k : IntKind} {a b : Int} (h : a = b) : Ending.returned (.int k a) = .returned (.int k b) := by rw [h]
theorem ret_bool {a b : Bool} (h : a = b) : Ending.returned (.bool a) = .returned (.bool b) := by rw [h]
theorem ret_ints {k l : IntKind} {a b c d : Int} (h : a = b) (g : c = d) : Ending.returned (.tuple #[.int k a, .int l c]) = .returned (.tuple #[.int k b, .int l d]) := by rw [h, g]
theorem ret_int_bool {k : IntKind} {a b : Int} {c d : Bool} (h : a = b) (g : c = d) : Ending.returned (.tuple #[.int k a, .bool c]) = .returned (.tuple #[.int k b, .bool d]) := by rw [h, g]

set_option maxHeartbeats 400000 in
theorem free_any (a : Int) (w : World) (h0 : -2147483648 ≤ a) (h1 : a ≤ 2147483647) :
    Calls Try.prog 23 #[.int .i32 a] w fun e w' => e = .returned (.int .i64 (a % 4294967296)) ∧ w' = w := by
  by_cases h : a < 0
  · go_enter Try.func23, Try.ntmps23
    go_wp2
    go_ret
    exact ⟨ret_int (by omega), rfl⟩
  · go_enter Try.func23, Try.ntmps23
    go_wp2
    go_ret
    exact ⟨ret_int (by omega), rfl⟩

set_option maxHeartbeats 400000 in
theorem word_any (n : Int) (w : World) (h0 : 0 ≤ n) (h1 : n ≤ 4294967295) :
    Calls Try.prog 21 #[.int .i64 n] w fun e w' => e = .returned (.int .i32 (wrap32 n)) ∧ w' = w := by
  by_cases h : 2147483648 ≤ n
  · go_enter Try.func21, Try.ntmps21
    go_wp2
    go_ret
    exact ⟨ret_int (by rw [w32]; omega), rfl⟩
  · go_enter Try.func21, Try.ntmps21
    go_wp2
    go_ret
    exact ⟨ret_int (by rw [w32]; omega), rfl⟩

set_option maxHeartbeats 400000 in
theorem cut_any (n : Int) (w : World) (h0 : -9223372036854775808 ≤ n) (h1 : n ≤ 9223372036854775807) :
    Calls Try.prog 31 #[.int .i64 n] w fun e w' => e = .returned (.int .i64 (n % 4294967296)) ∧ w' = w := by
  have T := hide (tmod32 n)
  go_enter Try.func31, Try.ntmps31
  go_wp2
  all_goals
    go_ret
    have t := unhide T
    refine ⟨ret_int ?_, rfl⟩
    try rw [w64]
    split at t <;> omega

set_option maxHeartbeats 400000 in
theorem product_any (a b : Int) (w : World) (h0 : 0 ≤ a) (h1 : a ≤ 4294967295) (h2 : 0 ≤ b) (h3 : b ≤ 4294967295) :
    Calls Try.prog 32 #[.int .i64 a, .int .i64 b] w fun e w' => e = .returned (.tuple #[.int .i64 (a * b % 4294967296), .int .i64 (a * b / 4294967296)]) ∧ w' = w := by
  obtain ⟨p0, p1⟩ := mul_bound (x := a / 65536) (y := b / 65536) (m := 65535) (k := 65535) (by omega) (by omega) (by omega) (by omega)
  obtain ⟨q0, q1⟩ := mul_bound (x := a / 65536) (y := b % 65536) (m := 65535) (k := 65535) (by omega) (by omega) (by omega) (by omega)
  obtain ⟨r0, r1⟩ := mul_bound (x := a % 65536) (y := b / 65536) (m := 65535) (k := 65535) (by omega) (by omega) (by omega) (by omega)
  obtain ⟨s0, s1⟩ := mul_bound (x := a % 65536) (y := b % 65536) (m := 65535) (k := 65535) (by omega) (by omega) (by omega) (by omega)
  have E := hide (product_eq a b)
  go_enter Try.func32, Try.ntmps32
  go_wp2
  go_ret2
  have e := unhide E
  exact ⟨ret_ints (by omega) (by omega), rfl⟩

set_option maxHeartbeats 400000 in
set_option maxHeartbeats 400000 in
set_option maxHeartbeats 400000 in
set_option maxHeartbeats 400000 in
set_option maxHeartbeats 400000 in
theorem bit_any (n : Int) (k : Nat) (w : World) (h0 : 0 ≤ n) (h1 : n ≤ 4294967295) (hk : k ≤ 64) :
    Calls Try.prog 44 #[.int .i64 n, .int .i64 k] w fun e w' => e = .returned (.bool (bitAt n k)) ∧ w' = w := by
  go_enter Try.func44, Try.ntmps44
  go_wp2
  go_loop [0, 5] (fun m i => ∃ j : Nat, j ≤ k ∧ i = .int .i64 j ∧ m = .int .i64 (shr n j)) (fun _ i => k - (intOf i).toNat)
  case atStart => exact ⟨0, Nat.zero_le _, rfl, by rw [shr_zero]⟩
  case round =>
    obtain ⟨j, hj, rfl, rfl⟩ := hrel
    have hs := shr_nonneg n j h0
    have hl := shr_le n j h0
    by_cases hlt : j < k
    · have S := hide (shr_succ n j)
      go_wp2
      go_round
      case rel => exact ⟨j + 1, by omega, by go_num, by rw [unhide S]⟩
      case measure => simp [intOf]; omega
    · have e : j = k := by omega
      subst e
      go_wp2
      go_ret
      exact ⟨rfl, rfl⟩
end Go.Proofs.Ytofhiooodgopeaa.AW
