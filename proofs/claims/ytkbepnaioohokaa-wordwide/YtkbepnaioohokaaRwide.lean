/- Contracts of the reference's Wide: for every operation and every two longs it answers wideN and wideB, and leaves the world as it was. -/
import Derived.Test.YtkbepnaioohokaaWwide
namespace Go.Proofs.Ytkbepnaioohokaa.W
open Go.RowKit Go.Proofs.Ytkbepnaioohokaa.M
set_option linter.unusedVariables false

theorem free_low (a : Int) : wrap32 a % 4294967296 = a % 4294967296 := by rw [w32]; omega
theorem wrap_bd (a : Int) : -2147483648 ≤ wrap32 a ∧ wrap32 a ≤ 2147483647 := by rw [w32]; omega
theorem wide_add (a b : Int) :
    wrap32 ((a / 4294967296 % 4294967296 + b / 4294967296 % 4294967296 + (a % 4294967296 + b % 4294967296) / 4294967296) % 4294967296) * 4294967296
      + (a + b) % 4294967296 = wrap64 (a + b) := by
  rw [w32, w64]; omega
theorem wide_sub (a b : Int) (h : b % 4294967296 ≤ a % 4294967296) :
    wrap32 ((a / 4294967296 - b / 4294967296) % 4294967296) * 4294967296
      + (a - b) % 4294967296 = wrap64 (a - b) := by
  rw [w32, w64]; omega
theorem wide_sub' (a b : Int) (h : a % 4294967296 < b % 4294967296) :
    wrap32 ((a / 4294967296 % 4294967296 - b / 4294967296 % 4294967296 - 1) % 4294967296) * 4294967296
      + (a - b) % 4294967296 = wrap64 (a - b) := by
  rw [w32, w64]; omega
theorem mul_cut_r (x y : Int) : x * (y % 4294967296) % 4294967296 = x * y % 4294967296 := by
  rw [Int.mul_emod x (y % 4294967296), Int.emod_emod, ← Int.mul_emod]
theorem mul_cut_l (x y : Int) : x % 4294967296 * y % 4294967296 = x * y % 4294967296 := by
  rw [Int.mul_emod (x % 4294967296) y, Int.emod_emod, ← Int.mul_emod]
theorem wide_mul (a b : Int) :
    wrap32 (((a % 4294967296) * (b % 4294967296) / 4294967296 + (a % 4294967296) * (b / 4294967296 % 4294967296) % 4294967296 + (a / 4294967296 % 4294967296) * (b % 4294967296)) % 4294967296) * 4294967296
      + (a % 4294967296) * (b % 4294967296) % 4294967296 = wrap64 (a * b) := by
  have h := mul_halves 4294967296 (a / 4294967296) (a % 4294967296) (b / 4294967296) (b % 4294967296)
  have ha : a / 4294967296 * 4294967296 + a % 4294967296 = a := by omega
  have hb : b / 4294967296 * 4294967296 + b % 4294967296 = b := by omega
  rw [ha, hb] at h
  have hl := mul_cut_l (a / 4294967296) (b % 4294967296)
  rw [mul_cut_r (a % 4294967296) (b / 4294967296), h]
  generalize a / 4294967296 % 4294967296 * (b % 4294967296) = t at *
  generalize a / 4294967296 * (b / 4294967296) = p
  generalize a / 4294967296 * (b % 4294967296) = q at *
  generalize a % 4294967296 * (b / 4294967296) = r
  generalize a % 4294967296 * (b % 4294967296) = s
  clear h ha hb
  rw [w32, w64]
  omega
theorem bits_halves (a : Int) : (wrap32 a % 4294967296).toNat = (a % 18446744073709551616).toNat % 2 ^ 32
    ∧ (a / 4294967296 % 4294967296).toNat = (a % 18446744073709551616).toNat / 2 ^ 32 := by
  rw [w32]; omega
theorem bits_glue (n : Nat) (h : n < 18446744073709551616) :
    wrap32 ((n / 2 ^ 32 : Nat) : Int) * 4294967296 + wrap32 ((n % 2 ^ 32 : Nat) : Int) % 4294967296 = wrap64 (n : Int) := by
  rw [w32, w32, w64]; omega
theorem wide_and (a b : Int) : bits .and .i32 (a / 4294967296) (b / 4294967296) * 4294967296 + bits .and .i32 (wrap32 a) (wrap32 b) % 4294967296 = bits .and .i64 a b := by
  have hn := Nat.and_lt_two_pow (n := 64) (a % 18446744073709551616).toNat (y := (b % 18446744073709551616).toNat) (by omega)
  rw [(bits32 _ _).1, (bits32 _ _).1, (bits64 _ _).1, (bits_halves a).1, (bits_halves a).2, (bits_halves b).1, (bits_halves b).2,
    ← Nat.and_mod_two_pow, ← Nat.and_div_two_pow]
  exact bits_glue _ hn
theorem wide_or (a b : Int) : bits .or .i32 (a / 4294967296) (b / 4294967296) * 4294967296 + bits .or .i32 (wrap32 a) (wrap32 b) % 4294967296 = bits .or .i64 a b := by
  have hn := Nat.or_lt_two_pow (n := 64) (x := (a % 18446744073709551616).toNat) (y := (b % 18446744073709551616).toNat) (by omega) (by omega)
  rw [(bits32 _ _).2.1, (bits32 _ _).2.1, (bits64 _ _).2.1, (bits_halves a).1, (bits_halves a).2, (bits_halves b).1, (bits_halves b).2,
    ← Nat.or_mod_two_pow, ← Nat.or_div_two_pow]
  exact bits_glue _ hn
theorem wide_xor (a b : Int) : bits .xor .i32 (a / 4294967296) (b / 4294967296) * 4294967296 + bits .xor .i32 (wrap32 a) (wrap32 b) % 4294967296 = bits .xor .i64 a b := by
  have hn := Nat.xor_lt_two_pow (n := 64) (x := (a % 18446744073709551616).toNat) (y := (b % 18446744073709551616).toNat) (by omega) (by omega)
  rw [(bits32 _ _).2.2, (bits32 _ _).2.2, (bits64 _ _).2.2, (bits_halves a).1, (bits_halves a).2, (bits_halves b).1, (bits_halves b).2,
    ← Nat.xor_mod_two_pow, ← Nat.xor_div_two_pow]
  exact bits_glue _ hn
theorem opN_and (a b : Int) : opN 7 a b = bits .and .i32 a b := rfl
theorem opN_or (a b : Int) : opN 8 a b = bits .or .i32 a b := rfl
theorem opN_xor (a b : Int) : opN 9 a b = bits .xor .i32 a b := rfl
theorem opN_bd (op a b : Int) (h : op = 7 ∨ op = 8 ∨ op = 9) : -2147483648 ≤ opN op a b ∧ opN op a b ≤ 2147483647 := by
  rcases h with rfl | rfl | rfl
  · rw [opN_and, (bits32 a b).1]; exact wrap_bd _
  · rw [opN_or, (bits32 a b).2.1]; exact wrap_bd _
  · rw [opN_xor, (bits32 a b).2.2]; exact wrap_bd _

set_option maxRecDepth 100000 in
set_option maxHeartbeats 1000000 in
theorem rwide1 (a b : Int) (w : World) (h0 : -9223372036854775808 ≤ a) (h1 : a ≤ 9223372036854775807) (h2 : -9223372036854775808 ≤ b) (h3 : b ≤ 9223372036854775807) :
    Calls Try.prog 10 #[.int .i64 1, .int .i64 a, .int .i64 b] w fun e w' => e = .returned (.tuple #[.int .i64 (wideN 1 a b), .bool (wideB 1)]) ∧ w' = w := by
  have ea := free_low a
  have eb := free_low b
  obtain ⟨wa0, wa1⟩ := wrap_bd a
  obtain ⟨wb0, wb1⟩ := wrap_bd b
  go_enter Try.func10, Try.ntmps10
  go_wp2_with (first | (go_at_call 12; refine (halves_any _ _ (by omega) (by omega)).mono ?_; rintro e w' ⟨rfl, rfl⟩) | (go_at_call 23; refine (free_any _ _ (by omega) (by omega)).mono ?_; rintro e w' ⟨rfl, rfl⟩) | (go_at_call 21; refine (cut_any _ _ (by omega) (by omega)).mono ?_; rintro e w' ⟨rfl, rfl⟩) | (go_at_call 20; refine (word_any _ _ (by omega) (by omega)).mono ?_; rintro e w' ⟨rfl, rfl⟩) | (go_at_call 14; refine (whole_any _ _ _ (wrap_bd _).1 (wrap_bd _).2 (wrap_bd _).1 (wrap_bd _).2).mono ?_; rintro e w' ⟨rfl, rfl⟩))
  go_ret2
  exact ⟨ret_int_bool (by rw [free_low, Int.emod_emod]; exact wide_add a b) (rfl), rfl⟩
set_option maxRecDepth 100000 in
set_option maxHeartbeats 1000000 in
theorem rwide2 (a b : Int) (w : World) (h0 : -9223372036854775808 ≤ a) (h1 : a ≤ 9223372036854775807) (h2 : -9223372036854775808 ≤ b) (h3 : b ≤ 9223372036854775807) :
    Calls Try.prog 10 #[.int .i64 2, .int .i64 a, .int .i64 b] w fun e w' => e = .returned (.tuple #[.int .i64 (wideN 2 a b), .bool (wideB 2)]) ∧ w' = w := by
  have ea := free_low a
  have eb := free_low b
  obtain ⟨wa0, wa1⟩ := wrap_bd a
  obtain ⟨wb0, wb1⟩ := wrap_bd b
  by_cases c : a % 4294967296 < b % 4294967296
  · have c' : a % 4294967296 - b % 4294967296 < 0 := by omega
    go_enter Try.func10, Try.ntmps10
    go_wp2_with (first | (go_at_call 12; refine (halves_any _ _ (by omega) (by omega)).mono ?_; rintro e w' ⟨rfl, rfl⟩) | (go_at_call 23; refine (free_any _ _ (by omega) (by omega)).mono ?_; rintro e w' ⟨rfl, rfl⟩) | (go_at_call 21; refine (cut_any _ _ (by omega) (by omega)).mono ?_; rintro e w' ⟨rfl, rfl⟩) | (go_at_call 20; refine (word_any _ _ (by omega) (by omega)).mono ?_; rintro e w' ⟨rfl, rfl⟩) | (go_at_call 14; refine (whole_any _ _ _ (wrap_bd _).1 (wrap_bd _).2 (wrap_bd _).1 (wrap_bd _).2).mono ?_; rintro e w' ⟨rfl, rfl⟩))
    go_ret2
    exact ⟨ret_int_bool (by rw [free_low, Int.emod_emod]; exact wide_sub' a b c) (rfl), rfl⟩
  · have c' : ¬ a % 4294967296 - b % 4294967296 < 0 := by omega
    go_enter Try.func10, Try.ntmps10
    go_wp2_with (first | (go_at_call 12; refine (halves_any _ _ (by omega) (by omega)).mono ?_; rintro e w' ⟨rfl, rfl⟩) | (go_at_call 23; refine (free_any _ _ (by omega) (by omega)).mono ?_; rintro e w' ⟨rfl, rfl⟩) | (go_at_call 21; refine (cut_any _ _ (by omega) (by omega)).mono ?_; rintro e w' ⟨rfl, rfl⟩) | (go_at_call 20; refine (word_any _ _ (by omega) (by omega)).mono ?_; rintro e w' ⟨rfl, rfl⟩) | (go_at_call 14; refine (whole_any _ _ _ (wrap_bd _).1 (wrap_bd _).2 (wrap_bd _).1 (wrap_bd _).2).mono ?_; rintro e w' ⟨rfl, rfl⟩))
    go_ret2
    exact ⟨ret_int_bool (by rw [free_low, Int.emod_emod]; exact wide_sub a b c) (rfl), rfl⟩
set_option maxRecDepth 100000 in
set_option maxHeartbeats 1000000 in
theorem rwide3 (a b : Int) (w : World) (h0 : -9223372036854775808 ≤ a) (h1 : a ≤ 9223372036854775807) (h2 : -9223372036854775808 ≤ b) (h3 : b ≤ 9223372036854775807) :
    Calls Try.prog 10 #[.int .i64 3, .int .i64 a, .int .i64 b] w fun e w' => e = .returned (.tuple #[.int .i64 (wideN 3 a b), .bool (wideB 3)]) ∧ w' = w := by
  have ea := free_low a
  have eb := free_low b
  obtain ⟨wa0, wa1⟩ := wrap_bd a
  obtain ⟨wb0, wb1⟩ := wrap_bd b
  obtain ⟨p0, p1⟩ := mul_bound (x := a % 4294967296) (y := b % 4294967296) (m := 4294967295) (k := 4294967295) (by omega) (by omega) (by omega) (by omega)
  obtain ⟨q0, q1⟩ := mul_bound (x := a % 4294967296) (y := b / 4294967296 % 4294967296) (m := 4294967295) (k := 4294967295) (by omega) (by omega) (by omega) (by omega)
  obtain ⟨r0, r1⟩ := mul_bound (x := a / 4294967296 % 4294967296) (y := b % 4294967296) (m := 4294967295) (k := 4294967295) (by omega) (by omega) (by omega) (by omega)
  go_enter Try.func10, Try.ntmps10
  go_wp2_with (first | (go_at_call 12; refine (halves_any _ _ (by omega) (by omega)).mono ?_; rintro e w' ⟨rfl, rfl⟩) | (go_at_call 23; refine (free_any _ _ (by omega) (by omega)).mono ?_; rintro e w' ⟨rfl, rfl⟩) | (go_at_call 22; refine (product_any _ _ _ (by omega) (by omega) (by omega) (by omega)).mono ?_; rintro e w' ⟨rfl, rfl⟩) | (go_at_call 21; refine (cut_any _ _ (by omega) (by omega)).mono ?_; rintro e w' ⟨rfl, rfl⟩) | (go_at_call 20; refine (word_any _ _ (by omega) (by omega)).mono ?_; rintro e w' ⟨rfl, rfl⟩) | (go_at_call 14; refine (whole_any _ _ _ (wrap_bd _).1 (wrap_bd _).2 (wrap_bd _).1 (wrap_bd _).2).mono ?_; rintro e w' ⟨rfl, rfl⟩))
  go_ret2
  exact ⟨ret_int_bool (by rw [free_low, Int.emod_emod]; exact wide_mul a b) (rfl), rfl⟩
set_option maxRecDepth 100000 in
set_option maxHeartbeats 1000000 in
theorem rwide7 (a b : Int) (w : World) (h0 : -9223372036854775808 ≤ a) (h1 : a ≤ 9223372036854775807) (h2 : -9223372036854775808 ≤ b) (h3 : b ≤ 9223372036854775807) :
    Calls Try.prog 10 #[.int .i64 7, .int .i64 a, .int .i64 b] w fun e w' => e = .returned (.tuple #[.int .i64 (wideN 7 a b), .bool (wideB 7)]) ∧ w' = w := by
  have ea := free_low a
  have eb := free_low b
  obtain ⟨wa0, wa1⟩ := wrap_bd a
  obtain ⟨wb0, wb1⟩ := wrap_bd b
  obtain ⟨o0, o1⟩ := opN_bd 7 (wrap32 a) (wrap32 b) (by omega)
  obtain ⟨u0, u1⟩ := opN_bd 7 (a / 4294967296) (b / 4294967296) (by omega)
  go_enter Try.func10, Try.ntmps10
  go_wp2_with (first | (go_at_call 12; refine (halves_any _ _ (by omega) (by omega)).mono ?_; rintro e w' ⟨rfl, rfl⟩) | (go_at_call 8; refine (rop7 _ _ _ (by omega) (by omega) (by omega) (by omega)).mono ?_; rintro e w' ⟨rfl, rfl⟩) | (go_at_call 14; refine (whole_any _ _ _ (by omega) (by omega) (by omega) (by omega)).mono ?_; rintro e w' ⟨rfl, rfl⟩))
  go_ret2
  exact ⟨ret_int_bool (by rw [opN_and, opN_and]; exact wide_and a b) (rfl), rfl⟩
set_option maxRecDepth 100000 in
set_option maxHeartbeats 1000000 in
theorem rwide8 (a b : Int) (w : World) (h0 : -9223372036854775808 ≤ a) (h1 : a ≤ 9223372036854775807) (h2 : -9223372036854775808 ≤ b) (h3 : b ≤ 9223372036854775807) :
    Calls Try.prog 10 #[.int .i64 8, .int .i64 a, .int .i64 b] w fun e w' => e = .returned (.tuple #[.int .i64 (wideN 8 a b), .bool (wideB 8)]) ∧ w' = w := by
  have ea := free_low a
  have eb := free_low b
  obtain ⟨wa0, wa1⟩ := wrap_bd a
  obtain ⟨wb0, wb1⟩ := wrap_bd b
  obtain ⟨o0, o1⟩ := opN_bd 8 (wrap32 a) (wrap32 b) (by omega)
  obtain ⟨u0, u1⟩ := opN_bd 8 (a / 4294967296) (b / 4294967296) (by omega)
  go_enter Try.func10, Try.ntmps10
  go_wp2_with (first | (go_at_call 12; refine (halves_any _ _ (by omega) (by omega)).mono ?_; rintro e w' ⟨rfl, rfl⟩) | (go_at_call 8; refine (rop8 _ _ _ (by omega) (by omega) (by omega) (by omega)).mono ?_; rintro e w' ⟨rfl, rfl⟩) | (go_at_call 14; refine (whole_any _ _ _ (by omega) (by omega) (by omega) (by omega)).mono ?_; rintro e w' ⟨rfl, rfl⟩))
  go_ret2
  exact ⟨ret_int_bool (by rw [opN_or, opN_or]; exact wide_or a b) (rfl), rfl⟩
set_option maxRecDepth 100000 in
set_option maxHeartbeats 1000000 in
theorem rwide9 (a b : Int) (w : World) (h0 : -9223372036854775808 ≤ a) (h1 : a ≤ 9223372036854775807) (h2 : -9223372036854775808 ≤ b) (h3 : b ≤ 9223372036854775807) :
    Calls Try.prog 10 #[.int .i64 9, .int .i64 a, .int .i64 b] w fun e w' => e = .returned (.tuple #[.int .i64 (wideN 9 a b), .bool (wideB 9)]) ∧ w' = w := by
  have ea := free_low a
  have eb := free_low b
  obtain ⟨wa0, wa1⟩ := wrap_bd a
  obtain ⟨wb0, wb1⟩ := wrap_bd b
  obtain ⟨o0, o1⟩ := opN_bd 9 (wrap32 a) (wrap32 b) (by omega)
  obtain ⟨u0, u1⟩ := opN_bd 9 (a / 4294967296) (b / 4294967296) (by omega)
  go_enter Try.func10, Try.ntmps10
  go_wp2_with (first | (go_at_call 12; refine (halves_any _ _ (by omega) (by omega)).mono ?_; rintro e w' ⟨rfl, rfl⟩) | (go_at_call 8; refine (rop9 _ _ _ (by omega) (by omega) (by omega) (by omega)).mono ?_; rintro e w' ⟨rfl, rfl⟩) | (go_at_call 14; refine (whole_any _ _ _ (by omega) (by omega) (by omega) (by omega)).mono ?_; rintro e w' ⟨rfl, rfl⟩))
  go_ret2
  exact ⟨ret_int_bool (by rw [opN_xor, opN_xor]; exact wide_xor a b) (rfl), rfl⟩
set_option maxRecDepth 100000 in
set_option maxHeartbeats 1000000 in
theorem rwide10 (a b : Int) (w : World) (h0 : -9223372036854775808 ≤ a) (h1 : a ≤ 9223372036854775807) (h2 : -9223372036854775808 ≤ b) (h3 : b ≤ 9223372036854775807) :
    Calls Try.prog 10 #[.int .i64 10, .int .i64 a, .int .i64 b] w fun e w' => e = .returned (.tuple #[.int .i64 (wideN 10 a b), .bool (wideB 10)]) ∧ w' = w := by
  have ea := free_low a
  have eb := free_low b
  obtain ⟨wa0, wa1⟩ := wrap_bd a
  obtain ⟨wb0, wb1⟩ := wrap_bd b
  by_cases d : a / 4294967296 = b / 4294967296
  · have d' : (a / 4294967296 != b / 4294967296) = false := by simpa using d
    by_cases c : a % 4294967296 < b % 4294967296
    · have c' : decide (a % 4294967296 < b % 4294967296) = true := by simpa using c
      have e : a < b := by omega
      have F : Hid (wideN 10 a b = 1) := by simp [Hid, wideN, e]
      clear e d
      go_enter Try.func10, Try.ntmps10
      go_wp2_with (first | (go_at_call 12; refine (halves_any _ _ (by omega) (by omega)).mono ?_; rintro e w' ⟨rfl, rfl⟩) | (go_at_call 23; refine (free_any _ _ (by omega) (by omega)).mono ?_; rintro e w' ⟨rfl, rfl⟩) | (go_at_call 28; refine (rtruth _ _).mono ?_; rintro e w' ⟨rfl, rfl⟩))
      go_ret2
      exact ⟨ret_int_bool ((unhide F).symm) (rfl), rfl⟩
    · have c' : decide (a % 4294967296 < b % 4294967296) = false := by simpa using c
      have e : ¬ a < b := by omega
      have F : Hid (wideN 10 a b = 0) := by simp [Hid, wideN, e]
      clear e d
      go_enter Try.func10, Try.ntmps10
      go_wp2_with (first | (go_at_call 12; refine (halves_any _ _ (by omega) (by omega)).mono ?_; rintro e w' ⟨rfl, rfl⟩) | (go_at_call 23; refine (free_any _ _ (by omega) (by omega)).mono ?_; rintro e w' ⟨rfl, rfl⟩) | (go_at_call 28; refine (rtruth _ _).mono ?_; rintro e w' ⟨rfl, rfl⟩))
      go_ret2
      exact ⟨ret_int_bool ((unhide F).symm) (rfl), rfl⟩
  · have d' : (a / 4294967296 != b / 4294967296) = true := by simpa using d
    by_cases c : a / 4294967296 < b / 4294967296
    · have c' : decide (a / 4294967296 < b / 4294967296) = true := by simpa using c
      have e : a < b := by omega
      have F : Hid (wideN 10 a b = 1) := by simp [Hid, wideN, e]
      clear e d
      go_enter Try.func10, Try.ntmps10
      go_wp2_with (first | (go_at_call 12; refine (halves_any _ _ (by omega) (by omega)).mono ?_; rintro e w' ⟨rfl, rfl⟩) | (go_at_call 23; refine (free_any _ _ (by omega) (by omega)).mono ?_; rintro e w' ⟨rfl, rfl⟩) | (go_at_call 28; refine (rtruth _ _).mono ?_; rintro e w' ⟨rfl, rfl⟩))
      go_ret2
      exact ⟨ret_int_bool ((unhide F).symm) (rfl), rfl⟩
    · have c' : decide (a / 4294967296 < b / 4294967296) = false := by simpa using c
      have e : ¬ a < b := by omega
      have F : Hid (wideN 10 a b = 0) := by simp [Hid, wideN, e]
      clear e d
      go_enter Try.func10, Try.ntmps10
      go_wp2_with (first | (go_at_call 12; refine (halves_any _ _ (by omega) (by omega)).mono ?_; rintro e w' ⟨rfl, rfl⟩) | (go_at_call 23; refine (free_any _ _ (by omega) (by omega)).mono ?_; rintro e w' ⟨rfl, rfl⟩) | (go_at_call 28; refine (rtruth _ _).mono ?_; rintro e w' ⟨rfl, rfl⟩))
      go_ret2
      exact ⟨ret_int_bool ((unhide F).symm) (rfl), rfl⟩
set_option maxRecDepth 100000 in
set_option maxHeartbeats 1000000 in
theorem rwide12 (a b : Int) (w : World) (h0 : -9223372036854775808 ≤ a) (h1 : a ≤ 9223372036854775807) (h2 : -9223372036854775808 ≤ b) (h3 : b ≤ 9223372036854775807) :
    Calls Try.prog 10 #[.int .i64 12, .int .i64 a, .int .i64 b] w fun e w' => e = .returned (.tuple #[.int .i64 (wideN 12 a b), .bool (wideB 12)]) ∧ w' = w := by
  by_cases d : wrap32 a = wrap32 b
  · have d' : (wrap32 a == wrap32 b) = true := by simpa using d
    by_cases c : a / 4294967296 = b / 4294967296
    · have c' : (a / 4294967296 == b / 4294967296) = true := by simpa using c
      have e : a = b := by rw [w32, w32] at d; omega
      have F : Hid (wideN 12 a b = 1) := by simp [Hid, wideN, e]
      clear e d c
      go_enter Try.func10, Try.ntmps10
      go_wp2_with (first | (go_at_call 12; refine (halves_any _ _ (by omega) (by omega)).mono ?_; rintro e w' ⟨rfl, rfl⟩) | (go_at_call 23; refine (free_any _ _ (by omega) (by omega)).mono ?_; rintro e w' ⟨rfl, rfl⟩) | (go_at_call 28; refine (rtruth _ _).mono ?_; rintro e w' ⟨rfl, rfl⟩))
      go_ret2
      exact ⟨ret_int_bool ((unhide F).symm) (rfl), rfl⟩
    · have c' : (a / 4294967296 == b / 4294967296) = false := by simpa using c
      have e : ¬ a = b := by omega
      have F : Hid (wideN 12 a b = 0) := by simp [Hid, wideN, e]
      clear e d c
      go_enter Try.func10, Try.ntmps10
      go_wp2_with (first | (go_at_call 12; refine (halves_any _ _ (by omega) (by omega)).mono ?_; rintro e w' ⟨rfl, rfl⟩) | (go_at_call 23; refine (free_any _ _ (by omega) (by omega)).mono ?_; rintro e w' ⟨rfl, rfl⟩) | (go_at_call 28; refine (rtruth _ _).mono ?_; rintro e w' ⟨rfl, rfl⟩))
      go_ret2
      exact ⟨ret_int_bool ((unhide F).symm) (rfl), rfl⟩
  · have d' : (wrap32 a == wrap32 b) = false := by simpa using d
    have e : ¬ a = b := fun h => d (by rw [h])
    have F : Hid (wideN 12 a b = 0) := by simp [Hid, wideN, e]
    clear e d
    go_enter Try.func10, Try.ntmps10
    go_wp2_with (first | (go_at_call 12; refine (halves_any _ _ (by omega) (by omega)).mono ?_; rintro e w' ⟨rfl, rfl⟩) | (go_at_call 23; refine (free_any _ _ (by omega) (by omega)).mono ?_; rintro e w' ⟨rfl, rfl⟩) | (go_at_call 28; refine (rtruth _ _).mono ?_; rintro e w' ⟨rfl, rfl⟩))
    go_ret2
    exact ⟨ret_int_bool ((unhide F).symm) (rfl), rfl⟩
set_option maxRecDepth 100000 in
set_option maxHeartbeats 1000000 in
theorem rwidex (op a b : Int) (w : World) (h0 : -9223372036854775808 ≤ a) (h1 : a ≤ 9223372036854775807) (h2 : -9223372036854775808 ≤ b) (h3 : b ≤ 9223372036854775807) (h : ¬ (op = 1 ∨ op = 2 ∨ op = 3 ∨ op = 7 ∨ op = 8 ∨ op = 9 ∨ op = 10 ∨ op = 12)) :
    Calls Try.prog 10 #[.int .i64 op, .int .i64 a, .int .i64 b] w fun e w' => e = .returned (.tuple #[.int .i64 (wideN op a b), .bool (wideB op)]) ∧ w' = w := by
  have F1 : wideN op a b = 0 := by unfold wideN; repeat (rw [if_neg (by omega)])
  have F2 : wideB op = false := by unfold wideB; rw [if_neg h]
  rw [F1, F2]
  clear F1 F2
  have c1 : (op == 1) = false := beq_eq_false_iff_ne.2 (by omega)
  have c2 : (op == 2) = false := beq_eq_false_iff_ne.2 (by omega)
  have c3 : (op == 3) = false := beq_eq_false_iff_ne.2 (by omega)
  have c7 : (op == 7) = false := beq_eq_false_iff_ne.2 (by omega)
  have c8 : (op == 8) = false := beq_eq_false_iff_ne.2 (by omega)
  have c9 : (op == 9) = false := beq_eq_false_iff_ne.2 (by omega)
  have c10 : (op == 10) = false := beq_eq_false_iff_ne.2 (by omega)
  have c12 : (op == 12) = false := beq_eq_false_iff_ne.2 (by omega)
  clear h
  go_enter Try.func10, Try.ntmps10
  go_wp2_with (first | (go_at_call 12; refine (halves_any _ _ (by omega) (by omega)).mono ?_; rintro e w' ⟨rfl, rfl⟩))
  go_ret2
  exact ⟨rfl, rfl⟩

theorem rwide_any (op a b : Int) (w : World) (h0 : -9223372036854775808 ≤ a) (h1 : a ≤ 9223372036854775807) (h2 : -9223372036854775808 ≤ b) (h3 : b ≤ 9223372036854775807) :
    Calls Try.prog 10 #[.int .i64 op, .int .i64 a, .int .i64 b] w fun e w' => e = .returned (.tuple #[.int .i64 (wideN op a b), .bool (wideB op)]) ∧ w' = w := by
  by_cases c1 : op = 1
  · subst c1; exact rwide1 a b w h0 h1 h2 h3
  by_cases c2 : op = 2
  · subst c2; exact rwide2 a b w h0 h1 h2 h3
  by_cases c3 : op = 3
  · subst c3; exact rwide3 a b w h0 h1 h2 h3
  by_cases c7 : op = 7
  · subst c7; exact rwide7 a b w h0 h1 h2 h3
  by_cases c8 : op = 8
  · subst c8; exact rwide8 a b w h0 h1 h2 h3
  by_cases c9 : op = 9
  · subst c9; exact rwide9 a b w h0 h1 h2 h3
  by_cases c10 : op = 10
  · subst c10; exact rwide10 a b w h0 h1 h2 h3
  by_cases c12 : op = 12
  · subst c12; exact rwide12 a b w h0 h1 h2 h3
  exact rwidex op a b w h0 h1 h2 h3 (by omega)

end Go.Proofs.Ytkbepnaioohokaa.W
