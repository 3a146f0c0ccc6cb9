/- Plain facts on words and longs as whole numbers: remainders, halves, products by halves of sixteen bits, and bits. No program is in sight. -/
import Derived.WalkKit
import Derived.Laws.BitsAllLaws
import Derived.Test.YtofhiooodgopeaaRows
import Derived.WalkSpells
import Derived.Outline
namespace Go.Proofs.Ytofhiooodgopeaa.AM
open Go.RowKit

theorem hide {p : Prop} (h : p) : Hid p := h
theorem unhide {p : Prop} (h : Hid p) : p := h
theorem w32 (n : Int) : wrap32 n = (n + 2147483648) % 4294967296 - 2147483648 := by unfold wrap32; rfl
theorem w64 (n : Int) : wrap64 n = (n + 9223372036854775808) % 18446744073709551616 - 9223372036854775808 := by unfold wrap64; rfl

theorem tmod32 (n : Int) : n.tmod 4294967296 = if 0 ≤ n then n % 4294967296 else -((-n) % 4294967296) := by
  split
  · exact Int.tmod_eq_emod_of_nonneg (by assumption)
  · have h := Int.neg_tmod (-n) 4294967296
    rw [Int.neg_neg] at h
    rw [h, Int.tmod_eq_emod_of_nonneg (by omega)]

/-- What is left when the lower half is taken off is the upper half, and nothing over. -/
theorem tdiv_half (n : Int) : (n - n % 4294967296).tdiv 4294967296 = n / 4294967296 := by
  have h : n - n % 4294967296 = 4294967296 * (n / 4294967296) := by omega
  rw [h]
  exact Int.mul_tdiv_cancel_left _ (by omega)

theorem mul_bound {x y m k : Int} (hx : 0 ≤ x) (hy : 0 ≤ y) (hm : x ≤ m) (hk : y ≤ k) : 0 ≤ x * y ∧ x * y ≤ m * k :=
  ⟨Int.mul_nonneg hx hy, Int.mul_le_mul hm hk hy (by omega)⟩

/-- The product of two numbers out of the four products of their halves. -/
theorem mul_halves (c ah al bh bl : Int) : (ah * c + al) * (bh * c + bl) = ah * bh * (c * c) + (al * bh + ah * bl) * c + al * bl := by
  simp only [Int.mul_add, Int.mul_comm, Int.mul_left_comm]
  simp only [← Int.add_assoc]

theorem product_eq (a b : Int) :
    ((a / 65536 * (b % 65536) + (a % 65536 * (b / 65536) + a % 65536 * (b % 65536) / 65536) % 65536) % 65536 * 65536 + a % 65536 * (b % 65536) % 65536)
      + 4294967296 * (a / 65536 * (b / 65536) + (a % 65536 * (b / 65536) + a % 65536 * (b % 65536) / 65536) / 65536
          + (a / 65536 * (b % 65536) + (a % 65536 * (b / 65536) + a % 65536 * (b % 65536) / 65536) % 65536) / 65536) = a * b := by
  have h := mul_halves 65536 (a / 65536) (a % 65536) (b / 65536) (b % 65536)
  have ha : a / 65536 * 65536 + a % 65536 = a := by omega
  have hb : b / 65536 * 65536 + b % 65536 = b := by omega
  rw [ha, hb] at h
  rw [h]
  generalize a / 65536 * (b / 65536) = p
  generalize a / 65536 * (b % 65536) = q
  generalize a % 65536 * (b / 65536) = r
  generalize a % 65536 * (b % 65536) = s
  omega

/-! ### Bits -/
def shr (n : Int) (j : Nat) : Int := n / 2 ^ j
theorem shr_zero (n : Int) : shr n 0 = n := by simp [shr]
theorem shr_succ (n : Int) (j : Nat) : shr n j / 2 = shr n (j + 1) := by
  unfold shr
  rw [Int.ediv_ediv_of_nonneg (Int.pow_nonneg (by omega)), Int.pow_succ]
theorem shr_nonneg (n : Int) (j : Nat) (h : 0 ≤ n) : 0 ≤ shr n j := Int.ediv_nonneg h (Int.pow_nonneg (by omega))
theorem shr_le (n : Int) (j : Nat) (h : 0 ≤ n) : shr n j ≤ n := Int.ediv_le_self _ h
def bitAt (n : Int) (j : Nat) : Bool := shr n j % 2 == 1
def pw (j : Nat) : Int := 2 ^ j
theorem pw_zero : pw 0 = 1 := rfl
theorem pw_succ (j : Nat) : 2 * pw j = pw (j + 1) := by unfold pw; rw [Int.pow_succ]; omega
theorem pw_pos (j : Nat) : 0 < pw j := Int.pow_pos (by omega)
theorem pw_le (j : Nat) (h : j ≤ 32) : pw j ≤ 4294967296 := by
  have := Nat.pow_le_pow_right (n := 2) (by omega) h
  have e : pw j = ((2 ^ j : Nat) : Int) := by unfold pw; simp
  rw [e]; omega
def acc (g : Bool → Bool → Bool) (x y : Int) : Nat → Int
  | 0 => 0
  | j + 1 => acc g x y j + if g (bitAt x j) (bitAt y j) then pw j else 0
theorem acc_bd (g : Bool → Bool → Bool) (x y : Int) (j : Nat) : 0 ≤ acc g x y j ∧ acc g x y j < pw j := by
  induction j with
  | zero => exact ⟨Int.le_refl _, by simp [acc, pw]⟩
  | succ j ih =>
    have h := pw_succ j
    have h' := pw_pos j
    unfold acc
    split <;> omega
theorem bitAt_nat (n j : Nat) : bitAt (n : Int) j = n.testBit j := by
  rw [Nat.testBit_eq_decide_div_mod_eq]
  unfold bitAt shr
  have e : (n : Int) / 2 ^ j % 2 = ((n / 2 ^ j % 2 : Nat) : Int) := by simp
  rw [e]
  by_cases h : n / 2 ^ j % 2 = 1 <;> simp [h]
  omega
theorem acc_mod (g : Bool → Bool → Bool) (x y n : Nat) (h : ∀ i, n.testBit i = g (x.testBit i) (y.testBit i)) (j : Nat) :
    acc g x y j = ((n % 2 ^ j : Nat) : Int) := by
  induction j with
  | zero => simp [acc, Nat.mod_one]
  | succ j ih =>
    unfold acc
    rw [ih, Nat.mod_pow_succ, bitAt_nat, bitAt_nat, ← h, Nat.testBit_eq_decide_div_mod_eq]
    by_cases hb : n / 2 ^ j % 2 = 1
    · simp [pw, hb]
    · have h0 : n / 2 ^ j % 2 = 0 := by omega
      simp [h0]

theorem bits32 (x y : Int) : bits .and .i32 x y = wrap32 (((x % 4294967296).toNat &&& (y % 4294967296).toNat : Nat) : Int)
    ∧ bits .or .i32 x y = wrap32 (((x % 4294967296).toNat ||| (y % 4294967296).toNat : Nat) : Int)
    ∧ bits .xor .i32 x y = wrap32 (((x % 4294967296).toNat ^^^ (y % 4294967296).toNat : Nat) : Int) := by
  refine ⟨?_, ?_, ?_⟩
  · rw [← IntWalk.i32_left]
    show IntKind.i32.wrap (((BitVec.ofInt 32 x &&& BitVec.ofInt 32 y).toNat : Nat) : Int) = _
    rw [BitVec.toNat_and, BitVec.toNat_ofInt, BitVec.toNat_ofInt]
    rfl
  · rw [← IntWalk.i32_left]
    show IntKind.i32.wrap (((BitVec.ofInt 32 x ||| BitVec.ofInt 32 y).toNat : Nat) : Int) = _
    rw [BitVec.toNat_or, BitVec.toNat_ofInt, BitVec.toNat_ofInt]
    rfl
  · rw [← IntWalk.i32_left]
    show IntKind.i32.wrap (((BitVec.ofInt 32 x ^^^ BitVec.ofInt 32 y).toNat : Nat) : Int) = _
    rw [BitVec.toNat_xor, BitVec.toNat_ofInt, BitVec.toNat_ofInt]
    rfl
theorem bits64 (x y : Int) : bits .and .i64 x y = wrap64 (((x % 18446744073709551616).toNat &&& (y % 18446744073709551616).toNat : Nat) : Int)
    ∧ bits .or .i64 x y = wrap64 (((x % 18446744073709551616).toNat ||| (y % 18446744073709551616).toNat : Nat) : Int)
    ∧ bits .xor .i64 x y = wrap64 (((x % 18446744073709551616).toNat ^^^ (y % 18446744073709551616).toNat : Nat) : Int) := by
  refine ⟨?_, ?_, ?_⟩
  · rw [← IntWalk.i64_left]
    show IntKind.i64.wrap (((BitVec.ofInt 64 x &&& BitVec.ofInt 64 y).toNat : Nat) : Int) = _
    rw [BitVec.toNat_and, BitVec.toNat_ofInt, BitVec.toNat_ofInt]
    rfl
  · rw [← IntWalk.i64_left]
    show IntKind.i64.wrap (((BitVec.ofInt 64 x ||| BitVec.ofInt 64 y).toNat : Nat) : Int) = _
    rw [BitVec.toNat_or, BitVec.toNat_ofInt, BitVec.toNat_ofInt]
    rfl
  · rw [← IntWalk.i64_left]
    show IntKind.i64.wrap (((BitVec.ofInt 64 x ^^^ BitVec.ofInt 64 y).toNat : Nat) : Int) = _
    rw [BitVec.toNat_xor, BitVec.toNat_ofInt, BitVec.toNat_ofInt]
    rfl

/-- Two halves side by side: 'or' is their sum. -/
theorem join_or (low high : Int) (h2 : -2147483648 ≤ high) (h3 : high ≤ 2147483647) :
    bits .or .i64 (high * 4294967296) (low % 4294967296) = high * 4294967296 + low % 4294967296 := by
  rw [(bits64 _ _).2.1, nat_join 32 _ _ (by omega) (by omega), w64]
  omega

/-- The bits of words by a sum over their places. -/
theorem acc_and (a b : Int) : wrap32 (acc (fun x y => x && y) (a % 4294967296) (b % 4294967296) 32) = bits .and .i32 a b := by
  have ha : a % 4294967296 = ((a % 4294967296).toNat : Int) := by omega
  have hb : b % 4294967296 = ((b % 4294967296).toNat : Int) := by omega
  have hn := Nat.and_lt_two_pow (n := 32) (a % 4294967296).toNat (y := (b % 4294967296).toNat) (by omega)
  rw [(bits32 a b).1, ha, hb, acc_mod _ _ _ ((a % 4294967296).toNat &&& (b % 4294967296).toNat) (fun i => Nat.testBit_and ..), Nat.mod_eq_of_lt hn]
  rfl
theorem acc_or (a b : Int) : wrap32 (acc (fun x y => x || y) (a % 4294967296) (b % 4294967296) 32) = bits .or .i32 a b := by
  have ha : a % 4294967296 = ((a % 4294967296).toNat : Int) := by omega
  have hb : b % 4294967296 = ((b % 4294967296).toNat : Int) := by omega
  have hn := Nat.or_lt_two_pow (n := 32) (x := (a % 4294967296).toNat) (y := (b % 4294967296).toNat) (by omega) (by omega)
  rw [(bits32 a b).2.1, ha, hb, acc_mod _ _ _ ((a % 4294967296).toNat ||| (b % 4294967296).toNat) (fun i => Nat.testBit_or ..), Nat.mod_eq_of_lt hn]
  rfl
theorem acc_xor (a b : Int) : wrap32 (acc (fun x y => x != y) (a % 4294967296) (b % 4294967296) 32) = bits .xor .i32 a b := by
  have ha : a % 4294967296 = ((a % 4294967296).toNat : Int) := by omega
  have hb : b % 4294967296 = ((b % 4294967296).toNat : Int) := by omega
  have hn := Nat.xor_lt_two_pow (n := 32) (x := (a % 4294967296).toNat) (y := (b % 4294967296).toNat) (by omega) (by omega)
  rw [(bits32 a b).2.2, ha, hb, acc_mod _ _ _ ((a % 4294967296).toNat ^^^ (b % 4294967296).toNat) (fun i => Nat.testBit_xor ..), Nat.mod_eq_of_lt hn]
  rfl
end Go.Proofs.Ytofhiooodgopeaa.AM

namespace Go.Proofs.Ytofhiooodgopeaa.AW
open Go.RowKit Go.Proofs.Ytofhiooodgopeaa.AM
set_option linter.unusedVariables false

theorem ret_int {k : IntKind} {a b : Int} (h : a = b) : Ending.returned (.int k a) = .returned (.int k b) := by rw [h]
theorem ret_bool {a b : Bool} (h : a = b) : Ending.returned (.bool a) = .returned (.bool b) := by rw [h]
theorem ret_ints {k l : IntKind} {a b c d : Int} (h : a = b) (g : c = d) : Ending.returned (.tuple #[.int k a, .int l c]) = .returned (.tuple #[.int k b, .int l d]) := by rw [h, g]
theorem ret_int_bool {k : IntKind} {a b : Int} {c d : Bool} (h : a = b) (g : c = d) : Ending.returned (.tuple #[.int k a, .bool c]) = .returned (.tuple #[.int k b, .bool d]) := by rw [h, g]

set_option maxHeartbeats 400000 in
theorem free_any (a : Int) (w : World) (h0 : -2147483648 ≤ a) (h1 : a ≤ 2147483647) :
    Calls Try.prog 23 #[.int .i32 a] w fun e w' => e = .returned (.int .i64 (a % 4294967296)) ∧ w' = w := by
  by_cases h : a < 0
  · go_enter Try.func23, Try.ntmps23
    go_wp2
    go_ret
    exact ⟨ret_int (by omega), rfl⟩
  · go_enter Try.func23, Try.ntmps23
    go_wp2
    go_ret
    exact ⟨ret_int (by omega), rfl⟩

set_option maxHeartbeats 400000 in
theorem word_any (n : Int) (w : World) (h0 : 0 ≤ n) (h1 : n ≤ 4294967295) :
    Calls Try.prog 21 #[.int .i64 n] w fun e w' => e = .returned (.int .i32 (wrap32 n)) ∧ w' = w := by
  by_cases h : 2147483648 ≤ n
  · go_enter Try.func21, Try.ntmps21
    go_wp2
    go_ret
    exact ⟨ret_int (by rw [w32]; omega), rfl⟩
  · go_enter Try.func21, Try.ntmps21
    go_wp2
    go_ret
    exact ⟨ret_int (by rw [w32]; omega), rfl⟩

set_option maxHeartbeats 400000 in
theorem cut_any (n : Int) (w : World) (h0 : -9223372036854775808 ≤ n) (h1 : n ≤ 9223372036854775807) :
    Calls Try.prog 31 #[.int .i64 n] w fun e w' => e = .returned (.int .i64 (n % 4294967296)) ∧ w' = w := by
  have T := hide (tmod32 n)
  go_enter Try.func31, Try.ntmps31
  go_wp2
  all_goals
    go_ret
    have t := unhide T
    refine ⟨ret_int ?_, rfl⟩
    try rw [w64]
    split at t <;> omega

set_option maxHeartbeats 400000 in
theorem product_any (a b : Int) (w : World) (h0 : 0 ≤ a) (h1 : a ≤ 4294967295) (h2 : 0 ≤ b) (h3 : b ≤ 4294967295) :
    Calls Try.prog 32 #[.int .i64 a, .int .i64 b] w fun e w' => e = .returned (.tuple #[.int .i64 (a * b % 4294967296), .int .i64 (a * b / 4294967296)]) ∧ w' = w := by
  obtain ⟨p0, p1⟩ := mul_bound (x := a / 65536) (y := b / 65536) (m := 65535) (k := 65535) (by omega) (by omega) (by omega) (by omega)
  obtain ⟨q0, q1⟩ := mul_bound (x := a / 65536) (y := b % 65536) (m := 65535) (k := 65535) (by omega) (by omega) (by omega) (by omega)
  obtain ⟨r0, r1⟩ := mul_bound (x := a % 65536) (y := b / 65536) (m := 65535) (k := 65535) (by omega) (by omega) (by omega) (by omega)
  obtain ⟨s0, s1⟩ := mul_bound (x := a % 65536) (y := b % 65536) (m := 65535) (k := 65535) (by omega) (by omega) (by omega) (by omega)
  have E := hide (product_eq a b)
  go_enter Try.func32, Try.ntmps32
  go_wp2
  go_ret2
  have e := unhide E
  exact ⟨ret_ints (by omega) (by omega), rfl⟩

set_option maxHeartbeats 400000 in
set_option maxHeartbeats 400000 in
set_option maxHeartbeats 400000 in
set_option maxHeartbeats 400000 in
set_option maxHeartbeats 400000 in
theorem bit_any (n : Int) (k : Nat) (w : World) (h0 : 0 ≤ n) (h1 : n ≤ 4294967295) (hk : k ≤ 64) :
    Calls Try.prog 44 #[.int .i64 n, .int .i64 k] w fun e w' => e = .returned (.bool (bitAt n k)) ∧ w' = w := by
  go_enter Try.func44, Try.ntmps44
  go_wp2
  go_loop [0, 5] (fun m i => ∃ j : Nat, j ≤ k ∧ i = .int .i64 j ∧ m = .int .i64 (shr n j)) (fun _ i => k - (intOf i).toNat)
  case atStart => exact ⟨0, Nat.zero_le _, rfl, by rw [shr_zero]⟩
  case round =>
    obtain ⟨j, hj, rfl, rfl⟩ := hrel
    have hs := shr_nonneg n j h0
    have hl := shr_le n j h0
    by_cases hlt : j < k
    · have S := hide (shr_succ n j)
      go_wp2
      go_round
      case rel => exact ⟨j + 1, by omega, by go_num, by rw [unhide S]⟩
      case measure => simp [intOf]; omega
    · have e : j = k := by omega
      subst e
      go_wp2
      go_ret
      exact ⟨rfl, rfl⟩
end Go.Proofs.Ytofhiooodgopeaa.AW

namespace Go.Proofs.Ytofhiooodgopeaa.AW
open Go.RowKit Go.Proofs.Ytofhiooodgopeaa.AM
set_option linter.unusedVariables false

set_option maxHeartbeats 400000 in
theorem and_any (x y : Bool) (w : World) : Calls Try.prog 34 #[.bool x, .bool y] w fun e w' => e = .returned (.bool (x && y)) ∧ w' = w := by
  cases x <;> cases y
  all_goals
    go_enter Try.func34, Try.ntmps34
    go_wp2
    go_ret
    exact ⟨rfl, rfl⟩
set_option maxHeartbeats 400000 in
theorem or_any (x y : Bool) (w : World) : Calls Try.prog 35 #[.bool x, .bool y] w fun e w' => e = .returned (.bool (x || y)) ∧ w' = w := by
  cases x <;> cases y
  all_goals
    go_enter Try.func35, Try.ntmps35
    go_wp2
    go_ret
    exact ⟨rfl, rfl⟩
set_option maxHeartbeats 400000 in
theorem xor_any (x y : Bool) (w : World) : Calls Try.prog 36 #[.bool x, .bool y] w fun e w' => e = .returned (.bool (x != y)) ∧ w' = w := by
  cases x <;> cases y
  all_goals
    go_enter Try.func36, Try.ntmps36
    go_wp2
    go_ret
    exact ⟨rfl, rfl⟩

set_option maxHeartbeats 1000000 in
theorem bits_and (a b : Int) (w : World) (h0 : -2147483648 ≤ a) (h1 : a ≤ 2147483647) (h2 : -2147483648 ≤ b) (h3 : b ≤ 2147483647) :
    Calls Try.prog 33 #[.int .i32 a, .int .i32 b, .func (.func 34) #[] #[]] w fun e w' => e = .returned (.int .i32 (bits .and .i32 a b)) ∧ w' = w := by
  have B := hide (acc_and a b)
  generalize bits .and .i32 a b = r at *
  generalize hg : (fun x y : Bool => x && y) = g at B
  have G : Hid (∀ x y : Bool, g x y = (x && y)) := fun x y => by rw [← hg]
  clear hg
  go_enter Try.func33, Try.ntmps33
  go_wp2_with fail
  go_loop [7, 8, 9] (fun n p i => ∃ j : Nat, j ≤ 32 ∧ i = .int .i64 j ∧ n = .int .i64 (acc g (a % 4294967296) (b % 4294967296) j) ∧ p = .int .i64 (pw j)) (fun _ _ i => 32 - (intOf i).toNat)
  case atStart => exact ⟨0, Nat.zero_le _, rfl, rfl, rfl⟩
  case round =>
    obtain ⟨j, hj, rfl, rfl, rfl⟩ := hrel
    have hb := acc_bd g (a % 4294967296) (b % 4294967296) j
    have hp := pw_pos j
    have hq := pw_le j hj
    obtain ⟨hb0, hb1⟩ := hb
    by_cases hlt : j < 32
    · have S := hide (pw_succ j)
      have A : Hid (acc g (a % 4294967296) (b % 4294967296) (j + 1) = acc g (a % 4294967296) (b % 4294967296) j + if g (bitAt (a % 4294967296) j) (bitAt (b % 4294967296) j) then pw j else 0) := rfl
      have C := unhide G (bitAt (a % 4294967296) j) (bitAt (b % 4294967296) j)
      generalize g (bitAt (a % 4294967296) j) (bitAt (b % 4294967296) j) = c at A C
      have C' := hide C
      clear C
      go_wp2_with fail
      refine (free_any _ _ h0 h1).mono ?_
      rintro e w' ⟨rfl, rfl⟩
      go_wp2_with fail
      refine (bit_any _ _ _ (by omega) (by omega) (by omega)).mono ?_
      rintro e w' ⟨rfl, rfl⟩
      go_wp2_with fail
      refine (free_any _ _ h2 h3).mono ?_
      rintro e w' ⟨rfl, rfl⟩
      go_wp2_with fail
      refine (bit_any _ _ _ (by omega) (by omega) (by omega)).mono ?_
      rintro e w' ⟨rfl, rfl⟩
      go_wp2_with fail
      refine (and_any _ _ _).mono ?_
      rintro e w' ⟨rfl, rfl⟩
      rw [← unhide C']
      cases c
      all_goals
        go_wp2
        go_round
        case rel => exact ⟨j + 1, by omega, by go_num, by rw [unhide A]; simp, by rw [unhide S]⟩
        case measure => simp [intOf]; omega
    · have e : j = 32 := by omega
      subst e
      have e : pw 32 = 4294967296 := rfl
      rw [e] at hb1
      clear hp hq hlt e
      go_wp2_with (go_at_call 21; refine (word_any _ _ (by omega) (by omega)).mono ?_; rintro e w' ⟨rfl, rfl⟩)
      go_ret
      exact ⟨ret_int (unhide B), rfl⟩
set_option maxHeartbeats 1000000 in
theorem bits_or (a b : Int) (w : World) (h0 : -2147483648 ≤ a) (h1 : a ≤ 2147483647) (h2 : -2147483648 ≤ b) (h3 : b ≤ 2147483647) :
    Calls Try.prog 33 #[.int .i32 a, .int .i32 b, .func (.func 35) #[] #[]] w fun e w' => e = .returned (.int .i32 (bits .or .i32 a b)) ∧ w' = w := by
  have B := hide (acc_or a b)
  generalize bits .or .i32 a b = r at *
  generalize hg : (fun x y : Bool => x || y) = g at B
  have G : Hid (∀ x y : Bool, g x y = (x || y)) := fun x y => by rw [← hg]
  clear hg
  go_enter Try.func33, Try.ntmps33
  go_wp2_with fail
  go_loop [7, 8, 9] (fun n p i => ∃ j : Nat, j ≤ 32 ∧ i = .int .i64 j ∧ n = .int .i64 (acc g (a % 4294967296) (b % 4294967296) j) ∧ p = .int .i64 (pw j)) (fun _ _ i => 32 - (intOf i).toNat)
  case atStart => exact ⟨0, Nat.zero_le _, rfl, rfl, rfl⟩
  case round =>
    obtain ⟨j, hj, rfl, rfl, rfl⟩ := hrel
    have hb := acc_bd g (a % 4294967296) (b % 4294967296) j
    have hp := pw_pos j
    have hq := pw_le j hj
    obtain ⟨hb0, hb1⟩ := hb
    by_cases hlt : j < 32
    · have S := hide (pw_succ j)
      have A : Hid (acc g (a % 4294967296) (b % 4294967296) (j + 1) = acc g (a % 4294967296) (b % 4294967296) j + if g (bitAt (a % 4294967296) j) (bitAt (b % 4294967296) j) then pw j else 0) := rfl
      have C := unhide G (bitAt (a % 4294967296) j) (bitAt (b % 4294967296) j)
      generalize g (bitAt (a % 4294967296) j) (bitAt (b % 4294967296) j) = c at A C
      have C' := hide C
      clear C
      go_wp2_with fail
      refine (free_any _ _ h0 h1).mono ?_
      rintro e w' ⟨rfl, rfl⟩
      go_wp2_with fail
      refine (bit_any _ _ _ (by omega) (by omega) (by omega)).mono ?_
      rintro e w' ⟨rfl, rfl⟩
      go_wp2_with fail
      refine (free_any _ _ h2 h3).mono ?_
      rintro e w' ⟨rfl, rfl⟩
      go_wp2_with fail
      refine (bit_any _ _ _ (by omega) (by omega) (by omega)).mono ?_
      rintro e w' ⟨rfl, rfl⟩
      go_wp2_with fail
      refine (or_any _ _ _).mono ?_
      rintro e w' ⟨rfl, rfl⟩
      rw [← unhide C']
      cases c
      all_goals
        go_wp2
        go_round
        case rel => exact ⟨j + 1, by omega, by go_num, by rw [unhide A]; simp, by rw [unhide S]⟩
        case measure => simp [intOf]; omega
    · have e : j = 32 := by omega
      subst e
      have e : pw 32 = 4294967296 := rfl
      rw [e] at hb1
      clear hp hq hlt e
      go_wp2_with (go_at_call 21; refine (word_any _ _ (by omega) (by omega)).mono ?_; rintro e w' ⟨rfl, rfl⟩)
      go_ret
      exact ⟨ret_int (unhide B), rfl⟩
set_option maxHeartbeats 1000000 in
theorem bits_xor (a b : Int) (w : World) (h0 : -2147483648 ≤ a) (h1 : a ≤ 2147483647) (h2 : -2147483648 ≤ b) (h3 : b ≤ 2147483647) :
    Calls Try.prog 33 #[.int .i32 a, .int .i32 b, .func (.func 36) #[] #[]] w fun e w' => e = .returned (.int .i32 (bits .xor .i32 a b)) ∧ w' = w := by
  have B := hide (acc_xor a b)
  generalize bits .xor .i32 a b = r at *
  generalize hg : (fun x y : Bool => x != y) = g at B
  have G : Hid (∀ x y : Bool, g x y = (x != y)) := fun x y => by rw [← hg]
  clear hg
  go_enter Try.func33, Try.ntmps33
  go_wp2_with fail
  go_loop [7, 8, 9] (fun n p i => ∃ j : Nat, j ≤ 32 ∧ i = .int .i64 j ∧ n = .int .i64 (acc g (a % 4294967296) (b % 4294967296) j) ∧ p = .int .i64 (pw j)) (fun _ _ i => 32 - (intOf i).toNat)
  case atStart => exact ⟨0, Nat.zero_le _, rfl, rfl, rfl⟩
  case round =>
    obtain ⟨j, hj, rfl, rfl, rfl⟩ := hrel
    have hb := acc_bd g (a % 4294967296) (b % 4294967296) j
    have hp := pw_pos j
    have hq := pw_le j hj
    obtain ⟨hb0, hb1⟩ := hb
    by_cases hlt : j < 32
    · have S := hide (pw_succ j)
      have A : Hid (acc g (a % 4294967296) (b % 4294967296) (j + 1) = acc g (a % 4294967296) (b % 4294967296) j + if g (bitAt (a % 4294967296) j) (bitAt (b % 4294967296) j) then pw j else 0) := rfl
      have C := unhide G (bitAt (a % 4294967296) j) (bitAt (b % 4294967296) j)
      generalize g (bitAt (a % 4294967296) j) (bitAt (b % 4294967296) j) = c at A C
      have C' := hide C
      clear C
      go_wp2_with fail
      refine (free_any _ _ h0 h1).mono ?_
      rintro e w' ⟨rfl, rfl⟩
      go_wp2_with fail
      refine (bit_any _ _ _ (by omega) (by omega) (by omega)).mono ?_
      rintro e w' ⟨rfl, rfl⟩
      go_wp2_with fail
      refine (free_any _ _ h2 h3).mono ?_
      rintro e w' ⟨rfl, rfl⟩
      go_wp2_with fail
      refine (bit_any _ _ _ (by omega) (by omega) (by omega)).mono ?_
      rintro e w' ⟨rfl, rfl⟩
      go_wp2_with fail
      refine (xor_any _ _ _).mono ?_
      rintro e w' ⟨rfl, rfl⟩
      rw [← unhide C']
      cases c
      all_goals
        go_wp2
        go_round
        case rel => exact ⟨j + 1, by omega, by go_num, by rw [unhide A]; simp, by rw [unhide S]⟩
        case measure => simp [intOf]; omega
    · have e : j = 32 := by omega
      subst e
      have e : pw 32 = 4294967296 := rfl
      rw [e] at hb1
      clear hp hq hlt e
      go_wp2_with (go_at_call 21; refine (word_any _ _ (by omega) (by omega)).mono ?_; rintro e w' ⟨rfl, rfl⟩)
      go_ret
      exact ⟨ret_int (unhide B), rfl⟩
end Go.Proofs.Ytofhiooodgopeaa.AW

namespace Go.Proofs.Ytofhiooodgopeaa.AW
open Go.RowKit Go.Proofs.Ytofhiooodgopeaa.AM
set_option linter.unusedVariables false

def opN (op a b : Int) : Int :=
  if op = 1 then wrap32 (a + b)
  else if op = 2 then wrap32 (a - b)
  else if op = 3 then wrap32 (a * b)
  else if op = 4 then wrap32 ((a % 4294967296) * (b % 4294967296) / 4294967296)
  else if op = 5 then (if b = 0 then 0 else wrap32 (a.tdiv b))
  else if op = 6 then (if b = 0 then 0 else a.tmod b)
  else if op = 7 then bits .and .i32 a b
  else if op = 8 then bits .or .i32 a b
  else if op = 9 then bits .xor .i32 a b
  else if op = 10 then (if a < b then 1 else 0)
  else if op = 11 then (if a % 4294967296 < b % 4294967296 then 1 else 0)
  else if op = 12 then (if a = b then 1 else 0)
  else 0
def opB (op b : Int) : Bool :=
  if op = 5 then (if b = 0 then false else true)
  else if op = 6 then (if b = 0 then false else true)
  else if 1 ≤ op ∧ op ≤ 12 then true else false

set_option maxHeartbeats 1000000 in
theorem wop1 (a b : Int) (w : World) (h0 : -2147483648 ≤ a) (h1 : a ≤ 2147483647) (h2 : -2147483648 ≤ b) (h3 : b ≤ 2147483647) :
    Calls Try.prog 46 #[.int .i64 1, .int .i32 a, .int .i32 b] w fun e w' => e = .returned (.tuple #[.int .i32 (opN 1 a b), .bool (opB 1 b)]) ∧ w' = w := by
  go_enter Try.func46, Try.ntmps46
  go_wp2
  go_ret2
  exact ⟨ret_int_bool (rfl) rfl, rfl⟩
set_option maxHeartbeats 1000000 in
theorem wop2 (a b : Int) (w : World) (h0 : -2147483648 ≤ a) (h1 : a ≤ 2147483647) (h2 : -2147483648 ≤ b) (h3 : b ≤ 2147483647) :
    Calls Try.prog 46 #[.int .i64 2, .int .i32 a, .int .i32 b] w fun e w' => e = .returned (.tuple #[.int .i32 (opN 2 a b), .bool (opB 2 b)]) ∧ w' = w := by
  go_enter Try.func46, Try.ntmps46
  go_wp2
  go_ret2
  exact ⟨ret_int_bool (rfl) rfl, rfl⟩
set_option maxHeartbeats 1000000 in
theorem wop3 (a b : Int) (w : World) (h0 : -2147483648 ≤ a) (h1 : a ≤ 2147483647) (h2 : -2147483648 ≤ b) (h3 : b ≤ 2147483647) :
    Calls Try.prog 46 #[.int .i64 3, .int .i32 a, .int .i32 b] w fun e w' => e = .returned (.tuple #[.int .i32 (opN 3 a b), .bool (opB 3 b)]) ∧ w' = w := by
  go_enter Try.func46, Try.ntmps46
  go_wp2
  go_ret2
  exact ⟨ret_int_bool (rfl) rfl, rfl⟩
set_option maxHeartbeats 1000000 in
theorem wop4 (a b : Int) (w : World) (h0 : -2147483648 ≤ a) (h1 : a ≤ 2147483647) (h2 : -2147483648 ≤ b) (h3 : b ≤ 2147483647) :
    Calls Try.prog 46 #[.int .i64 4, .int .i32 a, .int .i32 b] w fun e w' => e = .returned (.tuple #[.int .i32 (opN 4 a b), .bool (opB 4 b)]) ∧ w' = w := by
  obtain ⟨p0, p1⟩ := mul_bound (x := a % 4294967296) (y := b % 4294967296) (m := 4294967295) (k := 4294967295) (by omega) (by omega) (by omega) (by omega)
  go_enter Try.func46, Try.ntmps46
  go_wp2
  go_ret2
  exact ⟨ret_int_bool (rfl) rfl, rfl⟩
set_option maxHeartbeats 1000000 in
theorem wop5 (a b : Int) (w : World) (h0 : -2147483648 ≤ a) (h1 : a ≤ 2147483647) (h2 : -2147483648 ≤ b) (h3 : b ≤ 2147483647) :
    Calls Try.prog 46 #[.int .i64 5, .int .i32 a, .int .i32 b] w fun e w' => e = .returned (.tuple #[.int .i32 (opN 5 a b), .bool (opB 5 b)]) ∧ w' = w := by
  by_cases c : b = 0
  · go_enter Try.func46, Try.ntmps46
    go_wp2
    go_ret2
    exact ⟨ret_int_bool (by simp [opN, c]) (by simp [opB, c]), rfl⟩
  · have hb : (b == 0) = false := beq_eq_false_iff_ne.2 c
    go_enter Try.func46, Try.ntmps46
    go_wp2
    go_ret2
    exact ⟨ret_int_bool (by simp [opN, c]) (by simp [opB, c]), rfl⟩
set_option maxHeartbeats 1000000 in
theorem wop6 (a b : Int) (w : World) (h0 : -2147483648 ≤ a) (h1 : a ≤ 2147483647) (h2 : -2147483648 ≤ b) (h3 : b ≤ 2147483647) :
    Calls Try.prog 46 #[.int .i64 6, .int .i32 a, .int .i32 b] w fun e w' => e = .returned (.tuple #[.int .i32 (opN 6 a b), .bool (opB 6 b)]) ∧ w' = w := by
  by_cases c : b = 0
  · go_enter Try.func46, Try.ntmps46
    go_wp2
    go_ret2
    exact ⟨ret_int_bool (by simp [opN, c]) (by simp [opB, c]), rfl⟩
  · have hb : (b == 0) = false := beq_eq_false_iff_ne.2 c
    go_enter Try.func46, Try.ntmps46
    go_wp2
    go_ret2
    exact ⟨ret_int_bool (by simp [opN, c]) (by simp [opB, c]), rfl⟩
set_option maxHeartbeats 1000000 in
theorem wop7 (a b : Int) (w : World) (h0 : -2147483648 ≤ a) (h1 : a ≤ 2147483647) (h2 : -2147483648 ≤ b) (h3 : b ≤ 2147483647) :
    Calls Try.prog 46 #[.int .i64 7, .int .i32 a, .int .i32 b] w fun e w' => e = .returned (.tuple #[.int .i32 (opN 7 a b), .bool (opB 7 b)]) ∧ w' = w := by
  go_enter Try.func46, Try.ntmps46
  go_wp2
  go_ret2
  exact ⟨ret_int_bool (rfl) rfl, rfl⟩
set_option maxHeartbeats 1000000 in
theorem wop8 (a b : Int) (w : World) (h0 : -2147483648 ≤ a) (h1 : a ≤ 2147483647) (h2 : -2147483648 ≤ b) (h3 : b ≤ 2147483647) :
    Calls Try.prog 46 #[.int .i64 8, .int .i32 a, .int .i32 b] w fun e w' => e = .returned (.tuple #[.int .i32 (opN 8 a b), .bool (opB 8 b)]) ∧ w' = w := by
  go_enter Try.func46, Try.ntmps46
  go_wp2
  go_ret2
  exact ⟨ret_int_bool (rfl) rfl, rfl⟩
set_option maxHeartbeats 1000000 in
theorem wop9 (a b : Int) (w : World) (h0 : -2147483648 ≤ a) (h1 : a ≤ 2147483647) (h2 : -2147483648 ≤ b) (h3 : b ≤ 2147483647) :
    Calls Try.prog 46 #[.int .i64 9, .int .i32 a, .int .i32 b] w fun e w' => e = .returned (.tuple #[.int .i32 (opN 9 a b), .bool (opB 9 b)]) ∧ w' = w := by
  go_enter Try.func46, Try.ntmps46
  go_wp2
  go_ret2
  exact ⟨ret_int_bool (rfl) rfl, rfl⟩
set_option maxHeartbeats 1000000 in
theorem wop10 (a b : Int) (w : World) (h0 : -2147483648 ≤ a) (h1 : a ≤ 2147483647) (h2 : -2147483648 ≤ b) (h3 : b ≤ 2147483647) :
    Calls Try.prog 46 #[.int .i64 10, .int .i32 a, .int .i32 b] w fun e w' => e = .returned (.tuple #[.int .i32 (opN 10 a b), .bool (opB 10 b)]) ∧ w' = w := by
  by_cases c : a < b
  · go_enter Try.func46, Try.ntmps46
    go_wp2
    go_ret2
    exact ⟨ret_int_bool (by simp [opN, c]) (rfl), rfl⟩
  · go_enter Try.func46, Try.ntmps46
    go_wp2
    go_ret2
    exact ⟨ret_int_bool (by simp [opN]; omega) (rfl), rfl⟩
set_option maxHeartbeats 1000000 in
theorem wop11 (a b : Int) (w : World) (h0 : -2147483648 ≤ a) (h1 : a ≤ 2147483647) (h2 : -2147483648 ≤ b) (h3 : b ≤ 2147483647) :
    Calls Try.prog 46 #[.int .i64 11, .int .i32 a, .int .i32 b] w fun e w' => e = .returned (.tuple #[.int .i32 (opN 11 a b), .bool (opB 11 b)]) ∧ w' = w := by
  by_cases c : a % 4294967296 < b % 4294967296
  · go_enter Try.func46, Try.ntmps46
    go_wp2
    go_ret2
    exact ⟨ret_int_bool (by simp [opN, c]) (rfl), rfl⟩
  · go_enter Try.func46, Try.ntmps46
    go_wp2
    go_ret2
    exact ⟨ret_int_bool (by simp [opN]; omega) (rfl), rfl⟩
set_option maxHeartbeats 1000000 in
theorem wop12 (a b : Int) (w : World) (h0 : -2147483648 ≤ a) (h1 : a ≤ 2147483647) (h2 : -2147483648 ≤ b) (h3 : b ≤ 2147483647) :
    Calls Try.prog 46 #[.int .i64 12, .int .i32 a, .int .i32 b] w fun e w' => e = .returned (.tuple #[.int .i32 (opN 12 a b), .bool (opB 12 b)]) ∧ w' = w := by
  by_cases c : a = b
  · go_enter Try.func46, Try.ntmps46
    go_wp2
    go_ret2
    exact ⟨ret_int_bool (by simp [opN, c]) (rfl), rfl⟩
  · have hb : (a == b) = false := beq_eq_false_iff_ne.2 c
    go_enter Try.func46, Try.ntmps46
    go_wp2
    go_ret2
    exact ⟨ret_int_bool (by simp [opN, c]) (rfl), rfl⟩
set_option maxHeartbeats 1000000 in
theorem wopx (op a b : Int) (w : World) (h0 : -2147483648 ≤ a) (h1 : a ≤ 2147483647) (h2 : -2147483648 ≤ b) (h3 : b ≤ 2147483647) (h : ¬ (1 ≤ op ∧ op ≤ 12)) :
    Calls Try.prog 46 #[.int .i64 op, .int .i32 a, .int .i32 b] w fun e w' => e = .returned (.tuple #[.int .i32 (opN op a b), .bool (opB op b)]) ∧ w' = w := by
  have F1 : opN op a b = 0 := by unfold opN; repeat (rw [if_neg (by omega)])
  have F2 : opB op b = false := by unfold opB; repeat (rw [if_neg (by omega)])
  rw [F1, F2]
  clear F1 F2
  have c1 : (op == 1) = false := beq_eq_false_iff_ne.2 (by omega)
  have c2 : (op == 2) = false := beq_eq_false_iff_ne.2 (by omega)
  have c3 : (op == 3) = false := beq_eq_false_iff_ne.2 (by omega)
  have c4 : (op == 4) = false := beq_eq_false_iff_ne.2 (by omega)
  have c5 : (op == 5) = false := beq_eq_false_iff_ne.2 (by omega)
  have c6 : (op == 6) = false := beq_eq_false_iff_ne.2 (by omega)
  have c7 : (op == 7) = false := beq_eq_false_iff_ne.2 (by omega)
  have c8 : (op == 8) = false := beq_eq_false_iff_ne.2 (by omega)
  have c9 : (op == 9) = false := beq_eq_false_iff_ne.2 (by omega)
  have c10 : (op == 10) = false := beq_eq_false_iff_ne.2 (by omega)
  have c11 : (op == 11) = false := beq_eq_false_iff_ne.2 (by omega)
  have c12 : (op == 12) = false := beq_eq_false_iff_ne.2 (by omega)
  clear h
  go_enter Try.func46, Try.ntmps46
  go_wp2
  go_ret2
  exact ⟨rfl, rfl⟩

theorem wop_any (op a b : Int) (w : World) (h0 : -2147483648 ≤ a) (h1 : a ≤ 2147483647) (h2 : -2147483648 ≤ b) (h3 : b ≤ 2147483647) :
    Calls Try.prog 46 #[.int .i64 op, .int .i32 a, .int .i32 b] w fun e w' => e = .returned (.tuple #[.int .i32 (opN op a b), .bool (opB op b)]) ∧ w' = w := by
  by_cases c1 : op = 1
  · subst c1; exact wop1 a b w h0 h1 h2 h3
  by_cases c2 : op = 2
  · subst c2; exact wop2 a b w h0 h1 h2 h3
  by_cases c3 : op = 3
  · subst c3; exact wop3 a b w h0 h1 h2 h3
  by_cases c4 : op = 4
  · subst c4; exact wop4 a b w h0 h1 h2 h3
  by_cases c5 : op = 5
  · subst c5; exact wop5 a b w h0 h1 h2 h3
  by_cases c6 : op = 6
  · subst c6; exact wop6 a b w h0 h1 h2 h3
  by_cases c7 : op = 7
  · subst c7; exact wop7 a b w h0 h1 h2 h3
  by_cases c8 : op = 8
  · subst c8; exact wop8 a b w h0 h1 h2 h3
  by_cases c9 : op = 9
  · subst c9; exact wop9 a b w h0 h1 h2 h3
  by_cases c10 : op = 10
  · subst c10; exact wop10 a b w h0 h1 h2 h3
  by_cases c11 : op = 11
  · subst c11; exact wop11 a b w h0 h1 h2 h3
  by_cases c12 : op = 12
  · subst c12; exact wop12 a b w h0 h1 h2 h3
  exact wopx op a b w h0 h1 h2 h3 (by omega)
end Go.Proofs.Ytofhiooodgopeaa.AW
