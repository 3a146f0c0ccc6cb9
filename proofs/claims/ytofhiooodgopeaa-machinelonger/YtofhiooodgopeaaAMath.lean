/- Plain facts on words and longs as whole numbers: remainders, halves, products by halves of sixteen bits, and bits. No program is in sight. -/
import Derived.WalkKit
import Derived.Laws.BitsAllLaws
namespace Go.Proofs.Ytofhiooodgopeaa.AM
open Go.RowKit

theorem hide {p : Prop} (h : p) : Hid p := h
theorem unhide {p : Prop} (h : Hid p) : p := h
theorem w32 (n : Int) : wrap32 n = (n + 2147483648) % 4294967296 - 2147483648 := by unfold wrap32; rfl
theorem w64 (n : Int) : wrap64 n = (n + 9223372036854775808) % 18446744073709551616 - 9223372036854775808 := by unfold wrap64; rfl

theorem tmod32 (n : Int) : n.tmod 4294967296 = if 0 ≤ n then n % 4294967296 else -((-n) % 4294967296) := by
  split
  · exact Int.tmod_eq_emod_of_nonneg (by assumption)
  · have h := Int.neg_tmod (-n) 4294967296
    rw [Int.neg_neg] at h
    rw [h, Int.tmod_eq_emod_of_nonneg (by omega)]

/-- What is left when the lower half is taken off is the upper half, and nothing over. -/
theorem tdiv_half (n : Int) : (n - n % 4294967296).tdiv 4294967296 = n / 4294967296 := by
  have h : n - n % 4294967296 = 4294967296 * (n / 4294967296) := by omega
  rw [h]
  exact Int.mul_tdiv_cancel_left _ (by omega)

theorem mul_bound {x y m k : Int} (hx : 0 ≤ x) (hy : 0 ≤ y) (hm : x ≤ m) (hk : y ≤ k) : 0 ≤ x * y ∧ x * y ≤ m * k :=
  ⟨Int.mul_nonneg hx hy, Int.mul_le_mul hm hk hy (by omega)⟩

/-- The product of two numbers out of the four products of their halves. -/
theorem mul_halves (c ah al bh bl : Int) : (ah * c + al) * (bh * c + bl) = ah * bh * (c * c) + (al * bh + ah * bl) * c + al * bl := by
  simp only [Int.mul_add, Int.mul_comm, Int.mul_left_comm]
  simp only [← Int.add_assoc]

theorem product_eq (a b : Int) :
    ((a / 65536 * (b % 65536) + (a % 65536 * (b / 65536) + a % 65536 * (b % 65536) / 65536) % 65536) % 65536 * 65536 + a % 65536 * (b % 65536) % 65536)
      + 4294967296 * (a / 65536 * (b / 65536) + (a % 65536 * (b / 65536) + a % 65536 * (b % 65536) / 65536) / 65536
          + (a / 65536 * (b % 65536) + (a % 65536 * (b / 65536) + a % 65536 * (b % 65536) / 65536) % 65536) / 65536) = a * b := by
  have h := mul_halves 65536 (a / 65536) (a % 65536) (b / 65536) (b % 65536)
  have ha : a / 65536 * 65536 + a % 65536 = a := by omega
  have hb : b / 65536 * 65536 + b % 65536 = b := by omega
  rw [ha, hb] at h
  rw [h]
  generalize a / 65536 * (b / 65536) = p
  generalize a / 65536 * (b % 65536) = q
  generalize a % 65536 * (b / 65536) = r
  generalize a % 65536 * (b % 65536) = s
  omega

/-! ### Bits -/
def shr (n : Int) (j : Nat) : Int := n / 2 ^ j
theorem shr_zero (n : Int) : shr n 0 = n := by simp [shr]
theorem shr_succ (n : Int) (j : Nat) : shr n j / 2 = shr n (j + 1) := by
  unfold shr
  rw [Int.ediv_ediv_of_nonneg (Int.pow_nonneg (by omega)), Int.pow_succ]
theorem shr_nonneg (n : Int) (j : Nat) (h : 0 ≤ n) : 0 ≤ shr n j := Int.ediv_nonneg h (Int.pow_nonneg (by omega))
theorem shr_le (n : Int) (j : Nat) (h : 0 ≤ n) : shr n j ≤ n := Int.ediv_le_self _ h
def bitAt (n : Int) (j : Nat) : Bool := shr n j % 2 == 1
def pw (j : Nat) : Int := 2 ^ j
theorem pw_zero : pw 0 = 1 := rfl
theorem pw_succ (j : Nat) : 2 * pw j = pw (j + 1) := by unfold pw; rw [Int.pow_succ]; omega
theorem pw_pos (j : Nat) : 0 < pw j := Int.pow_pos (by omega)
theorem pw_le (j : Nat) (h : j ≤ 32) : pw j ≤ 4294967296 := by
  have := Nat.pow_le_pow_right (n := 2) (by omega) h
  have e : pw j = ((2 ^ j : Nat) : Int) := by unfold pw; simp
  rw [e]; omega
def acc (g : Bool → Bool → Bool) (x y : Int) : Nat → Int
  | 0 => 0
  | j + 1 => acc g x y j + if g (bitAt x j) (bitAt y j) then pw j else 0
theorem acc_bd (g : Bool → Bool → Bool) (x y : Int) (j : Nat) : 0 ≤ acc g x y j ∧ acc g x y j < pw j := by
  induction j with
  | zero => exact ⟨Int.le_refl _, by simp [acc, pw]⟩
  | succ j ih =>
    have h := pw_succ j
    have h' := pw_pos j
    unfold acc
    split <;> omega
theorem bitAt_nat (n j : Nat) : bitAt (n : Int) j = n.testBit j := by
  rw [Nat.testBit_eq_decide_div_mod_eq]
  unfold bitAt shr
  have e : (n : Int) / 2 ^ j % 2 = ((n / 2 ^ j % 2 : Nat) : Int) := by simp
  rw [e]
  by_cases h : n / 2 ^ j % 2 = 1 <;> simp [h]
  omega
theorem acc_mod (g : Bool → Bool → Bool) (x y n : Nat) (h : ∀ i, n.testBit i = g (x.testBit i) (y.testBit i)) (j : Nat) :
    acc g x y j = ((n % 2 ^ j : Nat) : Int) := by
  induction j with
  | zero => simp [acc, Nat.mod_one]
  | succ j ih =>
    unfold acc
    rw [ih, Nat.mod_pow_succ, bitAt_nat, bitAt_nat, ← h, Nat.testBit_eq_decide_div_mod_eq]
    by_cases hb : n / 2 ^ j % 2 = 1
    · simp [pw, hb]
    · have h0 : n / 2 ^ j % 2 = 0 := by omega
      simp [h0]

theorem bits32 (x y : Int) : bits .and .i32 x y = wrap32 (((x % 4294967296).toNat &&& (y % 4294967296).toNat : Nat) : Int)
    ∧ bits .or .i32 x y = wrap32 (((x % 4294967296).toNat ||| (y % 4294967296).toNat : Nat) : Int)
    ∧ bits .xor .i32 x y = wrap32 (((x % 4294967296).toNat ^^^ (y % 4294967296).toNat : Nat) : Int) := by
  refine ⟨?_, ?_, ?_⟩
  · rw [← IntWalk.i32_left]
    show IntKind.i32.wrap (((BitVec.ofInt 32 x &&& BitVec.ofInt 32 y).toNat : Nat) : Int) = _
    rw [BitVec.toNat_and, BitVec.toNat_ofInt, BitVec.toNat_ofInt]
    rfl
  · rw [← IntWalk.i32_left]
    show IntKind.i32.wrap (((BitVec.ofInt 32 x ||| BitVec.ofInt 32 y).toNat : Nat) : Int) = _
    rw [BitVec.toNat_or, BitVec.toNat_ofInt, BitVec.toNat_ofInt]
    rfl
  · rw [← IntWalk.i32_left]
    show IntKind.i32.wrap (((BitVec.ofInt 32 x ^^^ BitVec.ofInt 32 y).toNat : Nat) : Int) = _
    rw [BitVec.toNat_xor, BitVec.toNat_ofInt, BitVec.toNat_ofInt]
    rfl
theorem bits64 (x y : Int) : bits .and .i64 x y = wrap64 (((x % 18446744073709551616).toNat &&& (y % 18446744073709551616).toNat : Nat) : Int)
    ∧ bits .or .i64 x y = wrap64 (((x % 18446744073709551616).toNat ||| (y % 18446744073709551616).toNat : Nat) : Int)
    ∧ bits .xor .i64 x y = wrap64 (((x % 18446744073709551616).toNat ^^^ (y % 18446744073709551616).toNat : Nat) : Int) := by
  refine ⟨?_, ?_, ?_⟩
  · rw [← IntWalk.i64_left]
    show IntKind.i64.wrap (((BitVec.ofInt 64 x &&& BitVec.ofInt 64 y).toNat : Nat) : Int) = _
    rw [BitVec.toNat_and, BitVec.toNat_ofInt, BitVec.toNat_ofInt]
    rfl
  · rw [← IntWalk.i64_left]
    show IntKind.i64.wrap (((BitVec.ofInt 64 x ||| BitVec.ofInt 64 y).toNat : Nat) : Int) = _
    rw [BitVec.toNat_or, BitVec.toNat_ofInt, BitVec.toNat_ofInt]
    rfl
  · rw [← IntWalk.i64_left]
    show IntKind.i64.wrap (((BitVec.ofInt 64 x ^^^ BitVec.ofInt 64 y).toNat : Nat) : Int) = _
    rw [BitVec.toNat_xor, BitVec.toNat_ofInt, BitVec.toNat_ofInt]
    rfl

/-- Two halves side by side: 'or' is their sum. -/
theorem join_or (low high : Int) (h2 : -2147483648 ≤ high) (h3 : high ≤ 2147483647) :
    bits .or .i64 (high * 4294967296) (low % 4294967296) = high * 4294967296 + low % 4294967296 := by
  rw [(bits64 _ _).2.1, nat_join 32 _ _ (by omega) (by omega), w64]
  omega

/-- The bits of words by a sum over their places. -/
theorem acc_and (a b : Int) : wrap32 (acc (fun x y => x && y) (a % 4294967296) (b % 4294967296) 32) = bits .and .i32 a b := by
  have ha : a % 4294967296 = ((a % 4294967296).toNat : Int) := by omega
  have hb : b % 4294967296 = ((b % 4294967296).toNat : Int) := by omega
  have hn := Nat.and_lt_two_pow (n := 32) (a % 4294967296).toNat (y := (b % 4294967296).toNat) (by omega)
  rw [(bits32 a b).1, ha, hb, acc_mod _ _ _ ((a % 4294967296).toNat &&& (b % 4294967296).toNat) (fun i => Nat.testBit_and ..), Nat.mod_eq_of_lt hn]
  rfl
theorem acc_or (a b : Int) : wrap32 (acc (fun x y => x || y) (a % 4294967296) (b % 4294967296) 32) = bits .or .i32 a b := by
  have ha : a % 4294967296 = ((a % 4294967296).toNat : Int) := by omega
  have hb : b % 4294967296 = ((b % 4294967296).toNat : Int) := by omega
  have hn := Nat.or_lt_two_pow (n := 32) (x := (a % 4294967296).toNat) (y := (b % 4294967296).toNat) (by omega) (by omega)
  rw [(bits32 a b).2.1, ha, hb, acc_mod _ _ _ ((a % 4294967296).toNat ||| (b % 4294967296).toNat) (fun i => Nat.testBit_or ..), Nat.mod_eq_of_lt hn]
  rfl
theorem acc_xor (a b : Int) : wrap32 (acc (fun x y => x != y) (a % 4294967296) (b % 4294967296) 32) = bits .xor .i32 a b := by
  have ha : a % 4294967296 = ((a % 4294967296).toNat : Int) := by omega
  have hb : b % 4294967296 = ((b % 4294967296).toNat : Int) := by omega
  have hn := Nat.xor_lt_two_pow (n := 32) (x := (a % 4294967296).toNat) (y := (b % 4294967296).toNat) (by omega) (by omega)
  rw [(bits32 a b).2.2, ha, hb, acc_mod _ _ _ ((a % 4294967296).toNat ^^^ (b % 4294967296).toNat) (fun i => Nat.testBit_xor ..), Nat.mod_eq_of_lt hn]
  rfl
end Go.Proofs.Ytofhiooodgopeaa.AM
