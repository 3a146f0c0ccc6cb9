/- Bits side by side are sums; the lower bits are what remains. No program. -/
import Derived.Test.YthbhlmbhnidbhaaMath
import Derived.WalkKit
namespace Go.Proofs.Ythbhlmbhnidbhaa.M
open Go.RowKit
theorem or_sum (x y : Int) (n : Nat) (N : Int) (hN : ((2 ^ n : Nat) : Int) = N) (hx : 0 ≤ x) (hX : x * N < 4294967296) (hy : 0 ≤ y) (hY : y < N) (hl : N ≤ 4294967296) :
    bits .or .u32 (x * N) y = x * N + y := by
  have hxN : 0 ≤ x * N := Int.mul_nonneg hx (by omega)
  rw [u32_or _ _ hxN hX hy (by omega)]
  obtain ⟨X, rfl⟩ := Int.eq_ofNat_of_zero_le hx
  obtain ⟨Y, rfl⟩ := Int.eq_ofNat_of_zero_le hy
  subst hN
  have e : ((X : Int) * ((2 ^ n : Nat) : Int)).toNat = 2 ^ n * X := by
    rw [← Int.natCast_mul, Int.toNat_natCast, Nat.mul_comm]
  rw [e, Int.toNat_natCast, ← Nat.two_pow_add_eq_or_of_lt (by omega) X, Int.natCast_add, Int.natCast_mul, Int.mul_comm]
theorem enc_bits (op a b low : Int) (h1 : 0 ≤ op) (h2 : op ≤ 255) (h3 : 0 ≤ a) (h4 : a ≤ 15) (h5 : 0 ≤ b) (h6 : b ≤ 15) (h7 : 0 ≤ low) (h8 : low < 65536) :
    bits .or .u32 (bits .or .u32 (bits .or .u32 (op * 16777216) (a * 1048576)) (b * 65536)) low = ((op * 16 + a) * 16 + b) * 65536 + low := by
  rw [or_sum op (a * 1048576) 24 16777216 (by decide) h1 (by omega) (by omega) (by omega) (by omega)]
  rw [show op * 16777216 + a * 1048576 = (op * 16 + a) * 1048576 by omega]
  rw [or_sum _ (b * 65536) 20 1048576 (by decide) (by omega) (by omega) (by omega) (by omega) (by omega)]
  rw [show (op * 16 + a) * 1048576 + b * 65536 = ((op * 16 + a) * 16 + b) * 65536 by omega]
  rw [or_sum _ low 16 65536 (by decide) (by omega) (by omega) (by omega) (by omega) (by omega)]
theorem u16_wrap (n : Int) : IntKind.u16.wrap n = n % 65536 := by
  rfl
theorem and_low (x : Int) (n : Nat) (N : Int) (hN : ((2 ^ n : Nat) : Int) = N) (h0 : 0 ≤ x) (h1 : x < 4294967296) (h2 : 1 ≤ N) (h3 : N ≤ 4294967296) : bits .and .u32 x (N - 1) = x % N := by
  rw [u32_and _ _ h0 h1 (by omega) (by omega)]
  obtain ⟨X, rfl⟩ := Int.eq_ofNat_of_zero_le h0
  subst hN
  rw [show (((2 ^ n : Nat) : Int) - 1).toNat = 2 ^ n - 1 by omega, Int.toNat_natCast, Nat.and_two_pow_sub_one_eq_mod]
  exact Int.natCast_emod X (2 ^ n)
theorem and_15 (x : Int) (h0 : 0 ≤ x) (h1 : x < 4294967296) : bits .and .u32 x 15 = x % 16 := and_low x 4 16 (by decide) h0 h1 (by omega) (by omega)
theorem and_16 (x : Int) (h0 : 0 ≤ x) (h1 : x < 4294967296) : bits .and .u32 x 65535 = x % 65536 := and_low x 16 65536 (by decide) h0 h1 (by omega) (by omega)
end Go.Proofs.Ythbhlmbhnidbhaa.M
