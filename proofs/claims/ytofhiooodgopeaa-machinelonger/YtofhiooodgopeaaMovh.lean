/- movh as bits and as a sum. -/
import Derived.Test.YtofhiooodgopeaaAMath
namespace Go.Proofs.Ytofhiooodgopeaa.V
open Go.RowKit
theorem and_low (x : Nat) : x &&& 65535 = x % 65536 := Nat.and_two_pow_sub_one_eq_mod x 16
theorem movh_eq (m x : Int) (m0 : 0 ≤ m) (m1 : m ≤ 65535) : bits .or .i32 (wrap32 (m * 65536)) (bits .and .i32 x 65535) = wrap32 (m * 65536 + x % 65536) := by
  have e1 : bits .and .i32 x 65535 = x % 65536 := by
    have e0 : ((65535 : Int) % 4294967296).toNat = 65535 := by decide
    rw [(AM.bits32 _ _).1, e0, and_low, AM.w32]
    omega
  rw [e1, (AM.bits32 _ _).2.1]
  have e2 : (wrap32 (m * 65536) % 4294967296).toNat = m.toNat * 65536 := by rw [AM.w32]; omega
  have e3 : (x % 65536 % 4294967296).toNat = (x % 65536).toNat := by omega
  have e4 : m.toNat * 65536 ||| (x % 65536).toNat = m.toNat * 65536 + (x % 65536).toNat := nat_join 16 _ _ (by omega) (by omega)
  rw [e2, e3, e4]
  have e5 : ((m.toNat * 65536 + (x % 65536).toNat : Nat) : Int) = m * 65536 + x % 65536 := by omega
  rw [e5]
end Go.Proofs.Ytofhiooodgopeaa.V
