/- Comp's steps, a letter each. No program. -/
import Derived.Test.YtplenmhkhaoapaaDoorComp
namespace Go.Proofs.YtplenmhkhaoapaaDoor.M
theorem Comp.regA {sl : List UInt8} {o : Int} {kd k p : Nat} {a b c m : Int} (hkd : kind o = kd) (h : Comp sl o k p true a b c m) (hk : k < (fl kd).size) (hr : ((fl kd)[k]'hk).toNat = 65) (q : Nat) (hq : q = min (p + 2) sl.length) :
    Comp sl o (k + 1) (q + numC 6 (sl.drop q)) (decide (0 < numC 6 (sl.drop q))) (numV 6 (sl.drop q) 0 : Nat) b c m := by
  subst hkd
  have := Comp.reg h hk (Or.inl hr) q hq
  simpa [hr] using this
theorem Comp.regB {sl : List UInt8} {o : Int} {kd k p : Nat} {a b c m : Int} (hkd : kind o = kd) (h : Comp sl o k p true a b c m) (hk : k < (fl kd).size) (hr : ((fl kd)[k]'hk).toNat = 66) (q : Nat) (hq : q = min (p + 2) sl.length) :
    Comp sl o (k + 1) (q + numC 6 (sl.drop q)) (decide (0 < numC 6 (sl.drop q))) a (numV 6 (sl.drop q) 0 : Nat) c m := by
  subst hkd
  have := Comp.reg h hk (Or.inr (Or.inl hr)) q hq
  simpa [hr] using this
theorem Comp.regC {sl : List UInt8} {o : Int} {kd k p : Nat} {a b c m : Int} (hkd : kind o = kd) (h : Comp sl o k p true a b c m) (hk : k < (fl kd).size) (hr : ((fl kd)[k]'hk).toNat = 67) (q : Nat) (hq : q = min (p + 2) sl.length) :
    Comp sl o (k + 1) (q + numC 6 (sl.drop q)) (decide (0 < numC 6 (sl.drop q))) a b (numV 6 (sl.drop q) 0 : Nat) m := by
  subst hkd
  have := Comp.reg h hk (Or.inr (Or.inr hr)) q hq
  simpa [hr] using this
theorem Comp.immN {sl : List UInt8} {o : Int} {kd k p : Nat} {a b c m : Int} (hkd : kind o = kd) (h : Comp sl o k p true a b c m) (hk : k < (fl kd).size) (hr : ((fl kd)[k]'hk).toNat = 73) (hn : (sl.drop (p + 1)).head? = some 45) (q : Nat) (hq : q = min (p + 2) sl.length) :
    Comp sl o (k + 1) (q + numC 6 (sl.drop q)) (decide (0 < numC 6 (sl.drop q))) a b c (-((numV 6 (sl.drop q) 0 : Nat) : Int)) := by
  subst hkd
  have := Comp.imm h hk hr true (decide_eq_true hn).symm q (by simpa using hq)
  simpa using this
theorem Comp.immP {sl : List UInt8} {o : Int} {kd k p : Nat} {a b c m : Int} (hkd : kind o = kd) (h : Comp sl o k p true a b c m) (hk : k < (fl kd).size) (hr : ((fl kd)[k]'hk).toNat = 73) (hn : (sl.drop (p + 1)).head? ≠ some 45) (q : Nat) (hq : q = min (p + 1) sl.length) :
    Comp sl o (k + 1) (q + numC 6 (sl.drop q)) (decide (0 < numC 6 (sl.drop q))) a b c ((numV 6 (sl.drop q) 0 : Nat) : Int) := by
  subst hkd
  have := Comp.imm h hk hr false (decide_eq_false hn).symm q (by simpa using hq)
  simpa using this
end Go.Proofs.YtplenmhkhaoapaaDoor.M
