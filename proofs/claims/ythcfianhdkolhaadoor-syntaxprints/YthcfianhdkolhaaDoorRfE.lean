/- The contract of the reference's Is. -/
import Derived.Test.YthcfianhdkolhaaDoorRfD
namespace Go.Proofs.YthcfianhdkolhaaDoor.T
open Go.RowKit Go.Proofs.YthcfianhdkolhaaDoor.S
set_option linter.unusedVariables false
set_option linter.unusedSimpArgs false

/-- What Is is to answer. -/
def IsR (w0 : World) (n : Nd) : Prop := ∀ (w : World) (v : Value) (free : Bool), Below w0.heap.size w0 w → NdO w0 n v → (free = true → n.kind = 21 ∨ n.kind = 22) → Calls Tryd.prog 9 #[v, .bool free] w fun e w' => e = .returned (.bool (isN n free)) ∧ Below w.heap.size w w'
theorem is_loc {k : Int} {t : List UInt8} {v : Int} {kids : List Nd} {free : Bool} (h : locN k t v kids free = false) : isN (.mk k t v kids) free = false := by
  cases hi : isN (.mk k t v kids) free with
  | false => rfl
  | true =>
    rw [isN_iff, h] at hi
    exact absurd hi.1 (by decide)
theorem is_kid {k : Int} {t : List UInt8} {v : Int} {kids : List Nd} {free : Bool} {j : Nat} (hj : j < kids.length) (h : ¬ (kidB k kids.length j kids[j].kind = true ∧ isN kids[j] (freeB k kids.length j) = true)) : isN (.mk k t v kids) free = false := by
  cases hi : isN (.mk k t v kids) free with
  | false => rfl
  | true =>
    rw [isN_iff] at hi
    exact absurd (hi.2 j hj) h
theorem loc_no {kind : Int} {text : List UInt8} {num : Int} {kids : List Nd} {free t : Bool} {mx least most : Int} (hs : shpN kind = some (t, mx, least, most))
    (h : ¬ ((least ≤ kids.length ∧ (0 ≤ most → (kids.length : Int) ≤ most)) ∧ txtB t text = true ∧ (0 ≤ absN free num ∧ (0 ≤ mx → absN free num ≤ mx) ∧ (kind = 21 → absN free num ≤ 2147483647)) ∧ (kind = 32 → opSign num ≠ []) ∧ (kind = 15 → baseN false (kid0 kids) = 23) ∧ (kind = 20 → (kid0 kids).kind = 25 ∧ baseN true (kid0 kids) = 23))) : isN (.mk kind text num kids) free = false := by
  apply is_loc
  cases hl : locN kind text num kids free with
  | false => rfl
  | true => exact absurd ((loc_iff hs).1 hl) h
theorem shp_mx {k : Int} {s : Bool × Int × Int × Int} (h : shpN k = some s) (h21 : ¬ k = 21) (h22 : ¬ k = 22) : 0 ≤ s.2.1 := by
  by_cases e1 : k = 1
  · subst e1
    obtain rfl : (false, 0, 0, -1) = s := Option.some.inj ((show shpN 1 = some (false, 0, 0, -1) from rfl).symm.trans h)
    decide
  by_cases e13 : k = 13
  · subst e13
    obtain rfl : (false, 0, 0, -1) = s := Option.some.inj ((show shpN 13 = some (false, 0, 0, -1) from rfl).symm.trans h)
    decide
  by_cases e2 : k = 2
  · subst e2
    obtain rfl : (true, 0, 1, -1) = s := Option.some.inj ((show shpN 2 = some (true, 0, 1, -1) from rfl).symm.trans h)
    decide
  by_cases e3 : k = 3
  · subst e3
    obtain rfl : (true, 0, 1, 1) = s := Option.some.inj ((show shpN 3 = some (true, 0, 1, 1) from rfl).symm.trans h)
    decide
  by_cases e5 : k = 5
  · subst e5
    obtain rfl : (true, 0, 1, 1) = s := Option.some.inj ((show shpN 5 = some (true, 0, 1, 1) from rfl).symm.trans h)
    decide
  by_cases e8 : k = 8
  · subst e8
    obtain rfl : (true, 0, 1, 1) = s := Option.some.inj ((show shpN 8 = some (true, 0, 1, 1) from rfl).symm.trans h)
    decide
  by_cases e24 : k = 24
  · subst e24
    obtain rfl : (true, 0, 1, 1) = s := Option.some.inj ((show shpN 24 = some (true, 0, 1, 1) from rfl).symm.trans h)
    decide
  by_cases e4 : k = 4
  · subst e4
    obtain rfl : (true, 1, 1, -1) = s := Option.some.inj ((show shpN 4 = some (true, 1, 1, -1) from rfl).symm.trans h)
    decide
  by_cases e6 : k = 6
  · subst e6
    obtain rfl : (true, 1, 2, 2) = s := Option.some.inj ((show shpN 6 = some (true, 1, 2, 2) from rfl).symm.trans h)
    decide
  by_cases e7 : k = 7
  · subst e7
    obtain rfl : (true, 3, 2, -1) = s := Option.some.inj ((show shpN 7 = some (true, 3, 2, -1) from rfl).symm.trans h)
    decide
  by_cases e9 : k = 9
  · subst e9
    obtain rfl : (false, 0, 0, 0) = s := Option.some.inj ((show shpN 9 = some (false, 0, 0, 0) from rfl).symm.trans h)
    decide
  by_cases e10 : k = 10
  · subst e10
    obtain rfl : (false, 0, 0, 0) = s := Option.some.inj ((show shpN 10 = some (false, 0, 0, 0) from rfl).symm.trans h)
    decide
  by_cases e33 : k = 33
  · subst e33
    obtain rfl : (false, 0, 0, 0) = s := Option.some.inj ((show shpN 33 = some (false, 0, 0, 0) from rfl).symm.trans h)
    decide
  by_cases e11 : k = 11
  · subst e11
    obtain rfl : (true, 0, 0, 0) = s := Option.some.inj ((show shpN 11 = some (true, 0, 0, 0) from rfl).symm.trans h)
    decide
  by_cases e23 : k = 23
  · subst e23
    obtain rfl : (true, 0, 0, 0) = s := Option.some.inj ((show shpN 23 = some (true, 0, 0, 0) from rfl).symm.trans h)
    decide
  by_cases e26 : k = 26
  · subst e26
    obtain rfl : (true, 0, 0, 0) = s := Option.some.inj ((show shpN 26 = some (true, 0, 0, 0) from rfl).symm.trans h)
    decide
  by_cases e12 : k = 12
  · subst e12
    obtain rfl : (false, 1, 1, -1) = s := Option.some.inj ((show shpN 12 = some (false, 1, 1, -1) from rfl).symm.trans h)
    decide
  by_cases e14 : k = 14
  · subst e14
    obtain rfl : (true, 0, 2, 2) = s := Option.some.inj ((show shpN 14 = some (true, 0, 2, 2) from rfl).symm.trans h)
    decide
  by_cases e15 : k = 15
  · subst e15
    obtain rfl : (false, 0, 2, 2) = s := Option.some.inj ((show shpN 15 = some (false, 0, 2, 2) from rfl).symm.trans h)
    decide
  by_cases e17 : k = 17
  · subst e17
    obtain rfl : (false, 0, 2, 2) = s := Option.some.inj ((show shpN 17 = some (false, 0, 2, 2) from rfl).symm.trans h)
    decide
  by_cases e16 : k = 16
  · subst e16
    obtain rfl : (false, 0, 2, 3) = s := Option.some.inj ((show shpN 16 = some (false, 0, 2, 3) from rfl).symm.trans h)
    decide
  by_cases e18 : k = 18
  · subst e18
    obtain rfl : (false, 0, 1, 1) = s := Option.some.inj ((show shpN 18 = some (false, 0, 1, 1) from rfl).symm.trans h)
    decide
  by_cases e19 : k = 19
  · subst e19
    obtain rfl : (false, 0, 1, 1) = s := Option.some.inj ((show shpN 19 = some (false, 0, 1, 1) from rfl).symm.trans h)
    decide
  by_cases e20 : k = 20
  · subst e20
    obtain rfl : (false, 0, 1, 1) = s := Option.some.inj ((show shpN 20 = some (false, 0, 1, 1) from rfl).symm.trans h)
    decide
  by_cases e28 : k = 28
  · subst e28
    obtain rfl : (false, 0, 1, 1) = s := Option.some.inj ((show shpN 28 = some (false, 0, 1, 1) from rfl).symm.trans h)
    decide
  by_cases e29 : k = 29
  · subst e29
    obtain rfl : (false, 0, 1, 1) = s := Option.some.inj ((show shpN 29 = some (false, 0, 1, 1) from rfl).symm.trans h)
    decide
  by_cases e30 : k = 30
  · subst e30
    obtain rfl : (false, 0, 1, 1) = s := Option.some.inj ((show shpN 30 = some (false, 0, 1, 1) from rfl).symm.trans h)
    decide
  by_cases e31 : k = 31
  · subst e31
    obtain rfl : (false, 0, 1, 1) = s := Option.some.inj ((show shpN 31 = some (false, 0, 1, 1) from rfl).symm.trans h)
    decide
  by_cases e34 : k = 34
  · subst e34
    obtain rfl : (false, 0, 1, 1) = s := Option.some.inj ((show shpN 34 = some (false, 0, 1, 1) from rfl).symm.trans h)
    decide
  by_cases e25 : k = 25
  · subst e25
    obtain rfl : (false, 0, 1, -1) = s := Option.some.inj ((show shpN 25 = some (false, 0, 1, -1) from rfl).symm.trans h)
    decide
  by_cases e27 : k = 27
  · subst e27
    obtain rfl : (true, 0, 0, -1) = s := Option.some.inj ((show shpN 27 = some (true, 0, 0, -1) from rfl).symm.trans h)
    decide
  by_cases e32 : k = 32
  · subst e32
    obtain rfl : (false, 12, 2, 2) = s := Option.some.inj ((show shpN 32 = some (false, 12, 2, 2) from rfl).symm.trans h)
    decide
  have hn : shpN k = none := by
    unfold shpN
    repeat rw [if_neg (by omega)]
  rw [hn] at h
  cases h
end Go.Proofs.YthcfianhdkolhaaDoor.T
