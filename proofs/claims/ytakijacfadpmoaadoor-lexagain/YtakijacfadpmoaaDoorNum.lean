/- Rows of digits and their numbers; what ParseInt answers of them. No program. -/
import Derived.Lib.ParseIntBCases
import Derived.WalkKit
namespace Go.Proofs.YtakijacfadpmoaaDoor.T
set_option linter.unusedVariables false
set_option linter.unusedSimpArgs false
def AllD (s : List UInt8) : Prop := ∀ c, c ∈ s → 48 ≤ c.toNat ∧ c.toNat ≤ 57
def valN : List UInt8 → Nat → Nat
  | [], a => a
  | c :: r, a => valN r (10 * a + (c.toNat - 48))
theorem val_bounds : ∀ (s : List UInt8) (a : Nat), AllD s → a * 10 ^ s.length ≤ valN s a ∧ valN s a + 1 ≤ (a + 1) * 10 ^ s.length
  | [], a, _ => by simp [valN]
  | c :: r, a, h => by
    have hc := h c (by simp)
    obtain ⟨h1, h2⟩ := val_bounds r (10 * a + (c.toNat - 48)) (fun x hx => h x (by simp [hx]))
    simp only [List.length_cons, valN, Nat.pow_succ]
    have e1 : a * (10 ^ r.length * 10) = 10 * a * 10 ^ r.length := by rw [Nat.mul_comm (10 ^ r.length) 10, ← Nat.mul_assoc, Nat.mul_comm a 10]
    have e2 : (a + 1) * (10 ^ r.length * 10) = (10 * a + 10) * 10 ^ r.length := by rw [Nat.mul_comm (10 ^ r.length) 10, ← Nat.mul_assoc, Nat.mul_comm (a + 1) 10, Nat.mul_add]
    have l1 : 10 * a * 10 ^ r.length ≤ (10 * a + (c.toNat - 48)) * 10 ^ r.length := Nat.mul_le_mul_right _ (by omega)
    have l2 : (10 * a + (c.toNat - 48) + 1) * 10 ^ r.length ≤ (10 * a + 10) * 10 ^ r.length := Nat.mul_le_mul_right _ (by omega)
    rw [e1, e2]
    exact ⟨Nat.le_trans l1 h1, Nat.le_trans h2 l2⟩
theorem val_ge (s : List UInt8) (a : Nat) (h : AllD s) : a ≤ valN s a := by
  have h1 := (val_bounds s a h).1
  have h2 : a * 1 ≤ a * 10 ^ s.length := Nat.mul_le_mul_left _ (Nat.pow_pos (by omega))
  omega
theorem val_lt {x y : List UInt8} {a b : Nat} (hx : AllD x) (hy : AllD y) (hl : x.length = y.length) (h : a < b) : valN x a < valN y b := by
  have h1 := (val_bounds x a hx).2
  have h2 := (val_bounds y b hy).1
  have h3 : (a + 1) * 10 ^ x.length ≤ b * 10 ^ y.length := by rw [hl]; exact Nat.mul_le_mul_right _ h
  omega
/-- Rows of as many digits compare as their numbers. -/
theorem less_val : ∀ (x y : List UInt8) (a : Nat), AllD x → AllD y → x.length = y.length → (Op.bytesLess x y = true → valN x a < valN y a) ∧ (Op.bytesLess x y = false → valN y a ≤ valN x a)
  | [], [], a, _, _, _ => by simp [Op.bytesLess, valN]
  | [], d :: y, _, _, _, h => by simp at h
  | c :: x, [], _, _, _, h => by simp at h
  | c :: x, d :: y, a, hx, hy, h => by
    have hl : x.length = y.length := by simpa using h
    have hx' : AllD x := fun z hz => hx z (by simp [hz])
    have hy' : AllD y := fun z hz => hy z (by simp [hz])
    have hc := hx c (by simp)
    have hd := hy d (by simp)
    simp only [Op.bytesLess, valN]
    by_cases e : c < d
    · have e' : c.toNat < d.toNat := UInt8.lt_iff_toNat_lt.1 e
      simp only [e, decide_true, Bool.true_or, true_implies, Bool.true_eq_false, false_implies, and_true]
      exact val_lt hx' hy' hl (by omega)
    · by_cases e2 : c = d
      · subst e2
        have ih := less_val x y (10 * a + (c.toNat - 48)) hx' hy' hl
        simp only [e, decide_false, Bool.false_or, beq_self_eq_true, Bool.true_and]
        exact ih
      · have e' : d.toNat < c.toNat := by
          have h1 : ¬ c.toNat < d.toNat := fun q => e (UInt8.lt_iff_toNat_lt.2 q)
          have h2 : c.toNat ≠ d.toNat := fun q => e2 (UInt8.toNat_inj.1 q)
          omega
        have e3 : (c == d) = false := by simpa using e2
        simp only [e, decide_false, Bool.false_or, e3, Bool.false_and, Bool.false_eq_true, false_implies, true_implies, true_and]
        exact Nat.le_of_lt (val_lt hy' hx' hl.symm (by omega))
theorem less_ne : ∀ (x y : List UInt8) (a : Nat), AllD x → AllD y → x.length = y.length → valN x a = valN y a → x = y
  | [], [], a, _, _, _, _ => rfl
  | [], d :: y, _, _, _, h, _ => by simp at h
  | c :: x, [], _, _, _, h, _ => by simp at h
  | c :: x, d :: y, a, hx, hy, h, e => by
    have hl : x.length = y.length := by simpa using h
    have hx' : AllD x := fun z hz => hx z (by simp [hz])
    have hy' : AllD y := fun z hz => hy z (by simp [hz])
    have hc := hx c (by simp)
    have hd := hy d (by simp)
    simp only [valN] at e
    rcases Nat.lt_trichotomy c.toNat d.toNat with q | q | q
    · have := val_lt (a := 10 * a + (c.toNat - 48)) (b := 10 * a + (d.toNat - 48)) hx' hy' hl (by omega)
      omega
    · obtain rfl := UInt8.toNat_inj.1 q
      rw [less_ne x y _ hx' hy' hl e]
    · have := val_lt (a := 10 * a + (d.toNat - 48)) (b := 10 * a + (c.toNat - 48)) hy' hx' hl.symm (by omega)
      omega
theorem val_one {s : List UInt8} (h : AllD s) (hne : s ≠ []) (hz : ∀ c, s.head? = some c → c.toNat ≠ 48) : 10 ^ (s.length - 1) ≤ valN s 0 := by
  cases s with
  | nil => exact absurd rfl hne
  | cons c r =>
    have hc := h c (by simp)
    have h0 := hz c rfl
    have := (val_bounds r (10 * 0 + (c.toNat - 48)) (fun x hx => h x (by simp [hx]))).1
    have h1 : 1 * 10 ^ r.length ≤ (10 * 0 + (c.toNat - 48)) * 10 ^ r.length := Nat.mul_le_mul_right _ (by omega)
    simp only [List.length_cons, Nat.add_sub_cancel, valN]
    omega
/-- A longer row, or one that is behind in the order of texts, is a greater number. -/
theorem above_val {x m : List UInt8} (hx : AllD x) (hxz : 1 < x.length → ∀ c, x.head? = some c → c.toNat ≠ 48) (hm : AllD m) (hmz : ∀ c, m.head? = some c → c.toNat ≠ 48) (hmn : m ≠ []) (hxn : x ≠ []) :
    (decide (m.length < x.length) || (decide (x.length = m.length) && !(Op.bytesLess x m || x == m))) = decide (valN m 0 < valN x 0) := by
  have hml : 0 < m.length := List.length_pos_iff.2 hmn
  rcases Nat.lt_trichotomy x.length m.length with q | q | q
  · have h1 := (val_bounds x 0 hx).2
    have h2 := val_one hm hmn hmz
    have h3 : 10 ^ x.length ≤ 10 ^ (m.length - 1) := Nat.pow_le_pow_right (by omega) (by omega)
    rw [decide_eq_false (show ¬ m.length < x.length by omega), decide_eq_false (show ¬ x.length = m.length by omega), decide_eq_false (show ¬ valN m 0 < valN x 0 by omega)]
    rfl
  · rw [decide_eq_false (show ¬ m.length < x.length by omega), decide_eq_true q]
    have hl := less_val x m 0 hx hm q
    cases hb : Op.bytesLess x m with
    | true => rw [decide_eq_false (show ¬ valN m 0 < valN x 0 by have := hl.1 hb; omega)]; rfl
    | false =>
      have h1 := hl.2 hb
      by_cases e : x = m
      · subst e; simp
      · have h2 : valN m 0 ≠ valN x 0 := fun e2 => e (less_ne x m 0 hx hm q e2.symm)
        rw [decide_eq_true (show valN m 0 < valN x 0 by omega)]
        simp [e]
  · have h1 := (val_bounds m 0 hm).2
    have h2 := val_one hx hxn (hxz (by omega))
    have h3 : 10 ^ m.length ≤ 10 ^ (x.length - 1) := Nat.pow_le_pow_right (by omega) (by omega)
    rw [decide_eq_true q, decide_eq_true (show valN m 0 < valN x 0 by omega)]
    rfl
theorem uint_val (M : Nat) (hM : M ≤ 18446744073709551615) : ∀ (s : List UInt8) (a : Nat), AllD s → Lib.parseUintM M a s = .ok (valN s a) ∨ (Lib.parseUintM M a s = .range ∧ M < valN s a)
  | [], a, _ => Or.inl rfl
  | c :: r, a, h => by
    have hc := h c (by simp)
    have hr : AllD r := fun x hx => h x (by simp [hx])
    have hg := val_ge r (10 * a + (c.toNat - 48)) hr
    have ih := uint_val M hM r (10 * a + (c.toNat - 48)) hr
    have e : a * 10 + (c.toNat - 48) = 10 * a + (c.toNat - 48) := by omega
    simp only [Lib.parseUintM, if_pos hc, valN, e]
    split
    · exact Or.inr ⟨rfl, by omega⟩
    · split
      · exact Or.inr ⟨rfl, by omega⟩
      · exact ih
/-- What ParseInt answers of a row of digits. -/
theorem int_val (B : Nat) (hB : 1 ≤ B ∧ B ≤ 64) (s : List UInt8) (h : AllD s) (hne : s ≠ []) : Lib.parseIntB B s = if 2 ^ (B - 1) ≤ valN s 0 then .range else .ok (valN s 0 : Int) := by
  cases s with
  | nil => exact absurd rfl hne
  | cons c r =>
    have hc := h c (by simp)
    have hp : 2 ^ B ≤ 2 ^ 64 := Nat.pow_le_pow_right (by omega) hB.2
    have hp1 : 2 ^ (B - 1) ≤ 2 ^ B := Nat.pow_le_pow_right (by omega) (by omega)
    have hp2 : 1 ≤ 2 ^ (B - 1) := Nat.pow_pos (by omega)
    have e64 : (2 : Nat) ^ 64 = 18446744073709551616 := by decide
    rw [Lib.parseIntB_plain B c r (by omega) (by omega)]
    unfold Lib.parseUintB
    rw [if_neg (by simp)]
    rcases uint_val (2 ^ B - 1) (by omega) (c :: r) 0 h with e | ⟨e, hl⟩
    · rw [e]
      rfl
    · rw [e, if_pos (by omega)]
      rfl
end Go.Proofs.YtakijacfadpmoaaDoor.T
