/- What the reference's Read has found of a row behind k fields. No program. -/
import Derived.Test.YtplenmhkhaoapaaDoorNum
namespace Go.Proofs.YtplenmhkhaoapaaDoor.M
set_option linter.unusedSimpArgs false
theorem num_digits (l : List UInt8) : ∀ (f acc v : Nat) (y : List UInt8), (∀ c ∈ l, Dig c) → l.length ≤ f → (y = [] ∨ ∃ t, y = 32 :: t) → Lib.parseUint10 acc l = .ok v → numV f (l ++ y) acc = v ∧ numC f (l ++ y) = l.length := by
  induction l with
  | nil =>
    intro f acc v y _ _ hy h
    simp only [Lib.parseUint10] at h
    injection h with h
    subst h
    rcases hy with rfl | ⟨t, rfl⟩
    · exact num_nil
    · exact num_stop (by decide)
  | cons c l ih =>
    intro f acc v y hd hf hy h
    have hc : 48 ≤ c.toNat ∧ c.toNat ≤ 57 := hd c (by simp)
    cases f with
    | zero => simp at hf
    | succ f =>
      simp only [Lib.parseUint10] at h
      rw [if_pos hc] at h
      split at h
      · cases h
      · split at h
        · cases h
        · obtain ⟨e1, e2⟩ := num_step (f := f) (l := l ++ y) (acc := acc) hc
          rw [Nat.mul_comm acc 10] at h
          obtain ⟨i1, i2⟩ := ih f _ v y (fun d hd' => hd d (by simp [hd'])) (by simpa using hf) hy h
          simp only [List.cons_append]
          exact ⟨e1.trans i1, by rw [e2, i2]; simp⟩
theorem dec_len6 (k : Nat) : ∀ u, u < 10 ^ (k + 1) → (Lib.decDigits u).length ≤ k + 1 := by
  induction k with
  | zero => intro u h; rw [dec_small (by omega)]; simp
  | succ k ih =>
    intro u h
    by_cases hs : u < 10
    · rw [dec_small hs]; simp
    · rw [dec_big hs]
      have := ih (u / 10) (by rw [Nat.pow_succ] at h; omega)
      simp; omega
theorem num_dec (u : Nat) (hu : u ≤ 999999) (y : List UInt8) (hy : y = [] ∨ ∃ t, y = 32 :: t) : numV 6 (Lib.decDigits u ++ y) 0 = u ∧ numC 6 (Lib.decDigits u ++ y) = (Lib.decDigits u).length ∧ 0 < (Lib.decDigits u).length := by
  obtain ⟨h1, h2⟩ := dec_digits u u (Nat.le_refl _)
  obtain ⟨e1, e2⟩ := num_digits (Lib.decDigits u) 6 0 u y h1 (dec_len6 5 u (by omega)) hy (parse_dec u u (Nat.le_refl _) (by omega))
  exact ⟨e1, e2, List.length_pos_iff.2 h2⟩

/-- If the text is that of an instruction of this Op: all is well so far, the place is behind k fields, and they are its. -/
def Comp (s : List UInt8) (o : Int) (k p : Nat) (ok : Bool) (a b c m : Int) : Prop :=
  ∀ A B C M, ckN o A B C M = 0 → textL o A B C M = s → ok = true ∧ p = (nameOf o).size + (pieces A B C M ((fl (kind o)).data.toList.take k)).length ∧
    a = (if hasQ 65 ((fl (kind o)).data.toList.take k) then A else 0) ∧ b = (if hasQ 66 ((fl (kind o)).data.toList.take k) then B else 0) ∧ c = (if hasQ 67 ((fl (kind o)).data.toList.take k) then C else 0) ∧ m = (if hasI ((fl (kind o)).data.toList.take k) then M else 0)
theorem Comp.start (s : List UInt8) (o : Int) (p : Nat) (hp : p = (nameOf o).size) : Comp s o 0 p true 0 0 0 0 := by
  intro A B C M _ _
  exact ⟨rfl, by simp [pieces, hp], by simp [hasQ], by simp [hasQ], by simp [hasQ], by simp [hasI]⟩
theorem hasQ_snoc (q : Nat) (l : List UInt8) (r : UInt8) : hasQ q (l ++ [r]) = (hasQ q l || decide (r.toNat = q)) := by
  induction l with
  | nil => simp [hasQ]
  | cons x l ih => simp [hasQ, ih, Bool.or_assoc]
theorem hasI_snoc (l : List UInt8) (r : UInt8) : hasI (l ++ [r]) = (hasI l || decide (r.toNat ≠ 65 ∧ r.toNat ≠ 66 ∧ r.toNat ≠ 67)) := by
  induction l with
  | nil => simp [hasI]
  | cons x l ih => simp only [List.cons_append, hasI, ih, Bool.or_assoc]
/-- The text from a place behind k fields on. -/
theorem text_drop {o A B C M : Int} {k : Nat} (hk : k < (fl (kind o)).size) :
    (textL o A B C M).drop ((nameOf o).size + (pieces A B C M ((fl (kind o)).data.toList.take k)).length) = piece (((fl (kind o))[k]'hk).toNat : Int) (fv A B C M (((fl (kind o))[k]'hk).toNat : Int)) ++ pieces A B C M ((fl (kind o)).data.toList.drop (k + 1)) := by
  have hd : (fl (kind o)).data.toList = (fl (kind o)).data.toList.take k ++ ((fl (kind o))[k]'hk) :: (fl (kind o)).data.toList.drop (k + 1) := by
    have e : (fl (kind o)).data.toList.drop k = ((fl (kind o))[k]'hk) :: (fl (kind o)).data.toList.drop (k + 1) := List.drop_eq_getElem_cons (by simpa using hk)
    rw [← e]; simp
  have hn : (nameOf o).data.toList.length = (nameOf o).size := by rw [Array.length_toList]; rfl
  have hp : pieces A B C M (fl (kind o)).data.toList = pieces A B C M ((fl (kind o)).data.toList.take k) ++ (piece (((fl (kind o))[k]'hk).toNat : Int) (fv A B C M (((fl (kind o))[k]'hk).toNat : Int)) ++ pieces A B C M ((fl (kind o)).data.toList.drop (k + 1))) := by
    conv => lhs; rw [hd]
    simp [pieces]
  unfold textL
  rw [hp, ← List.append_assoc, ← hn, ← List.length_append]
  exact List.drop_left
theorem take_fl {kd k : Nat} (hk : k < (fl kd).size) : (fl kd).data.toList.take (k + 1) = (fl kd).data.toList.take k ++ [(fl kd)[k]'hk] := take_snoc (fl kd) k hk
theorem drop_two {sl : List UInt8} {p : Nat} {x y : UInt8} {t : List UInt8} (h : sl.drop p = x :: y :: t) : sl.drop (p + 2) = t ∧ p + 2 ≤ sl.length := by
  have h1 : sl.drop (p + 2) = (sl.drop p).drop 2 := by rw [List.drop_drop]
  refine ⟨by rw [h1, h]; rfl, ?_⟩
  have := congrArg List.length h
  simp at this
  omega
theorem drop_one {sl : List UInt8} {p : Nat} {x : UInt8} {t : List UInt8} (h : sl.drop p = x :: t) : sl.drop (p + 1) = t ∧ p + 1 ≤ sl.length := by
  have h1 : sl.drop (p + 1) = (sl.drop p).drop 1 := by rw [List.drop_drop]
  refine ⟨by rw [h1, h]; rfl, ?_⟩
  have := congrArg List.length h
  simp at this
  omega
/-- A register's field. -/
theorem Comp.reg {sl : List UInt8} {o : Int} {k p : Nat} {a b c m : Int} (h : Comp sl o k p true a b c m) (hk : k < (fl (kind o)).size)
    (hr : ((fl (kind o))[k]'hk).toNat = 65 ∨ ((fl (kind o))[k]'hk).toNat = 66 ∨ ((fl (kind o))[k]'hk).toNat = 67) (q : Nat) (hq : q = min (p + 2) sl.length) :
    Comp sl o (k + 1) (q + numC 6 (sl.drop q)) (decide (0 < numC 6 (sl.drop q))) (if ((fl (kind o))[k]'hk).toNat = 65 then (numV 6 (sl.drop q) 0 : Int) else a) (if ((fl (kind o))[k]'hk).toNat = 66 then (numV 6 (sl.drop q) 0 : Int) else b) (if ((fl (kind o))[k]'hk).toNat = 67 then (numV 6 (sl.drop q) 0 : Int) else c) m := by
  intro A B C M hck htx
  obtain ⟨_, hp, ha, hb, hc, hm⟩ := h A B C M hck htx
  obtain ⟨g1, g2, g3, g4, g5, g6, g7, g8, g9, g10, g11⟩ := ck_facts hck
  have htd := text_drop (A := A) (B := B) (C := C) (M := M) hk
  rw [htx, ← hp] at htd
  have htk := take_fl hk
  generalize ((fl (kind o))[k]'hk) = r at *
  obtain ⟨x, hx⟩ : ∃ x, fv A B C M (r.toNat : Int) = x := ⟨_, rfl⟩
  have hxb : 0 ≤ x ∧ x ≤ 15 := by
    rw [← hx]; unfold fv
    rcases hr with e | e | e <;> rw [e] <;> simp <;> omega
  rw [hx] at htd
  have hpc : piece (r.toNat : Int) x = 32 :: 114 :: Lib.decDigits x.toNat := by
    unfold piece Lib.itoa
    rw [if_neg (by omega), if_neg (by omega)]
    rfl
  rw [hpc] at htd
  simp only [List.cons_append] at htd
  obtain ⟨d1, d2⟩ := drop_two htd
  have hq2 : q = p + 2 := by omega
  subst hq2
  rw [d1]
  obtain ⟨n1, n2, n3⟩ := num_dec x.toNat (by omega) (pieces A B C M ((fl (kind o)).data.toList.drop (k + 1))) (pieces_head _ _ _ _ _)
  rw [n1, n2, htk, pieces_snoc, hx, hpc, hasQ_snoc, hasQ_snoc, hasQ_snoc, hasI_snoc]
  have hxt : ((x.toNat : Nat) : Int) = x := by omega
  refine ⟨by simpa using n3, by simp; omega, ?_, ?_, ?_, ?_⟩
  · rcases hr with e | e | e <;> simp [e, ha, hxt] <;> (rw [← hx]; simp [fv, e])
  · rcases hr with e | e | e <;> simp [e, hb, hxt] <;> (rw [← hx]; simp [fv, e])
  · rcases hr with e | e | e <;> simp [e, hc, hxt] <;> (rw [← hx]; simp [fv, e])
  · rcases hr with e | e | e <;> simp [e, hm]
/-- The number's field, below 0 or not. -/
theorem Comp.imm {sl : List UInt8} {o : Int} {k p : Nat} {a b c m : Int} (h : Comp sl o k p true a b c m) (hk : k < (fl (kind o)).size)
    (hr : ((fl (kind o))[k]'hk).toNat = 73) (neg : Bool) (hneg : neg = decide ((sl.drop (p + 1)).head? = some 45)) (q : Nat) (hq : q = min (if neg then p + 2 else p + 1) sl.length) :
    Comp sl o (k + 1) (q + numC 6 (sl.drop q)) (decide (0 < numC 6 (sl.drop q))) a b c (if neg then -(numV 6 (sl.drop q) 0 : Int) else (numV 6 (sl.drop q) 0 : Int)) := by
  intro A B C M hck htx
  obtain ⟨_, hp, ha, hb, hc, hm⟩ := h A B C M hck htx
  obtain ⟨g1, g2, g3, g4, g5, g6, g7, g8, g9, g10, g11⟩ := ck_facts hck
  have htd := text_drop (A := A) (B := B) (C := C) (M := M) hk
  rw [htx, ← hp] at htd
  have htk := take_fl hk
  generalize ((fl (kind o))[k]'hk) = r at *
  have hri : (r.toNat : Int) = 73 := by omega
  have hx : fv A B C M (r.toNat : Int) = M := by rw [hri]; simp [fv]
  rw [hx] at htd
  have hhd := pieces_head A B C M ((fl (kind o)).data.toList.drop (k + 1))
  by_cases hM : M < 0
  · have hpc : piece (r.toNat : Int) M = 32 :: 45 :: Lib.decDigits M.natAbs := by
      unfold piece Lib.itoa
      rw [if_pos hri, if_pos hM]
      rfl
    rw [hpc] at htd
    simp only [List.cons_append] at htd
    obtain ⟨d1, d2⟩ := drop_two htd
    obtain ⟨e1, e2⟩ := drop_one htd
    have hn : neg = true := by rw [hneg, e1]; rfl
    subst hn
    have hq2 : q = p + 2 := by simp at hq; omega
    subst hq2
    rw [d1]
    obtain ⟨n1, n2, n3⟩ := num_dec M.natAbs (by omega) (pieces A B C M ((fl (kind o)).data.toList.drop (k + 1))) hhd
    rw [n1, n2, htk, pieces_snoc, hx, hpc, hasQ_snoc, hasQ_snoc, hasQ_snoc, hasI_snoc]
    exact ⟨by simpa using n3, by simp; omega, by simp [hr, ha], by simp [hr, hb], by simp [hr, hc], by simp [hr]; omega⟩
  · have hpc : piece (r.toNat : Int) M = 32 :: Lib.decDigits M.toNat := by
      unfold piece Lib.itoa
      rw [if_pos hri, if_neg hM]
      rfl
    rw [hpc] at htd
    simp only [List.cons_append] at htd
    obtain ⟨e1, e2⟩ := drop_one htd
    obtain ⟨n1, n2, n3⟩ := num_dec M.toNat (by omega) (pieces A B C M ((fl (kind o)).data.toList.drop (k + 1))) hhd
    have hn : neg = false := by
      rw [hneg, e1]
      obtain ⟨dd, dne⟩ := dec_digits _ M.toNat (Nat.le_refl _)
      cases hl : Lib.decDigits M.toNat with
      | nil => exact absurd hl dne
      | cons x t =>
        have hx48 := dd x (by rw [hl]; simp)
        simp only [List.cons_append, List.head?_cons, Option.some.injEq, decide_eq_false_iff_not]
        intro e
        subst e
        exact absurd hx48.1 (by decide)
    subst hn
    have hq2 : q = p + 1 := by simp at hq; omega
    subst hq2
    rw [e1, n1, n2, htk, pieces_snoc, hx, hpc, hasQ_snoc, hasQ_snoc, hasQ_snoc, hasI_snoc]
    exact ⟨by simpa using n3, by simp; omega, by simp [hr, ha], by simp [hr, hb], by simp [hr, hc], by simp [hr]; omega⟩
/-- Behind all fields: the instruction. -/
theorem Comp.full {sl : List UInt8} {n : Nat} {p : Nat} {ok : Bool} {a b c m : Int} (h : Comp sl n (fl (kind (n : Int))).size p ok a b c m) {A B C M : Int} (hck : ckN n A B C M = 0) (htx : textL n A B C M = sl) : ok = true ∧ a = A ∧ b = B ∧ c = C ∧ m = M := by
  obtain ⟨h0, _, ha, hb, hc, hm⟩ := h A B C M hck htx
  obtain ⟨_, hpt⟩ := parse_text hck
  obtain ⟨g1, g2, g3, g4, g5, g6, g7, g8, g9, g10, g11⟩ := ck_facts hck
  have hcr : cutR (textL n A B C M) = (pieces A B C M (fl (kind (n : Int))).data.toList).tail := by
    unfold textL
    exact (cut_app _ _ (name_blank n (by omega)) (pieces_head _ _ _ _ _)).2
  rw [hcr, parse_pieces A B C M ⟨by omega, by omega⟩ ⟨by omega, by omega⟩ ⟨by omega, by omega⟩ ⟨by omega, by omega⟩] at hpt
  rw [List.take_of_length_le (by rw [Array.length_toList]; exact Nat.le_refl _)] at ha hb hc hm
  injection hpt with hpt
  simp only [Prod.mk.injEq] at hpt
  exact ⟨h0, ha.trans hpt.1, hb.trans hpt.2.1, hc.trans hpt.2.2.1, hm.trans hpt.2.2.2⟩
/-- A text that does not begin with the name is none of that Op's. -/
theorem text_prefix {o A B C M : Int} {sl : List UInt8} (htx : textL o A B C M = sl) : (nameOf o).size ≤ sl.length ∧ sl.take (nameOf o).size = (nameOf o).data.toList := by
  have hn : (nameOf o).data.toList.length = (nameOf o).size := by rw [Array.length_toList]; rfl
  rw [← htx]
  unfold textL
  rw [← hn]
  exact ⟨by rw [List.length_append]; omega, List.take_left⟩
end Go.Proofs.YtplenmhkhaoapaaDoor.M
