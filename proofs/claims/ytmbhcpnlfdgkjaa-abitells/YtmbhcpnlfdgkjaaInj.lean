/- A type's text tells the type. No program. -/
import Derived.Test.YtmbhcpnlfdgkjaaTy
namespace Go.Proofs.Ytmbhcpnlfdgkjaa.T
open Go.RowKit

/-- Two rows without a sign, with that sign behind: they are the same. -/
theorem cut_at {c : UInt8} : ∀ {a b u v : List UInt8}, c ∉ a → c ∉ b → a ++ c :: u = b ++ c :: v → a = b ∧ u = v
  | [], [], _, _, _, _, h => by simpa using h
  | [], y :: b, _, _, _, hb, h => by
    simp at h hb
    exact absurd h.1 hb.1
  | x :: a, [], _, _, ha, _, h => by
    simp at h ha
    exact absurd h.1.symm ha.1
  | x :: a, y :: b, u, v, ha, hb, h => by
    simp at h ha hb
    obtain ⟨rfl, h⟩ := h
    have := cut_at ha.2 hb.2 h
    exact ⟨by rw [this.1], this.2⟩
/-- A name's signs are letters, digits and the low line. -/
theorem name_sign {s : List UInt8} (h : nameB s = true) (c : UInt8) (hc : c ∈ s) : letB c.toNat = true ∨ digB c.toNat = true ∨ c.toNat = 95 := by
  simp only [nameB, Bool.and_eq_true, List.all_eq_true, List.mem_range] at h
  obtain ⟨i, hi, rfl⟩ := List.mem_iff_getElem.1 hc
  have := h.1.2 i hi
  simp [signB, hi] at this
  rcases this with h1 | ⟨_, h1 | h1⟩
  · exact Or.inl h1
  · exact Or.inr (Or.inl h1)
  · exact Or.inr (Or.inr h1)
theorem name_free {s : List UInt8} (h : nameB s = true) (c : UInt8) (hc : letB c.toNat = false) (hd : digB c.toNat = false) (hl : c.toNat ≠ 95) : c ∉ s := fun hm => by
  rcases name_sign h c hm with h1 | h1 | h1
  · rw [hc] at h1; cases h1
  · rw [hd] at h1; cases h1
  · exact hl h1
/-- What mayN says, by kinds. -/
theorem may_facts {d : Nat} {kind : Int} {name : ByteArray} {nn : Nat} {names : Nat → ByteArray} {pn : Nat} {parts : Nat → Ty} {many : Bool} (h : mayN (d + 1) (.mk kind name nn names pn parts many) = true) :
    pn ≤ 7 ∧ nn ≤ 6 ∧ (∀ i, i < pn → mayN d (parts i) = true) ∧
    ((kind = 3 ∧ many = false ∧ nameB (bytes name) = true ∧ 1 ≤ pn ∧ pn ≤ 6 ∧ nn = pn ∧ (∀ i, i < pn → nameB (bytes (names i)) = true) ∧ sizeT (.mk kind name nn names pn parts many) ≤ 12)
     ∨ (kind = 4 ∧ name.size = 0 ∧ nn = 0 ∧ 1 ≤ pn) ∨ (kind = 1 ∧ name.size = 0 ∧ nn = 0 ∧ pn = 0 ∧ many = false) ∨ (kind = 2 ∧ name.size = 0 ∧ nn = 0 ∧ pn = 0 ∧ many = false)) := by
  unfold mayN at h
  simp only [Bool.and_eq_true, decide_eq_true_eq, List.all_eq_true, List.mem_range] at h
  obtain ⟨⟨⟨h1, h2⟩, h3⟩, h4⟩ := h
  refine ⟨h1, h2, h3, ?_⟩
  by_cases k3 : kind = 3
  · rw [if_pos k3] at h4
    simp only [Bool.and_eq_true, decide_eq_true_eq, List.all_eq_true, List.mem_range, Bool.not_eq_true'] at h4
    obtain ⟨⟨⟨⟨⟨⟨a1, a2⟩, a3⟩, a4⟩, a5⟩, a6⟩, a7⟩ := h4
    exact Or.inl ⟨k3, a1, a2, a3, a4, a5, fun i hi => (a6 i hi).1, a7⟩
  · rw [if_neg k3] at h4
    simp only [Bool.and_eq_true, decide_eq_true_eq] at h4
    obtain ⟨⟨b1, b2⟩, b3⟩ := h4
    by_cases k4 : kind = 4
    · rw [if_pos k4] at b3
      exact Or.inr (Or.inl ⟨k4, b1, b2, by simpa using b3⟩)
    · rw [if_neg k4] at b3
      simp at b3
      rcases b3.1.1 with k | k
      · exact Or.inr (Or.inr (Or.inl ⟨k, b1, b2, b3.1.2, b3.2⟩))
      · exact Or.inr (Or.inr (Or.inr ⟨k, b1, b2, b3.1.2, b3.2⟩))
/-- The text's first sign. -/
def headB (c : UInt8) : Prop := c = 105 ∨ c = 108 ∨ c = 115 ∨ c = 102
theorem text_head {d : Nat} {T : Ty} (h : mayN d T = true) : ∃ c r, textT T = c :: r ∧ headB c := by
  cases d with
  | zero => simp [mayN] at h
  | succ d =>
    cases T with
    | leaf => rw [mayN_leaf] at h; cases h
    | mk kind name nn names pn parts many =>
      unfold textT headB
      rcases (may_facts h).2.2.2 with ⟨rfl, _⟩ | ⟨rfl, _⟩ | ⟨rfl, _⟩ | ⟨rfl, _⟩ <;> simp
theorem head_no {c : UInt8} {x y : List UInt8} {d : Nat} {T : Ty} (h : mayN d T = true) (hc : ¬ headB c) : c :: x ≠ textT T ++ y := fun e => by
  obtain ⟨k, r, h1, h2⟩ := text_head h
  rw [h1] at e
  simp at e
  exact hc (e.1 ▸ h2)
theorem no125 : ¬ headB 125 := by unfold headB; decide
theorem no41 : ¬ headB 41 := by unfold headB; decide
theorem no46 : ¬ headB 46 := by unfold headB; decide

theorem fields_inj {pa pb : Nat → Ty} {na nb : Nat → List UInt8} {d d' : Nat} (ih : ∀ j b' u v, mayN d (pa j) = true → mayN d' b' = true → textT (pa j) ++ u = textT b' ++ v → alikeT (pa j) b' = true ∧ u = v) : ∀ n i m u v,
    (∀ j, j < i + n → mayN d (pa j) = true ∧ nameB (na j) = true) → (∀ j, j < i + m → mayN d' (pb j) = true ∧ nameB (nb j) = true) →
    ((List.range' i n).flatMap fun j => textT (pa j) ++ [32] ++ na j ++ [59]) ++ 125 :: u = ((List.range' i m).flatMap fun j => textT (pb j) ++ [32] ++ nb j ++ [59]) ++ 125 :: v →
    n = m ∧ (∀ j, i ≤ j → j < i + n → alikeT (pa j) (pb j) = true ∧ na j = nb j) ∧ u = v := by
  intro n
  induction n with
  | zero =>
    intro i m u v ha hb h
    cases m with
    | zero => simp at h; exact ⟨rfl, fun j h1 h2 => by omega, h⟩
    | succ m =>
      simp only [List.range'_zero, List.flatMap_nil, List.nil_append, List.range'_succ, List.flatMap_cons, List.append_assoc] at h
      exact absurd h (head_no (hb i (by omega)).1 no125)
  | succ n hn =>
    intro i m u v ha hb h
    cases m with
    | zero =>
      simp only [List.range'_zero, List.flatMap_nil, List.nil_append, List.range'_succ, List.flatMap_cons, List.append_assoc] at h
      exact absurd h.symm (head_no (ha i (by omega)).1 no125)
    | succ m =>
      simp only [List.range'_succ, List.flatMap_cons, List.append_assoc] at h
      obtain ⟨h1, h2⟩ := ih i (pb i) _ _ (ha i (by omega)).1 (hb i (by omega)).1 h
      simp only [List.cons_append, List.nil_append, List.cons.injEq, true_and] at h2
      obtain ⟨h3, h4⟩ := cut_at (c := 59) (name_free (ha i (by omega)).2 59 (by decide) (by decide) (by decide)) (name_free (hb i (by omega)).2 59 (by decide) (by decide) (by decide)) h2
      have h4' : ((List.range' (i + 1) n).flatMap fun j => textT (pa j) ++ [32] ++ na j ++ [59]) ++ 125 :: u = ((List.range' (i + 1) m).flatMap fun j => textT (pb j) ++ [32] ++ nb j ++ [59]) ++ 125 :: v := by
        simpa only [List.append_assoc, List.cons_append, List.nil_append] using h4
      obtain ⟨rfl, h5, h6⟩ := hn (i + 1) m u v (fun j hj => ha j (by omega)) (fun j hj => hb j (by omega)) h4'
      refine ⟨rfl, fun j g1 g2 => ?_, h6⟩
      by_cases e : j = i
      · subst e; exact ⟨h1, h3⟩
      · exact h5 j (by omega) (by omega)
/-- A function's parameters behind the i-th, up to the result. -/
def tail (p : Nat → Ty) (many : Bool) (last i n : Nat) (u : List UInt8) : List UInt8 :=
  ((List.range' i n).flatMap fun j => textT (p j) ++ (if j + 1 < last ∨ many = true then [44] else [])) ++ ((if many = true then [46, 46, 46] else []) ++ 41 :: u)
theorem tail_succ (p : Nat → Ty) (many : Bool) (last i n : Nat) (u : List UInt8) : tail p many last i (n + 1) u = textT (p i) ++ ((if i + 1 < last ∨ many = true then [44] else []) ++ tail p many last (i + 1) n u) := by
  unfold tail
  simp only [List.range'_succ, List.flatMap_cons, List.append_assoc]
theorem tail_zero (p : Nat → Ty) (many : Bool) (last i : Nat) (u : List UInt8) : tail p many last i 0 u = (if many = true then [46, 46, 46] else []) ++ 41 :: u := by simp [tail]
theorem params_inj {pa pb : Nat → Ty} {ma mb : Bool} {la lb : Nat} {d d' : Nat} (ih : ∀ j b' u v, mayN d (pa j) = true → mayN d' b' = true → textT (pa j) ++ u = textT b' ++ v → alikeT (pa j) b' = true ∧ u = v) : ∀ n i m u v,
    i + n = la → i + m = lb → (∀ j, j < la → mayN d (pa j) = true) → (∀ j, j < lb → mayN d' (pb j) = true) →
    tail pa ma la i n u = tail pb mb lb i m v → n = m ∧ ma = mb ∧ (∀ j, i ≤ j → j < i + n → alikeT (pa j) (pb j) = true) ∧ u = v := by
  intro n
  induction n with
  | zero =>
    intro i m u v hla hlb ha hb h
    rw [tail_zero] at h
    cases m with
    | zero =>
      rw [tail_zero] at h
      cases ma <;> cases mb <;> simp at h
      · exact ⟨rfl, rfl, fun j _ _ => by omega, h⟩
      · exact ⟨rfl, rfl, fun j _ _ => by omega, h⟩
    | succ m =>
      rw [tail_succ] at h
      cases ma
      · exact absurd h (head_no (hb i (by omega)) no41)
      · exact absurd h (head_no (hb i (by omega)) no46)
  | succ n hn =>
    intro i m u v hla hlb ha hb h
    rw [tail_succ] at h
    cases m with
    | zero =>
      rw [tail_zero] at h
      cases mb
      · exact absurd h.symm (head_no (ha i (by omega)) no41)
      · exact absurd h.symm (head_no (ha i (by omega)) no46)
    | succ m =>
      rw [tail_succ] at h
      obtain ⟨h1, h2⟩ := ih i (pb i) _ _ (ha i (by omega)) (hb i (by omega)) h
      have key : tail pa ma la (i + 1) n u = tail pb mb lb (i + 1) m v := by
        by_cases ca : i + 1 < la ∨ ma = true
        · rw [if_pos ca] at h2
          by_cases cb : i + 1 < lb ∨ mb = true
          · rw [if_pos cb] at h2
            simpa using h2
          · rw [if_neg cb] at h2
            have hm0 : m = 0 := by omega
            subst hm0
            have hmb : mb = false := by cases mb <;> simp_all
            rw [tail_zero, hmb] at h2
            simp at h2
        · rw [if_neg ca] at h2
          have hn0 : n = 0 := by omega
          subst hn0
          have hma : ma = false := by cases ma <;> simp_all
          by_cases cb : i + 1 < lb ∨ mb = true
          · rw [if_pos cb, tail_zero, hma] at h2
            simp at h2
          · rw [if_neg cb] at h2
            simpa using h2
      obtain ⟨rfl, h4, h5, h6⟩ := hn (i + 1) m u v (by omega) (by omega) ha hb key
      refine ⟨rfl, h4, fun j g1 g2 => ?_, h6⟩
      by_cases e : j = i
      · subst e; exact h1
      · exact h5 j (by omega) (by omega)
theorem ba_empty {a b : ByteArray} (ha : a.size = 0) (hb : b.size = 0) : a = b := by
  apply ByteArray.ext
  apply Array.ext
  · show a.size = b.size
    omega
  · intro i h1 _
    have : i < a.size := h1
    omega
theorem bytes_inj {a b : ByteArray} (h : bytes a = bytes b) : a = b := by
  apply ByteArray.ext
  exact Array.toList_inj.1 h
/-- THE TEXT TELLS THE TYPE. -/
theorem text_inj : ∀ (a : Ty) (d d' : Nat) (b : Ty) (u v : List UInt8), mayN d a = true → mayN d' b = true → textT a ++ u = textT b ++ v → alikeT a b = true ∧ u = v := by
  intro a
  induction a with
  | leaf => intro d d' b u v ha; rw [mayN_leaf] at ha; cases ha
  | mk kind name nn names pn parts many ih =>
    intro d d' b u v ha hb h
    rcases b with _ | ⟨kind', name', nn', names', pn', parts', many'⟩
    · rw [mayN_leaf] at hb; cases hb
    cases d with
    | zero => simp [mayN] at ha
    | succ d =>
      cases d' with
      | zero => simp [mayN] at hb
      | succ d' =>
        have fa := may_facts ha
        have fb := may_facts hb
        unfold textT at h
        rcases fa.2.2.2 with ⟨rfl, a1, a2, a3, a4, rfl, a6, _⟩ | ⟨rfl, a1, rfl, a3⟩ | ⟨rfl, a1, rfl, rfl, rfl⟩ | ⟨rfl, a1, rfl, rfl, rfl⟩ <;>
          rcases fb.2.2.2 with ⟨rfl, b1, b2, b3, b4, rfl, b6, _⟩ | ⟨rfl, b1, rfl, b3⟩ | ⟨rfl, b1, rfl, rfl, rfl⟩ | ⟨rfl, b1, rfl, rfl, rfl⟩ <;> simp at h
        · obtain ⟨h1, h2⟩ := cut_at (c := 123) (name_free a2 123 (by decide) (by decide) (by decide)) (name_free b2 123 (by decide) (by decide) (by decide)) h
          have h2' : ((List.range' 0 nn).flatMap fun j => textT (parts j) ++ [32] ++ bytes (names j) ++ [59]) ++ 125 :: u = ((List.range' 0 nn').flatMap fun j => textT (parts' j) ++ [32] ++ bytes (names' j) ++ [59]) ++ 125 :: v := by
            simpa [← List.range_eq_range'] using h2
          obtain ⟨rfl, h3, h4⟩ := fields_inj (na := fun j => bytes (names j)) (nb := fun j => bytes (names' j)) (fun j b' u v x1 x2 x3 => ih j d d' b' u v x1 x2 x3) nn 0 nn' u v (fun j hj => ⟨fa.2.2.1 j (by omega), a6 j (by omega)⟩) (fun j hj => ⟨fb.2.2.1 j (by omega), b6 j (by omega)⟩) h2'
          refine ⟨?_, h4⟩
          unfold alikeT
          simp [a1, b1, bytes_inj h1]
          exact ⟨fun j hj => bytes_inj (h3 j (by omega) (by omega)).2, fun j hj => (h3 j (by omega) (by omega)).1⟩
        · have h' : tail parts many (pn - 1) 0 (pn - 1) (textT (parts (pn - 1)) ++ u) = tail parts' many' (pn' - 1) 0 (pn' - 1) (textT (parts' (pn' - 1)) ++ v) := by
            unfold tail
            simpa [← List.range_eq_range'] using h
          obtain ⟨e1, rfl, h3, h4⟩ := params_inj (fun j b' u v x1 x2 x3 => ih j d d' b' u v x1 x2 x3) (pn - 1) 0 (pn' - 1) _ _ (by omega) (by omega) (fun j hj => fa.2.2.1 j (by omega)) (fun j hj => fb.2.2.1 j (by omega)) h'
          obtain rfl : pn = pn' := by omega
          obtain ⟨h5, h6⟩ := ih (pn - 1) d d' _ _ _ (fa.2.2.1 _ (by omega)) (fb.2.2.1 _ (by omega)) h4
          refine ⟨?_, h6⟩
          unfold alikeT
          simp [ba_empty a1 b1]
          intro j hj
          by_cases e : j = pn - 1
          · subst e; exact h5
          · exact h3 j (by omega) (by omega)
        · exact ⟨by unfold alikeT; simp [ba_empty a1 b1], h⟩
        · exact ⟨by unfold alikeT; simp [ba_empty a1 b1], h⟩
/-- Types that are alike have one text. -/
theorem text_alike : ∀ (a : Ty) (d d' : Nat) (b : Ty), mayN d a = true → mayN d' b = true → alikeT a b = true → textT a = textT b := by
  intro a
  induction a with
  | leaf => intro d d' b ha; rw [mayN_leaf] at ha; cases ha
  | mk kind name nn names pn parts many ih =>
    intro d d' b ha hb h
    rcases b with _ | ⟨kind', name', nn', names', pn', parts', many'⟩
    · rw [mayN_leaf] at hb; cases hb
    cases d with
    | zero => simp [mayN] at ha
    | succ d =>
      cases d' with
      | zero => simp [mayN] at hb
      | succ d' =>
        have fa := may_facts ha
        have fb := may_facts hb
        unfold alikeT at h
        simp only [Bool.and_eq_true, decide_eq_true_eq, List.all_eq_true, List.mem_range] at h
        obtain ⟨⟨⟨⟨⟨⟨rfl, rfl⟩, rfl⟩, rfl⟩, rfl⟩, h6⟩, h7⟩ := h
        have hp : ∀ i, i < pn → textT (parts i) = textT (parts' i) := fun i hi => ih i d d' (parts' i) (fa.2.2.1 i hi) (fb.2.2.1 i hi) (h7 i hi)
        unfold textT
        split
        · rfl
        split
        · rfl
        split
        · have hnn : nn = pn := by
            rcases fa.2.2.2 with ⟨_, _, _, _, _, e, _⟩ | ⟨e, _⟩ | ⟨e, _⟩ | ⟨e, _⟩
            · exact e
            all_goals omega
          have : ((List.range pn).flatMap fun i => textT (parts i) ++ [32] ++ bytes (names i) ++ [59]) = ((List.range pn).flatMap fun i => textT (parts' i) ++ [32] ++ bytes (names' i) ++ [59]) := by
            rw [List.flatMap_def, List.flatMap_def]
            congr 1
            apply List.map_congr_left
            intro i hi
            rw [List.mem_range] at hi
            rw [hp i hi, h6 i (by omega)]
          rw [this]
        · have hp1 : 1 ≤ pn := by
            rcases fa.2.2.2 with ⟨_, _, _, e, _⟩ | ⟨_, _, _, e⟩ | ⟨e, _⟩ | ⟨e, _⟩
            · exact e
            · exact e
            all_goals omega
          have : ((List.range (pn - 1)).flatMap fun i => textT (parts i) ++ (if i + 1 < pn - 1 ∨ many = true then [44] else [])) = ((List.range (pn - 1)).flatMap fun i => textT (parts' i) ++ (if i + 1 < pn - 1 ∨ many = true then [44] else [])) := by
            rw [List.flatMap_def, List.flatMap_def]
            congr 1
            apply List.map_congr_left
            intro i hi
            rw [List.mem_range] at hi
            rw [hp i (by omega)]
          rw [this, hp (pn - 1) (by omega)]
/-- The same text: alike. -/
theorem text_same {a b : Ty} {d d' : Nat} (ha : mayN d a = true) (hb : mayN d' b = true) : decide (textT a = textT b) = alikeT a b := by
  cases h : alikeT a b with
  | true => exact decide_eq_true (text_alike a d d' b ha hb h)
  | false =>
    refine decide_eq_false fun e => ?_
    have := (text_inj a d d' b [] [] ha hb (by rw [e])).1
    rw [h] at this
    cases this
end Go.Proofs.Ytmbhcpnlfdgkjaa.T
