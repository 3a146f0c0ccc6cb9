/- What the program's own May asks of an object, as a plain thing; that is R1. No program. -/
import Derived.Test.YthbhlmbhnidbhaaOb
namespace Go.Proofs.Ythbhlmbhnidbhaa.T
open Go.RowKit Go.Proofs.Ythbhlmbhnidbhaa.M
set_option linter.unusedVariables false
/-- What is asked of a symbol by its kind, wherever it lies. -/
def kMayB (s : Sy) : Bool :=
  if s.kind = 1 then decide (0 ≤ s.frame) && decide (s.frame ≤ 16000)
  else if s.kind = 2 then decide (s.frame = 0)
  else if s.kind = 3 ∨ s.kind = 4 then decide (s.pl = 0) && decide (s.size = 0) && decide (s.frame = 0) && !s.stat
  else false
def sMayB (s : Sy) : Bool := nameB (bytes s.name) && sgnB s.sign && kMayB s
def symB (L : List Sy) (k : Nat) : Bool := match L[k]? with | some s => newB L k s && sMayB s | none => false
def symsB (L : List Sy) : Bool := (List.range L.length).all (symB L)
def fillStep (kd wd nx : Int) (s : Sy) : Option Int :=
  if s.kind = kd then (if s.pl = nx ∧ 1 ≤ s.size ∧ s.size ≤ wd - nx then some (nx + s.size) else none) else some nx
def fillSt (L : List Sy) (kd wd : Int) : Nat → Option Int
  | 0 => some 0
  | k + 1 => match fillSt L kd wd k, L[k]? with
    | some nx, some s => fillStep kd wd nx s
    | _, _ => none
def fillB (L : List Sy) (kd wd : Int) : Bool := decide (fillSt L kd wd L.length = some wd)
def mayP (o : Ob) : Bool :=
  decide (o.code.length ≤ 6000) && decide (o.data.length ≤ 16000) && decide (o.syms.length ≤ 400) && decide (o.rels.length ≤ 6000)
  && symsB o.syms && fillB o.syms 1 o.code.length && fillB o.syms 2 o.data.length && (List.range o.rels.length).all (relB o)
theorem fillSt_none {L : List Sy} {kd wd : Int} {k : Nat} (h : fillSt L kd wd k = none) : ∀ n, k ≤ n → fillSt L kd wd n = none := by
  intro n hn
  induction n with
  | zero => rw [show k = 0 by omega] at h; exact h
  | succ n ih =>
    by_cases e : k = n + 1
    · rw [← e]; exact h
    · unfold fillSt; rw [ih (by omega)]
theorem fillSt_succ {L : List Sy} {kd wd nx : Int} {k : Nat} (hk : k < L.length) (h : fillSt L kd wd k = some nx) : fillSt L kd wd (k + 1) = fillStep kd wd nx L[k] := by
  unfold fillSt
  rw [h, List.getElem?_eq_getElem hk]
theorem fillSt_bnd {L : List Sy} {kd wd : Int} (hw : 0 ≤ wd) : ∀ {k : Nat} {nx : Int}, fillSt L kd wd k = some nx → 0 ≤ nx ∧ nx ≤ wd
  | 0, nx, h => by simp [fillSt] at h; omega
  | k + 1, nx, h => by
    unfold fillSt at h
    split at h
    · rename_i n0 s h0 h1
      have := fillSt_bnd hw h0
      unfold fillStep at h
      split at h
      · split at h
        · simp at h; omega
        · cases h
      · simp at h; omega
    · cases h
theorem symB_at {L : List Sy} {k : Nat} (hk : k < L.length) : symB L k = (newB L k L[k] && sMayB L[k]) := by
  unfold symB
  rw [List.getElem?_eq_getElem hk]
/-- What the program finds right is right. -/
theorem sym_of {L : List Sy} {wc wd : Int} (c0 : 0 ≤ wc) (c1 : wc ≤ 16000) (d0 : 0 ≤ wd) (d1 : wd ≤ 16000) (ha : ∀ j, j < L.length → symB L j = true) :
    ∀ {k : Nat}, k ≤ L.length → ∀ {c d : Int}, fillSt L 1 wc k = some c → fillSt L 2 wd k = some d → symSt L k = some (c, d)
  | 0, _, c, d, h1, h2 => by cases h1; cases h2; rfl
  | k + 1, hk, c, d, h1, h2 => by
    have hk' : k < L.length := by omega
    cases e1 : fillSt L 1 wc k with
    | none => rw [fillSt_none e1 _ (by omega)] at h1; cases h1
    | some x =>
    cases e2 : fillSt L 2 wd k with
    | none => rw [fillSt_none e2 _ (by omega)] at h2; cases h2
    | some y =>
      have hs := sym_of c0 c1 d0 d1 ha (by omega) e1 e2
      rw [fillSt_succ hk' e1] at h1
      rw [fillSt_succ hk' e2] at h2
      have bx := fillSt_bnd c0 e1
      have by' := fillSt_bnd d0 e2
      have hb := ha k hk'
      rw [symB_at hk'] at hb
      unfold sMayB at hb
      simp only [Bool.and_eq_true] at hb
      unfold symSt
      rw [hs, List.getElem?_eq_getElem hk']
      simp only [hb.1, hb.2.1.1, hb.2.1.2, Bool.and_self, if_true]
      have hq := hb.2.2
      generalize L[k] = s at *
      clear hb hs ha
      unfold kMayB at hq
      unfold fillStep at h1 h2
      unfold symStep
      by_cases k1 : s.kind = 1
      · simp only [k1, if_true, Bool.and_eq_true, decide_eq_true_eq] at hq h1
        rw [if_neg (by omega)] at h2
        split at h1
        · rw [if_neg (by omega), if_neg (by omega), if_pos k1, if_pos (by omega)]
          simp at h1 h2 ⊢
          omega
        · cases h1
      · rw [if_neg k1] at h1 hq
        by_cases k2 : s.kind = 2
        · rw [if_pos k2] at h2 hq
          simp only [decide_eq_true_eq] at hq
          split at h2
          · rw [if_neg (by omega), if_neg (by omega), if_neg k1, if_pos (by omega)]
            simp at h1 h2 ⊢
            omega
          · cases h2
        · rw [if_neg k2] at h2 hq
          by_cases k3 : s.kind = 3 ∨ s.kind = 4
          · rw [if_pos k3] at hq ⊢
            simp only [Bool.and_eq_true, decide_eq_true_eq, Bool.not_eq_true'] at hq
            rw [if_pos (by obtain ⟨⟨⟨a, b⟩, c⟩, d⟩ := hq; exact ⟨a, b, c, d⟩)]
            simp at h1 h2 ⊢
            omega
          · rw [if_neg k3] at hq
            cases hq
/-- What is right the program finds so. -/
theorem of_sym {L : List Sy} {n : Nat} (hn : n ≤ L.length) {C D : Int} (h : symSt L n = some (C, D)) :
    ∀ k, k ≤ n → ∃ c d, symSt L k = some (c, d) ∧ c ≤ C ∧ d ≤ D ∧ fillSt L 1 C k = some c ∧ fillSt L 2 D k = some d ∧ (∀ j, j < k → symB L j = true) := by
  have mono : ∀ m k, k + m = n → ∃ c d, symSt L k = some (c, d) ∧ c ≤ C ∧ d ≤ D := by
    intro m
    induction m with
    | zero => intro k hk; rw [show k = n by omega]; exact ⟨C, D, h, Int.le_refl _, Int.le_refl _⟩
    | succ m ih =>
      intro k hk
      obtain ⟨c, d, hs, hc, hd⟩ := ih (k + 1) (by omega)
      unfold symSt at hs
      split at hs
      · rename_i c0 d0 s h0 h1
        refine ⟨c0, d0, h0, ?_⟩
        split at hs
        · unfold symStep at hs
          split at hs
          · split at hs
            · simp at hs; omega
            · cases hs
          · split at hs
            · cases hs
            · split at hs
              · split at hs
                · simp at hs; omega
                · cases hs
              · split at hs
                · simp at hs; omega
                · cases hs
        · cases hs
      · cases hs
  intro k hk
  induction k with
  | zero =>
    obtain ⟨c, d, e, h1, h2⟩ := mono n 0 (by omega)
    simp [symSt] at e
    obtain ⟨rfl, rfl⟩ := e
    exact ⟨0, 0, rfl, h1, h2, rfl, rfl, fun j hj => by omega⟩
  | succ k ih =>
    obtain ⟨c, d, e, h1, h2, f1, f2, ha⟩ := ih (by omega)
    obtain ⟨c', d', e', h1', h2'⟩ := mono (n - (k + 1)) (k + 1) (by omega)
    have hkl : k < L.length := by omega
    refine ⟨c', d', e', h1', h2', ?_⟩
    rw [fillSt_succ hkl f1, fillSt_succ hkl f2]
    have e'' := e'
    unfold symSt at e''
    rw [e, List.getElem?_eq_getElem hkl] at e''
    simp only at e''
    have key : symB L k = true ∧ fillStep 1 C c L[k] = some c' ∧ fillStep 2 D d L[k] = some d' := by
      rw [symB_at hkl]
      generalize newB L k L[k] = nb at *
      generalize L[k] = s at *
      split at e''
      · rename_i hb
        simp only [Bool.and_eq_true] at hb
        unfold sMayB kMayB fillStep
        rw [hb.1.1, hb.1.2, hb.2]
        unfold symStep at e''
        split at e''
        · rename_i k3
          split at e''
          · rename_i hq
            simp at e''
            obtain ⟨rfl, rfl⟩ := e''
            rw [if_neg (by omega), if_neg (by omega), if_pos k3, if_neg (by omega), if_neg (by omega)]
            simp [hq]
          · cases e''
        · rename_i k3
          split at e''
          · cases e''
          · split at e''
            · rename_i k1
              split at e''
              · rename_i hq
                simp at e''
                obtain ⟨rfl, rfl⟩ := e''
                rw [if_pos k1, if_pos k1, if_pos (by omega), if_neg (by omega)]
                simp [hq]
              · cases e''
            · rename_i k1
              split at e''
              · rename_i hq
                simp at e''
                obtain ⟨rfl, rfl⟩ := e''
                rw [if_neg k1, if_pos hq.1, if_neg k1, if_pos hq.1, if_pos (by omega)]
                simp [hq]
              · cases e''
      · cases e''
    exact ⟨key.2.1, key.2.2, fun j hj => by
      by_cases q : j = k
      · subst q; exact key.1
      · exact ha j (by omega)⟩
theorem mayP_eq (o : Ob) : mayP o = mayO o := by
  unfold mayP mayO
  by_cases h1 : o.code.length ≤ 6000
  case neg => simp [h1]
  by_cases h2 : o.data.length ≤ 16000
  case neg => simp [h2]
  have key : (symsB o.syms && fillB o.syms 1 o.code.length && fillB o.syms 2 o.data.length) = decide (symSt o.syms o.syms.length = some ((o.code.length : Int), (o.data.length : Int))) := by
    rw [Bool.eq_iff_iff]
    simp only [Bool.and_eq_true, decide_eq_true_eq, symsB, fillB, List.all_eq_true, List.mem_range]
    constructor
    · rintro ⟨⟨ha, f1⟩, f2⟩
      exact sym_of (by omega) (by omega) (by omega) (by omega) ha (Nat.le_refl _) f1 f2
    · intro h
      obtain ⟨c, d, e, -, -, f1, f2, ha⟩ := of_sym (Nat.le_refl _) h _ (Nat.le_refl _)
      rw [h] at e
      cases e
      exact ⟨⟨ha, f1⟩, f2⟩
  rw [← key]
  simp only [Bool.and_assoc]
end Go.Proofs.Ythbhlmbhnidbhaa.T
