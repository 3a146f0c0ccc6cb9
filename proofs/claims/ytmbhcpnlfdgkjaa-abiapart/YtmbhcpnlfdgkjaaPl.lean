/- Where the words of a call lie, as plain lists. No program. -/
import Derived.Test.YtmbhcpnlfdgkjaaTy
namespace Go.Proofs.Ytmbhcpnlfdgkjaa.T
open Go.RowKit
set_option linter.unusedVariables false
set_option linter.unusedSimpArgs false
abbrev Lo := Bool × Nat
def upN (n : Nat) : Nat := (n + 1) / 2 * 2
/-- The next place of the stack. -/
def plN (L : List Lo) : Nat := L.foldl (fun n l => if l.1 = true ∧ n ≤ l.2 then l.2 + 1 else n) 0
def rgN (L : List Lo) : Nat := L.foldl (fun r l => if r ≤ l.2 then l.2 + 1 else r) 0
/-- The lowest free register; 4: none. -/
def regN (L : List Lo) : Nat := if L.any (·.1) = true then 4 else rgN L
def freeB (L : List Lo) (r : Nat) : Bool := !(L.any fun l => l.1 || decide (l.2 = r)) && decide (r < 4)
def adv (r p : Nat) : Nat → Nat × Nat
  | 0 => (r, p)
  | k + 1 => if (adv r p k).1 < 4 then ((adv r p k).1 + 1, (adv r p k).2) else ((adv r p k).1, (adv r p k).2 + 1)
def lay (r p : Nat) : Nat → List Lo
  | 0 => []
  | k + 1 => lay r p k ++ [if (adv r p k).1 < 4 then (false, (adv r p k).1) else (true, (adv r p k).2)]
def r1N (r : Nat) (even : Bool) : Nat := if even = true ∧ r < 4 then upN r else r
def p1N (r p : Nat) (even : Bool) : Nat := if even = true ∧ ¬ r < 4 then upN p else p
def r2N (r : Nat) (even long : Bool) : Nat := if long = true ∧ 4 < r1N r even + 2 then 4 else r1N r even
def p2N (r p : Nat) (even long : Bool) : Nat := if (long = true ∧ 4 < r1N r even + 2) ∧ r1N r even < 4 then upN (p1N r p even) else p1N r p even
def p3N (r p : Nat) (even long : Bool) : Nat := if even = true ∧ 4 ≤ r2N r even long then upN (p2N r p even long) else p2N r p even long
/-- The words of a parameter, behind others. -/
def wordsL (had : List Lo) (n : Nat) (even long : Bool) : List Lo := lay (r2N (regN had) even long) (p3N (regN had) (plN had) even long) n
theorem snoc_ind {α : Type} {P : List α → Prop} (h0 : P []) (h1 : ∀ xs x, P xs → P (xs ++ [x])) (L : List α) : P L := by
  rw [← List.reverse_reverse L]
  induction L.reverse with
  | nil => exact h0
  | cons x xs ih => rw [List.reverse_cons]; exact h1 _ _ ih
theorem plN_snoc (L : List Lo) (l : Lo) : plN (L ++ [l]) = if l.1 = true ∧ plN L ≤ l.2 then l.2 + 1 else plN L := by unfold plN; rw [List.foldl_append]; rfl
theorem rgN_snoc (L : List Lo) (l : Lo) : rgN (L ++ [l]) = if rgN L ≤ l.2 then l.2 + 1 else rgN L := by unfold rgN; rw [List.foldl_append]; rfl
theorem lay_len (r p : Nat) : ∀ n, (lay r p n).length = n
  | 0 => rfl
  | n + 1 => by simp [lay, lay_len r p n]
theorem up_ge (n : Nat) : n ≤ upN n := by unfold upN; omega
theorem up_le (n : Nat) : upN n ≤ n + 1 := by unfold upN; omega
theorem up_even (n : Nat) : upN n % 2 = 0 := by unfold upN; omega
theorem r1_ge (r : Nat) (e : Bool) : r ≤ r1N r e := by unfold r1N; split; exact up_ge r; exact Nat.le_refl _
theorem r1_le {r : Nat} (h : r ≤ 4) (e : Bool) : r1N r e ≤ 4 := by unfold r1N; split; (next k => have := up_le r; omega); exact h
theorem r2_ge {r : Nat} (h : r ≤ 4) (e l : Bool) : r ≤ r2N r e l := by unfold r2N; split; exact h; exact r1_ge r e
theorem r2_le {r : Nat} (h : r ≤ 4) (e l : Bool) : r2N r e l ≤ 4 := by unfold r2N; split; exact Nat.le_refl _; exact r1_le h e
theorem p1_ge (r p : Nat) (e : Bool) : p ≤ p1N r p e := by unfold p1N; split; exact up_ge p; exact Nat.le_refl _
theorem p2_ge (r p : Nat) (e l : Bool) : p ≤ p2N r p e l := by unfold p2N; split; exact Nat.le_trans (p1_ge r p e) (up_ge _); exact p1_ge r p e
theorem p3_ge (r p : Nat) (e l : Bool) : p ≤ p3N r p e l := by unfold p3N; split; exact Nat.le_trans (p2_ge r p e l) (up_ge _); exact p2_ge r p e l
theorem p1_le (r p : Nat) (e : Bool) : p1N r p e ≤ p + 1 := by unfold p1N; split; exact up_le p; omega
theorem p2_le (r p : Nat) (e l : Bool) : p2N r p e l ≤ p + 2 := by unfold p2N; have := p1_le r p e; have := up_le (p1N r p e); split <;> omega
theorem p3_le (r p : Nat) (e l : Bool) : p3N r p e l ≤ p + 3 := by unfold p3N; have := p2_le r p e l; have := up_le (p2N r p e l); split <;> omega
theorem adv_bounds (r p : Nat) : ∀ k, (adv r p k).1 ≤ r + k ∧ (adv r p k).2 ≤ p + k ∧ p ≤ (adv r p k).2 ∧ r ≤ (adv r p k).1 ∧ ((adv r p k).1 ≤ 4 ∨ (adv r p k).1 = r)
  | 0 => ⟨Nat.le_refl _, Nat.le_refl _, Nat.le_refl _, Nat.le_refl _, Or.inr rfl⟩
  | k + 1 => by
    have h := adv_bounds r p k
    simp only [adv]
    split <;> simp <;> omega
/-- What is known of the words that lie already. -/
structure Had (L : List Lo) (r p : Nat) : Prop where
  reg : regN L = r
  pl : plN L = p
  le : r ≤ 4
  regs : ∀ l, l ∈ L → l.1 = false → l.2 < r
  stk : ∀ l, l ∈ L → l.1 = true → l.2 < p ∧ r = 4
  dup : L.Nodup
theorem Had.nil : Had [] 0 0 := ⟨rfl, rfl, by omega, by simp, by simp, by simp⟩
theorem rg_ge (L : List Lo) : ∀ l, l ∈ L → l.2 < rgN L := by
  induction L using snoc_ind with
  | h0 => simp
  | h1 xs x ih =>
    intro l hl
    rw [rgN_snoc]
    rcases List.mem_append.1 hl with h | h
    · have := ih l h; split <;> omega
    · simp at h; subst h; split <;> omega
theorem pl_ge (L : List Lo) : ∀ l, l ∈ L → l.1 = true → l.2 < plN L := by
  induction L using snoc_ind with
  | h0 => simp
  | h1 xs x ih =>
    intro l hl h1
    rw [plN_snoc]
    rcases List.mem_append.1 hl with h | h
    · have := ih l h h1; split <;> omega
    · simp at h; subst h; split <;> simp_all
/-- A word more: in a register at or above the lowest free one, or at or above the next place. -/
theorem Had.reg1 {L : List Lo} {r p a : Nat} (h : Had L r p) (ha : r ≤ a) (h4 : a < 4) : Had (L ++ [(false, a)]) (a + 1) p := by
  have hns : L.any (·.1) = false := by
    rw [List.any_eq_false]
    intro l hl he
    have := (h.stk l hl he).2
    omega
  have hrg : rgN L = r := by have := h.reg; unfold regN at this; rw [hns] at this; simpa using this
  refine ⟨?_, ?_, by omega, ?_, ?_, ?_⟩
  · unfold regN
    rw [List.any_append, hns, rgN_snoc, hrg]
    simp
    omega
  · rw [plN_snoc]; simp [h.pl]
  · intro l hl he
    rcases List.mem_append.1 hl with k | k
    · have := h.regs l k he; omega
    · simp at k; subst k; simp
  · intro l hl he
    rcases List.mem_append.1 hl with k | k
    · have := (h.stk l k he).2; omega
    · simp at k; subst k; simp at he
  · rw [List.nodup_append]
    refine ⟨h.dup, by simp, ?_⟩
    intro x hx y hy e
    simp at hy
    subst hy
    subst e
    have := h.regs _ hx rfl
    simp at this
    omega
theorem Had.stk1 {L : List Lo} {r p a : Nat} (h : Had L r p) (ha : p ≤ a) : Had (L ++ [(true, a)]) 4 (a + 1) := by
  refine ⟨?_, ?_, by omega, ?_, ?_, ?_⟩
  · unfold regN; simp
  · rw [plN_snoc]; simp [h.pl, ha]
  · intro l hl he
    rcases List.mem_append.1 hl with k | k
    · have := h.regs l k he; have := h.le; omega
    · simp at k; subst k; simp at he
  · intro l hl he
    rcases List.mem_append.1 hl with k | k
    · have := (h.stk l k he).1; exact ⟨by omega, rfl⟩
    · simp at k; subst k; exact ⟨by simp, rfl⟩
  · rw [List.nodup_append]
    refine ⟨h.dup, by simp, ?_⟩
    intro x hx y hy e
    simp at hy
    subst hy
    subst e
    have := (h.stk _ hx rfl).1
    simp at this
    omega
theorem Had.lay {L : List Lo} {r p a q : Nat} (h : Had L r p) (ha : r ≤ a) (h4 : a ≤ 4) (hq : p ≤ q) : ∀ n, ∃ r' p', Had (L ++ lay a q n) r' p' ∧ r' ≤ (adv a q n).1 ∧ p' ≤ (adv a q n).2 ∧ p ≤ p'
  | 0 => ⟨r, p, by simpa [T.lay] using h, ha, hq, Nat.le_refl _⟩
  | n + 1 => by
    obtain ⟨r', p', h', e1, e2, e3⟩ := Had.lay h ha h4 hq n
    simp only [T.lay, adv, ← List.append_assoc]
    by_cases hc : (adv a q n).1 < 4
    · simp only [if_pos hc]
      exact ⟨_, _, h'.reg1 e1 hc, Nat.le_refl _, e2, e3⟩
    · simp only [if_neg hc]
      exact ⟨_, _, h'.stk1 e2, by omega, Nat.le_refl _, by omega⟩
def kindT : Ty → Int
  | .leaf => 0
  | .mk k .. => k
def parN (t : Ty) : Nat := if 4 < sizeT t then 1 else sizeT t
def parE (t : Ty) : Bool := evenT t && !decide (4 < sizeT t)
/-- The words of a parameter of a type, behind others. -/
def stepL (had : List Lo) (t : Ty) : List Lo := wordsL had (parN t) (parE t) (decide (kindT t = 2))
def hads (h0 : List Lo) (parts : Nat → Ty) : Nat → List Lo
  | 0 => h0
  | k + 1 => hads h0 parts k ++ stepL (hads h0 parts k) (parts k)
def had0 (res : Nat) (many : Bool) : List Lo := (if 2 < res then [(false, 0)] else []) ++ (if many = true then [(false, if 2 < res then 1 else 0)] else [])
structure Pl where
  result : Int
  count : Int
  params : List (List Lo)
  copied : List Bool
  results : List Nat
  area : Nat
  extra : Nat
def allN (pn : Nat) (parts : Nat → Ty) (many : Bool) : List Lo := hads (had0 (sizeT (parts (pn - 1))) many) parts (pn - 1)
def plT (pn : Nat) (parts : Nat → Ty) (many : Bool) (ext : Nat) : Pl where
  result := if 2 < sizeT (parts (pn - 1)) then 0 else -1
  count := if many = true then (if 2 < sizeT (parts (pn - 1)) then 1 else 0) else -1
  params := (List.range (pn - 1)).map fun i => stepL (hads (had0 (sizeT (parts (pn - 1))) many) parts i) (parts i)
  copied := (List.range (pn - 1)).map fun i => decide (4 < sizeT (parts i))
  results := if 2 < sizeT (parts (pn - 1)) then [] else if sizeT (parts (pn - 1)) = 2 then [0, 1] else [0]
  extra := if many = true then upN (plN (allN pn parts many)) else 0
  area := upN (if many = true then upN (plN (allN pn parts many)) + ext else plN (allN pn parts many))
theorem Had.start (res : Nat) (many : Bool) : ∃ r, Had (had0 res many) r 0 := by
  by_cases h : 2 < res
  · have h1 := Had.nil.reg1 (a := 0) (by omega) (by omega)
    cases many
    · exact ⟨1, by simpa [had0, h] using h1⟩
    · exact ⟨2, by simpa [had0, h] using h1.reg1 (a := 1) (by omega) (by omega)⟩
  · cases many
    · exact ⟨0, by simpa [had0, h] using Had.nil⟩
    · exact ⟨1, by simpa [had0, h] using Had.nil.reg1 (a := 0) (by omega) (by omega)⟩
theorem Had.step {L : List Lo} {r p : Nat} (h : Had L r p) (t : Ty) : ∃ r' p', Had (L ++ stepL L t) r' p' ∧ p ≤ p' ∧ p' ≤ p + 3 + parN t := by
  unfold stepL wordsL
  rw [h.reg, h.pl]
  obtain ⟨r', p', h', e1, e2, e3⟩ := Had.lay h (r2_ge h.le (parE t) (decide (kindT t = 2))) (r2_le h.le _ _) (p3_ge r p (parE t) (decide (kindT t = 2))) (parN t)
  refine ⟨r', p', h', e3, ?_⟩
  have := (adv_bounds (r2N r (parE t) (decide (kindT t = 2))) (p3N r p (parE t) (decide (kindT t = 2))) (parN t)).2.1
  have := p3_le r p (parE t) (decide (kindT t = 2))
  omega
theorem par_le {t : Ty} : parN t ≤ 4 := by unfold parN; split <;> omega
theorem hads_had (res : Nat) (many : Bool) (parts : Nat → Ty) : ∀ k, ∃ r p, Had (hads (had0 res many) parts k) r p ∧ p ≤ 7 * k
  | 0 => by obtain ⟨r, h⟩ := Had.start res many; exact ⟨r, 0, h, by omega⟩
  | k + 1 => by
    obtain ⟨r, p, h, e⟩ := hads_had res many parts k
    obtain ⟨r', p', h', e1, e2⟩ := h.step (parts k)
    have := par_le (t := parts k)
    exact ⟨r', p', h', by omega⟩
theorem step_len (had : List Lo) (t : Ty) : (stepL had t).length = parN t := lay_len _ _ _
theorem hads_len (res : Nat) (many : Bool) (parts : Nat → Ty) : ∀ k, (hads (had0 res many) parts k).length ≤ 2 + 4 * k
  | 0 => by unfold hads had0; split <;> split <;> simp
  | k + 1 => by
    have := hads_len res many parts k
    have := par_le (t := parts k)
    simp only [hads, List.length_append, step_len]
    omega
theorem Had.small {L : List Lo} {r p : Nat} (h : Had L r p) (l : Lo) (hl : l ∈ L) : l.2 ≤ p + 4 := by
  cases e : l.1
  · have := h.regs l hl e; have := h.le; omega
  · have := (h.stk l hl e).1; omega
end Go.Proofs.Ytmbhcpnlfdgkjaa.T
