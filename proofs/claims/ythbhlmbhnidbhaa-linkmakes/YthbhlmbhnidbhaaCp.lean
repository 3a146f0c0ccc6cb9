/- What is wrong with objects that are linked, as a plain thing. No walk. -/
import Derived.Test.YthbhlmbhnidbhaaAd
namespace Go.Proofs.Ythbhlmbhnidbhaa.T
open Go.RowKit Go.Proofs.Ythbhlmbhnidbhaa.M
set_option linter.unusedVariables false
set_option linter.unusedSimpArgs false
/-- The first symbol of which something is so, object by object. -/
def find2 (p : Nat → Sy → Bool) : List Ob → Nat → Option (Nat × Nat)
  | [], _ => none
  | o :: r, u => match o.syms.findIdx? (p u) with
    | some i => some (u, i)
    | none => find2 p r (u + 1)
theorem find2_yes (p : Nat → Sy → Bool) : ∀ (l : List Ob) (u0 u i : Nat) (hu : u < l.length), l[u].syms.findIdx? (p (u0 + u)) = some i → (∀ v (hv : v < u), (l[v]'(by omega)).syms.findIdx? (p (u0 + v)) = none) → find2 p l u0 = some (u0 + u, i)
  | [], u0, u, i, hu, _, _ => absurd hu (by simp)
  | o :: r, u0, 0, i, hu, h, hn => by
    unfold find2
    simp only [List.getElem_cons_zero, Nat.add_zero] at h
    rw [h]
    simp
  | o :: r, u0, u + 1, i, hu, h, hn => by
    have h0 := hn 0 (by omega)
    simp only [List.getElem_cons_zero, Nat.add_zero] at h0
    unfold find2
    rw [h0]
    simp only
    rw [find2_yes p r (u0 + 1) u i (by simpa using hu) (by rw [show u0 + 1 + u = u0 + (u + 1) by omega]; exact h) (fun v hv => by rw [show u0 + 1 + v = u0 + (v + 1) by omega]; exact hn (v + 1) (by omega))]
    congr 2
    omega
theorem find2_no (p : Nat → Sy → Bool) : ∀ (l : List Ob) (u0 : Nat), (∀ v (hv : v < l.length), l[v].syms.findIdx? (p (u0 + v)) = none) → find2 p l u0 = none
  | [], _, _ => rfl
  | o :: r, u0, hn => by
    have h0 := hn 0 (by simp)
    simp only [List.getElem_cons_zero, Nat.add_zero] at h0
    unfold find2
    rw [h0]
    exact find2_no p r (u0 + 1) fun v hv => by rw [show u0 + 1 + v = u0 + (v + 1) by omega]; exact hn (v + 1) (by simpa using hv)
def symO (l : List Ob) (p : Int × Int) : Sy := ((l.getD p.1.toNat ⟨[], [], [], []⟩).syms).getD p.2.toNat ⟨⟨#[]⟩, 0, false, 0, 0, ⟨#[]⟩, 0⟩
def twiceP (l : List Ob) (u : Nat) (s : Sy) : Bool := ownB s && !s.stat && decide ((homeO l s.name).1 < u)
/-- What is wrong with a symbol that stands elsewhere. -/
def outC (l : List Ob) (s : Sy) : Int :=
  if ownB s then 0 else if (homeO l s.name).1 < 0 then 4
  else if (s.kind = 3 ∧ (symO l (homeO l s.name)).kind ≠ 1) ∨ (s.kind = 4 ∧ (symO l (homeO l s.name)).kind ≠ 2) ∨ (symO l (homeO l s.name)).sign ≠ s.sign then 3 else 0
def mainN : ByteArray := ⟨#[109, 97, 105, 110]⟩
def mainS : ByteArray := ⟨#[102, 110, 40, 41, 105, 110, 116]⟩
def mainC (l : List Ob) : Int := if (homeO l mainN).1 < 0 ∨ (symO l (homeO l mainN)).kind ≠ 1 then 4 else if (symO l (homeO l mainN)).sign ≠ mainS then 3 else 0
/-- S1, but for the last two: the object's number, what is wrong, where. -/
def chkL (l : List Ob) : Int × Int × Int :=
  if l.length < 1 ∨ 4 < l.length then (0, 1, 0)
  else match l.findIdx? (fun o => !mayO o) with
  | some u => ((u : Int), 2, 0)
  | none => match find2 (twiceP l) l 0 with
    | some (u, i) => ((u : Int), 5, (i : Int))
    | none => match find2 (fun _ s => decide (outC l s ≠ 0)) l 0 with
      | some (u, i) => ((u : Int), outC l (symO l ((u : Int), (i : Int))), (i : Int))
      | none => (0, mainC l, 0)
theorem homeGo_sound (name : ByteArray) : ∀ (l : List Ob) (u0 : Nat), homeGo name l u0 = (-1, 0) ∨ ∃ v k, ∃ hv : v < l.length, ∃ hk : k < l[v].syms.length, homeGo name l u0 = (((u0 + v : Nat) : Int), (k : Int)) ∧ opens name l[v].syms[k] = true
  | [], _ => Or.inl rfl
  | o :: r, u0 => by
    cases h : o.syms.findIdx? (opens name) with
    | some i =>
      have h' := h
      rw [List.findIdx?_eq_some_iff_getElem] at h'
      obtain ⟨hi, hp, -⟩ := h'
      refine Or.inr ⟨0, i, by simp, hi, ?_, hp⟩
      unfold homeGo
      rw [h]
      simp
    | none =>
      rcases homeGo_sound name r (u0 + 1) with h2 | ⟨v, k, hv, hk, h2, h3⟩
      · left
        unfold homeGo
        rw [h]
        exact h2
      · right
        refine ⟨v + 1, k, by simpa using hv, hk, ?_, h3⟩
        unfold homeGo
        rw [h]
        simp only
        rw [h2]
        congr 2
        omega
theorem home_sound (l : List Ob) (name : ByteArray) : homeO l name = (-1, 0) ∨ ∃ v k, ∃ hv : v < l.length, ∃ hk : k < l[v].syms.length, homeO l name = ((v : Int), (k : Int)) ∧ opens name l[v].syms[k] = true := by
  rcases homeGo_sound name l 0 with h | ⟨v, k, hv, hk, h, h2⟩
  · exact Or.inl h
  · exact Or.inr ⟨v, k, hv, hk, by unfold homeO; rw [h]; simp, h2⟩
theorem symO_at {l : List Ob} {v k : Nat} (hv : v < l.length) (hk : k < l[v].syms.length) : symO l ((v : Int), (k : Int)) = l[v].syms[k] := by
  unfold symO
  simp only [Int.toNat_natCast, List.getD_eq_getElem?_getD]
  rw [List.getElem?_eq_getElem hv]
  simp [hk]
end Go.Proofs.Ythbhlmbhnidbhaa.T
