/- The linker's map of open names, as a plain thing. No walk. -/
import Derived.Test.YthbhlmbhnidbhaaLp
namespace Go.Proofs.Ythbhlmbhnidbhaa.T
open Go.RowKit Go.Proofs.Ythbhlmbhnidbhaa.M
set_option linter.unusedVariables false
set_option linter.unusedSimpArgs false
def homeQ (l : List Ob) (s : ByteArray) : Option (Nat × Nat) := find2 (fun _ => opens s) l 0
theorem homeGo_find (s : ByteArray) : ∀ (l : List Ob) (u : Nat), homeGo s l u = match find2 (fun _ => opens s) l u with | some p => ((p.1 : Int), (p.2 : Int)) | none => (-1, 0)
  | [], u => rfl
  | o :: r, u => by
    unfold homeGo find2
    cases o.syms.findIdx? (opens s) with
    | some i => rfl
    | none => exact homeGo_find s r (u + 1)
theorem homeQ_home (l : List Ob) (s : ByteArray) : homeO l s = match homeQ l s with | some p => ((p.1 : Int), (p.2 : Int)) | none => (-1, 0) := homeGo_find s l 0
theorem homeQ_some {l : List Ob} {s : ByteArray} {v k : Nat} (h : homeQ l s = some (v, k)) : ∃ hv : v < l.length, ∃ hk : k < l[v].syms.length, opens s l[v].syms[k] = true ∧ homeO l s = ((v : Int), (k : Int)) := by
  have h' := h
  unfold homeQ at h
  obtain ⟨v', hv, hk, e, hp⟩ := find2_some h
  obtain rfl : v = v' := by omega
  exact ⟨hv, hk, hp, by rw [homeQ_home, h']⟩
theorem homeQ_none {l : List Ob} {s : ByteArray} (h : homeQ l s = none) : homeO l s = (-1, 0) := by rw [homeQ_home, h]
theorem find2_app (p : Nat → Sy → Bool) : ∀ (A B : List Ob) (u : Nat), find2 p (A ++ B) u = match find2 p A u with | some q => some q | none => find2 p B (u + A.length)
  | [], B, u => by simp [find2]
  | o :: r, B, u => by
    simp only [List.cons_append, find2]
    cases h : o.syms.findIdx? (p u) with
    | some i => rfl
    | none =>
      simp only
      rw [find2_app p r B (u + 1), show u + 1 + r.length = u + (o :: r).length by simp; omega]
/-- What the map tells ahead of the j-th symbol of the u-th object. -/
def gQ (l : List Ob) (u j : Nat) (s : ByteArray) : Option (Nat × Nat) :=
  match find2 (fun _ => opens s) (l.take u) 0 with
  | some p => some p
  | none => match l[u]? with
    | some O => ((O.syms.take j).findIdx? (opens s)).map fun i => (u, i)
    | none => none
theorem gQ_zero (l : List Ob) : gQ l 0 0 = fun _ => none := by
  funext s
  unfold gQ
  simp only [List.take_zero, find2]
  cases l[0]? <;> rfl
theorem gQ_next {l : List Ob} {u : Nat} (hu : u < l.length) : gQ l (u + 1) 0 = gQ l u l[u].syms.length := by
  funext s
  unfold gQ
  rw [List.take_succ_eq_append_getElem hu, find2_app, List.getElem?_eq_getElem hu]
  cases find2 (fun _ => opens s) (l.take u) 0 with
  | some p => rfl
  | none =>
    simp only [List.take_length, find2]
    have e : 0 + (l.take u).length = u := by rw [List.length_take]; omega
    rw [e]
    cases l[u].syms.findIdx? (opens s) with
    | some i => rfl
    | none =>
      simp only [Option.map_none]
      cases l[u + 1]? <;> rfl
theorem gQ_end (l : List Ob) : gQ l l.length 0 = homeQ l := by
  funext s
  unfold gQ homeQ
  rw [List.take_length]
  cases find2 (fun _ => opens s) l 0 with
  | some p => rfl
  | none => simp
theorem gQ_skip {l : List Ob} {u j : Nat} (hu : u < l.length) (hj : j < l[u].syms.length) (s : ByteArray) (h : opens s l[u].syms[j] = false) : gQ l u (j + 1) s = gQ l u j s := by
  unfold gQ
  rw [List.getElem?_eq_getElem hu]
  simp only
  rw [List.take_succ_eq_append_getElem hj, List.findIdx?_append]
  simp [h]
theorem gQ_put {l : List Ob} {u j : Nat} (hu : u < l.length) (hj : j < l[u].syms.length) (hn : gQ l u j l[u].syms[j].name = none) (h : opens l[u].syms[j].name l[u].syms[j] = true) : (fun t => if t = l[u].syms[j].name then some (u, j) else gQ l u j t) = gQ l u (j + 1) := by
  funext t
  by_cases e : t = l[u].syms[j].name
  · rw [if_pos e]
    subst e
    unfold gQ at hn ⊢
    cases e1 : find2 (fun _ => opens l[u].syms[j].name) (l.take u) 0 with
    | some p => rw [e1] at hn; cases hn
    | none =>
      rw [e1, List.getElem?_eq_getElem hu] at hn
      simp only [Option.map_eq_none_iff] at hn
      rw [List.getElem?_eq_getElem hu]
      simp only
      rw [List.take_succ_eq_append_getElem hj, List.findIdx?_append, hn]
      simp [h]
      omega
  · rw [if_neg e, gQ_skip hu hj t]
    unfold opens
    simp
    intro _ _ q
    exact e q.symm
theorem gQ_pass {l : List Ob} {u j : Nat} (hu : u < l.length) (hj : j < l[u].syms.length) (h : (ownB l[u].syms[j] && !l[u].syms[j].stat) = false) : gQ l u j = gQ l u (j + 1) := by
  funext t
  rw [gQ_skip hu hj t]
  unfold opens
  rw [h]
  rfl
/-- Within an object no two symbols have one name. -/
theorem names_new {o : Ob} (h : mayO o = true) {i j : Nat} (hij : i < j) (hj : j < o.syms.length) : (o.syms[i]'(by omega)).name ≠ o.syms[j].name := fun e => by
  obtain ⟨c, d, h0, h1, h2, h3, -⟩ := mayO_sym h j hj
  unfold newB at h3
  simp only [Bool.not_eq_true', List.any_eq_false] at h3
  have := h3 i (List.mem_range.2 hij)
  rw [List.getElem?_eq_getElem (by omega)] at this
  simp at this
  exact this e
theorem kind_of {o : Ob} (h : mayO o = true) {j : Nat} (hj : j < o.syms.length) : o.syms[j].kind = 1 ∨ o.syms[j].kind = 2 ∨ o.syms[j].kind = 3 ∨ o.syms[j].kind = 4 := by
  obtain ⟨c, d, h0, h1, h2, h3, c', d', h4⟩ := mayO_sym h j hj
  unfold symStep at h4
  by_cases e1 : o.syms[j].kind = 1
  · exact Or.inl e1
  by_cases e2 : o.syms[j].kind = 2
  · exact Or.inr (Or.inl e2)
  by_cases e3 : o.syms[j].kind = 3
  · exact Or.inr (Or.inr (Or.inl e3))
  by_cases e4 : o.syms[j].kind = 4
  · exact Or.inr (Or.inr (Or.inr e4))
  simp [e1, e2, e3, e4] at h4
theorem gQ_twice {l : List Ob} {u j : Nat} (hu : u < l.length) (hj : j < l[u].syms.length) (hm : mayO l[u] = true) (h : (ownB l[u].syms[j] && !l[u].syms[j].stat) = true) : (gQ l u j l[u].syms[j].name).isSome = decide ((homeO l l[u].syms[j].name).1 < (u : Int)) := by
  have hop : opens l[u].syms[j].name l[u].syms[j] = true := by unfold opens; rw [h]; simp
  have hno : (l[u].syms.take j).findIdx? (opens l[u].syms[j].name) = none := by
    rw [List.findIdx?_eq_none_iff]
    intro x hx
    obtain ⟨i, hi, rfl⟩ := List.getElem_of_mem hx
    rw [List.length_take] at hi
    rw [List.getElem_take]
    unfold opens
    have := names_new hm (i := i) (j := j) (by omega) hj
    simp [this]
  have hsome : ∃ i, l[u].syms.findIdx? (opens l[u].syms[j].name) = some i := by
    cases e : l[u].syms.findIdx? (opens l[u].syms[j].name) with
    | some i => exact ⟨i, rfl⟩
    | none =>
      rw [List.findIdx?_eq_none_iff] at e
      have := e _ (List.getElem_mem hj)
      rw [hop] at this
      cases this
  obtain ⟨i, hi⟩ := hsome
  have hl : homeQ l l[u].syms[j].name = match find2 (fun _ => opens l[u].syms[j].name) (l.take u) 0 with | some q => some q | none => some (u, i) := by
    unfold homeQ
    have e1 : find2 (fun _ => opens l[u].syms[j].name) l 0 = find2 (fun _ => opens l[u].syms[j].name) (l.take u ++ l.drop u) 0 := by rw [List.take_append_drop]
    rw [e1, find2_app, List.drop_eq_getElem_cons hu]
    cases find2 (fun _ => opens l[u].syms[j].name) (l.take u) 0 with
    | some q => rfl
    | none =>
      simp only [find2]
      rw [hi, List.length_take]
      simp
      omega
  unfold gQ
  rw [homeQ_home, hl, List.getElem?_eq_getElem hu]
  cases e : find2 (fun _ => opens l[u].syms[j].name) (l.take u) 0 with
  | some q =>
    obtain ⟨v, hv, -, e2, -⟩ := find2_some (u := q.1) (i := q.2) e
    rw [List.length_take] at hv
    simp
    omega
  | none =>
    simp only
    rw [hno]
    simp
def meetB (s h : Sy) : Bool := (decide (s.kind = 3) == decide (h.kind = 1)) && decide (s.sign = h.sign)
theorem outC_own {l : List Ob} {s : Sy} (h : ownB s = true) : outC l s = 0 := by unfold outC; rw [if_pos h]
theorem outC_none {l : List Ob} {s : Sy} (h : ownB s = false) (hq : homeQ l s.name = none) : outC l s = 4 := by
  unfold outC
  rw [homeQ_none hq]
  simp [h]
theorem outC_some {l : List Ob} {s : Sy} (h : ownB s = false) (hk : s.kind = 1 ∨ s.kind = 2 ∨ s.kind = 3 ∨ s.kind = 4) {v k : Nat} (hq : homeQ l s.name = some (v, k)) (hv : v < l.length) (hkl : k < l[v].syms.length) : outC l s = if meetB s l[v].syms[k] then 0 else 3 := by
  obtain ⟨_, _, ho, e⟩ := homeQ_some hq
  have ho' := opens_own ho
  unfold outC
  rw [e, symO_at hv hkl]
  unfold ownB at h ho'
  simp only [Bool.or_eq_false_iff, decide_eq_false_iff_not, Bool.or_eq_true, decide_eq_true_eq] at h ho'
  have hn : ¬ ((v : Int) < 0) := by omega
  have e0 : ownB s = false := by unfold ownB; simp [h.1, h.2]
  unfold meetB
  generalize l[v].syms[k] = t at *
  rw [e0]
  simp only [Bool.false_eq_true, if_false, hn]
  by_cases es : t.sign = s.sign
  · have es' := es.symm
    rcases hk with q | q | q | q
    · exact absurd q h.1
    · exact absurd q h.2
    · rcases ho' with r | r <;> simp [q, r, es]
    · rcases ho' with r | r <;> simp [q, r, es]
  · have es' : ¬ s.sign = t.sign := fun q => es q.symm
    simp [es, es']
theorem mainC_none {l : List Ob} (hq : homeQ l mainN = none) : mainC l = 4 := by
  unfold mainC
  rw [homeQ_none hq]
  simp
theorem mainC_some {l : List Ob} {v k : Nat} (hq : homeQ l mainN = some (v, k)) (hv : v < l.length) (hkl : k < l[v].syms.length) : mainC l = if l[v].syms[k].kind ≠ 1 then 4 else if l[v].syms[k].sign ≠ mainS then 3 else 0 := by
  obtain ⟨-, -, -, e⟩ := homeQ_some hq
  unfold mainC
  rw [e, symO_at hv hkl]
  have hn : ¬ ((v : Int) < 0) := by omega
  simp only [hn, false_or]
/-- Where the objects begin. -/
def stB (l : List Ob) (u : Nat) : Int × Int := ((2 : Int) + cS l u, (2 : Int) + cS l l.length + dS l u)
def stL (l : List Ob) : List (Int × Int) := (List.range l.length).map (stB l)
def stV (p : Int × Int) : List Value := [.int .i64 p.1, .int .i64 p.2]
theorem stL_len (l : List Ob) : (stL l).length = l.length := by unfold stL; simp
theorem stL_at {l : List Ob} {u : Nat} (hu : u < l.length) : (stL l)[u]'(by rw [stL_len]; exact hu) = stB l u := by unfold stL; simp
end Go.Proofs.Ythbhlmbhnidbhaa.T
