/- What linking makes of objects, as a plain thing. No walk. -/
import Derived.Test.YthbhlmbhnidbhaaCk
import Derived.Test.YthbhlmbhnidbhaaGp
namespace Go.Proofs.Ythbhlmbhnidbhaa.T
open Go.RowKit Go.Proofs.Ythbhlmbhnidbhaa.M
set_option linter.unusedVariables false
set_option linter.unusedSimpArgs false
structure Rg where
  name : ByteArray
  unit : Int
  beg : Int
  fin : Int
  frame : Int
def rgV (r : Rg) : List Value := [.string r.name, .int .i64 r.unit, .int .i64 r.beg, .int .i64 r.fin, .int .i64 r.frame]
def rgC (w : World) (r : Rg) (cs : List Value) : Prop := cs = rgV r ∧ In64 r.unit ∧ In64 r.beg ∧ In64 r.fin ∧ In64 r.frame ∧ r.name.size ≤ maxLen
/-- The address of a symbol. -/
def adrA (l : List Ob) (u : Nat) (s : Sy) : Int := if ownB s then adrS l u s else adrS l (homeO l s.name).1.toNat (symO l (homeO l s.name))
theorem find2_some {p : Nat → Sy → Bool} : ∀ {l : List Ob} {u0 u i : Nat}, find2 p l u0 = some (u, i) → ∃ v, ∃ hv : v < l.length, ∃ hi : i < l[v].syms.length, u = u0 + v ∧ p u l[v].syms[i] = true
  | [], _, _, _, h => by cases h
  | o :: r, u0, u, i, h => by
    unfold find2 at h
    cases h2 : o.syms.findIdx? (p u0) with
    | some j =>
      rw [h2] at h
      simp at h
      obtain ⟨rfl, rfl⟩ := h
      rw [List.findIdx?_eq_some_iff_getElem] at h2
      obtain ⟨hi, hp, -⟩ := h2
      exact ⟨0, by simp, hi, rfl, hp⟩
    | none =>
      rw [h2] at h
      obtain ⟨v, hv, hi, e, hp⟩ := find2_some h
      exact ⟨v + 1, by simpa using hv, hi, by omega, hp⟩
theorem find2_none {p : Nat → Sy → Bool} : ∀ {l : List Ob} {u0 : Nat}, find2 p l u0 = none → ∀ v (hv : v < l.length) i (hi : i < l[v].syms.length), p (u0 + v) l[v].syms[i] = false
  | [], _, _, v, hv, _, _ => absurd hv (by simp)
  | o :: r, u0, h, v, hv, i, hi => by
    unfold find2 at h
    cases h2 : o.syms.findIdx? (p u0) with
    | some j => rw [h2] at h; cases h
    | none =>
      rw [h2] at h
      cases v with
      | zero =>
        rw [List.findIdx?_eq_none_iff] at h2
        exact h2 _ (List.getElem_mem hi)
      | succ v =>
        have := find2_none h v (by simpa using hv) i hi
        rw [show u0 + (v + 1) = u0 + 1 + v by omega]
        exact this
/-- What is known where nothing is wrong. -/
structure Fine (l : List Ob) : Prop where
  oks : Oks l
  one : 1 ≤ l.length
  res : chkL l = (0, 0, 0)
  out : ∀ u (hu : u < l.length) i (hi : i < l[u].syms.length), ownB l[u].syms[i] = false → ∃ v k, ∃ hv : v < l.length, ∃ hk : k < l[v].syms.length, homeO l l[u].syms[i].name = ((v : Int), (k : Int)) ∧ ownB l[v].syms[k] = true
  main : ∃ v k, ∃ hv : v < l.length, ∃ hk : k < l[v].syms.length, homeO l mainN = ((v : Int), (k : Int)) ∧ ownB l[v].syms[k] = true
theorem opens_own {name : ByteArray} {s : Sy} (h : opens name s = true) : ownB s = true := by
  unfold opens at h
  simp at h
  exact h.1.1
theorem chk_fine {l : List Ob} (h : (chkL l).2.1 = 0) : Fine l := by
  have h' := h
  unfold chkL at h
  by_cases h1 : l.length < 1 ∨ 4 < l.length
  · rw [if_pos h1] at h; simp at h
  rw [if_neg h1] at h
  cases hA : l.findIdx? (fun o => !mayO o) with
  | some u => rw [hA] at h; simp at h
  | none =>
    rw [hA] at h
    simp only at h
    cases hB : find2 (twiceP l) l 0 with
    | some q => rw [hB] at h; obtain ⟨u, i⟩ := q; simp at h
    | none =>
      rw [hB] at h
      simp only at h
      cases hC : find2 (fun _ s => decide (outC l s ≠ 0)) l 0 with
      | some q =>
        rw [hC] at h
        obtain ⟨u, i⟩ := q
        simp only at h
        obtain ⟨v, hv, hi, e, hp⟩ := find2_some hC
        obtain rfl : u = v := by omega
        rw [symO_at hv hi] at h
        simp [h] at hp
      | none =>
        rw [hC] at h
        simp only at h
        have hO : Oks l := ⟨by omega, fun o ho => by
          rw [List.findIdx?_eq_none_iff] at hA
          simpa using hA o ho⟩
        refine ⟨hO, by omega, ?_, fun u hu i hi hn => ?_, ?_⟩
        · rw [chk_form h1 hA hB hC, h]
        · have h2 := find2_none hC u hu i hi
          simp at h2
          unfold outC at h2
          rw [hn] at h2
          simp only [Bool.false_eq_true, if_false] at h2
          rcases home_sound l l[u].syms[i].name with e | ⟨v, k, hv, hk, e, ho⟩
          · rw [e] at h2; simp at h2
          · exact ⟨v, k, hv, hk, e, opens_own ho⟩
        · unfold mainC at h
          rcases home_sound l mainN with e | ⟨v, k, hv, hk, e, ho⟩
          · rw [e] at h; simp at h
          · exact ⟨v, k, hv, hk, e, opens_own ho⟩
theorem adrS_le {l : List Ob} (hO : Oks l) {u : Nat} (hu : u < l.length) {i : Nat} (hi : i < l[u].syms.length) : 0 ≤ adrS l u l[u].syms[i] ∧ adrS l u l[u].syms[i] ≤ 4300000000 := by
  have h1 := hO.sums u (by omega)
  have h2 := hO.sums l.length (Nat.le_refl _)
  have h3 := (mayO_n4 (hO.2 _ (List.getElem_mem hu)) i hi).2.1
  have h4 := hO.1
  unfold N4 at h3
  unfold adrS
  split <;> omega
theorem adrA_le {l : List Ob} (hF : Fine l) {u : Nat} (hu : u < l.length) {i : Nat} (hi : i < l[u].syms.length) : 0 ≤ adrA l u l[u].syms[i] ∧ adrA l u l[u].syms[i] ≤ 4300000000 := by
  unfold adrA
  split
  · exact adrS_le hF.oks hu hi
  · rename_i hn
    obtain ⟨v, k, hv, hk, e, -⟩ := hF.out u hu i hi (by simpa using hn)
    rw [e, symO_at hv hk]
    simpa using adrS_le hF.oks hv hk
theorem address_any (a : Option Addr) (n c : Nat) (l : List Ob) (u i : Nat) (w : World) (hv : Obs w (.slice a n c) l) (hF : Fine l) (hu : u < l.length) (hi : i < l[u].syms.length) : Calls Try.prog 10 #[.slice a n c, .int .i64 u, .int .i64 i] w fun e w' => e = .returned (.int .i64 (adrA l u l[u].syms[i])) ∧ Below w.heap.size w w' := by
  by_cases h : ownB l[u].syms[i] = true
  · rw [show adrA l u l[u].syms[i] = adrS l u l[u].syms[i] by unfold adrA; rw [if_pos h]]
    exact address_own a n c l u i w hv hF.oks hu hi h
  · have h' : ownB l[u].syms[i] = false := by simpa using h
    obtain ⟨v, k, hvl, hk, e, ho⟩ := hF.out u hu i hi h'
    rw [show adrA l u l[u].syms[i] = adrS l v l[v].syms[k] by unfold adrA; rw [if_neg h, e, symO_at hvl hk]; rfl]
    exact address_out a n c l u i v k w hv hF.oks hu hi h' e hvl hk ho
def callW (l : List Ob) : Int := encN 21 0 0 0 (adrA l (homeO l mainN).1.toNat (symO l (homeO l mainN)) % 65536)
def exitW : Int := encN 25 0 0 0 0
def cdL (l : List Ob) (u : Nat) : List Int := [callW l, exitW] ++ (l.take u).flatMap (·.code)
def daL (l : List Ob) (u : Nat) : List Int := (l.take u).flatMap (·.data)
theorem cdL_next {l : List Ob} {u : Nat} (hu : u < l.length) : cdL l (u + 1) = cdL l u ++ l[u].code := by
  unfold cdL
  rw [List.take_succ_eq_append_getElem hu, List.flatMap_append]
  simp
theorem daL_next {l : List Ob} {u : Nat} (hu : u < l.length) : daL l (u + 1) = daL l u ++ l[u].data := by
  unfold daL
  rw [List.take_succ_eq_append_getElem hu, List.flatMap_append]
  simp
theorem cdL_len {l : List Ob} {u : Nat} : (cdL l u).length = 2 + cS l u := by
  unfold cdL cS
  rw [List.length_append, List.length_flatMap]
  rfl
theorem daL_len {l : List Ob} {u : Nat} : (daL l u).length = dS l u := by
  unfold daL dS
  rw [List.length_flatMap]
/-- The range of a symbol. -/
def rg1 (l : List Ob) (u : Nat) (s : Sy) : Option Rg := if s.kind = 1 then some ⟨s.name, u, adrS l u s, adrS l u s + s.size, s.frame⟩ else none
def rgU (l : List Ob) (u : Nat) (O : Ob) (k : Nat) : List Rg := (O.syms.take k).filterMap (rg1 l u)
def rgL (l : List Ob) : Nat → List Rg
  | 0 => []
  | u + 1 => rgL l u ++ (match l[u]? with | some O => rgU l u O O.syms.length | none => [])
theorem rgL_next {l : List Ob} {u : Nat} (hu : u < l.length) : rgL l (u + 1) = rgL l u ++ rgU l u l[u] l[u].syms.length := by
  rw [rgL, List.getElem?_eq_getElem hu]
theorem rgU_zero (l : List Ob) (u : Nat) (O : Ob) : rgU l u O 0 = [] := rfl
theorem rgU_yes {l : List Ob} {u : Nat} {O : Ob} {k : Nat} (hk : k < O.syms.length) (h : O.syms[k].kind = 1) : rgU l u O (k + 1) = rgU l u O k ++ [⟨O.syms[k].name, u, adrS l u O.syms[k], adrS l u O.syms[k] + O.syms[k].size, O.syms[k].frame⟩] := by
  unfold rgU
  rw [List.take_succ_eq_append_getElem hk, List.filterMap_append]
  congr 1
  simp [rg1, h]
theorem rgU_no {l : List Ob} {u : Nat} {O : Ob} {k : Nat} (hk : k < O.syms.length) (h : O.syms[k].kind ≠ 1) : rgU l u O (k + 1) = rgU l u O k := by
  unfold rgU
  rw [List.take_succ_eq_append_getElem hk, List.filterMap_append]
  simp [rg1, h]
theorem rgU_len (l : List Ob) (u : Nat) (O : Ob) (k : Nat) : (rgU l u O k).length ≤ k := by
  unfold rgU
  refine Nat.le_trans (List.length_filterMap_le _ _) ?_
  simp
  omega
theorem rgL_len {l : List Ob} (hO : Oks l) : ∀ u, u ≤ l.length → (rgL l u).length ≤ 400 * u
  | 0, _ => Nat.le_refl _
  | u + 1, hu => by
    have := rgL_len hO u (by omega)
    have h2 := rgU_len l u l[u] l[u].syms.length
    have := (hO.len u (by omega)).2.2.1
    rw [rgL_next (by omega), List.length_append]
    omega
theorem rgU_ok {l : List Ob} (hO : Oks l) {u : Nat} (hu : u < l.length) (k : Nat) (w : World) (x : Rg) (hx : x ∈ rgU l u l[u] k) : rgC w x (rgV x) := by
  unfold rgU at hx
  rw [List.mem_filterMap] at hx
  obtain ⟨s, hs, he⟩ := hx
  have hs := List.mem_of_mem_take hs
  obtain ⟨i, hi, rfl⟩ := List.getElem_of_mem hs
  have h1 := adrS_le hO hu hi
  have h2 := mayO_n4 (hO.2 _ (List.getElem_mem hu)) i hi
  have h4 := hO.1
  unfold rg1 at he
  split at he
  · cases he
    obtain ⟨-, -, h5, h6, h7, -⟩ := h2
    unfold N4 at h5 h6
    unfold rgC In64 maxLen
    simp only
    refine ⟨trivial, ?_, ?_, ?_, ?_, ?_⟩ <;> omega
  · cases he
theorem rgL_ok {l : List Ob} (hO : Oks l) (w : World) : ∀ u, u ≤ l.length → ∀ x, x ∈ rgL l u → rgC w x (rgV x)
  | 0, _, x, hx => by cases hx
  | u + 1, hu, x, hx => by
    rw [rgL_next (by omega)] at hx
    rcases List.mem_append.1 hx with h | h
    · exact rgL_ok hO w u (by omega) x h
    · exact rgU_ok hO (by omega) _ w x h
/-- What stands at a reloc, and what is laid there. -/
def rVv (O : Ob) (r : Re) : Int := O.code.getD r.pl.toNat 0
def rIm (l : List Ob) (u : Nat) (O : Ob) (r : Re) : Int := adrA l u (O.syms.getD r.sym.toNat ⟨⟨#[]⟩, 0, false, 0, 0, ⟨#[]⟩, 0⟩) + r.add
def rCk (l : List Ob) (u : Nat) (O : Ob) (r : Re) : Int := ckN (rVv O r / 16777216) (rVv O r / 1048576 % 16) (rVv O r / 65536 % 16) (dC (kind (rVv O r / 16777216)) (rVv O r % 65536)) (rIm l u O r)
def rWd (l : List Ob) (u : Nat) (O : Ob) (r : Re) : Int := encN (rVv O r / 16777216) (rVv O r / 1048576 % 16) (rVv O r / 65536 % 16) (dC (kind (rVv O r / 16777216)) (rVv O r % 65536)) (rIm l u O r)
def pat1 (l : List Ob) (u : Nat) (O : Ob) (C : List Int) (r : Re) : List Int := C.set (2 + cS l u + r.pl.toNat) (rWd l u O r)
def patU (l : List Ob) (u : Nat) (O : Ob) (C : List Int) (k : Nat) : List Int := (O.rels.take k).foldl (pat1 l u O) C
def patL (l : List Ob) : Nat → List Int
  | 0 => cdL l l.length
  | u + 1 => match l[u]? with | some O => patU l u O (patL l u) O.rels.length | none => patL l u
theorem patL_next {l : List Ob} {u : Nat} (hu : u < l.length) : patL l (u + 1) = patU l u l[u] (patL l u) l[u].rels.length := by
  rw [patL, List.getElem?_eq_getElem hu]
theorem patU_next {l : List Ob} {u : Nat} {O : Ob} {C : List Int} {k : Nat} (hk : k < O.rels.length) : patU l u O C (k + 1) = (patU l u O C k).set (2 + cS l u + O.rels[k].pl.toNat) (rWd l u O O.rels[k]) := by
  unfold patU
  rw [List.take_succ_eq_append_getElem hk, List.foldl_append]
  rfl
theorem patU_len (l : List Ob) (u : Nat) (O : Ob) (C : List Int) : ∀ k, k ≤ O.rels.length → (patU l u O C k).length = C.length
  | 0, _ => rfl
  | k + 1, hk => by rw [patU_next (by omega), List.length_set, patU_len l u O C k (by omega)]
theorem patL_len (l : List Ob) : ∀ u, u ≤ l.length → (patL l u).length = 2 + cS l l.length
  | 0, _ => cdL_len
  | u + 1, hu => by rw [patL_next (by omega), patU_len l u _ _ _ (Nat.le_refl _), patL_len l u (by omega)]
/-- The first reloc of which something is so. -/
def find3 (p : Nat → Ob → Re → Bool) : List Ob → Nat → Option (Nat × Nat)
  | [], _ => none
  | o :: r, u => match o.rels.findIdx? (p u o) with
    | some i => some (u, i)
    | none => find3 p r (u + 1)
theorem find3_yes (p : Nat → Ob → Re → Bool) : ∀ (l : List Ob) (u0 u i : Nat) (hu : u < l.length), l[u].rels.findIdx? (p (u0 + u) l[u]) = some i → (∀ v (hv : v < u), (l[v]'(by omega)).rels.findIdx? (p (u0 + v) (l[v]'(by omega))) = none) → find3 p l u0 = some (u0 + u, i)
  | [], u0, u, i, hu, _, _ => absurd hu (by simp)
  | o :: r, u0, 0, i, hu, h, hn => by
    unfold find3
    simp only [List.getElem_cons_zero, Nat.add_zero] at h
    rw [h]
    simp
  | o :: r, u0, u + 1, i, hu, h, hn => by
    have h0 := hn 0 (by omega)
    simp only [List.getElem_cons_zero, Nat.add_zero] at h0
    unfold find3
    rw [h0]
    simp only
    rw [find3_yes p r (u0 + 1) u i (by simpa using hu) (by rw [show u0 + 1 + u = u0 + (u + 1) by omega]; exact h) (fun v hv => by rw [show u0 + 1 + v = u0 + (v + 1) by omega]; exact hn (v + 1) (by omega))]
    congr 2
    omega
theorem find3_no (p : Nat → Ob → Re → Bool) : ∀ (l : List Ob) (u0 : Nat), (∀ v (hv : v < l.length), l[v].rels.findIdx? (p (u0 + v) l[v]) = none) → find3 p l u0 = none
  | [], _, _ => rfl
  | o :: r, u0, hn => by
    have h0 := hn 0 (by simp)
    simp only [List.getElem_cons_zero, Nat.add_zero] at h0
    unfold find3
    rw [h0]
    exact find3_no p r (u0 + 1) fun v hv => by rw [show u0 + 1 + v = u0 + (v + 1) by omega]; exact hn (v + 1) (by simpa using hv)
def badP (l : List Ob) (u : Nat) (O : Ob) (r : Re) : Bool := decide (rCk l u O r ≠ 0)
def badR (l : List Ob) : Option (Nat × Nat) := find3 (badP l) l 0
structure Lr where
  code : List Int
  data : List Int
  mem : Int
  rgs : List Rg
  tr : Int × Int × Int
def noL (t : Int × Int × Int) : Lr := ⟨[], [], 0, [], t⟩
def mayI (nc nd : Nat) (M : Int) : Bool := decide (1 ≤ nc) && decide (nc ≤ 6000) && decide (32 ≤ M) && decide (M ≤ 16000) && decide (nd ≤ 16000) && decide ((nc : Int) + nd ≤ M - 16)
/-- S1 to S3. -/
def linkO (l : List Ob) (mem : Int) : Lr :=
  if (chkL l).2.1 ≠ 0 then noL (chkL l)
  else if mayI (2 + cS l l.length) (dS l l.length) mem = false then noL (0, 1, 1)
  else match badR l with
  | some (u, i) => noL ((u : Int), 6, (i : Int))
  | none => ⟨patL l l.length, daL l l.length, mem, rgL l l.length, (0, 0, 0)⟩
/-- A value that is what Link tells. -/
def LrV (w : World) (R : Lr) (v : Value) : Prop := ∃ cv dv rv, v = .tuple #[.agg #[cv, dv, .int .i64 R.mem], rv, .agg #[.int .i64 R.tr.1, .int .i64 R.tr.2.1, .int .i64 R.tr.2.2]] ∧ RowV u32C 1 w cv R.code ∧ RowV i32C 1 w dv R.data ∧ RowV rgC 5 w rv R.rgs
theorem RowV.nil {α : Type} (P : World → α → List Value → Prop) (k : Nat) (w : World) : RowV P k w (.slice none 0 0) ([] : List α) := ⟨none, 0, rfl, by simp, by simp, fun h => absurd h (by simp)⟩
theorem LrV.no (w : World) (t : Int × Int × Int) : LrV w (noL t) (.tuple #[.agg #[.slice none 0 0, .slice none 0 0, .int .i64 0], .slice none 0 0, .agg #[.int .i64 t.1, .int .i64 t.2.1, .int .i64 t.2.2]]) :=
  ⟨_, _, _, rfl, RowV.nil _ _ _, RowV.nil _ _ _, RowV.nil _ _ _⟩
end Go.Proofs.Ythbhlmbhnidbhaa.T
