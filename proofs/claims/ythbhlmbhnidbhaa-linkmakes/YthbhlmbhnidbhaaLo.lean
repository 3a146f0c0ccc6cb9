/- What the walk of Link asks of objects and rows. No walk. -/
import Derived.Test.YthbhlmbhnidbhaaLp
import Derived.Test.YthbhlmbhnidbhaaGp
namespace Go.Proofs.Ythbhlmbhnidbhaa.T
open Go.RowKit Go.Proofs.Ythbhlmbhnidbhaa.M
set_option linter.unusedVariables false
set_option linter.unusedSimpArgs false
theorem ObV.rels {w : World} {o : Ob} {ca da sa ra : Option Addr} {nc cc nd dc ns sc nr rc : Nat} (h : ObV w o (.agg #[.slice ca nc cc, .slice da nd dc, .slice sa ns sc, .slice ra nr rc])) : 0 < o.rels.length → ∃ g oo, ra = some ⟨g, oo, none⟩ ∧ Hid (∀ w', Below w.heap.size w w' → ∀ j (hj : j < o.rels.length), w'.cell? ⟨g, oo + j * 3, none⟩ = some (.int .i64 o.rels[j].pl) ∧ w'.cell? ⟨g, oo + j * 3 + 1, none⟩ = some (.int .i64 o.rels[j].sym) ∧ w'.cell? ⟨g, oo + j * 3 + 2, none⟩ = some (.int .i64 o.rels[j].add)) := by
  obtain ⟨cv', dv', sv', rv', e, -, -, -, ⟨ra', rc', rfl, h1, h2, H⟩⟩ := h
  simp at e
  obtain ⟨-, -, -, ⟨rfl, rfl, rfl⟩⟩ := e
  intro h0
  obtain ⟨g, oo, e1, hg, E⟩ := H h0
  refine ⟨g, oo, e1, fun w' hw j hj => ?_⟩
  obtain ⟨r0, r1, r2, -⟩ := re_cells hg E hw j hj
  exact ⟨r0, r1, r2⟩
theorem ObV.code1 {w : World} {o : Ob} {ca da sa ra : Option Addr} {nc cc nd dc ns sc nr rc : Nat} (h : ObV w o (.agg #[.slice ca nc cc, .slice da nd dc, .slice sa ns sc, .slice ra nr rc])) : 0 < o.code.length → ∃ g oo, ca = some ⟨g, oo, none⟩ ∧ Hid (∀ w', Below w.heap.size w w' → ∀ j (hj : j < o.code.length), w'.cell? ⟨g, oo + j, none⟩ = some (.int .u32 o.code[j]) ∧ N4 o.code[j]) := by
  obtain ⟨cv', dv', sv', rv', e, ⟨ca', cc', rfl, h1, h2, H⟩, -⟩ := h
  simp at e
  obtain ⟨⟨rfl, rfl, rfl⟩, -⟩ := e
  intro h0
  obtain ⟨g, oo, e1, hg, E⟩ := H h0
  exact ⟨g, oo, e1, fun w' hw j hj => nw_cells hg E hw j hj⟩
theorem cS_mono {l : List Ob} {u : Nat} : ∀ j, u + j ≤ l.length → cS l u ≤ cS l (u + j)
  | 0, _ => Nat.le_refl _
  | j + 1, h => by
    have := cS_mono (l := l) (u := u) j (by omega)
    rw [show u + (j + 1) = (u + j) + 1 by omega, cS_next (by omega)]
    omega
theorem Obs.at2 {w : World} {a : Option Addr} {n c : Nat} {l : List Ob} (h : Obs w (.slice a n c) l) (h0 : 0 < n) : ∃ g oo, a = some ⟨g, oo, none⟩ ∧ ∀ j (hj : j < l.length), ∃ ca cc da dc sa sc ra rc, Hid (∀ w', Below w.heap.size w w' → w'.cell? ⟨g, oo + j * 4, none⟩ = some (.slice ca l[j].code.length cc) ∧ w'.cell? ⟨g, oo + j * 4 + 1, none⟩ = some (.slice da l[j].data.length dc) ∧ w'.cell? ⟨g, oo + j * 4 + 2, none⟩ = some (.slice sa l[j].syms.length sc) ∧ w'.cell? ⟨g, oo + j * 4 + 3, none⟩ = some (.slice ra l[j].rels.length rc)) ∧ Hid (ObV w l[j] (.agg #[.slice ca l[j].code.length cc, .slice da l[j].data.length dc, .slice sa l[j].syms.length sc, .slice ra l[j].rels.length rc])) := by
  obtain ⟨a', c', e, h1, h2, H⟩ := h
  cases e
  obtain ⟨g, oo, e1, hg, E⟩ := H h0
  refine ⟨g, oo, e1, fun j hj => ?_⟩
  obtain ⟨cs, ⟨cv, dv, sv, rv, rfl, hv⟩, q⟩ := E j hj
  have hv0 := hv
  obtain ⟨cv', dv', sv', rv', e, ⟨ca, cc, rfl, -⟩, ⟨da, dc, rfl, -⟩, ⟨sa, sc, rfl, -⟩, ⟨ra, rc, rfl, -⟩⟩ := hv
  simp at e
  obtain ⟨rfl, rfl, rfl, rfl⟩ := e
  refine ⟨ca, cc, da, dc, sa, sc, ra, rc, fun w' hw => ?_, hv0⟩
  have key : ∀ i u, ([.slice ca l[j].code.length cc, .slice da l[j].data.length dc, .slice sa l[j].syms.length sc, .slice ra l[j].rels.length rc] : List Value)[i]? = some u → w'.cell? ⟨g, oo + j * 4 + i, none⟩ = some u := fun i u hu => (hw.cell (p := ⟨g, oo + j * 4 + i, none⟩) hg).trans (q i u hu)
  exact ⟨key 0 _ rfl, key 1 _ rfl, key 2 _ rfl, key 3 _ rfl⟩
theorem rel_facts {o : Ob} (h : mayO o = true) (k : Nat) (hk : k < o.rels.length) : ∃ pn sn an : Nat, ∃ hp : pn < o.code.length, ∃ hs : sn < o.syms.length, o.rels[k].pl = pn ∧ o.rels[k].sym = sn ∧ o.rels[k].add = an ∧ an ≤ 6000 ∧ dck o.code[pn] = 0 := by
  have h1 := mayO_rel h k hk
  rw [relB_at hk] at h1
  simp only [Bool.and_eq_true, decide_eq_true_eq] at h1
  obtain ⟨⟨⟨⟨⟨⟨⟨p0, p1⟩, -⟩, p3⟩, s0⟩, s1⟩, a0⟩, a1⟩ := h1
  refine ⟨o.rels[k].pl.toNat, o.rels[k].sym.toNat, o.rels[k].add.toNat, by omega, by omega, by omega, by omega, by omega, by omega, ?_⟩
  have hp : o.rels[k].pl.toNat < o.code.length := by omega
  have e := insB_at (o := o) hp
  rw [Int.toNat_natCast] at e
  rw [e] at p3
  simp only [Bool.and_eq_true, decide_eq_true_eq] at p3
  exact p3.1.1
theorem take_set_map {cur : Array Value} {NC i : Nat} {P : List Int} {x : Int} (h : cur.toList.take NC = P.map (Value.int .u32)) : (cur.setIfInBounds i (.int .u32 x)).toList.take NC = (P.set i x).map (Value.int .u32) := by
  rw [Array.toList_setIfInBounds, List.take_set, h, List.map_set]
theorem rCk_at {l : List Ob} {u : Nat} {O : Ob} {k pn sn : Nat} (hk : k < O.rels.length) (hp : pn < O.code.length) (hs : sn < O.syms.length) (ep : O.rels[k].pl = pn) (es : O.rels[k].sym = sn) : rVv O O.rels[k] = O.code[pn] ∧ rIm l u O O.rels[k] = adrA l u O.syms[sn] + O.rels[k].add := by
  unfold rVv rIm
  rw [ep, es]
  simp only [Int.toNat_natCast, List.getD_eq_getElem?_getD]
  rw [List.getElem?_eq_getElem hp, List.getElem?_eq_getElem hs]
  exact ⟨rfl, rfl⟩
theorem enc_n4 {op a b c m : Int} (h : ckN op a b c m = 0) : N4 (encN op a b c m) := by
  obtain ⟨h1, h2, h3, h4, h5, h6, -⟩ := ck_facts h
  unfold N4 encN
  omega
/-- What stands in the code of an image is a word without a sign. -/
theorem patL_n4 {l : List Ob} (hn : ∀ o, o ∈ l → ∀ x, x ∈ o.code → N4 x) (hc : N4 (callW l)) (hr : ∀ u (hu : u < l.length) k (hk : k < l[u].rels.length), N4 (rWd l u l[u] l[u].rels[k])) : ∀ u, u ≤ l.length → ∀ x, x ∈ patL l u → N4 x
  | 0, _, x, hx => by
    show N4 x
    have hx : x ∈ cdL l l.length := hx
    unfold cdL at hx
    rcases List.mem_append.1 hx with h | h
    · simp at h
      rcases h with rfl | rfl
      · exact hc
      · exact enc_n4 (by decide)
    · rw [List.mem_flatMap] at h
      obtain ⟨o, ho, hx⟩ := h
      exact hn o (List.mem_of_mem_take ho) x hx
  | u + 1, hu, x, hx => by
    rw [patL_next (by omega)] at hx
    have key : ∀ k, k ≤ l[u].rels.length → ∀ x, x ∈ patU l u l[u] (patL l u) k → N4 x := by
      intro k
      induction k with
      | zero => exact fun _ x hx => patL_n4 hn hc hr u (by omega) x hx
      | succ k ih =>
        intro hk x hx
        rw [patU_next (by omega)] at hx
        rcases List.mem_or_eq_of_mem_set hx with h | rfl
        · exact ih (by omega) x h
        · exact hr u (by omega) k (by omega)
    exact key _ (Nat.le_refl _) x hx
theorem Obs.wf {w : World} {v : Value} {l : List Ob} (h : Obs w v l) : ∀ o, o ∈ l → WfO o := fun o ho => by
  obtain ⟨j, hj, rfl⟩ := List.getElem_of_mem ho
  obtain ⟨a, c, -, -, -, H⟩ := h
  obtain ⟨g, oo, -, -, E⟩ := H (by omega)
  obtain ⟨cs, ⟨cv, dv, sv, rv, rfl, hv⟩, -⟩ := E j hj
  exact hv.wf
theorem badR_none {l : List Ob} (h : ∀ v (hv : v < l.length), l[v].rels.findIdx? (badP l v l[v]) = none) : badR l = none := find3_no (badP l) l 0 fun v hv => by rw [Nat.zero_add]; exact h v hv
theorem bad_none {l : List Ob} {u : Nat} (hu : u < l.length) (h : l[u].rels.findIdx? (badP l u l[u]) = none) (k : Nat) (hk : k < l[u].rels.length) : rCk l u l[u] l[u].rels[k] = 0 := by
  rw [List.findIdx?_eq_none_iff] at h
  have := h _ (List.getElem_mem hk)
  unfold badP at this
  simpa using this
theorem daL_ok {l : List Ob} (hn : ∀ o, o ∈ l → WfO o) (u : Nat) : ∀ x, x ∈ daL l u → -2147483648 ≤ x ∧ x ≤ 2147483647 := fun x hx => by
  unfold daL at hx
  rw [List.mem_flatMap] at hx
  obtain ⟨o, ho, hx⟩ := hx
  exact (hn o (List.mem_of_mem_take ho)).2 x hx
theorem rgV_len (x : Rg) : (rgV x).length = 5 := rfl
end Go.Proofs.Ythbhlmbhnidbhaa.T
