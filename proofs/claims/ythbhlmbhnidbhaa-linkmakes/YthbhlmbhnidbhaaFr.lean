/- A frame: what a function owns (blocks that it knows whole, rows that it appends to), each apart from the others. No program. -/
import Derived.WalkKit
import Derived.WalkSpells
import Derived.Deep.AppendLies
namespace Go.Proofs.Ythbhlmbhnidbhaa.T
open Go.RowKit
set_option linter.unusedVariables false
set_option linter.unusedSimpArgs false
/-- A thing that is owned. -/
def Rs : Type := (Nat × Array Value × TypeId) ⊕ (Value × TypeId × Nat × Nat × List Value) ⊕ (Nat × (Option Obj → Prop))
abbrev Rs.blk (q : Nat) (cs : Array Value) (T : TypeId) : Rs := Sum.inl (q, cs, T)
abbrev Rs.row (v : Value) (e : TypeId) (z n : Nat) (xs : List Value) : Rs := Sum.inr (Sum.inl (v, e, z, n, xs))
abbrev Rs.ob (b : Nat) (p : Option Obj → Prop) : Rs := Sum.inr (Sum.inr (b, p))
def Rs.own : Rs → Option Nat
  | Sum.inl (q, _, _) => some q
  | Sum.inr (Sum.inl (v, _, _, _, _)) => v.ownBlock
  | Sum.inr (Sum.inr (b, _)) => some b
def Rs.ok (n0 : Nat) (w : World) : Rs → Prop
  | Sum.inl (q, cs, T) => n0 ≤ q ∧ w.heap[q]? = some (.cells cs T (0, 0))
  | Sum.inr (Sum.inl (v, e, z, n, xs)) => w.ownsRow n0 e z v n xs
  | Sum.inr (Sum.inr (b, p)) => n0 ≤ b ∧ b < w.heap.size ∧ p w.heap[b]?
def Rs.off (a b : Rs) : Prop := ∀ q, a.own = some q → b.own ≠ some q
structure Fr (n0 : Nat) (w0 w : World) (L : List Rs) : Prop where
  below : Below n0 w0 w
  le : n0 ≤ w.heap.size
  ok : ∀ r, r ∈ L → r.ok n0 w
  off : L.Pairwise Rs.off
variable {n0 : Nat} {w0 w w' : World} {L : List Rs}
theorem Rs.off_symm {a b : Rs} (h : a.off b) : b.off a := fun q h1 h2 => h q h2 h1
theorem fr_cells {W : World} {b : Nat} {cur : Array Value} {t : TypeId} (h : W.heap[b]? = some (.cells cur t (0, 0))) : ∀ o, W.cell? ⟨b, o, none⟩ = cur[o]? := fun o => by simp [World.cell?, h]
theorem fr_frozen {W : World} {b : Nat} {cur : Array Value} {t : TypeId} (h : W.heap[b]? = some (.cells cur t (0, 0))) : ∀ o, W.frozen? ⟨b, o, none⟩ = false := fun o => by simp only [World.frozen?, h]; rfl
theorem fr_new (w : World) (cs : Array Value) (t : TypeId) : (w.alloc (.cells cs t)).heap[w.heap.size]? = some (.cells cs t (0, 0)) := heap_alloc_new w (.cells cs t)
/-- Where what is owned lies. -/
theorem Rs.ok.lt {r : Rs} (h : r.ok n0 w) {q : Nat} (hq : r.own = some q) : n0 ≤ q ∧ q < w.heap.size := by
  rcases r with ⟨b, cs, T⟩ | ⟨v, e, z, n, xs⟩ | ⟨b, p⟩
  · cases hq; exact ⟨h.1, (Array.getElem?_eq_some_iff.1 h.2).1⟩
  · exact World.ownsRow.lt h q hq
  · cases hq; exact ⟨h.1, h.2.1⟩
/-- What is owned stays, where its block does. -/
theorem Rs.ok.keep {r : Rs} (h : r.ok n0 w) (hk : ∀ q, r.own = some q → w'.heap[q]? = w.heap[q]?) : r.ok n0 w' := by
  rcases r with ⟨b, cs, T⟩ | ⟨v, e, z, n, xs⟩ | ⟨b, p⟩
  · exact ⟨h.1, (hk b rfl).trans h.2⟩
  · refine ⟨h.1, ?_⟩
    rcases h.2 with h2 | ⟨g, cap, cur, hv, hg, hh, r⟩
    · exact Or.inl h2
    · exact Or.inr ⟨g, cap, cur, hv, hg, (hk g (by subst hv; rfl)).trans hh, r⟩
  · have e := hk b rfl
    refine ⟨h.1, ?_, by rw [e]; exact h.2.2⟩
    exact (Array.getElem?_eq_some_iff.1 (e.trans (Array.getElem?_eq_getElem h.2.1))).1
theorem Fr.start (w : World) : Fr w.heap.size w w [] := ⟨Below.refl _ _, Nat.le_refl _, by simp, by simp⟩
theorem Fr.move (h : Fr n0 w0 w L) (hb : Below n0 w0 w') (hs : w.heap.size ≤ w'.heap.size) (hk : ∀ r, r ∈ L → ∀ q, r.own = some q → w'.heap[q]? = w.heap[q]?) : Fr n0 w0 w' L :=
  ⟨hb, Nat.le_trans h.le hs, fun r hr => (h.ok r hr).keep (hk r hr), h.off⟩
/-- A call that leaves all that was there. -/
theorem Fr.call (h : Fr n0 w0 w L) (hb : Below w.heap.size w w') : Fr n0 w0 w' L :=
  h.move (h.below.trans (hb.mono h.le)) hb.size fun r hr q hq => hb.block q ((h.ok r hr).lt hq).2
theorem Fr.add (h : Fr n0 w0 w L) {r : Rs} (hr : r.ok n0 w) (ho : ∀ x, x ∈ L → r.off x) : Fr n0 w0 w (r :: L) :=
  ⟨h.below, h.le, fun x hx => by rcases List.mem_cons.1 hx with rfl | hx; exact hr; exact h.ok x hx, List.Pairwise.cons ho h.off⟩
theorem Fr.alloc (h : Fr n0 w0 w L) {q : Nat} (hq : w.heap.size = q) (cs : Array Value) (T : TypeId) : Fr n0 w0 (w.alloc (.cells cs T)) (.blk q cs T :: L) := by
  subst hq
  refine (h.call ((Below.refl _ _).alloc (Nat.le_refl _) _)).add ⟨h.le, fr_new _ _ _⟩ fun x hx q hq he => ?_
  have := ((h.ok x hx).lt he).2
  have e : w.heap.size = q := Option.some.inj hq
  omega
/-- A row that a call gave, all of it new. -/
theorem Fr.take (h : Fr n0 w0 w L) (hb : Below w.heap.size w w') {v : Value} {e : TypeId} {z n : Nat} {xs : List Value} (hv : w'.ownsRow w.heap.size e z v n xs) : Fr n0 w0 w' (.row v e z n xs :: L) := by
  refine (h.call hb).add (r := .row v e z n xs) ?_ fun x hx q hq he => ?_
  · refine ⟨hv.1, ?_⟩
    rcases hv.2 with h2 | ⟨g, cap, cur, hv, hg, r⟩
    · exact Or.inl h2
    · exact Or.inr ⟨g, cap, cur, hv, Nat.le_trans h.le hg, r⟩
  · have h1 := ((h.ok x hx).lt he).2
    have h2 := (World.ownsRow.lt hv q hq).1
    omega
/-- A row of nothing. -/
theorem Fr.nil (h : Fr n0 w0 w L) (e : TypeId) (z : Nat) : Fr n0 w0 w (.row (.slice none 0 0) e z 0 [] :: L) :=
  h.add (r := .row (.slice none 0 0) e z 0 []) ⟨by simp, Or.inl ⟨rfl, rfl⟩⟩ fun x hx q hq => by cases hq
theorem pw_set {R : Rs → Rs → Prop} (hs : ∀ a b, R a b → R b a) : ∀ {L : List Rs} {i : Nat} {r r' : Rs}, L.Pairwise R → L[i]? = some r → (∀ x j, L[j]? = some x → j ≠ i → R r' x) → (L.set i r').Pairwise R
  | [], i, r, r', _, hi, _ => by simp at hi
  | x :: L, 0, r, r', hp, hi, hn => by
    rw [List.set_cons_zero]
    rw [List.pairwise_cons] at hp ⊢
    refine ⟨fun y hy => ?_, hp.2⟩
    obtain ⟨j, hj, e⟩ := List.getElem_of_mem hy
    exact hn y (j + 1) (by rw [List.getElem?_cons_succ, List.getElem?_eq_getElem hj, e]) (by omega)
  | x :: L, i + 1, r, r', hp, hi, hn => by
    rw [List.set_cons_succ]
    rw [List.pairwise_cons] at hp ⊢
    refine ⟨fun y hy => ?_, pw_set hs hp.2 (by simpa using hi) fun y j hj hne => hn y (j + 1) (by simpa using hj) (by omega)⟩
    rcases List.mem_or_eq_of_mem_set hy with h | rfl
    · exact hp.1 y h
    · exact hs _ _ (hn x 0 rfl (by omega))
theorem pw_get {R : Rs → Rs → Prop} (hs : ∀ a b, R a b → R b a) {L : List Rs} (hp : L.Pairwise R) {i j : Nat} {a b : Rs} (hi : L[i]? = some a) (hj : L[j]? = some b) (hne : i ≠ j) : R a b := by
  obtain ⟨hi', rfl⟩ := List.getElem?_eq_some_iff.1 hi
  obtain ⟨hj', rfl⟩ := List.getElem?_eq_some_iff.1 hj
  rw [List.pairwise_iff_getElem] at hp
  rcases Nat.lt_or_gt_of_ne hne with h | h
  · exact hp i j hi' hj' h
  · exact hs _ _ (hp j i hj' hi' h)
theorem Fr.get (h : Fr n0 w0 w L) {i : Nat} {r : Rs} (hi : L[i]? = some r) : r.ok n0 w := h.ok r (List.mem_of_getElem? hi)
/-- One thing turns, in its own block or into a new one; all else stands. -/
theorem Fr.turn (h : Fr n0 w0 w L) (i : Nat) {r r' : Rs} (hi : L[i]? = some r) (hb : Below n0 w0 w') (hs : w.heap.size ≤ w'.heap.size) (hk : ∀ q, q < w.heap.size → r.own ≠ some q → w'.heap[q]? = w.heap[q]?) (hr : r'.ok n0 w') (ho : ∀ q, r'.own = some q → r.own = some q ∨ w.heap.size ≤ q) : Fr n0 w0 w' (L.set i r') := by
  have key : ∀ x j, L[j]? = some x → j ≠ i → x.ok n0 w' ∧ Rs.off r' x := fun x j hj hne => by
    have hx := h.get hj
    have hoff : r.off x := pw_get (fun _ _ => Rs.off_symm) h.off hi hj (Ne.symm hne)
    refine ⟨hx.keep fun q hq => hk q (hx.lt hq).2 fun e => hoff q e hq, fun q h1 h2 => ?_⟩
    rcases ho q h1 with e | e
    · exact hoff q e h2
    · have := (hx.lt h2).2; omega
  refine ⟨hb, Nat.le_trans h.le hs, fun x hx => ?_, pw_set (fun _ _ => Rs.off_symm) h.off hi fun x j hj hne => (key x j hj hne).2⟩
  obtain ⟨j, hj, e⟩ := List.getElem_of_mem hx
  by_cases hji : j = i
  · subst hji; simp at e; subst e; exact hr
  · rw [List.getElem_set_ne (by omega)] at e
    have hj' : j < L.length := by simpa using hj
    exact (key x j (by rw [List.getElem?_eq_getElem hj', e]) hji).1
theorem Fr.set (h : Fr n0 w0 w L) (i : Nat) {q : Nat} {cs : Array Value} {T : TypeId} (hi : L[i]? = some (.blk q cs T)) (o : Nat) (v : Value) : Fr n0 w0 (w.setCell ⟨q, o, none⟩ v) (L.set i (.blk q (cs.setIfInBounds o v) T)) := by
  have hq := h.get hi
  refine h.turn i hi (h.below.setCell (p := ⟨q, o, none⟩) hq.1 v) (by simp) (fun k hk hne => heap_setCell_other _ _ _ _ (fun e => hne (by rw [e]; rfl))) ⟨hq.1, heap_setCell_same w q o _ _ _ hq.2⟩ fun k hk => Or.inl hk
theorem Fr.app (h : Fr n0 w0 w L) (i : Nat) {v : Value} {e : TypeId} {z n : Nat} {xs : List Value} (hi : L[i]? = some (.row v e z n xs)) {v' : Value} {n' : Nat} {xs' : List Value} (hg : w.grownBy w' v.ownBlock) (hv : w'.ownsRow n0 e z v' n' xs') (ho : ∀ q, v'.ownBlock = some q → v.ownBlock = some q ∨ w.heap.size ≤ q) : Fr n0 w0 w' (L.set i (.row v' e z n' xs')) := by
  have hr := h.get hi
  refine h.turn i hi ⟨hg.os.trans h.below.os, hg.tape.trans h.below.tape, hg.output.trans h.below.output, Nat.le_trans h.below.size hg.size, fun k hk => ?_⟩ hg.size (fun k hk hne => hg.block k hk (Ne.symm hne)) hv ho
  exact (hg.block k (Nat.lt_of_lt_of_le hk h.le) (fun e => by have := (World.ownsRow.lt hr k e.symm).1; omega)).trans (h.below.block k hk)
/-- Some of the things alone. -/
theorem Fr.sub (h : Fr n0 w0 w L) {K : List Rs} (hs : K.Sublist L) : Fr n0 w0 w K := ⟨h.below, h.le, fun r hr => h.ok r (hs.subset hr), h.off.sublist hs⟩
theorem Fr.tail {r : Rs} (h : Fr n0 w0 w (r :: L)) : Fr n0 w0 w L := h.sub (List.sublist_cons_self _ _)
theorem Fr.cell (h : Fr n0 w0 w L) (i : Nat) {q : Nat} {cs : Array Value} {T : TypeId} (hi : L[i]? = some (.blk q cs T)) : ∀ o, w.cell? ⟨q, o, none⟩ = cs[o]? := fr_cells (h.get hi).2
theorem Fr.frz (h : Fr n0 w0 w L) (i : Nat) {q : Nat} {cs : Array Value} {T : TypeId} (hi : L[i]? = some (.blk q cs T)) : ∀ o, w.frozen? ⟨q, o, none⟩ = false := fr_frozen (h.get hi).2
theorem Fr.lt (h : Fr n0 w0 w L) (i : Nat) {r : Rs} (hi : L[i]? = some r) {q : Nat} (hq : r.own = some q) : n0 ≤ q ∧ q < w.heap.size := (h.get hi).lt hq
theorem Fr.below' (h : Fr n0 w0 w L) (hn : n0 = w0.heap.size) : Below w0.heap.size w0 w := hn ▸ h.below
theorem fr_info {P : Program} {e : TypeId} {z : Value} {n m : Nat} (h : (P.info? e).map (fun i => (i.zero, i.size, i.bytes)) = some (some z, n, m)) : ∃ i, P.info? e = some i ∧ i.zero = some z ∧ i.size = n ∧ i.bytes = m := by
  cases hi : P.info? e with
  | none => rw [hi] at h; cases h
  | some i =>
    rw [hi] at h
    simp at h
    exact ⟨i, rfl, h.1, h.2.1, h.2.2⟩
/-- append, of what lies somewhere, to a row that is owned. -/
theorem Fr.list {P : Program} {ops : Array Oper} {rest : List Oper} {o : Oper} {a : Act} {Q : Exit → Act → World → Prop} (t : TypeId) {e : TypeId} {zv : Value} {z by' : Nat}
    (hinfo : (P.info? e).map (fun i => (i.zero, i.size, i.bytes)) = some (some zv, z, by')) (ht : P.underlying t = some (.slice e)) (hz : zv.cells.size = z) (hz0 : 0 < z) (hby : by' ≤ 1000)
    (h : Fr n0 w0 w L) (i : Nat) {v : Value} {n : Nat} {xs : List Value} (hi : L[i]? = some (.row v e z n xs)) (hn : n ≤ 16000)
    (p q : Operand) (hgd : o.guard = none) (ho : o.op = .call { callee := .builtin .append, args := #[p, q], argTypes := #[t, t] }) (hs : a.eval p = v)
    (ad : Addr) (m c : Nat) (news : List Value) (hx : a.eval q = .slice (some ad) m c) (hl : news.length = m * z) (hnews : ∀ j u, news[j]? = some u → w.cell? (ad.add j) = some u) (h1 : ∀ u ∈ news, u.oneCell' = true) (hm : 0 < m) (hm2 : m ≤ 16000)
    (k : ∀ g cap w', Fr n0 w0 w' (L.set i (.row (.slice (some ⟨g, 0, none⟩) (n + m) cap) e z (n + m) (xs ++ news))) → w.grownBy w' v.ownBlock → wpList P ops Q rest (a.put o.dst (.slice (some ⟨g, 0, none⟩) (n + m) cap)) w') :
    wpList P ops Q (o :: rest) a w := by
  obtain ⟨i0, hi0, hz0', hz1, hz2⟩ := fr_info hinfo
  have hb : (n + m) * by' ≤ 140737488355328 := Nat.le_trans (Nat.mul_le_mul (show n + m ≤ 32000 by omega) hby) (by decide)
  refine wpList_append_lies w hgd p q t ho n0 e i0 zv z by' ht hi0 hz0' hz1 hz2 hz hz0 v n xs hs (h.get hi) ad m c news hx hl hnews h1 hm (by unfold maxLen; omega) hb h.le w.heap.size rfl ?_
  intro g cap w' h2 h3 h4 h5
  refine k g cap w' (h.app i hi h3 h2 fun q hq => ?_) h3
  have e : g = q := Option.some.inj hq
  subst e
  rcases h4 with e | e
  · exact Or.inl e
  · exact Or.inr (Nat.le_of_eq e.symm)
/-- append of one thing that was just laid in a block of its own. -/
theorem Fr.one {P : Program} {ops : Array Oper} {rest : List Oper} {o : Oper} {a : Act} {Q : Exit → Act → World → Prop} (t : TypeId) {e : TypeId} {zv : Value} {z by' : Nat}
    (hinfo : (P.info? e).map (fun i => (i.zero, i.size, i.bytes)) = some (some zv, z, by')) (ht : P.underlying t = some (.slice e)) (hz : zv.cells.size = z) (hz0 : 0 < z) (hby : by' ≤ 1000)
    {B : Nat} {cs : Array Value} {T : TypeId} (h : Fr n0 w0 w (.blk B cs T :: L)) (i : Nat) {v : Value} {n : Nat} {xs : List Value} (hi : L[i]? = some (.row v e z n xs)) (hn : n ≤ 16000)
    (p q : Operand) (hgd : o.guard = none) (ho : o.op = .call { callee := .builtin .append, args := #[p, q], argTypes := #[t, t] }) (hs : a.eval p = v)
    {c : Nat} (hx : a.eval q = .slice (some ⟨B, 0, none⟩) 1 c) (hl : cs.size = z) (h1 : cs.toList.all (fun u => u.oneCell') = true)
    (k : ∀ g cap w', Fr n0 w0 w' (L.set i (.row (.slice (some ⟨g, 0, none⟩) (n + 1) cap) e z (n + 1) (xs ++ cs.toList))) → w.grownBy w' v.ownBlock → wpList P ops Q rest (a.put o.dst (.slice (some ⟨g, 0, none⟩) (n + 1) cap)) w') :
    wpList P ops Q (o :: rest) a w := by
  refine Fr.list t hinfo ht hz hz0 hby h.tail i hi hn p q hgd ho hs ⟨B, 0, none⟩ 1 c cs.toList hx (by simp [hl]) (World.news_of_block (h.get (i := 0) rfl).2) ?_ (by decide) (by decide) k
  intro u hu
  exact List.all_eq_true.1 h1 u hu
/-- The same at a step of a region that draws its order ('go_region_law'). -/
theorem Fr.stepOne {P : Program} {ops : Array Oper} {o : Oper} {a : Act} {K : Act → World → Prop} {Q : Exit → Act → World → Prop} {E : Prop} (t : TypeId) {e : TypeId} {zv : Value} {z by' : Nat}
    (hinfo : (P.info? e).map (fun i => (i.zero, i.size, i.bytes)) = some (some zv, z, by')) (ht : P.underlying t = some (.slice e)) (hz : zv.cells.size = z) (hz0 : 0 < z) (hby : by' ≤ 1000)
    {B : Nat} {cs : Array Value} {T : TypeId} (h : Fr n0 w0 w (.blk B cs T :: L)) (i : Nat) {v : Value} {n : Nat} {xs : List Value} (hi : L[i]? = some (.row v e z n xs)) (hn : n ≤ 16000)
    (p q : Operand) (hgd : o.guard = none) (ho : o.op = .call { callee := .builtin .append, args := #[p, q], argTypes := #[t, t] }) (hs : a.eval p = v)
    {c : Nat} (hx : a.eval q = .slice (some ⟨B, 0, none⟩) 1 c) (hl : cs.size = z) (h1 : cs.toList.all (fun u => u.oneCell') = true)
    (k : ∀ g cap w', Fr n0 w0 w' (L.set i (.row (.slice (some ⟨g, 0, none⟩) (n + 1) cap) e z (n + 1) (xs ++ cs.toList))) → w.grownBy w' v.ownBlock → K (a.put o.dst (.slice (some ⟨g, 0, none⟩) (n + 1) cap)) w') :
    if Region.wanted o (yielded ops a.tmps) = true then Oper.wp P o a w K Q else E := by
  obtain ⟨i0, hi0, hz0', hz1, hz2⟩ := fr_info hinfo
  have hb : (n + 1) * by' ≤ 140737488355328 := Nat.le_trans (Nat.mul_le_mul (show n + 1 ≤ 32000 by omega) hby) (by decide)
  refine step_append_lies w hgd p q t ho n0 e i0 zv z by' ht hi0 hz0' hz1 hz2 hz hz0 v n xs hs (h.tail.get hi) ⟨B, 0, none⟩ 1 c cs.toList hx (by simp [hl]) (World.news_of_block (h.get (i := 0) rfl).2) (fun u hu => List.all_eq_true.1 h1 u hu) (by decide) (by unfold maxLen; omega) hb h.le w.heap.size rfl ?_
  intro g cap w' h2 h3 h4 h5
  refine k g cap w' (h.tail.app i hi h3 h2 fun q hq => ?_) h3
  have e : g = q := Option.some.inj hq
  subst e
  rcases h4 with e | e
  · exact Or.inl e
  · exact Or.inr (Nat.le_of_eq e.symm)
/-- .. of several things at once. -/
theorem Fr.stepMany {P : Program} {ops : Array Oper} {o : Oper} {a : Act} {K : Act → World → Prop} {Q : Exit → Act → World → Prop} {E : Prop} (t : TypeId) (m : Nat) {e : TypeId} {zv : Value} {z by' : Nat}
    (hinfo : (P.info? e).map (fun i => (i.zero, i.size, i.bytes)) = some (some zv, z, by')) (ht : P.underlying t = some (.slice e)) (hz : zv.cells.size = z) (hz0 : 0 < z) (hby : by' ≤ 1000)
    {B : Nat} {cs : Array Value} {T : TypeId} (h : Fr n0 w0 w (.blk B cs T :: L)) (i : Nat) {v : Value} {n : Nat} {xs : List Value} (hi : L[i]? = some (.row v e z n xs)) (hn : n ≤ 16000)
    (p q : Operand) (hgd : o.guard = none) (ho : o.op = .call { callee := .builtin .append, args := #[p, q], argTypes := #[t, t] }) (hs : a.eval p = v)
    {c : Nat} (hx : a.eval q = .slice (some ⟨B, 0, none⟩) m c) (hl : cs.size = m * z) (hm : 0 < m) (hm2 : m ≤ 16000) (h1 : cs.toList.all (fun u => u.oneCell') = true)
    (k : ∀ g cap w', Fr n0 w0 w' (L.set i (.row (.slice (some ⟨g, 0, none⟩) (n + m) cap) e z (n + m) (xs ++ cs.toList))) → w.grownBy w' v.ownBlock → K (a.put o.dst (.slice (some ⟨g, 0, none⟩) (n + m) cap)) w') :
    if Region.wanted o (yielded ops a.tmps) = true then Oper.wp P o a w K Q else E := by
  obtain ⟨i0, hi0, hz0', hz1, hz2⟩ := fr_info hinfo
  have hb : (n + m) * by' ≤ 140737488355328 := Nat.le_trans (Nat.mul_le_mul (show n + m ≤ 32000 by omega) hby) (by decide)
  refine step_append_lies w hgd p q t ho n0 e i0 zv z by' ht hi0 hz0' hz1 hz2 hz hz0 v n xs hs (h.tail.get hi) ⟨B, 0, none⟩ m c cs.toList hx (by simp [hl]) (World.news_of_block (h.get (i := 0) rfl).2) (fun u hu => List.all_eq_true.1 h1 u hu) hm (by unfold maxLen; omega) hb h.le w.heap.size rfl ?_
  intro g cap w' h2 h3 h4 h5
  refine k g cap w' (h.tail.app i hi h3 h2 fun q hq => ?_) h3
  have e : g = q := Option.some.inj hq
  subst e
  rcases h4 with e | e
  · exact Or.inl e
  · exact Or.inr (Nat.le_of_eq e.symm)
theorem Fr.drew (h : Fr n0 w0 w L) : Fr n0 w0 w.drew L := h.call (Below.refl _ _).drew
/-- A map turns. -/
theorem Fr.mapd (h : Fr n0 w0 w L) (i : Nat) {r r' : Rs} {b : Nat} (hi : L[i]? = some r) (ho : r.own = some b) (hg : w.grownBy w' (some b)) (hr : r'.ok n0 w') (ho' : r'.own = some b) : Fr n0 w0 w' (L.set i r') := by
  have hlt := (h.get hi).lt ho
  refine h.turn i hi ⟨hg.os.trans h.below.os, hg.tape.trans h.below.tape, hg.output.trans h.below.output, Nat.le_trans h.below.size hg.size, fun k hk => ?_⟩ hg.size (fun k hk hne => hg.block k hk fun e => hne (ho.trans e.symm)) hr fun q hq => Or.inl (ho.trans (ho'.symm.trans hq))
  refine (hg.block k (Nat.lt_of_lt_of_le hk h.le) fun e => ?_).trans (h.below.block k hk)
  have : k = b := Option.some.inj e
  omega
/-- A row, laid open. -/
theorem Fr.opened (h : Fr n0 w0 w L) (i : Nat) {v : Value} {e : TypeId} {z n : Nat} {xs : List Value} (hi : L[i]? = some (.row v e z n xs)) (hn : 0 < n) : ∃ g cap cur, v = .slice (some ⟨g, 0, none⟩) n cap ∧ n ≤ cap ∧ cap ≤ maxLen ∧ cur.size = cap * z ∧ cur.toList.take (n * z) = xs ∧ xs.length = n * z ∧ Fr n0 w0 w (L.set i (.blk g cur e)) := by
  have hr := h.get hi
  rcases hr.2 with ⟨_, h0⟩ | ⟨g, cap, cur, hv, hg, hh, a1, a2, a3, a4⟩
  · omega
  · exact ⟨g, cap, cur, hv, a1, a2, a3, a4, hr.1, h.turn i hi h.below (Nat.le_refl _) (fun _ _ _ => rfl) ⟨hg, hh⟩ fun q hq => Or.inl (by subst hv; exact hq)⟩
/-- .. and shut again. -/
theorem Fr.shut (h : Fr n0 w0 w L) (i : Nat) {g cap n z : Nat} {cur : Array Value} {e : TypeId} {xs : List Value} (hi : L[i]? = some (.blk g cur e)) (a1 : n ≤ cap) (a2 : cap ≤ maxLen) (a3 : cur.size = cap * z) (a4 : cur.toList.take (n * z) = xs) (a5 : xs.length = n * z) : Fr n0 w0 w (L.set i (.row (.slice (some ⟨g, 0, none⟩) n cap) e z n xs)) :=
  have hr := h.get hi
  h.turn i hi h.below (Nat.le_refl _) (fun _ _ _ => rfl) ⟨a5, Or.inr ⟨g, cap, cur, rfl, hr.1, hr.2, a1, a2, a3, a4⟩⟩ fun q hq => Or.inl hq
/-- A call that turned a block that is owned. -/
theorem Fr.via (h : Fr n0 w0 w L) (i : Nat) {g : Nat} {cs cs' : Array Value} {T : TypeId} (hi : L[i]? = some (.blk g cs T)) (hg : w.grownBy w' (some g)) (hr : w'.heap[g]? = some (.cells cs' T (0, 0))) : Fr n0 w0 w' (L.set i (.blk g cs' T)) :=
  h.mapd i hi rfl hg ⟨(h.get hi).1, hr⟩ rfl
end Go.Proofs.Ythbhlmbhnidbhaa.T
