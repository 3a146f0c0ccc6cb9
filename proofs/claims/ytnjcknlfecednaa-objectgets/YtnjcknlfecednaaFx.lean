/- A frame where some blocks of the caller's may turn. No program. -/
import Derived.Test.YtnjcknlfecednaaFr
namespace Go.Proofs.Ytnjcknlfecednaa.T
open Go.RowKit
set_option linter.unusedVariables false
set_option linter.unusedSimpArgs false
/-- Of what lay in w0 only the blocks of F may have turned; L is owned. -/
structure Fx (F : Nat → Prop) (w0 w : World) (L : List Rs) : Prop where
  fr : Fr 0 w0 w L
  keep : ∀ k, k < w0.heap.size → ¬ F k → w.heap[k]? = w0.heap[k]?
  new : ∀ r, r ∈ L → ∀ q, r.own = some q → F q ∨ w0.heap.size ≤ q
variable {F : Nat → Prop} {w0 w w' : World} {L : List Rs}
theorem Fx.size (h : Fx F w0 w L) : w0.heap.size ≤ w.heap.size := h.fr.below.size
theorem Fx.start (F : Nat → Prop) (w : World) : Fx F w w [] := ⟨⟨Below.refl _ _, Nat.zero_le _, by simp, by simp⟩, fun _ _ _ => rfl, by simp⟩
theorem Fx.own (h : Fx F w0 w L) {b : Nat} {cs : Array Value} {T : TypeId} (hF : F b) (hb : w.heap[b]? = some (.cells cs T (0, 0))) (ho : ∀ x, x ∈ L → Rs.off (.blk b cs T) x) : Fx F w0 w (.blk b cs T :: L) :=
  ⟨h.fr.add (r := .blk b cs T) ⟨Nat.zero_le _, hb⟩ ho, h.keep, fun r hr q hq => by
    rcases List.mem_cons.1 hr with rfl | hr
    · cases hq; exact Or.inl hF
    · exact h.new r hr q hq⟩
theorem Fx.one' {b : Nat} {cs : Array Value} {T : TypeId} (hb : w.heap[b]? = some (.cells cs T (0, 0))) : Fx (· = b) w w [.blk b cs T] := (Fx.start _ w).own rfl hb (by simp)
theorem Fx.call (h : Fx F w0 w L) (hb : Below w.heap.size w w') : Fx F w0 w' L :=
  ⟨h.fr.move (h.fr.below.trans (hb.mono (Nat.zero_le _))) hb.size fun r hr q hq => hb.block q ((h.fr.ok r hr).lt hq).2, fun k hk hF => (hb.block k (Nat.lt_of_lt_of_le hk h.size)).trans (h.keep k hk hF), h.new⟩
theorem Fx.alloc (h : Fx F w0 w L) {q : Nat} (hq : w.heap.size = q) (cs : Array Value) (T : TypeId) : Fx F w0 (w.alloc (.cells cs T)) (.blk q cs T :: L) :=
  ⟨h.fr.alloc hq cs T, (h.call ((Below.refl _ _).alloc (Nat.le_refl _) _)).keep, fun r hr k hk => by
    rcases List.mem_cons.1 hr with rfl | hr
    · cases hk; subst hq; exact Or.inr h.size
    · exact h.new r hr k hk⟩
theorem Fx.nil (h : Fx F w0 w L) (e : TypeId) (z : Nat) : Fx F w0 w (.row (.slice none 0 0) e z 0 [] :: L) :=
  ⟨h.fr.nil e z, h.keep, fun r hr k hk => by
    rcases List.mem_cons.1 hr with rfl | hr
    · cases hk
    · exact h.new r hr k hk⟩
theorem fx_new {F : Nat → Prop} {n : Nat} {L : List Rs} (h : ∀ r, r ∈ L → ∀ q, r.own = some q → F q ∨ n ≤ q) (i : Nat) {r' : Rs} (hr : ∀ q, r'.own = some q → F q ∨ n ≤ q) : ∀ r, r ∈ L.set i r' → ∀ q, r.own = some q → F q ∨ n ≤ q := fun r hm q hq => by
  rcases List.mem_or_eq_of_mem_set hm with hm | rfl
  · exact h r hm q hq
  · exact hr q hq
theorem Fx.set (h : Fx F w0 w L) (i : Nat) {q : Nat} {cs : Array Value} {T : TypeId} (hi : L[i]? = some (.blk q cs T)) (o : Nat) (v : Value) : Fx F w0 (w.setCell ⟨q, o, none⟩ v) (L.set i (.blk q (cs.setIfInBounds o v) T)) := by
  have hm := List.mem_of_getElem? hi
  refine ⟨h.fr.set i hi o v, fun k hk hF => ?_, fx_new h.new i fun k hk => ?_⟩
  · rw [heap_setCell_other _ _ _ _ (fun e => ?_)]
    · exact h.keep k hk hF
    · have e' : q = k := by simpa using e.symm
      subst e'
      rcases h.new _ hm q rfl with h1 | h1
      · exact hF h1
      · omega
  · cases hk; exact h.new _ hm q rfl
theorem Fr.viaTake {n0 : Nat} (h : Fr n0 w0 w L) (i : Nat) {b : Nat} {cs cs' : Array Value} {T : TypeId} (hi : L[i]? = some (.blk b cs T)) (hg : w.grownBy w' (some b)) (hn : w'.heap[b]? = some (.cells cs' T (0, 0))) {v : Value} {e : TypeId} {z n : Nat} {xs : List Value} (hv : w'.ownsRow w.heap.size e z v n xs) : Fr n0 w0 w' (.row v e z n xs :: L.set i (.blk b cs' T)) := by
  have hf := h.via i hi hg hn
  refine hf.add (r := .row v e z n xs) ?_ fun x hx q hq he => ?_
  · refine ⟨hv.1, ?_⟩
    rcases hv.2 with h2 | ⟨g, cap, cur, hv, hg, r⟩
    · exact Or.inl h2
    · exact Or.inr ⟨g, cap, cur, hv, Nat.le_trans h.le hg, r⟩
  · have h2 := (World.ownsRow.lt hv q hq).1
    rcases List.mem_or_eq_of_mem_set hx with hx | rfl
    · have h1 := ((h.ok x hx).lt he).2; omega
    · have h1 := ((h.get hi).lt (q := q) he).2; omega
theorem Fx.via (h : Fx F w0 w L) (i : Nat) {b : Nat} {cs cs' : Array Value} {T : TypeId} (hi : L[i]? = some (.blk b cs T)) (hg : w.grownBy w' (some b)) (hn : w'.heap[b]? = some (.cells cs' T (0, 0))) : Fx F w0 w' (L.set i (.blk b cs' T)) := by
  have hm := List.mem_of_getElem? hi
  refine ⟨h.fr.via i hi hg hn, fun k hk hF => ?_, fx_new h.new i fun k hk => ?_⟩
  · refine (hg.block k (Nat.lt_of_lt_of_le hk h.size) (fun e => ?_)).trans (h.keep k hk hF)
    have e' : k = b := Option.some.inj e
    subst e'
    rcases h.new _ hm k rfl with h1 | h1
    · exact hF h1
    · omega
  · cases hk; exact h.new _ hm b rfl
/-- append, of what lies somewhere, to a row that is owned. -/
theorem Fx.list {P : Program} {ops : Array Oper} {rest : List Oper} {o : Oper} {a : Act} {Q : Exit → Act → World → Prop} (t : TypeId) {e : TypeId} {zv : Value} {z by' : Nat}
    (hinfo : (P.info? e).map (fun i => (i.zero, i.size, i.bytes)) = some (some zv, z, by')) (ht : P.underlying t = some (.slice e)) (hz : zv.cells.size = z) (hz0 : 0 < z) (hby : by' ≤ 1000)
    (h : Fx F w0 w L) (i : Nat) {v : Value} {n : Nat} {xs : List Value} (hi : L[i]? = some (.row v e z n xs)) (hn : n ≤ 16000)
    (p q : Operand) (hgd : o.guard = none) (ho : o.op = .call { callee := .builtin .append, args := #[p, q], argTypes := #[t, t] }) (hs : a.eval p = v)
    (ad : Addr) (m c : Nat) (news : List Value) (hx : a.eval q = .slice (some ad) m c) (hl : news.length = m * z) (hnews : ∀ j u, news[j]? = some u → w.cell? (ad.add j) = some u) (h1 : ∀ u ∈ news, u.oneCell' = true) (hm : 0 < m) (hm2 : m ≤ 16000)
    (k : ∀ g cap w', Fx F w0 w' (L.set i (.row (.slice (some ⟨g, 0, none⟩) (n + m) cap) e z (n + m) (xs ++ news))) → wpList P ops Q rest (a.put o.dst (.slice (some ⟨g, 0, none⟩) (n + m) cap)) w') :
    wpList P ops Q (o :: rest) a w := by
  obtain ⟨i0, hi0, hz0', hz1, hz2⟩ := fr_info hinfo
  have hb : (n + m) * by' ≤ 140737488355328 := Nat.le_trans (Nat.mul_le_mul (show n + m ≤ 32000 by omega) hby) (by decide)
  have hmem := List.mem_of_getElem? hi
  refine wpList_append_lies w hgd p q t ho 0 e i0 zv z by' ht hi0 hz0' hz1 hz2 hz hz0 v n xs hs (h.fr.get hi) ad m c news hx hl hnews h1 hm (by unfold maxLen; omega) hb (Nat.zero_le _) w.heap.size rfl ?_
  intro g cap w' h2 h3 h4 h5
  refine k g cap w' ⟨h.fr.app i hi h3 h2 fun q hq => ?_, fun j hj hF => ?_, fx_new h.new i fun q hq => ?_⟩
  · have e : g = q := Option.some.inj hq
    subst e
    rcases h4 with e | e
    · exact Or.inl e
    · exact Or.inr (Nat.le_of_eq e.symm)
  · refine (h3.block j (Nat.lt_of_lt_of_le hj h.size) (fun e => ?_)).trans (h.keep j hj hF)
    rcases h.new _ hmem j e.symm with h1 | h1
    · exact hF h1
    · omega
  · have e : g = q := Option.some.inj hq
    subst e
    rcases h4 with e | e
    · exact h.new _ hmem g e
    · exact Or.inr (by have := h.size; omega)
/-- append of one thing that was just laid in a block of its own. -/
theorem Fx.tail {r : Rs} (h : Fx F w0 w (r :: L)) : Fx F w0 w L := ⟨h.fr.tail, h.keep, fun x hx => h.new x (List.mem_cons_of_mem _ hx)⟩
theorem Fx.one {P : Program} {ops : Array Oper} {rest : List Oper} {o : Oper} {a : Act} {Q : Exit → Act → World → Prop} (t : TypeId) {e : TypeId} {zv : Value} {z by' : Nat}
    (hinfo : (P.info? e).map (fun i => (i.zero, i.size, i.bytes)) = some (some zv, z, by')) (ht : P.underlying t = some (.slice e)) (hz : zv.cells.size = z) (hz0 : 0 < z) (hby : by' ≤ 1000)
    {B : Nat} {cs : Array Value} {T : TypeId} (h : Fx F w0 w (.blk B cs T :: L)) (i : Nat) {v : Value} {n : Nat} {xs : List Value} (hi : L[i]? = some (.row v e z n xs)) (hn : n ≤ 16000)
    (p q : Operand) (hgd : o.guard = none) (ho : o.op = .call { callee := .builtin .append, args := #[p, q], argTypes := #[t, t] }) (hs : a.eval p = v)
    {c : Nat} (hx : a.eval q = .slice (some ⟨B, 0, none⟩) 1 c) (hl : cs.size = z) (h1 : cs.toList.all (fun u => u.oneCell') = true)
    (k : ∀ g cap w', Fx F w0 w' (L.set i (.row (.slice (some ⟨g, 0, none⟩) (n + 1) cap) e z (n + 1) (xs ++ cs.toList))) → wpList P ops Q rest (a.put o.dst (.slice (some ⟨g, 0, none⟩) (n + 1) cap)) w') :
    wpList P ops Q (o :: rest) a w := by
  refine Fx.list t hinfo ht hz hz0 hby h.tail i hi hn p q hgd ho hs ⟨B, 0, none⟩ 1 c cs.toList hx (by simp [hl]) (World.news_of_block (h.fr.get (i := 0) rfl).2) ?_ (by decide) (by decide) k
  intro u hu
  exact List.all_eq_true.1 h1 u hu
theorem Fx.grown {b : Nat} (h : Fx (· = b) w0 w L) : w0.grownBy w (some b) := ⟨h.fr.below.os, h.fr.below.tape, h.fr.below.output, h.size, fun k hk hne => h.keep k hk fun e => hne (by rw [e])⟩
theorem Fx.row {i : Nat} {v : Value} {e : TypeId} {z n : Nat} {xs : List Value} (h : Fx F w0 w L) (hi : L[i]? = some (.row v e z n xs)) (hF : ∀ q, v.ownBlock = some q → ¬ F q) : w.ownsRow w0.heap.size e z v n xs := by
  have hr : w.ownsRow 0 e z v n xs := h.fr.get hi
  refine ⟨hr.1, ?_⟩
  rcases hr.2 with h2 | ⟨g, cap, cur, hv, hg, r⟩
  · exact Or.inl h2
  · refine Or.inr ⟨g, cap, cur, hv, ?_, r⟩
    have hq : v.ownBlock = some g := by subst hv; rfl
    rcases h.new _ (List.mem_of_getElem? hi) g hq with h1 | h1
    · exact absurd h1 (hF g hq)
    · exact h1
theorem Fx.cell (h : Fx F w0 w L) (i : Nat) {q : Nat} {cs : Array Value} {T : TypeId} (hi : L[i]? = some (.blk q cs T)) : ∀ o, w.cell? ⟨q, o, none⟩ = cs[o]? := h.fr.cell i hi
theorem Fx.frz (h : Fx F w0 w L) (i : Nat) {q : Nat} {cs : Array Value} {T : TypeId} (hi : L[i]? = some (.blk q cs T)) : ∀ o, w.frozen? ⟨q, o, none⟩ = false := h.fr.frz i hi
end Go.Proofs.Ytnjcknlfecednaa.T
