/- Nodes that came in by value; the printer in the world; the contract of (*printer).add. -/
import Derived.Test.YthcfianhdkolhaaDoorPName
import Derived.Below
import Derived.BigQuiet
import Derived.Carry
import Derived.Laws.Rows
import Derived.Deep.AppendLies
import Derived.Deep.QuietTactic
import Derived.WalkLawsBesides
import Derived.Deep.RegionHeldLaw
namespace Go.Proofs.YthcfianhdkolhaaDoor.T
open Go.RowKit Go.Proofs.YthcfianhdkolhaaDoor.S
set_option linter.unusedVariables false
set_option linter.unusedSimpArgs false
def str (s : List UInt8) : ByteArray := ⟨s.toArray⟩
theorem str_data (x : ByteArray) : str x.data.toList = x := rfl
theorem bytes_str (s : List UInt8) : bytes (str s) = s := by simp [bytes, str]
theorem size_str (s : List UInt8) : (str s).size = s.length := rfl
theorem cells_at {W : World} {b : Nat} {cur : Array Value} {t : TypeId} (h : W.heap[b]? = some (.cells cur t (0, 0))) : ∀ o, W.cell? ⟨b, o, none⟩ = cur[o]? := fun o => by simp [World.cell?, h]
theorem frozen_at {W : World} {b : Nat} {cur : Array Value} {t : TypeId} (h : W.heap[b]? = some (.cells cur t (0, 0))) : ∀ o, W.frozen? ⟨b, o, none⟩ = false := fun o => by simp only [World.frozen?, h]; rfl
theorem grown_drewN (w : World) (n : Nat) : w.grownBy (w.drewN n) none := ⟨rfl, rfl, rfl, Nat.le_refl _, fun _ _ _ => rfl⟩
theorem grown_refl (w : World) (r : Option Nat) : w.grownBy w r := ⟨rfl, rfl, rfl, Nat.le_refl _, fun _ _ _ => rfl⟩
theorem grown_alloc (w : World) (o : Obj) : w.grownBy (w.alloc o) none := ⟨rfl, rfl, rfl, by simp, fun k hk _ => Below.heap_alloc _ _ _ hk⟩
theorem grown_below {w w' : World} (h : Below w.heap.size w w') : w.grownBy w' none := ⟨h.os, h.tape, h.output, h.size, fun k hk _ => h.block k hk⟩
theorem below_grown {w w' : World} (h : w.grownBy w' none) : Below w.heap.size w w' := ⟨h.os, h.tape, h.output, h.size, fun k hk => h.block k hk (by simp)⟩
/-- A value that is a node, as it came in. -/
inductive NdO (w : World) : Nd → Value → Prop
  | mk (kind : Int) (text : List UInt8) (num : Int) (kids : List Nd) (ka : Option Addr) (kc : Nat) (c : Nat → Nat → Value) : text.length ≤ 9223372036854775807 → -9223372036854775808 ≤ num → num ≤ 9223372036854775807 → kids.length ≤ kc → kc ≤ 9223372036854775807 →
      (kids ≠ [] → ∃ g o, ka = some ⟨g, o, none⟩ ∧ ∀ j i, j < kids.length → i < 4 → w.cell? ⟨g, o + j * 4 + i, none⟩ = some (c j i)) →
      (∀ j (hj : j < kids.length), NdO w kids[j] (.agg #[c j 0, c j 1, c j 2, c j 3])) →
      NdO w (.mk kind text num kids) (.agg #[.int .i64 kind, .string (str text), .int .i64 num, .slice ka kids.length kc])
theorem NdO.form {w : World} {n : Nd} {v : Value} (h : NdO w n v) : ∃ kind text num ka kn kc, v = .agg #[.int .i64 kind, .string text, .int .i64 num, .slice ka kn kc] := by
  cases h with
  | mk kind text num kids ka kc => exact ⟨_, _, _, _, _, _, rfl⟩
theorem NdO.lg {w : World} {n : Nd} {v : Value} (h : NdO w n v) : Lg n := by
  induction h with
  | mk kind text num kids ka kc c h1 h2 h3 h4 h5 h6 h7 ih => exact Lg.mk kind text num kids h2 h3 (kids_all (kind := 0) fun j hj => ih j hj)
/-- A slice of nodes, as it came in. -/
def RowO (w : World) (ka : Option Addr) (l : List Nd) : Prop := l ≠ [] → ∃ g o, ka = some ⟨g, o, none⟩ ∧ g < w.heap.size ∧ ∀ j (hj : j < l.length), ∃ k0 x0 n0 a0 m0 c0,
  w.cell? ⟨g, o + j * 4, none⟩ = some (.int .i64 k0) ∧ w.cell? ⟨g, o + j * 4 + 1, none⟩ = some (.string x0) ∧ w.cell? ⟨g, o + j * 4 + 2, none⟩ = some (.int .i64 n0) ∧ w.cell? ⟨g, o + j * 4 + 3, none⟩ = some (.slice a0 m0 c0) ∧ NdO w l[j] (.agg #[.int .i64 k0, .string x0, .int .i64 n0, .slice a0 m0 c0])
theorem NdO.part {w : World} {kind : Int} {text : List UInt8} {num : Int} {kids : List Nd} {v : Value} (h : NdO w (.mk kind text num kids) v) : ∃ ka kc, v = .agg #[.int .i64 kind, .string (str text), .int .i64 num, .slice ka kids.length kc] ∧ text.length ≤ 9223372036854775807 ∧ -9223372036854775808 ≤ num ∧ num ≤ 9223372036854775807 ∧ kids.length ≤ kc ∧ kc ≤ 9223372036854775807 ∧ RowO w ka kids := by
  cases h with
  | mk _ _ _ _ ka kc c h1 h2 h3 h4 h5 h6 h7 =>
    refine ⟨ka, kc, rfl, h1, h2, h3, h4, h5, fun hne => ?_⟩
    obtain ⟨g, o, rfl, hc⟩ := h6 hne
    have hpos : 0 < kids.length := List.length_pos_iff.2 hne
    refine ⟨g, o, rfl, World.block_lt_of_cell? w ⟨g, o + 0 * 4 + 0, none⟩ (hc 0 0 hpos (by omega)), fun j hj => ?_⟩
    have hj' := h7 j hj
    obtain ⟨k0, x0, n0, a0, m0, c0, e⟩ := hj'.form
    have e' : c j 0 = .int .i64 k0 ∧ c j 1 = .string x0 ∧ c j 2 = .int .i64 n0 ∧ c j 3 = .slice a0 m0 c0 := by simpa using e
    rw [e'.1, e'.2.1, e'.2.2.1, e'.2.2.2] at hj'
    have q0 := hc j 0 hj (by omega)
    have q1 := hc j 1 hj (by omega)
    have q2 := hc j 2 hj (by omega)
    have q3 := hc j 3 hj (by omega)
    rw [e'.1] at q0
    rw [e'.2.1] at q1
    rw [e'.2.2.1] at q2
    rw [e'.2.2.2] at q3
    exact ⟨k0, x0, n0, a0, m0, c0, q0, q1, q2, q3, hj'⟩
theorem RowO.take {w : World} {ka : Option Addr} {l : List Nd} (h : RowO w ka l) (k : Nat) : RowO w ka (l.take k) := fun hne => by
  obtain ⟨g, o, e, hg, hx⟩ := h (fun e => hne (by rw [e]; simp))
  refine ⟨g, o, e, hg, fun j hj => ?_⟩
  have hj' : j < l.length := by rw [List.length_take] at hj; omega
  rw [List.getElem_take]
  exact hx j hj'
theorem RowO.tail {w : World} {g o : Nat} {x : Nd} {l : List Nd} (h : RowO w (some ⟨g, o, none⟩) (x :: l)) : RowO w (some ⟨g, o + 4, none⟩) l := fun hne => by
  obtain ⟨g', o', e, hg, hx⟩ := h (by simp)
  obtain ⟨rfl, rfl⟩ : g = g' ∧ o = o' := by simpa using e
  refine ⟨g, o + 4, rfl, hg, fun j hj => ?_⟩
  have := hx (j + 1) (by simpa using hj)
  rw [show o + 4 + j * 4 = o + (j + 1) * 4 by omega]
  exact this
/-- The printer: its block, its tokens; what was there ahead of it stands. -/
def strs (T : List (List UInt8)) : List Value := T.map fun x => Value.string (str x)
structure Pt (w0 w : World) (b : Nat) (T : List (List UInt8)) : Prop where
  low : w0.heap.size ≤ b
  base : Below w0.heap.size w0 w
  blk : ∃ v, w.heap[b]? = some (.cells #[v] 36 (0, 0)) ∧ w.ownsRow w0.heap.size 9 1 v T.length (strs T)
/-- Nodes' cells stand. -/
structure St (w w' : World) : Prop where
  size : w.heap.size ≤ w'.heap.size
  keeps : ∀ (k : Nat) (cur : Array Value) (t : TypeId) (z : Nat × Nat), t ≠ 9 → t ≠ 36 → w.heap[k]? = some (Obj.cells cur t z) → w'.heap[k]? = w.heap[k]?
theorem St.nodes {w w' : World} (h : St w w') (k : Nat) (cur : Array Value) (z : Nat × Nat) (hk : w.heap[k]? = some (Obj.cells cur 24 z)) : w'.heap[k]? = w.heap[k]? := h.keeps k cur 24 z (by decide) (by decide) hk
theorem St.refl (w : World) : St w w := ⟨Nat.le_refl _, fun _ _ _ _ _ _ _ => rfl⟩
theorem St.trans {a b c : World} (h : St a b) (k : St b c) : St a c := ⟨Nat.le_trans h.size k.size, fun i cur t z h9 h36 hi => by
  have h1 := h.keeps i cur t z h9 h36 hi
  exact (k.keeps i cur t z h9 h36 (h1.trans hi)).trans h1⟩
theorem St.below {w w' : World} (h : Below w.heap.size w w') : St w w' := ⟨h.size, fun k cur t z _ _ hk => h.block k (Array.getElem?_eq_some_iff.1 hk).1⟩
theorem St.alloc (w : World) (o : Obj) : St w (w.alloc o) := St.below ((Below.refl _ _).alloc (Nat.le_refl _) _)
theorem owns_below {w w' : World} {ob e sz : Nat} {v : Value} {n : Nat} {xs : List Value} (h : w.ownsRow ob e sz v n xs) (hb : Below w.heap.size w w') : w'.ownsRow ob e sz v n xs := by
  refine ⟨h.1, ?_⟩
  rcases h.2 with h2 | ⟨g, cap, cur, hv, hg, hh, r⟩
  · exact Or.inl h2
  · exact Or.inr ⟨g, cap, cur, hv, hg, (hb.block g (Array.getElem?_eq_some_iff.1 hh).1).trans hh, r⟩
theorem Pt.below {w0 w w' : World} {b : Nat} {T : List (List UInt8)} (h : Pt w0 w b T) (hb : Below w.heap.size w w') : Pt w0 w' b T := by
  obtain ⟨v, h1, h2⟩ := h.blk
  exact ⟨h.low, h.base.trans (hb.mono h.base.size), v, (hb.block b (Array.getElem?_eq_some_iff.1 h1).1).trans h1, owns_below h2 hb⟩
theorem Pt.alloc {w0 w : World} {b : Nat} {T : List (List UInt8)} (h : Pt w0 w b T) (o : Obj) : Pt w0 (w.alloc o) b T := h.below ((Below.refl _ _).alloc (Nat.le_refl _) _)
theorem Pt.lt {w0 w : World} {b : Nat} {T : List (List UInt8)} (h : Pt w0 w b T) : b < w.heap.size := by
  obtain ⟨v, h1, _⟩ := h.blk
  exact (Array.getElem?_eq_some_iff.1 h1).1
theorem info_parts {P : Program} {e : TypeId} {z : Value} {n m : Nat} (h : (P.info? e).map (fun i => (i.zero, i.size, i.bytes)) = some (some z, n, m)) : ∃ i, P.info? e = some i ∧ i.zero = some z ∧ i.size = n ∧ i.bytes = m := by
  cases hi : P.info? e with
  | none => rw [hi] at h; cases h
  | some i =>
    rw [hi] at h
    simp at h
    exact ⟨i, rfl, h.1, h.2.1, h.2.2⟩
theorem info9 : (Tryd.prog.info? 9).map (fun i => (i.zero, i.size, i.bytes)) = some (some (.string ⟨#[]⟩), 1, 16) := by kernel_rfl
theorem list_add {w : World} {ops : Array Oper} {rest : List Oper} {o : Oper} {a : Act} {Q : Exit → Act → World → Prop} (p q : Operand) (hgd : o.guard = none)
    (ho : o.op = .call { callee := .builtin .append, args := #[p, q], argTypes := #[34, 34] })
    (ob : Nat) (v : Value) (T : List (List UInt8)) (hs : a.eval p = v) (hown : w.ownsRow ob 9 1 v T.length (strs T))
    (B : Nat) (xs : List (List UInt8)) (hx : a.eval q = .slice (some ⟨B, 0, none⟩) xs.length xs.length) (hB : w.heap[B]? = some (.cells (strs xs).toArray 9 (0, 0)))
    (hpos : 0 < xs.length) (hn : T.length + xs.length ≤ 1000000000001) (hob : ob ≤ w.heap.size)
    (h : ∀ g cap w', w'.ownsRow ob 9 1 (.slice (some ⟨g, 0, none⟩) (T.length + xs.length) cap) (T ++ xs).length (strs (T ++ xs)) → w.grownBy w' v.ownBlock → wpList Tryd.prog ops Q rest (a.put o.dst (.slice (some ⟨g, 0, none⟩) (T.length + xs.length) cap)) w') :
    wpList Tryd.prog ops Q (o :: rest) a w := by
  obtain ⟨i0, hi, hz0, hz1, hz2⟩ := info_parts info9
  refine wpList_append_lies w hgd p q 34 ho ob 9 i0 (.string ⟨#[]⟩) 1 16 Tryd.underlying34 hi hz0 hz1 hz2 rfl (by decide) v T.length (strs T) hs hown ⟨B, 0, none⟩ xs.length xs.length (strs xs) hx (by simp [strs]) (World.news_of_block hB) ?_ hpos (by unfold maxLen; omega) (by omega) hob w.heap.size rfl ?_
  · intro u hu
    unfold strs at hu
    obtain ⟨x, _, rfl⟩ := List.mem_map.1 hu
    rfl
  · intro g cap w' h1 h2 _ _
    refine h g cap w' ?_ h2
    have e1 : strs (T ++ xs) = strs T ++ strs xs := by unfold strs; rw [List.map_append]
    rw [e1, List.length_append]
    exact h1
/-- A store of the row. -/
theorem Pt.put {w0 w w' : World} {b : Nat} {T U : List (List UInt8)} {v u : Value} (h : Pt w0 w b T) (hv : w.heap[b]? = some (.cells #[v] 36 (0, 0))) (ho : w.ownsRow w0.heap.size 9 1 v T.length (strs T)) (hg : w.grownBy w' v.ownBlock) (hu : w'.ownsRow w0.heap.size 9 1 u U.length (strs U)) :
    Pt w0 (w'.setCell ⟨b, 0, none⟩ u) b U ∧ St w (w'.setCell ⟨b, 0, none⟩ u) := by
  have hbl : b < w.heap.size := (Array.getElem?_eq_some_iff.1 hv).1
  have hvb : v.ownBlock ≠ some b := by
    rcases ho.2 with ⟨rfl, _⟩ | ⟨g, cap, cur, rfl, _, hh, _⟩
    · simp [Value.ownBlock]
    · intro e
      have e' : g = b := by simpa [Value.ownBlock] using e
      rw [e', hv] at hh
      simp at hh
  have hvlow : ∀ k, v.ownBlock = some k → w0.heap.size ≤ k ∧ ∃ cur, w.heap[k]? = some (.cells cur 9 (0, 0)) := by
    intro k hk
    rcases ho.2 with ⟨rfl, _⟩ | ⟨g, cap, cur, rfl, hl, hh, _⟩
    · simp [Value.ownBlock] at hk
    · have e' : g = k := by simpa [Value.ownBlock] using hk
      subst e'
      exact ⟨hl, cur, hh⟩
  have hb' : w'.heap[b]? = some (.cells #[v] 36 (0, 0)) := (hg.block b hbl (fun e => hvb e.symm)).trans hv
  have hub : u.ownBlock ≠ some b := by
    rcases hu.2 with ⟨rfl, _⟩ | ⟨g, cap, cur, rfl, _, hh, _⟩
    · simp [Value.ownBlock]
    · intro e
      have e' : g = b := by simpa [Value.ownBlock] using e
      rw [e', hb'] at hh
      simp at hh
  have hsz : w.heap.size ≤ (w'.setCell ⟨b, 0, none⟩ u).heap.size := by have := hg.size; simpa [World.setCell] using this
  refine ⟨⟨h.low, ⟨hg.os.trans h.base.os, hg.tape.trans h.base.tape, hg.output.trans h.base.output, Nat.le_trans h.base.size hsz, fun k hk => ?_⟩, u, (heap_setCell_same w' b 0 _ 36 _ hb').trans rfl, ownsRow_setCell_other hu hub _⟩, hsz, fun k cur t z h9 h36 hk => ?_⟩
  · have hk' : k < w.heap.size := Nat.lt_of_lt_of_le hk h.base.size
    refine (Below.heap_setCell _ _ _ k (fun e => ?_)).trans ((hg.block k hk' (fun e => ?_)).trans (h.base.block k hk))
    · have e' : k = b := e
      have := h.low
      omega
    · have := (hvlow k e.symm).1
      omega
  · have hk' : k < w.heap.size := (Array.getElem?_eq_some_iff.1 hk).1
    refine (Below.heap_setCell _ _ _ k (fun e => ?_)).trans (hg.block k hk' (fun e => ?_))
    · have e' : k = b := e
      rw [e', hv] at hk
      simp at hk
      exact h36 hk.2.1.symm
    · obtain ⟨_, cu, hc⟩ := hvlow k e.symm
      rw [hk] at hc
      simp at hc
      exact h9 hc.2.1
set_option maxRecDepth 100000 in
set_option maxHeartbeats 1000000 in
theorem add_any {w0 w : World} {b : Nat} {T : List (List UInt8)} (h : Pt w0 w b T) (B : Nat) (xs : List (List UInt8)) (hB : w.heap[B]? = some (.cells (strs xs).toArray 9 (0, 0))) (hpos : 0 < xs.length) (hn : T.length + xs.length ≤ 1000000000001) :
    Calls Tryd.prog 42 #[.pointer (some ⟨b, 0, none⟩), .slice (some ⟨B, 0, none⟩) xs.length xs.length] w fun e w' => e = .returned (.tuple #[]) ∧ Pt w0 w' b (T ++ xs) ∧ St w w' := by
  obtain ⟨v, h1, h2⟩ := h.blk
  have hf := frozen_at h1
  have hc := cells_at h1
  have hbs := h.base.size
  have HP : Hid (∀ w' u, w.grownBy w' v.ownBlock → w'.ownsRow w0.heap.size 9 1 u (T ++ xs).length (strs (T ++ xs)) → Pt w0 (w'.setCell ⟨b, 0, none⟩ u) b (T ++ xs) ∧ St w (w'.setCell ⟨b, 0, none⟩ u)) := fun w' u hg hu => h.put h1 h2 hg hu
  have H2 := hide h2
  have HB := hide hB
  have HVB : Hid (v.ownBlock ≠ some b) := by
    rcases h2.2 with ⟨rfl, _⟩ | ⟨g, cap, cur, rfl, _, hh, _⟩
    · simp [Hid, Value.ownBlock]
    · intro e
      have e' : g = b := by simpa [Value.ownBlock] using e
      rw [e', h1] at hh
      simp at hh
  have HCf : Hid (∀ w', w.grownBy w' v.ownBlock → w'.cell? ⟨b, 0, none⟩ = some v ∧ w'.frozen? ⟨b, 0, none⟩ = false) := fun w' hg => by
    have hb' : w'.heap[b]? = some (.cells #[v] 36 (0, 0)) := (hg.block b (Array.getElem?_eq_some_iff.1 h1).1 (fun e => HVB.out e.symm)).trans h1
    exact ⟨cells_at hb' 0, frozen_at hb' 0⟩
  clear h h1 h2 hB
  go_enter Tryd.func42, Tryd.ntmps42
  go_wp2_with (at_builtin; refine list_add (.tmp 8) (.tmp 9) rfl rfl w0.heap.size v T rfl H2.out B xs rfl HB.out hpos hn hbs ?_; intro g cap w' ho hg; obtain ⟨hc1, hf1⟩ := HCf.out w' hg)
  go_end0
  obtain ⟨r1, r2⟩ := HP.out _ _ hg ho
  exact ⟨rfl, r1, r2⟩
end Go.Proofs.YthcfianhdkolhaaDoor.T
