/- The reference's machine in the midst of being made. -/
import Derived.Test.YtofhiooodgopeaaRstep
import Derived.Test.YtofhiooodgopeaaRdec
import Derived.Test.YtofhiooodgopeaaBegun
import Derived.Deep.AppendLies
namespace Go.Proofs.Ytofhiooodgopeaa.V
open Go.RowKit Go.Proofs.Ytofhiooodgopeaa.M
set_option linter.unusedVariables false

/-- So many instructions lie in a row of cells. -/
def Insts (code : Nat → Int) (k : Nat) (L : List Value) : Prop := ∀ j, j < k → dck (code j) = 0 → L[j * 5]? = some (.int .i64 (fOp (code j))) ∧ L[j * 5 + 1]? = some (.int .i64 (fA (code j))) ∧ L[j * 5 + 2]? = some (.int .i64 (fB (code j)))
  ∧ L[j * 5 + 3]? = some (.int .i64 (fC (code j))) ∧ L[j * 5 + 4]? = some (.int .i64 (fM (code j)))
theorem Insts.next {code : Nat → Int} {k : Nat} {L : List Value} (h : Insts code k L) (hl : L.length = k * 5) (z0 z1 z2 z3 z4 : Int) (hz : dck (code k) = 0 → z0 = fOp (code k) ∧ z1 = fA (code k) ∧ z2 = fB (code k) ∧ z3 = fC (code k) ∧ z4 = fM (code k)) :
    Insts code (k + 1) (L ++ [.int .i64 z0, .int .i64 z1, .int .i64 z2, .int .i64 z3, .int .i64 z4]) := fun j hj hd => by
  by_cases e : j < k
  · have := h j e hd
    rw [List.getElem?_append_left (by omega), List.getElem?_append_left (by omega), List.getElem?_append_left (by omega), List.getElem?_append_left (by omega), List.getElem?_append_left (by omega)]
    exact this
  · obtain rfl : j = k := by omega
    obtain ⟨rfl, rfl, rfl, rfl, rfl⟩ := hz hd
    rw [List.getElem?_append_right (by omega), List.getElem?_append_right (by omega), List.getElem?_append_right (by omega), List.getElem?_append_right (by omega), List.getElem?_append_right (by omega), hl]
    rw [show j * 5 - j * 5 = 0 by omega, show j * 5 + 1 - j * 5 = 1 by omega, show j * 5 + 2 - j * 5 = 2 by omega, show j * 5 + 3 - j * 5 = 3 by omega, show j * 5 + 4 - j * 5 = 4 by omega]
    exact ⟨rfl, rfl, rfl, rfl, rfl⟩
/-- Whether there is one. -/
def Truths (code : Nat → Int) (k : Nat) : List Value := (List.range k).map fun j => .bool (decide (dck (code j) = 0))
theorem Truths.next (code : Nat → Int) (k : Nat) : Truths code (k + 1) = Truths code k ++ [.bool (decide (dck (code k) = 0))] := by unfold Truths; rw [List.range_succ, List.map_append]; rfl
theorem Truths.at (code : Nat → Int) (k j : Nat) (h : j < k) : (Truths code k)[j]? = some (.bool (decide (dck (code j) = 0))) := by unfold Truths; rw [List.getElem?_map, List.getElem?_range h]; rfl

/-- k0 instructions laid, k1 truths laid; memory as mem says. -/
structure Nm (w0 wr : World) (b mb ob nc M : Nat) (low : Int) (code mem : Nat → Int) (k0 k1 : Nat) : Prop where
  below : Below w0.heap.size w0 wr
  gb : w0.heap.size ≤ b
  gm : w0.heap.size ≤ mb
  lb : b < ob
  lmb : mb < ob
  lo : ob ≤ wr.heap.size
  n1 : b ≠ mb
  y0 : ∃ v L, wr.cell? ⟨b, 0, none⟩ = some v ∧ wr.ownsRow ob 57 5 v k0 L ∧ Insts code k0 L
  y1 : ∃ v, wr.cell? ⟨b, 1, none⟩ = some v ∧ wr.ownsRow ob 4 1 v k1 (Truths code k1)
  x2 : wr.cell? ⟨b, 2, none⟩ = some (.slice (some ⟨mb, 0, none⟩) M M)
  x3 : wr.cell? ⟨b, 3, none⟩ = some (.int .i64 low)
  reg : ∀ k, k < 16 → wr.cell? ⟨b, 4 + k, none⟩ = some (.int .i32 0)
  x20 : wr.cell? ⟨b, 20, none⟩ = some (.int .i64 0)
  x21 : wr.cell? ⟨b, 21, none⟩ = some (.slice none 0 0)
  x22 : wr.cell? ⟨b, 22, none⟩ = some (.int .i64 (-1))
  x23 : wr.cell? ⟨b, 23, none⟩ = some (.int .i32 0)
  x24 : wr.cell? ⟨b, 24, none⟩ = some (.int .i64 0)
  memc : ∀ k, k < M → wr.cell? ⟨mb, k, none⟩ = some (.int .i32 (mem k))
  fz : ∀ o, wr.frozen? ⟨b, o, none⟩ = false ∧ wr.frozen? ⟨mb, o, none⟩ = false
variable {w0 wr w2 : World} {b mb ob nc M : Nat} {low : Int} {code mem : Nat → Int} {k0 k1 : Nat}
theorem Nm.next (h : Nm w0 wr b mb ob nc M low code mem k0 k1) (hb : Below wr.heap.size wr w2) : Nm w0 w2 b mb ob nc M low code mem k0 k1 := by
  have hlo := h.lo
  have hlb := h.lb
  have hlm := h.lmb
  have cb : ∀ o, w2.cell? ⟨b, o, none⟩ = wr.cell? ⟨b, o, none⟩ := fun o => hb.cell (p := ⟨b, o, none⟩) (by show b < _; omega)
  have cm : ∀ o, w2.cell? ⟨mb, o, none⟩ = wr.cell? ⟨mb, o, none⟩ := fun o => hb.cell (p := ⟨mb, o, none⟩) (by show mb < _; omega)
  refine ⟨h.below.trans (hb.mono h.below.size), h.gb, h.gm, h.lb, h.lmb, Nat.le_trans hlo hb.size, h.n1, ?_, ?_, (cb _).trans h.x2, (cb _).trans h.x3, fun k hk => (cb _).trans (h.reg k hk), (cb _).trans h.x20, (cb _).trans h.x21, (cb _).trans h.x22, (cb _).trans h.x23, (cb _).trans h.x24, fun k hk => (cm _).trans (h.memc k hk), fun o => ?_⟩
  · obtain ⟨v, L, e1, e2, e3⟩ := h.y0
    exact ⟨v, L, (cb _).trans e1, ownsRow_below e2 hb, e3⟩
  · obtain ⟨v, e1, e2⟩ := h.y1
    exact ⟨v, (cb _).trans e1, ownsRow_below e2 hb⟩
  · have f1 := hb.frozen (p := ⟨b, o, none⟩) (by show b < _; omega)
    have f2 := hb.frozen (p := ⟨mb, o, none⟩) (by show mb < _; omega)
    rw [f1, f2]
    exact h.fz o
theorem Nm.setMem (h : Nm w0 wr b mb ob nc M low code mem k0 k1) (j : Nat) (x : Int) (hj : j < M) : Nm w0 (wr.setCell ⟨mb, j, none⟩ (.int .i32 x)) b mb ob nc M low code (upd mem j x) k0 k1 := by
  have cb : ∀ o, (wr.setCell ⟨mb, j, none⟩ (.int .i32 x)).cell? ⟨b, o, none⟩ = wr.cell? ⟨b, o, none⟩ := fun o => set_blk _ _ _ _ _ _ (Ne.symm h.n1)
  refine ⟨h.below.setCell h.gm _, h.gb, h.gm, h.lb, h.lmb, by rw [set_size]; exact h.lo, h.n1, ?_, ?_, (cb _).trans h.x2, (cb _).trans h.x3, fun k hk => (cb _).trans (h.reg k hk), (cb _).trans h.x20, (cb _).trans h.x21, (cb _).trans h.x22, (cb _).trans h.x23, (cb _).trans h.x24, fun k hk => ?_, fun o => ?_⟩
  · obtain ⟨v, L, e1, e2, e3⟩ := h.y0
    exact ⟨v, L, (cb _).trans e1, ownsRow_setCell_below e2 h.lmb _, e3⟩
  · obtain ⟨v, e1, e2⟩ := h.y1
    exact ⟨v, (cb _).trans e1, ownsRow_setCell_below e2 h.lmb _⟩
  · by_cases e : k = j
    · subst e
      rw [set_same _ _ _ _ (h.memc _ hk), upd_same]
    · rw [set_off _ _ _ _ _ (by omega), h.memc k hk, upd_other _ _ _ _ e]
  · simp only [set_frozen]; exact h.fz o
/-- A row's type tells its block from another one's. -/
theorem own_apart {w : World} {ob ob' : Nat} {e e' : TypeId} {z z' : Nat} {v v' : Value} {n n' : Nat} {xs xs' : List Value} (h : w.ownsRow ob e z v n xs) (h' : w.ownsRow ob' e' z' v' n' xs') (he : e ≠ e') : v.ownBlock = none ∨ v.ownBlock ≠ v'.ownBlock := by
  rcases h.2 with ⟨rfl, _⟩ | ⟨g, cap, cur, rfl, _, hg, _⟩
  · exact Or.inl rfl
  · rcases h'.2 with ⟨rfl, _⟩ | ⟨g', cap', cur', rfl, _, hg', _⟩
    · exact Or.inr (by simp [Value.ownBlock])
    · refine Or.inr (fun e0 => ?_)
      have : g = g' := by simpa [Value.ownBlock] using e0
      subst this
      rw [hg] at hg'
      simp at hg'
      exact he hg'.2
/-- Behind an append to Code. -/
theorem Nm.app0 {v : Value} {L : List Value} (h : Nm w0 wr b mb ob nc M low code mem k0 k1) (hv : wr.ownsRow ob 57 5 v k0 L) (hg : wr.grownBy w2 v.ownBlock) :
    (∃ u, w2.cell? ⟨b, 0, none⟩ = some u) ∧ w2.frozen? ⟨b, 0, none⟩ = false ∧ Hid (∀ v2 n2 L2, w2.ownsRow ob 57 5 v2 n2 L2 → Insts code n2 L2 → Nm w0 (w2.setCell ⟨b, 0, none⟩ v2) b mb ob nc M low code mem n2 k1) := by
  have hc := grown_cells h.lo (fun k hk => (own_ge hv k hk).1) hg
  obtain ⟨u, L0, e1, e2, e3⟩ := h.y0
  have hu2 := (hc.1 b 0 h.lb).trans e1
  refine ⟨⟨u, hu2⟩, (hc.2 b 0 h.lb).trans (h.fz 0).1, fun v2 n2 L2 hv2 hI => ?_⟩
  have cb : ∀ o, o ≠ 0 → (w2.setCell ⟨b, 0, none⟩ v2).cell? ⟨b, o, none⟩ = wr.cell? ⟨b, o, none⟩ := fun o ho => (set_off _ _ _ _ _ (Ne.symm ho)).trans (hc.1 b o h.lb)
  have cm : ∀ o, (w2.setCell ⟨b, 0, none⟩ v2).cell? ⟨mb, o, none⟩ = wr.cell? ⟨mb, o, none⟩ := fun o => (set_blk _ _ _ _ _ _ h.n1).trans (hc.1 mb o h.lmb)
  have hlo := h.lo
  have hlb := h.lb
  have hgb := h.gb
  have hbs := h.below.size
  refine ⟨(h.below.trans ⟨hg.os, hg.tape, hg.output, hg.size, fun k hk => hg.block k (by omega) (fun e => by have := (own_ge hv k e.symm).1; omega)⟩).setCell h.gb _, h.gb, h.gm, h.lb, h.lmb, by rw [set_size]; exact Nat.le_trans hlo hg.size, h.n1,
    ⟨v2, L2, set_same _ _ _ _ hu2, ownsRow_setCell_below hv2 h.lb _, hI⟩, ?_, (cb _ (by omega)).trans h.x2, (cb _ (by omega)).trans h.x3, fun k hk => (cb _ (by omega)).trans (h.reg k hk), (cb _ (by omega)).trans h.x20, (cb _ (by omega)).trans h.x21, (cb _ (by omega)).trans h.x22, (cb _ (by omega)).trans h.x23, (cb _ (by omega)).trans h.x24, fun k hk => (cm _).trans (h.memc k hk), fun o => ?_⟩
  · obtain ⟨v1, f1, f2⟩ := h.y1
    exact ⟨v1, (cb _ (by omega)).trans f1, ownsRow_setCell_below (f2.kept hg (own_apart f2 hv (by decide))) h.lb _⟩
  · simp only [set_frozen, hc.2 _ _ h.lb, hc.2 _ _ h.lmb]; exact h.fz o
/-- Behind an append to Is. -/
theorem Nm.app1 {v : Value} (h : Nm w0 wr b mb ob nc M low code mem k0 k1) (hv : wr.ownsRow ob 4 1 v k1 (Truths code k1)) (hg : wr.grownBy w2 v.ownBlock) :
    (∃ u, w2.cell? ⟨b, 1, none⟩ = some u) ∧ w2.frozen? ⟨b, 1, none⟩ = false ∧ Hid (∀ v2 n2, w2.ownsRow ob 4 1 v2 n2 (Truths code n2) → Nm w0 (w2.setCell ⟨b, 1, none⟩ v2) b mb ob nc M low code mem k0 n2) := by
  have hc := grown_cells h.lo (fun k hk => (own_ge hv k hk).1) hg
  obtain ⟨u, e1, e2⟩ := h.y1
  have hu2 := (hc.1 b 1 h.lb).trans e1
  refine ⟨⟨u, hu2⟩, (hc.2 b 1 h.lb).trans (h.fz 1).1, fun v2 n2 hv2 => ?_⟩
  have cb : ∀ o, o ≠ 1 → (w2.setCell ⟨b, 1, none⟩ v2).cell? ⟨b, o, none⟩ = wr.cell? ⟨b, o, none⟩ := fun o ho => (set_off _ _ _ _ _ (Ne.symm ho)).trans (hc.1 b o h.lb)
  have cm : ∀ o, (w2.setCell ⟨b, 1, none⟩ v2).cell? ⟨mb, o, none⟩ = wr.cell? ⟨mb, o, none⟩ := fun o => (set_blk _ _ _ _ _ _ h.n1).trans (hc.1 mb o h.lmb)
  have hlo := h.lo
  have hlb := h.lb
  have hgb := h.gb
  have hbs := h.below.size
  refine ⟨(h.below.trans ⟨hg.os, hg.tape, hg.output, hg.size, fun k hk => hg.block k (by omega) (fun e => by have := (own_ge hv k e.symm).1; omega)⟩).setCell h.gb _, h.gb, h.gm, h.lb, h.lmb, by rw [set_size]; exact Nat.le_trans hlo hg.size, h.n1,
    ?_, ⟨v2, set_same _ _ _ _ hu2, ownsRow_setCell_below hv2 h.lb _⟩, (cb _ (by omega)).trans h.x2, (cb _ (by omega)).trans h.x3, fun k hk => (cb _ (by omega)).trans (h.reg k hk), (cb _ (by omega)).trans h.x20, (cb _ (by omega)).trans h.x21, (cb _ (by omega)).trans h.x22, (cb _ (by omega)).trans h.x23, (cb _ (by omega)).trans h.x24, fun k hk => (cm _).trans (h.memc k hk), fun o => ?_⟩
  · obtain ⟨v1, L, f1, f2, f3⟩ := h.y0
    exact ⟨v1, L, (cb _ (by omega)).trans f1, ownsRow_setCell_below (f2.kept hg (own_apart f2 hv (by decide))) h.lb _, f3⟩
  · simp only [set_frozen, hc.2 _ _ h.lb, hc.2 _ _ h.lmb]; exact h.fz o
/-- The machine, made. -/
theorem Nm.rl (h : Nm w0 wr b mb ob nc M low code mem nc nc) (hn : 0 < nc) : ∃ kc ki p1 p2, Rl wr b mb kc ki wr.heap.size p1 p2 ⟨nc, M, low, code⟩ ⟨fun _ => 0, mem, 0, [], 0, 0, 0⟩ (-1) := by
  obtain ⟨v0, L, a1, a2, a3⟩ := h.y0
  obtain ⟨v1, b1, b2⟩ := h.y1
  have hlo := h.lo
  have hlb := h.lb
  have hlm := h.lmb
  rcases a2.2 with ⟨_, e0⟩ | ⟨g, cap, cur, rfl, hg, hh, _, _, hs, ht⟩
  · omega
  rcases b2.2 with ⟨_, e0⟩ | ⟨g', cap', cur', rfl, hg', hh', _, _, hs', ht'⟩
  · omega
  have lg : g < wr.heap.size := (Array.getElem?_eq_some_iff.1 hh).1
  have lg' : g' < wr.heap.size := (Array.getElem?_eq_some_iff.1 hh').1
  have hL : ∀ i, i < nc * 5 → wr.cell? ⟨g, i, none⟩ = L[i]? := fun i hi => by
    rw [cell_of hh, ← ht, List.getElem?_take_of_lt hi, Array.getElem?_toList]
  have hT : ∀ i, i < nc → wr.cell? ⟨g', i, none⟩ = (Truths code nc)[i]? := fun i hi => by
    rw [cell_of hh', ← ht', List.getElem?_take_of_lt (by omega), Array.getElem?_toList]
  refine ⟨g, g', cap, cap', by omega, by omega, lg, lg', Nat.le_refl _, h.n1, by omega, by omega, by omega, by omega, a1, b1, h.x2, h.x3, h.reg, h.x20, ⟨_, h.x21, rfl, Or.inl ⟨rfl, rfl⟩⟩, h.x22, h.x23, h.x24, h.memc, fun k hk => ?_, fun k hk hd => ?_, h.fz⟩
  · have hk' : k < nc := hk
    rw [hT k hk', Truths.at code nc k hk']
  · have hk' : k < nc := hk
    rw [hL _ (by omega), hL _ (by omega), hL _ (by omega), hL _ (by omega), hL _ (by omega)]
    exact a3 k hk' hd
/-- What the reference makes of a word. -/
theorem rdecode_any (v : Int) (w : World) (h0 : 0 ≤ v) (h1 : v ≤ 4294967295) :
    Calls Try.prog 20 #[.int .u32 v] w fun e w' => ∃ z0 z1 z2 z3 z4, e = .returned (.tuple #[.agg #[.int .i64 z0, .int .i64 z1, .int .i64 z2, .int .i64 z3, .int .i64 z4], .bool (decide (dck v = 0))]) ∧ (dck v = 0 → z0 = fOp v ∧ z1 = fA v ∧ z2 = fB v ∧ z3 = fC v ∧ z4 = fM v) ∧ Below w.heap.size w w' := by
  by_cases h : dck v = 0
  · have F := f_facts h0 h1 h
    refine (W.rdecode_ok v w h0 h1 h).mono ?_
    rintro e w' ⟨rfl, hb⟩
    refine ⟨_, _, _, _, _, ?_, fun _ => ⟨rfl, F.2.2.2.2.2.2.2.1, F.2.2.2.2.2.2.2.2.1, F.2.2.2.2.2.2.2.2.2, rfl⟩, hb⟩
    rw [decide_eq_true h]
    rfl
  · refine (W.rdecode_bad v w h0 h1 h).mono ?_
    rintro e w' ⟨rfl, hb⟩
    refine ⟨0, 0, 0, 0, 0, ?_, fun e => absurd e h, hb⟩
    rw [decide_eq_false h]
end Go.Proofs.Ytofhiooodgopeaa.V
