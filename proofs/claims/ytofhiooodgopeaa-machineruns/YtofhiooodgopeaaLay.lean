/- How a machine lies in the world, and what a store, a new block or an append leaves of that. -/
import Derived.Test.YtofhiooodgopeaaGive
import Derived.Deep.AppendLies
namespace Go.Proofs.Ytofhiooodgopeaa.V
open Go.RowKit Go.Proofs.Ytofhiooodgopeaa.M
set_option linter.unusedVariables false

/-- A word's place among the decoded instructions: still empty, or the word's instruction. -/
def KnAt (w : World) (kb k : Nat) (v : Int) : Prop :=
  (∀ j, j < 5 → w.cell? ⟨kb, k * 5 + j, none⟩ = some (.int .i64 0)) ∨
  (dck v = 0 ∧ w.cell? ⟨kb, k * 5, none⟩ = some (.int .i64 (fOp v)) ∧ w.cell? ⟨kb, k * 5 + 1, none⟩ = some (.int .i64 (fA v)) ∧ w.cell? ⟨kb, k * 5 + 2, none⟩ = some (.int .i64 (fB v))
    ∧ w.cell? ⟨kb, k * 5 + 3, none⟩ = some (.int .i64 (fC v)) ∧ w.cell? ⟨kb, k * 5 + 4, none⟩ = some (.int .i64 (fM v)))

/-- A machine in the world: its own block b, its memory mb, its decoded instructions kb; what it told lies from ob on. -/
structure Lo (w : World) (b mb kb ob : Nat) (c : Cf) (s : Sm) (en : Int) : Prop where
  lb : b < ob
  lmb : mb < ob
  lkb : kb < ob
  lo : ob ≤ w.heap.size
  n1 : b ≠ mb
  n2 : b ≠ kb
  n3 : mb ≠ kb
  reg : ∀ k, k < 16 → w.cell? ⟨b, k, none⟩ = some (.int .i32 (s.R k))
  c16 : w.cell? ⟨b, 16, none⟩ = some (.int .i64 s.pc)
  c17 : w.cell? ⟨b, 17, none⟩ = some (.int .i64 en)
  c18 : w.cell? ⟨b, 18, none⟩ = some (.int .i32 s.val)
  own : ∃ v, w.cell? ⟨b, 19, none⟩ = some v ∧ w.ownsRow ob 21 1 v s.out.length (s.out.map (Value.int .i32))
  c20 : w.cell? ⟨b, 20, none⟩ = some (.int .i64 s.steps)
  c21 : w.cell? ⟨b, 21, none⟩ = some (.slice (some ⟨mb, 0, none⟩) c.M c.M)
  c22 : w.cell? ⟨b, 22, none⟩ = some (.slice (some ⟨kb, 0, none⟩) c.n c.n)
  c23 : w.cell? ⟨b, 23, none⟩ = some (.int .i64 c.low)
  memc : ∀ k, k < c.M → w.cell? ⟨mb, k, none⟩ = some (.int .i32 (s.mem k))
  knc : ∀ k, k < c.n → KnAt w kb k (c.code k)
  fz : ∀ o, w.frozen? ⟨b, o, none⟩ = false ∧ w.frozen? ⟨mb, o, none⟩ = false ∧ w.frozen? ⟨kb, o, none⟩ = false

/-- All but the machine's own blocks is as it was. -/
structure Kp (b mb kb ob : Nat) (w w' : World) : Prop where
  os : w'.os = w.os
  tape : w'.tape = w.tape
  output : w'.output = w.output
  size : w.heap.size ≤ w'.heap.size
  block : ∀ k, k < ob → k ≠ b → k ≠ mb → k ≠ kb → w'.heap[k]? = w.heap[k]?
theorem Kp.refl (b mb kb ob : Nat) (w : World) : Kp b mb kb ob w w := ⟨rfl, rfl, rfl, Nat.le_refl _, fun _ _ _ _ _ => rfl⟩
theorem Kp.trans {b mb kb ob : Nat} {w w1 w2 : World} (h : Kp b mb kb ob w w1) (g : Kp b mb kb ob w1 w2) : Kp b mb kb ob w w2 :=
  ⟨g.os.trans h.os, g.tape.trans h.tape, g.output.trans h.output, Nat.le_trans h.size g.size, fun k a1 a2 a3 a4 => (g.block k a1 a2 a3 a4).trans (h.block k a1 a2 a3 a4)⟩
theorem Kp.of_below {b mb kb ob : Nat} {w w' : World} (h : Below w.heap.size w w') (ho : ob ≤ w.heap.size) : Kp b mb kb ob w w' :=
  ⟨h.os, h.tape, h.output, h.size, fun k a1 _ _ _ => h.block k (by omega)⟩
theorem Kp.set {b mb kb ob : Nat} {w : World} (p : Addr) (v : Value) (h : p.block = b ∨ p.block = mb ∨ p.block = kb) : Kp b mb kb ob w (w.setCell p v) :=
  ⟨rfl, rfl, rfl, by simp [World.setCell], fun k a1 a2 a3 a4 => Below.heap_setCell _ _ _ _ (by omega)⟩
theorem Kp.below {b mb kb ob B : Nat} {w w' : World} (h : Kp b mb kb ob w w') (h1 : B ≤ b) (h2 : B ≤ mb) (h3 : B ≤ kb) (h4 : B ≤ ob) : Below B w w' :=
  ⟨h.os, h.tape, h.output, h.size, fun k hk => h.block k (by omega) (by omega) (by omega) (by omega)⟩

theorem ownsRow_below {w w' : World} {ob : Nat} {e : TypeId} {z : Nat} {v : Value} {n : Nat} {xs : List Value} (h : w.ownsRow ob e z v n xs) (hb : Below w.heap.size w w') : w'.ownsRow ob e z v n xs := by
  refine ⟨h.1, ?_⟩
  rcases h.2 with h2 | ⟨g, cap, cur, hv, hg, hh, r⟩
  · exact Or.inl h2
  · have hlt : g < w.heap.size := by
      rcases Nat.lt_or_ge g w.heap.size with hlt | hge
      · exact hlt
      · rw [Array.getElem?_eq_none hge] at hh; cases hh
    exact Or.inr ⟨g, cap, cur, hv, hg, (hb.block g hlt).trans hh, r⟩
theorem KnAt.of_cells {w w' : World} {kb k : Nat} {v : Int} (h : KnAt w kb k v) (hc : ∀ j, j < 5 → w'.cell? ⟨kb, k * 5 + j, none⟩ = w.cell? ⟨kb, k * 5 + j, none⟩) : KnAt w' kb k v := by
  rcases h with h | ⟨h, h0, h1, h2, h3, h4⟩
  · exact Or.inl fun j hj => (hc j hj).trans (h j hj)
  · exact Or.inr ⟨h, (hc 0 (by omega)).trans h0, (hc 1 (by omega)).trans h1, (hc 2 (by omega)).trans h2, (hc 3 (by omega)).trans h3, (hc 4 (by omega)).trans h4⟩

variable {w w' : World} {b mb kb ob : Nat} {c : Cf} {s : Sm} {en : Int}

/-- Whoever sees the same cells sees the same machine. -/
theorem Lo.same (h : Lo w b mb kb ob c s en) (hs : w.heap.size ≤ w'.heap.size) (hc : ∀ k o, k < ob → w'.cell? ⟨k, o, none⟩ = w.cell? ⟨k, o, none⟩) (hf : ∀ k o, k < ob → w'.frozen? ⟨k, o, none⟩ = w.frozen? ⟨k, o, none⟩)
    (ho : ∀ v n xs, w.ownsRow ob 21 1 v n xs → w'.ownsRow ob 21 1 v n xs) : Lo w' b mb kb ob c s en where
  lb := h.lb
  lmb := h.lmb
  lkb := h.lkb
  lo := Nat.le_trans h.lo hs
  n1 := h.n1
  n2 := h.n2
  n3 := h.n3
  reg := fun k hk => (hc b k h.lb).trans (h.reg k hk)
  c16 := (hc b _ h.lb).trans h.c16
  c17 := (hc b _ h.lb).trans h.c17
  c18 := (hc b _ h.lb).trans h.c18
  own := by
    obtain ⟨v, h1, h2⟩ := h.own
    exact ⟨v, (hc b _ h.lb).trans h1, ho _ _ _ h2⟩
  c20 := (hc b _ h.lb).trans h.c20
  c21 := (hc b _ h.lb).trans h.c21
  c22 := (hc b _ h.lb).trans h.c22
  c23 := (hc b _ h.lb).trans h.c23
  memc := fun k hk => (hc mb k h.lmb).trans (h.memc k hk)
  knc := fun k hk => (h.knc k hk).of_cells fun j _ => hc kb _ h.lkb
  fz := fun o => ⟨(hf b o h.lb).trans (h.fz o).1, (hf mb o h.lmb).trans (h.fz o).2.1, (hf kb o h.lkb).trans (h.fz o).2.2⟩
theorem Lo.below (h : Lo w b mb kb ob c s en) (hb : Below w.heap.size w w') : Lo w' b mb kb ob c s en :=
  h.same hb.size (fun k o hk => hb.cell (p := ⟨k, o, none⟩) (by have := h.lo; show k < _; omega)) (fun k o hk => hb.frozen (p := ⟨k, o, none⟩) (by have := h.lo; show k < _; omega))
    fun _ _ _ ho => ownsRow_below ho hb

theorem set_same (w : World) (p : Addr) (v u : Value) (h : w.cell? p = some u) : (w.setCell p v).cell? p = some v := World.cell?_setCell_same w p v h
theorem set_off (w : World) (b o o' : Nat) (v : Value) (h : o ≠ o') : (w.setCell ⟨b, o, none⟩ v).cell? ⟨b, o', none⟩ = w.cell? ⟨b, o', none⟩ :=
  World.cell?_setCell_other w ⟨b, o, none⟩ ⟨b, o', none⟩ v (fun e => h (Addr.mk.inj e).2.1)
theorem set_blk (w : World) (b b' o o' : Nat) (v : Value) (h : b ≠ b') : (w.setCell ⟨b, o, none⟩ v).cell? ⟨b', o', none⟩ = w.cell? ⟨b', o', none⟩ :=
  World.cell?_setCell_other w ⟨b, o, none⟩ ⟨b', o', none⟩ v (fun e => h (Addr.mk.inj e).1)
theorem set_frozen (w : World) (p q : Addr) (v : Value) : (w.setCell p v).frozen? q = w.frozen? q := World.frozen?_setCell _ _ _ _
theorem set_size (w : World) (p : Addr) (v : Value) : (w.setCell p v).heap.size = w.heap.size := by simp [World.setCell]

theorem Lo.setR (h : Lo w b mb kb ob c s en) (r : Nat) (x : Int) (hr : r < 16) : Lo (w.setCell ⟨b, r, none⟩ (.int .i32 x)) b mb kb ob c { s with R := upd s.R r x } en where
  lb := h.lb
  lmb := h.lmb
  lkb := h.lkb
  lo := by rw [set_size]; exact h.lo
  n1 := h.n1
  n2 := h.n2
  n3 := h.n3
  reg := fun k hk => by
    by_cases e : k = r
    · subst e
      rw [set_same _ _ _ _ (h.reg _ hk)]
      show _ = some (Value.int .i32 (upd s.R k x k))
      rw [upd_same]
    · rw [set_off _ _ _ _ _ (Ne.symm e), h.reg k hk]
      show _ = some (Value.int .i32 (upd s.R r x k))
      rw [upd_other _ _ _ _ e]
  c16 := (set_off _ _ _ _ _ (by omega)).trans h.c16
  c17 := (set_off _ _ _ _ _ (by omega)).trans h.c17
  c18 := (set_off _ _ _ _ _ (by omega)).trans h.c18
  c20 := (set_off _ _ _ _ _ (by omega)).trans h.c20
  c21 := (set_off _ _ _ _ _ (by omega)).trans h.c21
  c22 := (set_off _ _ _ _ _ (by omega)).trans h.c22
  c23 := (set_off _ _ _ _ _ (by omega)).trans h.c23
  own := by
    obtain ⟨v, h1, h2⟩ := h.own
    exact ⟨v, (set_off _ _ _ _ _ (by omega)).trans h1, ownsRow_setCell_below h2 h.lb _⟩
  memc := fun k hk => (set_blk _ _ _ _ _ _ h.n1).trans (h.memc k hk)
  knc := fun k hk => (h.knc k hk).of_cells fun j _ => set_blk _ _ _ _ _ _ h.n2
  fz := fun o => by simp only [set_frozen]; exact h.fz o
theorem Lo.setPc (h : Lo w b mb kb ob c s en) (x : Int) : Lo (w.setCell ⟨b, 16, none⟩ (.int .i64 x)) b mb kb ob c { s with pc := x } en where
  lb := h.lb
  lmb := h.lmb
  lkb := h.lkb
  lo := by rw [set_size]; exact h.lo
  n1 := h.n1
  n2 := h.n2
  n3 := h.n3
  reg := fun k hk => (set_off _ _ _ _ _ (by omega)).trans (h.reg k hk)
  c16 := set_same _ _ _ _ h.c16
  c17 := (set_off _ _ _ _ _ (by omega)).trans h.c17
  c18 := (set_off _ _ _ _ _ (by omega)).trans h.c18
  c20 := (set_off _ _ _ _ _ (by omega)).trans h.c20
  c21 := (set_off _ _ _ _ _ (by omega)).trans h.c21
  c22 := (set_off _ _ _ _ _ (by omega)).trans h.c22
  c23 := (set_off _ _ _ _ _ (by omega)).trans h.c23
  own := by
    obtain ⟨v, h1, h2⟩ := h.own
    exact ⟨v, (set_off _ _ _ _ _ (by omega)).trans h1, ownsRow_setCell_below h2 h.lb _⟩
  memc := fun k hk => (set_blk _ _ _ _ _ _ h.n1).trans (h.memc k hk)
  knc := fun k hk => (h.knc k hk).of_cells fun j _ => set_blk _ _ _ _ _ _ h.n2
  fz := fun o => by simp only [set_frozen]; exact h.fz o
theorem Lo.setEnd (h : Lo w b mb kb ob c s en) (x : Int) : Lo (w.setCell ⟨b, 17, none⟩ (.int .i64 x)) b mb kb ob c s x where
  lb := h.lb
  lmb := h.lmb
  lkb := h.lkb
  lo := by rw [set_size]; exact h.lo
  n1 := h.n1
  n2 := h.n2
  n3 := h.n3
  reg := fun k hk => (set_off _ _ _ _ _ (by omega)).trans (h.reg k hk)
  c16 := (set_off _ _ _ _ _ (by omega)).trans h.c16
  c17 := set_same _ _ _ _ h.c17
  c18 := (set_off _ _ _ _ _ (by omega)).trans h.c18
  c20 := (set_off _ _ _ _ _ (by omega)).trans h.c20
  c21 := (set_off _ _ _ _ _ (by omega)).trans h.c21
  c22 := (set_off _ _ _ _ _ (by omega)).trans h.c22
  c23 := (set_off _ _ _ _ _ (by omega)).trans h.c23
  own := by
    obtain ⟨v, h1, h2⟩ := h.own
    exact ⟨v, (set_off _ _ _ _ _ (by omega)).trans h1, ownsRow_setCell_below h2 h.lb _⟩
  memc := fun k hk => (set_blk _ _ _ _ _ _ h.n1).trans (h.memc k hk)
  knc := fun k hk => (h.knc k hk).of_cells fun j _ => set_blk _ _ _ _ _ _ h.n2
  fz := fun o => by simp only [set_frozen]; exact h.fz o
theorem Lo.setVal (h : Lo w b mb kb ob c s en) (x : Int) : Lo (w.setCell ⟨b, 18, none⟩ (.int .i32 x)) b mb kb ob c { s with val := x } en where
  lb := h.lb
  lmb := h.lmb
  lkb := h.lkb
  lo := by rw [set_size]; exact h.lo
  n1 := h.n1
  n2 := h.n2
  n3 := h.n3
  reg := fun k hk => (set_off _ _ _ _ _ (by omega)).trans (h.reg k hk)
  c16 := (set_off _ _ _ _ _ (by omega)).trans h.c16
  c17 := (set_off _ _ _ _ _ (by omega)).trans h.c17
  c18 := set_same _ _ _ _ h.c18
  c20 := (set_off _ _ _ _ _ (by omega)).trans h.c20
  c21 := (set_off _ _ _ _ _ (by omega)).trans h.c21
  c22 := (set_off _ _ _ _ _ (by omega)).trans h.c22
  c23 := (set_off _ _ _ _ _ (by omega)).trans h.c23
  own := by
    obtain ⟨v, h1, h2⟩ := h.own
    exact ⟨v, (set_off _ _ _ _ _ (by omega)).trans h1, ownsRow_setCell_below h2 h.lb _⟩
  memc := fun k hk => (set_blk _ _ _ _ _ _ h.n1).trans (h.memc k hk)
  knc := fun k hk => (h.knc k hk).of_cells fun j _ => set_blk _ _ _ _ _ _ h.n2
  fz := fun o => by simp only [set_frozen]; exact h.fz o
theorem Lo.setSteps (h : Lo w b mb kb ob c s en) (x : Nat) : Lo (w.setCell ⟨b, 20, none⟩ (.int .i64 x)) b mb kb ob c { s with steps := x } en where
  lb := h.lb
  lmb := h.lmb
  lkb := h.lkb
  lo := by rw [set_size]; exact h.lo
  n1 := h.n1
  n2 := h.n2
  n3 := h.n3
  reg := fun k hk => (set_off _ _ _ _ _ (by omega)).trans (h.reg k hk)
  c16 := (set_off _ _ _ _ _ (by omega)).trans h.c16
  c17 := (set_off _ _ _ _ _ (by omega)).trans h.c17
  c18 := (set_off _ _ _ _ _ (by omega)).trans h.c18
  c20 := set_same _ _ _ _ h.c20
  c21 := (set_off _ _ _ _ _ (by omega)).trans h.c21
  c22 := (set_off _ _ _ _ _ (by omega)).trans h.c22
  c23 := (set_off _ _ _ _ _ (by omega)).trans h.c23
  own := by
    obtain ⟨v, h1, h2⟩ := h.own
    exact ⟨v, (set_off _ _ _ _ _ (by omega)).trans h1, ownsRow_setCell_below h2 h.lb _⟩
  memc := fun k hk => (set_blk _ _ _ _ _ _ h.n1).trans (h.memc k hk)
  knc := fun k hk => (h.knc k hk).of_cells fun j _ => set_blk _ _ _ _ _ _ h.n2
  fz := fun o => by simp only [set_frozen]; exact h.fz o
/-- What is told: the machine without it is seen as it was, and the new row is there. -/
theorem Lo.setOut (h : Lo w b mb kb ob c s en) (l : List Int) (u v : Value) (hv : w.cell? ⟨b, 19, none⟩ = some u) (ho : w.ownsRow ob 21 1 v l.length (l.map (Value.int .i32))) : Lo (w.setCell ⟨b, 19, none⟩ (v)) b mb kb ob c { s with out := l } en where
  lb := h.lb
  lmb := h.lmb
  lkb := h.lkb
  lo := by rw [set_size]; exact h.lo
  n1 := h.n1
  n2 := h.n2
  n3 := h.n3
  reg := fun k hk => (set_off _ _ _ _ _ (by omega)).trans (h.reg k hk)
  c16 := (set_off _ _ _ _ _ (by omega)).trans h.c16
  c17 := (set_off _ _ _ _ _ (by omega)).trans h.c17
  c18 := (set_off _ _ _ _ _ (by omega)).trans h.c18
  c20 := (set_off _ _ _ _ _ (by omega)).trans h.c20
  c21 := (set_off _ _ _ _ _ (by omega)).trans h.c21
  c22 := (set_off _ _ _ _ _ (by omega)).trans h.c22
  c23 := (set_off _ _ _ _ _ (by omega)).trans h.c23
  own := ⟨_, set_same _ _ _ _ hv, ownsRow_setCell_below ho h.lb _⟩
  memc := fun k hk => (set_blk _ _ _ _ _ _ h.n1).trans (h.memc k hk)
  knc := fun k hk => (h.knc k hk).of_cells fun j _ => set_blk _ _ _ _ _ _ h.n2
  fz := fun o => by simp only [set_frozen]; exact h.fz o
theorem Lo.setMem (h : Lo w b mb kb ob c s en) (r : Nat) (x : Int) (hr : r < c.M) : Lo (w.setCell ⟨mb, r, none⟩ (.int .i32 x)) b mb kb ob c { s with mem := upd s.mem r x } en where
  lb := h.lb
  lmb := h.lmb
  lkb := h.lkb
  lo := by rw [set_size]; exact h.lo
  n1 := h.n1
  n2 := h.n2
  n3 := h.n3
  reg := fun k hk => (set_blk _ _ _ _ _ _ (Ne.symm h.n1)).trans (h.reg k hk)
  c16 := (set_blk _ _ _ _ _ _ (Ne.symm h.n1)).trans h.c16
  c17 := (set_blk _ _ _ _ _ _ (Ne.symm h.n1)).trans h.c17
  c18 := (set_blk _ _ _ _ _ _ (Ne.symm h.n1)).trans h.c18
  own := by
    obtain ⟨v, h1, h2⟩ := h.own
    exact ⟨v, (set_blk _ _ _ _ _ _ (Ne.symm h.n1)).trans h1, ownsRow_setCell_below h2 h.lmb _⟩
  c20 := (set_blk _ _ _ _ _ _ (Ne.symm h.n1)).trans h.c20
  c21 := (set_blk _ _ _ _ _ _ (Ne.symm h.n1)).trans h.c21
  c22 := (set_blk _ _ _ _ _ _ (Ne.symm h.n1)).trans h.c22
  c23 := (set_blk _ _ _ _ _ _ (Ne.symm h.n1)).trans h.c23
  memc := fun k hk => by
    by_cases e : k = r
    · subst e
      rw [set_same _ _ _ _ (h.memc _ hk)]
      show _ = some (Value.int .i32 (upd s.mem k x k))
      rw [upd_same]
    · rw [set_off _ _ _ _ _ (Ne.symm e), h.memc k hk]
      show _ = some (Value.int .i32 (upd s.mem r x k))
      rw [upd_other _ _ _ _ e]
  knc := fun k hk => (h.knc k hk).of_cells fun j _ => set_blk _ _ _ _ _ _ h.n3
  fz := fun o => by simp only [set_frozen]; exact h.fz o
/-- An instruction that was decoded is laid in its place. -/
theorem Lo.setKn (h : Lo w b mb kb ob c s en) (r : Nat) (hr : r < c.n) (hd : dck (c.code r) = 0) :
    Lo (((((w.setCell ⟨kb, r * 5, none⟩ (.int .i64 (fOp (c.code r)))).setCell ⟨kb, r * 5 + 1, none⟩ (.int .i64 (fA (c.code r)))).setCell ⟨kb, r * 5 + 2, none⟩ (.int .i64 (fB (c.code r)))).setCell ⟨kb, r * 5 + 3, none⟩ (.int .i64 (fC (c.code r)))).setCell ⟨kb, r * 5 + 4, none⟩ (.int .i64 (fM (c.code r)))) b mb kb ob c s en := by
  have hx : ∀ j, j < 5 → ∃ u, w.cell? ⟨kb, r * 5 + j, none⟩ = some u := fun j hj => by
    rcases h.knc r hr with h | ⟨h, h0, h1, h2, h3, h4⟩
    · exact ⟨_, h j hj⟩
    · have : j = 0 ∨ j = 1 ∨ j = 2 ∨ j = 3 ∨ j = 4 := by omega
      rcases this with rfl | rfl | rfl | rfl | rfl
      · exact ⟨_, h0⟩
      · exact ⟨_, h1⟩
      · exact ⟨_, h2⟩
      · exact ⟨_, h3⟩
      · exact ⟨_, h4⟩
  obtain ⟨u0, x0⟩ := hx 0 (by omega)
  obtain ⟨u1, x1⟩ := hx 1 (by omega)
  obtain ⟨u2, x2⟩ := hx 2 (by omega)
  obtain ⟨u3, x3⟩ := hx 3 (by omega)
  obtain ⟨u4, x4⟩ := hx 4 (by omega)
  have far : ∀ (w : World) b' o o' v, kb ≠ b' → (w.setCell ⟨kb, o, none⟩ v).cell? ⟨b', o', none⟩ = w.cell? ⟨b', o', none⟩ := fun w b' o o' v e => set_blk w kb b' o o' v e
  refine ⟨h.lb, h.lmb, h.lkb, by simp only [set_size]; exact h.lo, h.n1, h.n2, h.n3, fun k hk => ?_, ?_, ?_, ?_, ?_, ?_, ?_, ?_, ?_, fun k hk => ?_, fun k hk => ?_, fun o => ?_⟩
  · simp only [far _ b _ _ _ (Ne.symm h.n2)]; exact h.reg k hk
  · simp only [far _ b _ _ _ (Ne.symm h.n2)]; exact h.c16
  · simp only [far _ b _ _ _ (Ne.symm h.n2)]; exact h.c17
  · simp only [far _ b _ _ _ (Ne.symm h.n2)]; exact h.c18
  · obtain ⟨v, h1, h2⟩ := h.own
    refine ⟨v, ?_, ownsRow_setCell_below (ownsRow_setCell_below (ownsRow_setCell_below (ownsRow_setCell_below (ownsRow_setCell_below h2 h.lkb _) h.lkb _) h.lkb _) h.lkb _) h.lkb _⟩
    simp only [far _ b _ _ _ (Ne.symm h.n2)]; exact h1
  · simp only [far _ b _ _ _ (Ne.symm h.n2)]; exact h.c20
  · simp only [far _ b _ _ _ (Ne.symm h.n2)]; exact h.c21
  · simp only [far _ b _ _ _ (Ne.symm h.n2)]; exact h.c22
  · simp only [far _ b _ _ _ (Ne.symm h.n2)]; exact h.c23
  · simp only [far _ mb _ _ _ (Ne.symm h.n3)]; exact h.memc k hk
  · by_cases e : k = r
    · subst e
      refine Or.inr ⟨hd, ?_, ?_, ?_, ?_, ?_⟩
      · rw [set_off _ _ _ _ _ (by omega), set_off _ _ _ _ _ (by omega), set_off _ _ _ _ _ (by omega), set_off _ _ _ _ _ (by omega)]; exact set_same _ _ _ _ (show w.cell? ⟨kb, k * 5, none⟩ = some u0 from x0)
      · rw [set_off _ _ _ _ _ (by omega), set_off _ _ _ _ _ (by omega), set_off _ _ _ _ _ (by omega), set_same _ _ _ u1 (by rw [set_off _ _ _ _ _ (by omega)]; exact x1)]
      · rw [set_off _ _ _ _ _ (by omega), set_off _ _ _ _ _ (by omega), set_same _ _ _ u2 (by rw [set_off _ _ _ _ _ (by omega), set_off _ _ _ _ _ (by omega)]; exact x2)]
      · rw [set_off _ _ _ _ _ (by omega), set_same _ _ _ u3 (by rw [set_off _ _ _ _ _ (by omega), set_off _ _ _ _ _ (by omega), set_off _ _ _ _ _ (by omega)]; exact x3)]
      · rw [set_same _ _ _ u4 (by rw [set_off _ _ _ _ _ (by omega), set_off _ _ _ _ _ (by omega), set_off _ _ _ _ _ (by omega), set_off _ _ _ _ _ (by omega)]; exact x4)]
    · refine (h.knc k hk).of_cells fun j hj => ?_
      rw [set_off _ _ _ _ _ (by omega), set_off _ _ _ _ _ (by omega), set_off _ _ _ _ _ (by omega), set_off _ _ _ _ _ (by omega), set_off _ _ _ _ _ (by omega)]
  · simp only [set_frozen]; exact h.fz o
theorem Kp.set_then {p : Addr} {v : Value} (hb : Below w.heap.size (w.setCell p v) w') (ho : ob ≤ w.heap.size) (hp : p.block = b ∨ p.block = mb ∨ p.block = kb) : Kp b mb kb ob w w' :=
  (Kp.set p v hp).trans (Kp.of_below (by rw [set_size]; exact hb) (by rw [set_size]; exact ho))
theorem Lo.set_then {p : Addr} {v : Value} (hb : Below w.heap.size (w.setCell p v) w') (h : Lo (w.setCell p v) b mb kb ob c s en) : Lo w' b mb kb ob c s en := h.below (by rw [set_size]; exact hb)
end Go.Proofs.Ytofhiooodgopeaa.V
