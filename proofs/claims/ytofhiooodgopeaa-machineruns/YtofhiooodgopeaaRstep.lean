/- How the reference's machine lies in the world. -/
import Derived.Test.YtofhiooodgopeaaLay
import Derived.Test.YtofhiooodgopeaaDoOut
import Derived.Test.YtofhiooodgopeaaFetch
namespace Go.Proofs.Ytofhiooodgopeaa.V
open Go.RowKit Go.Proofs.Ytofhiooodgopeaa.M
set_option linter.unusedVariables false

/-- The reference's machine: its own block b, its words mb, its instructions kc, whether they are ones ki; what it told lies from ob on; p1, p2: capacities. -/
structure Rl (w : World) (b mb kc ki ob p1 p2 : Nat) (c : Cf) (s : Sm) (en : Int) : Prop where
  lb : b < ob
  lmb : mb < ob
  lkc : kc < ob
  lki : ki < ob
  lo : ob ≤ w.heap.size
  n1 : b ≠ mb
  n2 : b ≠ kc
  n3 : b ≠ ki
  n4 : mb ≠ kc
  n5 : mb ≠ ki
  x0 : w.cell? ⟨b, 0, none⟩ = some (.slice (some ⟨kc, 0, none⟩) c.n p1)
  x1 : w.cell? ⟨b, 1, none⟩ = some (.slice (some ⟨ki, 0, none⟩) c.n p2)
  x2 : w.cell? ⟨b, 2, none⟩ = some (.slice (some ⟨mb, 0, none⟩) c.M c.M)
  x3 : w.cell? ⟨b, 3, none⟩ = some (.int .i64 c.low)
  reg : ∀ k, k < 16 → w.cell? ⟨b, 4 + k, none⟩ = some (.int .i32 (s.R k))
  x20 : w.cell? ⟨b, 20, none⟩ = some (.int .i64 s.pc)
  own : ∃ v, w.cell? ⟨b, 21, none⟩ = some v ∧ w.ownsRow ob 21 1 v s.out.length (s.out.map (Value.int .i32))
  x22 : w.cell? ⟨b, 22, none⟩ = some (.int .i64 en)
  x23 : w.cell? ⟨b, 23, none⟩ = some (.int .i32 s.val)
  x24 : w.cell? ⟨b, 24, none⟩ = some (.int .i64 s.steps)
  memc : ∀ k, k < c.M → w.cell? ⟨mb, k, none⟩ = some (.int .i32 (s.mem k))
  isc : ∀ k, k < c.n → w.cell? ⟨ki, k, none⟩ = some (.bool (decide (dck (c.code k) = 0)))
  cdc : ∀ k, k < c.n → dck (c.code k) = 0 → w.cell? ⟨kc, k * 5, none⟩ = some (.int .i64 (fOp (c.code k))) ∧ w.cell? ⟨kc, k * 5 + 1, none⟩ = some (.int .i64 (fA (c.code k))) ∧ w.cell? ⟨kc, k * 5 + 2, none⟩ = some (.int .i64 (fB (c.code k)))
    ∧ w.cell? ⟨kc, k * 5 + 3, none⟩ = some (.int .i64 (fC (c.code k))) ∧ w.cell? ⟨kc, k * 5 + 4, none⟩ = some (.int .i64 (fM (c.code k)))
  fz : ∀ o, w.frozen? ⟨b, o, none⟩ = false ∧ w.frozen? ⟨mb, o, none⟩ = false
variable {w w' : World} {b mb kc ki ob p1 p2 : Nat} {c : Cf} {s : Sm} {en : Int}
theorem Rl.same (h : Rl w b mb kc ki ob p1 p2 c s en) (hs : w.heap.size ≤ w'.heap.size) (hc : ∀ k o, k < ob → w'.cell? ⟨k, o, none⟩ = w.cell? ⟨k, o, none⟩) (hf : ∀ k o, k < ob → w'.frozen? ⟨k, o, none⟩ = w.frozen? ⟨k, o, none⟩)
    (ho : ∀ v n xs, w.ownsRow ob 21 1 v n xs → w'.ownsRow ob 21 1 v n xs) : Rl w' b mb kc ki ob p1 p2 c s en where
  lb := h.lb
  lmb := h.lmb
  lkc := h.lkc
  lki := h.lki
  lo := Nat.le_trans h.lo hs
  n1 := h.n1
  n2 := h.n2
  n3 := h.n3
  n4 := h.n4
  n5 := h.n5
  x0 := (hc b _ h.lb).trans h.x0
  x1 := (hc b _ h.lb).trans h.x1
  x2 := (hc b _ h.lb).trans h.x2
  x3 := (hc b _ h.lb).trans h.x3
  reg := fun k hk => (hc b _ h.lb).trans (h.reg k hk)
  x20 := (hc b _ h.lb).trans h.x20
  own := by
    obtain ⟨v, h1, h2⟩ := h.own
    exact ⟨v, (hc b _ h.lb).trans h1, ho _ _ _ h2⟩
  x22 := (hc b _ h.lb).trans h.x22
  x23 := (hc b _ h.lb).trans h.x23
  x24 := (hc b _ h.lb).trans h.x24
  memc := fun k hk => (hc mb k h.lmb).trans (h.memc k hk)
  isc := fun k hk => (hc ki k h.lki).trans (h.isc k hk)
  cdc := fun k hk hd => by
    obtain ⟨a0, a1, a2, a3, a4⟩ := h.cdc k hk hd
    exact ⟨(hc kc _ h.lkc).trans a0, (hc kc _ h.lkc).trans a1, (hc kc _ h.lkc).trans a2, (hc kc _ h.lkc).trans a3, (hc kc _ h.lkc).trans a4⟩
  fz := fun o => ⟨(hf b o h.lb).trans (h.fz o).1, (hf mb o h.lmb).trans (h.fz o).2⟩
theorem Rl.below (h : Rl w b mb kc ki ob p1 p2 c s en) (hb : Below w.heap.size w w') : Rl w' b mb kc ki ob p1 p2 c s en :=
  h.same hb.size (fun k o hk => hb.cell (p := ⟨k, o, none⟩) (by have := h.lo; show k < _; omega)) (fun k o hk => hb.frozen (p := ⟨k, o, none⟩) (by have := h.lo; show k < _; omega))
    fun _ _ _ ho => ownsRow_below ho hb
theorem Rl.setR (h : Rl w b mb kc ki ob p1 p2 c s en) (r : Nat) (x : Int) (hr : r < 16) : Rl (w.setCell ⟨b, 4 + r, none⟩ (.int .i32 x)) b mb kc ki ob p1 p2 c { s with R := upd s.R r x } en where
  lb := h.lb
  lmb := h.lmb
  lkc := h.lkc
  lki := h.lki
  lo := by rw [set_size]; exact h.lo
  n1 := h.n1
  n2 := h.n2
  n3 := h.n3
  n4 := h.n4
  n5 := h.n5
  x0 := (set_off _ _ _ _ _ (by omega)).trans h.x0
  x1 := (set_off _ _ _ _ _ (by omega)).trans h.x1
  x2 := (set_off _ _ _ _ _ (by omega)).trans h.x2
  x3 := (set_off _ _ _ _ _ (by omega)).trans h.x3
  x20 := (set_off _ _ _ _ _ (by omega)).trans h.x20
  x22 := (set_off _ _ _ _ _ (by omega)).trans h.x22
  x23 := (set_off _ _ _ _ _ (by omega)).trans h.x23
  x24 := (set_off _ _ _ _ _ (by omega)).trans h.x24
  reg := fun k hk => by
    by_cases e : k = r
    · subst e
      rw [set_same _ _ _ _ (h.reg _ hk)]
      show _ = some (Value.int .i32 (upd s.R k x k))
      rw [upd_same]
    · rw [set_off _ _ _ _ _ (by omega), h.reg k hk]
      show _ = some (Value.int .i32 (upd s.R r x k))
      rw [upd_other _ _ _ _ e]
  own := by
    obtain ⟨v, h1, h2⟩ := h.own
    exact ⟨v, (set_off _ _ _ _ _ (by omega)).trans h1, ownsRow_setCell_below h2 h.lb _⟩
  memc := fun k hk => (set_blk _ _ _ _ _ _ h.n1).trans (h.memc k hk)
  isc := fun k hk => (set_blk _ _ _ _ _ _ h.n3).trans (h.isc k hk)
  cdc := fun k hk hd => by
    obtain ⟨a0, a1, a2, a3, a4⟩ := h.cdc k hk hd
    exact ⟨(set_blk _ _ _ _ _ _ h.n2).trans a0, (set_blk _ _ _ _ _ _ h.n2).trans a1, (set_blk _ _ _ _ _ _ h.n2).trans a2, (set_blk _ _ _ _ _ _ h.n2).trans a3, (set_blk _ _ _ _ _ _ h.n2).trans a4⟩
  fz := fun o => by simp only [set_frozen]; exact h.fz o
theorem Rl.setPc (h : Rl w b mb kc ki ob p1 p2 c s en) (x : Int) : Rl (w.setCell ⟨b, 20, none⟩ (.int .i64 x)) b mb kc ki ob p1 p2 c { s with pc := x } en where
  lb := h.lb
  lmb := h.lmb
  lkc := h.lkc
  lki := h.lki
  lo := by rw [set_size]; exact h.lo
  n1 := h.n1
  n2 := h.n2
  n3 := h.n3
  n4 := h.n4
  n5 := h.n5
  x0 := (set_off _ _ _ _ _ (by omega)).trans h.x0
  x1 := (set_off _ _ _ _ _ (by omega)).trans h.x1
  x2 := (set_off _ _ _ _ _ (by omega)).trans h.x2
  x3 := (set_off _ _ _ _ _ (by omega)).trans h.x3
  x20 := set_same _ _ _ _ h.x20
  x22 := (set_off _ _ _ _ _ (by omega)).trans h.x22
  x23 := (set_off _ _ _ _ _ (by omega)).trans h.x23
  x24 := (set_off _ _ _ _ _ (by omega)).trans h.x24
  reg := fun k hk => (set_off _ _ _ _ _ (by omega)).trans (h.reg k hk)
  own := by
    obtain ⟨v, h1, h2⟩ := h.own
    exact ⟨v, (set_off _ _ _ _ _ (by omega)).trans h1, ownsRow_setCell_below h2 h.lb _⟩
  memc := fun k hk => (set_blk _ _ _ _ _ _ h.n1).trans (h.memc k hk)
  isc := fun k hk => (set_blk _ _ _ _ _ _ h.n3).trans (h.isc k hk)
  cdc := fun k hk hd => by
    obtain ⟨a0, a1, a2, a3, a4⟩ := h.cdc k hk hd
    exact ⟨(set_blk _ _ _ _ _ _ h.n2).trans a0, (set_blk _ _ _ _ _ _ h.n2).trans a1, (set_blk _ _ _ _ _ _ h.n2).trans a2, (set_blk _ _ _ _ _ _ h.n2).trans a3, (set_blk _ _ _ _ _ _ h.n2).trans a4⟩
  fz := fun o => by simp only [set_frozen]; exact h.fz o
theorem Rl.setEnd (h : Rl w b mb kc ki ob p1 p2 c s en) (x : Int) : Rl (w.setCell ⟨b, 22, none⟩ (.int .i64 x)) b mb kc ki ob p1 p2 c s x where
  lb := h.lb
  lmb := h.lmb
  lkc := h.lkc
  lki := h.lki
  lo := by rw [set_size]; exact h.lo
  n1 := h.n1
  n2 := h.n2
  n3 := h.n3
  n4 := h.n4
  n5 := h.n5
  x0 := (set_off _ _ _ _ _ (by omega)).trans h.x0
  x1 := (set_off _ _ _ _ _ (by omega)).trans h.x1
  x2 := (set_off _ _ _ _ _ (by omega)).trans h.x2
  x3 := (set_off _ _ _ _ _ (by omega)).trans h.x3
  x20 := (set_off _ _ _ _ _ (by omega)).trans h.x20
  x22 := set_same _ _ _ _ h.x22
  x23 := (set_off _ _ _ _ _ (by omega)).trans h.x23
  x24 := (set_off _ _ _ _ _ (by omega)).trans h.x24
  reg := fun k hk => (set_off _ _ _ _ _ (by omega)).trans (h.reg k hk)
  own := by
    obtain ⟨v, h1, h2⟩ := h.own
    exact ⟨v, (set_off _ _ _ _ _ (by omega)).trans h1, ownsRow_setCell_below h2 h.lb _⟩
  memc := fun k hk => (set_blk _ _ _ _ _ _ h.n1).trans (h.memc k hk)
  isc := fun k hk => (set_blk _ _ _ _ _ _ h.n3).trans (h.isc k hk)
  cdc := fun k hk hd => by
    obtain ⟨a0, a1, a2, a3, a4⟩ := h.cdc k hk hd
    exact ⟨(set_blk _ _ _ _ _ _ h.n2).trans a0, (set_blk _ _ _ _ _ _ h.n2).trans a1, (set_blk _ _ _ _ _ _ h.n2).trans a2, (set_blk _ _ _ _ _ _ h.n2).trans a3, (set_blk _ _ _ _ _ _ h.n2).trans a4⟩
  fz := fun o => by simp only [set_frozen]; exact h.fz o
theorem Rl.setVal (h : Rl w b mb kc ki ob p1 p2 c s en) (x : Int) : Rl (w.setCell ⟨b, 23, none⟩ (.int .i32 x)) b mb kc ki ob p1 p2 c { s with val := x } en where
  lb := h.lb
  lmb := h.lmb
  lkc := h.lkc
  lki := h.lki
  lo := by rw [set_size]; exact h.lo
  n1 := h.n1
  n2 := h.n2
  n3 := h.n3
  n4 := h.n4
  n5 := h.n5
  x0 := (set_off _ _ _ _ _ (by omega)).trans h.x0
  x1 := (set_off _ _ _ _ _ (by omega)).trans h.x1
  x2 := (set_off _ _ _ _ _ (by omega)).trans h.x2
  x3 := (set_off _ _ _ _ _ (by omega)).trans h.x3
  x20 := (set_off _ _ _ _ _ (by omega)).trans h.x20
  x22 := (set_off _ _ _ _ _ (by omega)).trans h.x22
  x23 := set_same _ _ _ _ h.x23
  x24 := (set_off _ _ _ _ _ (by omega)).trans h.x24
  reg := fun k hk => (set_off _ _ _ _ _ (by omega)).trans (h.reg k hk)
  own := by
    obtain ⟨v, h1, h2⟩ := h.own
    exact ⟨v, (set_off _ _ _ _ _ (by omega)).trans h1, ownsRow_setCell_below h2 h.lb _⟩
  memc := fun k hk => (set_blk _ _ _ _ _ _ h.n1).trans (h.memc k hk)
  isc := fun k hk => (set_blk _ _ _ _ _ _ h.n3).trans (h.isc k hk)
  cdc := fun k hk hd => by
    obtain ⟨a0, a1, a2, a3, a4⟩ := h.cdc k hk hd
    exact ⟨(set_blk _ _ _ _ _ _ h.n2).trans a0, (set_blk _ _ _ _ _ _ h.n2).trans a1, (set_blk _ _ _ _ _ _ h.n2).trans a2, (set_blk _ _ _ _ _ _ h.n2).trans a3, (set_blk _ _ _ _ _ _ h.n2).trans a4⟩
  fz := fun o => by simp only [set_frozen]; exact h.fz o
theorem Rl.setSteps (h : Rl w b mb kc ki ob p1 p2 c s en) (x : Nat) : Rl (w.setCell ⟨b, 24, none⟩ (.int .i64 x)) b mb kc ki ob p1 p2 c { s with steps := x } en where
  lb := h.lb
  lmb := h.lmb
  lkc := h.lkc
  lki := h.lki
  lo := by rw [set_size]; exact h.lo
  n1 := h.n1
  n2 := h.n2
  n3 := h.n3
  n4 := h.n4
  n5 := h.n5
  x0 := (set_off _ _ _ _ _ (by omega)).trans h.x0
  x1 := (set_off _ _ _ _ _ (by omega)).trans h.x1
  x2 := (set_off _ _ _ _ _ (by omega)).trans h.x2
  x3 := (set_off _ _ _ _ _ (by omega)).trans h.x3
  x20 := (set_off _ _ _ _ _ (by omega)).trans h.x20
  x22 := (set_off _ _ _ _ _ (by omega)).trans h.x22
  x23 := (set_off _ _ _ _ _ (by omega)).trans h.x23
  x24 := set_same _ _ _ _ h.x24
  reg := fun k hk => (set_off _ _ _ _ _ (by omega)).trans (h.reg k hk)
  own := by
    obtain ⟨v, h1, h2⟩ := h.own
    exact ⟨v, (set_off _ _ _ _ _ (by omega)).trans h1, ownsRow_setCell_below h2 h.lb _⟩
  memc := fun k hk => (set_blk _ _ _ _ _ _ h.n1).trans (h.memc k hk)
  isc := fun k hk => (set_blk _ _ _ _ _ _ h.n3).trans (h.isc k hk)
  cdc := fun k hk hd => by
    obtain ⟨a0, a1, a2, a3, a4⟩ := h.cdc k hk hd
    exact ⟨(set_blk _ _ _ _ _ _ h.n2).trans a0, (set_blk _ _ _ _ _ _ h.n2).trans a1, (set_blk _ _ _ _ _ _ h.n2).trans a2, (set_blk _ _ _ _ _ _ h.n2).trans a3, (set_blk _ _ _ _ _ _ h.n2).trans a4⟩
  fz := fun o => by simp only [set_frozen]; exact h.fz o
theorem Rl.setMem (h : Rl w b mb kc ki ob p1 p2 c s en) (r : Nat) (x : Int) (hr : r < c.M) : Rl (w.setCell ⟨mb, r, none⟩ (.int .i32 x)) b mb kc ki ob p1 p2 c { s with mem := upd s.mem r x } en where
  lb := h.lb
  lmb := h.lmb
  lkc := h.lkc
  lki := h.lki
  lo := by rw [set_size]; exact h.lo
  n1 := h.n1
  n2 := h.n2
  n3 := h.n3
  n4 := h.n4
  n5 := h.n5
  x0 := (set_blk _ _ _ _ _ _ (Ne.symm h.n1)).trans h.x0
  x1 := (set_blk _ _ _ _ _ _ (Ne.symm h.n1)).trans h.x1
  x2 := (set_blk _ _ _ _ _ _ (Ne.symm h.n1)).trans h.x2
  x3 := (set_blk _ _ _ _ _ _ (Ne.symm h.n1)).trans h.x3
  x20 := (set_blk _ _ _ _ _ _ (Ne.symm h.n1)).trans h.x20
  x22 := (set_blk _ _ _ _ _ _ (Ne.symm h.n1)).trans h.x22
  x23 := (set_blk _ _ _ _ _ _ (Ne.symm h.n1)).trans h.x23
  x24 := (set_blk _ _ _ _ _ _ (Ne.symm h.n1)).trans h.x24
  reg := fun k hk => (set_blk _ _ _ _ _ _ (Ne.symm h.n1)).trans (h.reg k hk)
  own := by
    obtain ⟨v, h1, h2⟩ := h.own
    exact ⟨v, (set_blk _ _ _ _ _ _ (Ne.symm h.n1)).trans h1, ownsRow_setCell_below h2 h.lmb _⟩
  memc := fun k hk => by
    by_cases e : k = r
    · subst e
      rw [set_same _ _ _ _ (h.memc _ hk)]
      show _ = some (Value.int .i32 (upd s.mem k x k))
      rw [upd_same]
    · rw [set_off _ _ _ _ _ (Ne.symm e), h.memc k hk]
      show _ = some (Value.int .i32 (upd s.mem r x k))
      rw [upd_other _ _ _ _ e]
  isc := fun k hk => (set_blk _ _ _ _ _ _ h.n5).trans (h.isc k hk)
  cdc := fun k hk hd => by
    obtain ⟨a0, a1, a2, a3, a4⟩ := h.cdc k hk hd
    exact ⟨(set_blk _ _ _ _ _ _ h.n4).trans a0, (set_blk _ _ _ _ _ _ h.n4).trans a1, (set_blk _ _ _ _ _ _ h.n4).trans a2, (set_blk _ _ _ _ _ _ h.n4).trans a3, (set_blk _ _ _ _ _ _ h.n4).trans a4⟩
  fz := fun o => by simp only [set_frozen]; exact h.fz o
theorem Rl.fin (h : Rl w b mb kc ki ob p1 p2 c s en) (x : Int) : Rl w b mb kc ki ob p1 p2 c { s with fin := x } en :=
  ⟨h.lb, h.lmb, h.lkc, h.lki, h.lo, h.n1, h.n2, h.n3, h.n4, h.n5, h.x0, h.x1, h.x2, h.x3, h.reg, h.x20, h.own, h.x22, h.x23, h.x24, h.memc, h.isc, h.cdc, h.fz⟩
end Go.Proofs.Ytofhiooodgopeaa.V

namespace Go.Proofs.Ytofhiooodgopeaa.V
open Go.RowKit Go.Proofs.Ytofhiooodgopeaa.M
set_option linter.unusedVariables false
set_option linter.unusedSimpArgs false
variable {w : World} {b mb kc ki ob p1 p2 : Nat} {c : Cf} {s : Sm} {en : Int}

/-- The end that a register's new word leaves. -/
def putEnd (c : Cf) (r : Nat) (x en : Int) : Int := if giveFin c r x = 0 then en else giveFin c r x
set_option maxRecDepth 100000 in
set_option maxHeartbeats 1000000 in
theorem put_any (h : Rl w b mb kc ki ob p1 p2 c s en) (hlow : c.low ≤ c.M) (r : Nat) (x : Int) (hr : r < 16) (hx : Fit x) :
    Calls Try.prog 22 #[.pointer (some ⟨b, 0, none⟩), .int .i64 r, .int .i32 x] w fun e w' => e = .returned (.tuple #[]) ∧ Rl w' b mb kc ki ob p1 p2 c { s with R := upd s.R r x } (putEnd c r x en) ∧ Kp b mb mb ob w w' := by
  obtain ⟨x0, x1⟩ := hx
  have hr' : (0 : Int) ≤ r ∧ (r : Int) < 16 := by omega
  have e1 := h.reg r hr
  have e2 := (h.fz (4 + r)).1
  have e3 := h.x3
  have e4 := h.x2
  have e5 := h.x22
  have e6 := (h.fz 22).1
  have HL := hide h
  clear h
  by_cases h13 : r = 13
  · subst h13
    by_cases h1 : x < c.low
    · have hg : giveFin c 13 x = 3 := by unfold giveFin; rw [if_pos rfl, if_pos h1]
      have hp : putEnd c 13 x en = 3 := by unfold putEnd; rw [hg]; rfl
      have h2 : ¬ (c.M : Int) < x := by omega
      rw [hp]
      clear hg hp
      go_enter Try.func22, Try.ntmps22
      go_wp2_with fail
      go_end0
      exact ⟨rfl, (HL.out.setR 13 x hr).setEnd 3, (Kp.set ⟨b, _, none⟩ _ (Or.inl rfl)).trans (Kp.set ⟨b, _, none⟩ _ (Or.inl rfl))⟩
    · by_cases h2 : (c.M : Int) < x
      · have hg : giveFin c 13 x = 4 := by unfold giveFin; rw [if_pos rfl, if_neg h1, if_pos h2]
        have hp : putEnd c 13 x en = 4 := by unfold putEnd; rw [hg]; rfl
        rw [hp]
        clear hg hp
        go_enter Try.func22, Try.ntmps22
        go_wp2_with fail
        go_end0
        exact ⟨rfl, (HL.out.setR 13 x hr).setEnd 4, (Kp.set ⟨b, _, none⟩ _ (Or.inl rfl)).trans (Kp.set ⟨b, _, none⟩ _ (Or.inl rfl))⟩
      · have hg : giveFin c 13 x = 0 := by unfold giveFin; rw [if_pos rfl, if_neg h1, if_neg h2]
        have hp : putEnd c 13 x en = en := by unfold putEnd; rw [if_pos hg]
        rw [hp]
        clear hg hp
        go_enter Try.func22, Try.ntmps22
        go_wp2_with fail
        go_end0
        exact ⟨rfl, HL.out.setR 13 x hr, Kp.set ⟨b, _, none⟩ _ (Or.inl rfl)⟩
  · have hg : giveFin c r x = 0 := by unfold giveFin; rw [if_neg h13]
    have hp : putEnd c r x en = en := by unfold putEnd; rw [if_pos hg]
    rw [hp]
    have h13' : ((r : Int) == 13) = false := beq_eq_false_iff_ne.2 (by omega)
    clear hg hp
    go_enter Try.func22, Try.ntmps22
    go_wp2_with fail
    go_end0
    exact ⟨rfl, HL.out.setR r x hr, Kp.set ⟨b, _, none⟩ _ (Or.inl rfl)⟩
end Go.Proofs.Ytofhiooodgopeaa.V

namespace Go.Proofs.Ytofhiooodgopeaa.V
open Go.RowKit Go.Proofs.Ytofhiooodgopeaa.M
set_option linter.unusedVariables false
set_option linter.unusedSimpArgs false
variable {w : World} {b mb kc ki ob p1 p2 : Nat} {c : Cf} {s : Sm} {en : Int}

set_option maxRecDepth 100000 in
set_option maxHeartbeats 4000000 in
theorem step_no (h : Rl w b mb kc ki ob p1 p2 c s en) (hst : s.steps ≤ 300000) (hi : isI c s = false) :
    Calls Try.prog 17 #[.pointer (some ⟨b, 0, none⟩)] w fun e w' => e = .returned (.tuple #[]) ∧ Rl w' b mb kc ki ob p1 p2 c { count s with fin := 4 } 4 ∧ Kp b mb mb ob w w' := by
  have e24 := h.x24
  have f24 := (h.fz 24).1
  have e22 := h.x22
  have f22 := (h.fz 22).1
  have e20 := h.x20
  have e0 := h.x0
  have e1 := h.x1
  have hb : b < w.heap.size := by have := h.lb; have := h.lo; omega
  have hki : ki < w.heap.size := by have := h.lki; have := h.lo; omega
  have n3 := h.n3
  have hend : ∀ m, Rl (((w.setCell ⟨b, 24, none⟩ (.int .i64 (↑s.steps + 1))).drewN m).setCell ⟨b, 22, none⟩ (.int .i64 4)) b mb kc ki ob p1 p2 c { count s with fin := 4 } 4 ∧ Kp b mb mb ob w (((w.setCell ⟨b, 24, none⟩ (.int .i64 (↑s.steps + 1))).drewN m).setCell ⟨b, 22, none⟩ (.int .i64 4)) := fun m => by
    have h1 := h.setSteps (s.steps + 1)
    have h2 := (((h1.below (below_drewN (Below.refl _ _) m)).setEnd 4)).fin 4
    exact ⟨h2, ((Kp.set ⟨b, 24, none⟩ _ (Or.inl rfl)).trans (Kp.of_below (below_drewN (Below.refl _ _) m) (by simp only [set_size]; exact h.lo))).trans (Kp.set ⟨b, 22, none⟩ _ (Or.inl rfl))⟩
  have HE := hide hend
  by_cases p0 : s.pc < 0
  · have hd0 : decide (s.pc < 0) = true := by simpa using p0
    clear h hend
    go_enter Try.func17, Try.ntmps17
    go_wp2_with fail
    go_quiet (fail)
    go_wp2_with fail
    refine bodyPost_ret (results_none rfl _ _ _) rfl ?_
    exact ⟨rfl, HE.out _⟩
  have hd0 : decide (s.pc < 0) = false := by simpa using p0
  by_cases q0 : (c.n : Int) ≤ s.pc
  · have hd1 : decide ((c.n : Int) ≤ s.pc) = true := by simpa using q0
    clear h hend
    go_enter Try.func17, Try.ntmps17
    go_wp2_with fail
    go_quiet (fail)
    go_wp2_with fail
    refine bodyPost_ret (results_none rfl _ _ _) rfl ?_
    exact ⟨rfl, HE.out _⟩
  · have hd : ¬ dck (c.code s.pc.toNat) = 0 := fun e => by simp [isI, e] at hi; omega
    have eis := h.isc s.pc.toNat (by omega)
    rw [decide_eq_false hd] at eis
    obtain ⟨t, ht⟩ : ∃ t : Nat, s.pc = t := ⟨s.pc.toNat, by omega⟩
    have htn : s.pc.toNat = t := by omega
    rw [htn] at eis
    rw [ht] at e20 hd0
    have hd1 : decide ((c.n : Int) ≤ t) = false := by simp; omega
    have hd3 : decide (c.n ≤ t) = false := by simp; omega
    have hidx : (0 : Int) ≤ t ∧ (t : Int) < c.n := by omega
    have hd2 : ¬ (c.n : Int) ≤ t := by omega
    clear h hend hd htn q0 p0
    go_enter Try.func17, Try.ntmps17
    go_wp2_with fail
    go_quiet (fail)
    go_wp2_with fail
    refine bodyPost_ret (results_none rfl _ _ _) rfl ?_
    exact ⟨rfl, HE.out _⟩
end Go.Proofs.Ytofhiooodgopeaa.V
