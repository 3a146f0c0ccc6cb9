/- The machine as plain functions: what a step does, and a run. No program. -/
import Derived.Test.YtofhiooodgopeaaDec
import Derived.Test.YtofhiooodgopeaaAWop
import Derived.Test.YtofhiooodgopeaaRows
import Derived.WalkKit
import Derived.WalkSpells
import Derived.Below
import Derived.Deep.QuietTactic
import Derived.BigQuiet
import Derived.WalkLawsBesides
import Derived.Deep.RegionHeldLaw
import Derived.Outline
namespace Go.Proofs.Ytofhiooodgopeaa.M
open Go.RowKit
open Go.Proofs.Ytofhiooodgopeaa.AW (opN opB)
set_option linter.unusedVariables false

/-- An image: how many words Code has, how many memory has, how many Code and Data have; the words of Code. -/
structure Cf where
  n : Nat
  M : Nat
  low : Int
  code : Nat → Int
/-- A machine: registers, memory, where it is, what it told, its value, its end (0: none yet), its steps. -/
structure Sm where
  R : Nat → Int
  mem : Nat → Int
  pc : Int
  out : List Int
  val : Int
  fin : Int
  steps : Nat
def upd (f : Nat → Int) (k : Nat) (x : Int) : Nat → Int := fun j => if j = k then x else f j
theorem upd_same (f : Nat → Int) (k : Nat) (x : Int) : upd f k x k = x := by simp [upd]
theorem upd_other (f : Nat → Int) (k j : Nat) (x : Int) (h : j ≠ k) : upd f k x j = f j := by simp [upd, h]

/-- Which end comes of what is made; 0: none. -/
def madeFin (c : Cf) (s : Sm) (op : Int) (b k : Nat) (m : Int) : Int :=
  if op = 17 then (if 0 ≤ s.R b + m ∧ s.R b + m < c.M then 0 else 4)
  else if 4 ≤ op ∧ op ≤ 15 then (if opB (op - 3) (s.R k) then 0 else 2) else 0
/-- The word that is made. -/
def madeVal (s : Sm) (op : Int) (a b k : Nat) (m : Int) : Int :=
  if op = 1 then s.R b else if op = 2 then m else if op = 3 then wrap32 (m * 65536 + s.R a % 65536)
  else if op = 16 then wrap32 (s.R b + m) else if op = 17 then s.mem (s.R b + m).toNat else opN (op - 3) (s.R b) (s.R k)
/-- Which end comes of a register's new word. -/
def giveFin (c : Cf) (r : Nat) (x : Int) : Int := if r = 13 then (if x < c.low then 3 else if (c.M : Int) < x then 4 else 0) else 0
/-- An instruction done: the machine, and where it goes on. -/
def exec (c : Cf) (s : Sm) (op : Int) (a b k : Nat) (m : Int) : Sm × Int :=
  if op = 19 then (s, m)
  else if op = 20 then (s, if s.R a = 0 then m else s.pc + 1)
  else if op = 21 then ({ s with R := upd s.R 14 (s.pc + 1) }, m)
  else if op = 22 then ({ s with R := upd s.R 14 (s.pc + 1) }, s.R a)
  else if op = 23 then (s, s.R a)
  else if op = 18 then ((if (c.n : Int) ≤ s.R b + m ∧ s.R b + m < c.M then { s with mem := upd s.mem (s.R b + m).toNat (s.R a) } else { s with fin := 4 }), s.pc + 1)
  else if op = 24 then ({ s with out := s.out ++ [s.R a] }, s.pc + 1)
  else if op = 25 then ({ s with val := s.R a, fin := 1 }, s.pc + 1)
  else if madeFin c s op b k m = 0 then ({ s with R := upd s.R a (madeVal s op a b k m), fin := giveFin c a (madeVal s op a b k m) }, s.pc + 1)
  else ({ s with fin := madeFin c s op b k m }, s.pc + 1)
/-- The fields of an instruction out of its bits. -/
def fOp (v : Int) : Int := v / 16777216
def fA (v : Int) : Nat := (v / 1048576 % 16).toNat
def fB (v : Int) : Nat := (v / 65536 % 16).toNat
def fC (v : Int) : Nat := (dC (kind (v / 16777216)) (v % 65536)).toNat
def fM (v : Int) : Int := dM (kind (v / 16777216)) (v % 65536)
/-- Where a machine is when an instruction has been done. -/
def gone (r : Sm × Int) : Sm := if r.1.fin = 0 then { r.1 with pc := r.2 } else r.1
def count (s : Sm) : Sm := { s with steps := s.steps + 1 }
/-- Is there an instruction where the machine is? -/
def isI (c : Cf) (s : Sm) : Bool := decide (0 ≤ s.pc ∧ s.pc < c.n) && decide (dck (c.code s.pc.toNat) = 0)
/-- A step. -/
def step (c : Cf) (s : Sm) : Sm :=
  if isI c s then gone (exec c (count s) (fOp (c.code s.pc.toNat)) (fA (c.code s.pc.toNat)) (fB (c.code s.pc.toNat)) (fC (c.code s.pc.toNat)) (fM (c.code s.pc.toNat)))
  else { count s with fin := 4 }
def go (c : Cf) (s : Sm) : Sm := if s.fin = 0 then step c s else s
/-- So many steps, or fewer where an end comes. -/
def run (c : Cf) : Nat → Sm → Sm
  | 0, s => s
  | k + 1, s => go c (run c k s)

theorem run_add (c : Cf) (s : Sm) (k j : Nat) : run c (k + j) s = run c j (run c k s) := by
  induction j with
  | zero => rfl
  | succ j ih => show go c (run c (k + j) s) = go c (run c j (run c k s)); rw [ih]
theorem run_ended (c : Cf) (s : Sm) (h : s.fin ≠ 0) (k : Nat) : run c k s = s := by
  induction k with
  | zero => rfl
  | succ k ih => show go c (run c k s) = s; rw [ih]; unfold go; rw [if_neg h]

theorem exec_steps (c : Cf) (s : Sm) (op : Int) (a b k : Nat) (m : Int) : (exec c s op a b k m).1.steps = s.steps := by
  unfold exec
  repeat' (first | rfl | split)
theorem gone_steps (r : Sm × Int) : (gone r).steps = r.1.steps := by unfold gone; split <;> rfl
theorem step_steps (c : Cf) (s : Sm) : (step c s).steps = s.steps + 1 := by
  unfold step
  split
  · rw [gone_steps, exec_steps]; rfl
  · rfl
theorem exec_out (c : Cf) (s : Sm) (op : Int) (a b k : Nat) (m : Int) : (exec c s op a b k m).1.out = s.out ∨ ∃ x, (exec c s op a b k m).1.out = s.out ++ [x] := by
  unfold exec
  by_cases h : op = 24
  · subst h; right; exact ⟨s.R a, rfl⟩
  · left
    rw [if_neg h]
    repeat' (first | rfl | split)
theorem gone_out (r : Sm × Int) : (gone r).out = r.1.out := by unfold gone; split <;> rfl
theorem step_out (c : Cf) (s : Sm) : ∃ l, (step c s).out = s.out ++ l := by
  unfold step
  split
  · rw [gone_out]
    rcases exec_out c (count s) (fOp (c.code s.pc.toNat)) (fA (c.code s.pc.toNat)) (fB (c.code s.pc.toNat)) (fC (c.code s.pc.toNat)) (fM (c.code s.pc.toNat)) with h | ⟨x, h⟩
    · exact ⟨[], by rw [h]; simp [count]⟩
    · exact ⟨[x], by rw [h]; rfl⟩
  · exact ⟨[], by simp [count]⟩
theorem go_out (c : Cf) (s : Sm) : ∃ l, (go c s).out = s.out ++ l := by
  unfold go; split
  · exact step_out c s
  · exact ⟨[], by simp⟩
theorem run_out (c : Cf) (s : Sm) (k : Nat) : ∃ l, (run c k s).out = s.out ++ l := by
  induction k with
  | zero => exact ⟨[], by simp [run]⟩
  | succ k ih =>
    obtain ⟨l, hl⟩ := ih
    obtain ⟨l2, h2⟩ := go_out c (run c k s)
    exact ⟨l ++ l2, by show (go c (run c k s)).out = _; rw [h2, hl, List.append_assoc]⟩
theorem run_steps (c : Cf) (s : Sm) (k : Nat) : (run c k s).steps ≤ s.steps + k ∧ s.steps ≤ (run c k s).steps ∧ ((run c k s).fin = 0 → (run c k s).steps = s.steps + k) := by
  induction k with
  | zero => exact ⟨Nat.le_refl _, Nat.le_refl _, fun _ => rfl⟩
  | succ k ih =>
    have e : run c (k + 1) s = go c (run c k s) := rfl
    rw [e]
    unfold go
    split
    · rename_i h
      rw [step_steps]
      have := ih.2.2 h
      exact ⟨by omega, by omega, fun _ => by omega⟩
    · rename_i h
      exact ⟨by omega, ih.2.1, fun e => absurd e h⟩
/-- What is told is at most as many words as there were steps. -/
theorem step_len (c : Cf) (s : Sm) : (step c s).out.length ≤ s.out.length + 1 := by
  unfold step
  split
  · rw [gone_out]
    rcases exec_out c (count s) (fOp (c.code s.pc.toNat)) (fA (c.code s.pc.toNat)) (fB (c.code s.pc.toNat)) (fC (c.code s.pc.toNat)) (fM (c.code s.pc.toNat)) with h | ⟨x, h⟩
    · rw [h]; simp [count]
    · rw [h]; simp [count]
  · simp [count]
/-- Once ended, ended so. -/
theorem run_same (c : Cf) (s : Sm) (k j : Nat) (h : (run c k s).fin ≠ 0) (hj : k ≤ j) : run c j s = run c k s := by
  obtain ⟨d, rfl⟩ : ∃ d, j = k + d := ⟨j - k, by omega⟩
  rw [run_add, run_ended _ _ h]
/-- A word. -/
def Fit (x : Int) : Prop := -2147483648 ≤ x ∧ x ≤ 2147483647
theorem fit_wrap (n : Int) : Fit (wrap32 n) := by rw [AM.w32]; unfold Fit; omega
theorem tmod_bd (a b : Int) (h : Fit a) : Fit (a.tmod b) := by
  unfold Fit at *
  have h1 : (a.tmod b).natAbs ≤ a.natAbs := by rw [Int.natAbs_tmod]; exact Nat.mod_le _ _
  rcases Int.le_total 0 a with h0 | h0
  · have h2 := Int.tmod_nonneg b h0
    omega
  · have h3 := Int.tmod_nonneg b (a := -a) (by omega)
    rw [Int.neg_tmod] at h3
    omega
theorem fit_op (op a b : Int) (ha : Fit a) (hb : Fit b) : Fit (opN op a b) := by
  unfold opN
  have h0 : Fit 0 := by unfold Fit; omega
  have h1 : Fit 1 := by unfold Fit; omega
  have hi : ∀ (p : Prop) [Decidable p], Fit (if p then 1 else 0) := fun p _ => by
    by_cases e : p
    · rw [if_pos e]; exact h1
    · rw [if_neg e]; exact h0
  by_cases c1 : op = 1
  · rw [if_pos c1]; exact fit_wrap _
  rw [if_neg c1]
  by_cases c2 : op = 2
  · rw [if_pos c2]; exact fit_wrap _
  rw [if_neg c2]
  by_cases c3 : op = 3
  · rw [if_pos c3]; exact fit_wrap _
  rw [if_neg c3]
  by_cases c4 : op = 4
  · rw [if_pos c4]; exact fit_wrap _
  rw [if_neg c4]
  by_cases c5 : op = 5
  · rw [if_pos c5]
    by_cases e : b = 0
    · rw [if_pos e]; exact h0
    · rw [if_neg e]; exact fit_wrap _
  rw [if_neg c5]
  by_cases c6 : op = 6
  · rw [if_pos c6]
    by_cases e : b = 0
    · rw [if_pos e]; exact h0
    · rw [if_neg e]; exact tmod_bd _ _ ha
  rw [if_neg c6]
  by_cases c7 : op = 7
  · rw [if_pos c7, (AM.bits32 _ _).1]; exact fit_wrap _
  rw [if_neg c7]
  by_cases c8 : op = 8
  · rw [if_pos c8, (AM.bits32 _ _).2.1]; exact fit_wrap _
  rw [if_neg c8]
  by_cases c9 : op = 9
  · rw [if_pos c9, (AM.bits32 _ _).2.2]; exact fit_wrap _
  rw [if_neg c9]
  by_cases c10 : op = 10
  · rw [if_pos c10]; exact hi _
  rw [if_neg c10]
  by_cases c11 : op = 11
  · rw [if_pos c11]; exact hi _
  rw [if_neg c11]
  by_cases c12 : op = 12
  · rw [if_pos c12]; exact hi _
  rw [if_neg c12]
  exact h0
/-- All words are words; where the machine is. -/
structure Ok (c : Cf) (s : Sm) : Prop where
  reg : ∀ k, Fit (s.R k)
  mem : ∀ k, Fit (s.mem k)
  pc : Fit s.pc
  code : ∀ k, k < c.n → 0 ≤ c.code k ∧ c.code k ≤ 4294967295 ∧ s.mem k = wrap32 (c.code k)
  n0 : c.n ≤ c.M
  nM : c.M ≤ 16000
  low : 0 ≤ c.low ∧ c.low ≤ c.M
theorem fit_upd {f : Nat → Int} (h : ∀ k, Fit (f k)) (r : Nat) {x : Int} (hx : Fit x) : ∀ k, Fit (upd f r x k) := fun k => by
  unfold upd; split
  · exact hx
  · exact h k
theorem madeVal_fit {c : Cf} {s : Sm} (h : Ok c s) (op : Int) (a b k : Nat) (m : Int) (m0 : -32768 ≤ m) (m1 : m ≤ 65535) : Fit (madeVal s op a b k m) := by
  unfold madeVal
  split; exact h.reg _
  split; unfold Fit; omega
  split; exact fit_wrap _
  split; exact fit_wrap _
  split; exact h.mem _
  exact fit_op _ _ _ (h.reg _) (h.reg _)
/-- An instruction leaves words words. -/
theorem exec_ok {c : Cf} {s : Sm} (h : Ok c s) (op : Int) (a b k : Nat) (m : Int) (m0 : -32768 ≤ m) (m1 : m ≤ 65535) (hp : 0 ≤ s.pc ∧ s.pc < c.n) :
    Ok c (exec c s op a b k m).1 ∧ Fit (exec c s op a b k m).2 := by
  have hpc : Fit (s.pc + 1) := by have := h.n0; have := h.nM; unfold Fit; omega
  have hm : Fit m := by unfold Fit; omega
  unfold exec
  split; exact ⟨h, hm⟩
  split
  · refine ⟨h, ?_⟩
    show Fit (if _ then _ else _)
    split
    · exact hm
    · exact hpc
  split; exact ⟨⟨fit_upd h.reg _ hpc, h.mem, h.pc, h.code, h.n0, h.nM, h.low⟩, hm⟩
  split; exact ⟨⟨fit_upd h.reg _ hpc, h.mem, h.pc, h.code, h.n0, h.nM, h.low⟩, h.reg _⟩
  split; exact ⟨h, h.reg _⟩
  split
  · refine ⟨?_, hpc⟩
    show Ok c (if _ then _ else _)
    split
    · rename_i hh
      refine ⟨h.reg, fit_upd h.mem _ (h.reg _), h.pc, fun j hj => ?_, h.n0, h.nM, h.low⟩
      have := h.code j hj
      refine ⟨this.1, this.2.1, ?_⟩
      show upd _ _ _ _ = _
      rw [upd_other _ _ _ _ (by omega)]
      exact this.2.2
    · exact ⟨h.reg, h.mem, h.pc, h.code, h.n0, h.nM, h.low⟩
  split; exact ⟨⟨h.reg, h.mem, h.pc, h.code, h.n0, h.nM, h.low⟩, hpc⟩
  split; exact ⟨⟨h.reg, h.mem, h.pc, h.code, h.n0, h.nM, h.low⟩, hpc⟩
  split
  · exact ⟨⟨fit_upd h.reg _ (madeVal_fit h _ _ _ _ _ m0 m1), h.mem, h.pc, h.code, h.n0, h.nM, h.low⟩, hpc⟩
  · exact ⟨⟨h.reg, h.mem, h.pc, h.code, h.n0, h.nM, h.low⟩, hpc⟩
theorem gone_ok {c : Cf} {r : Sm × Int} (h : Ok c r.1) (hp : Fit r.2) : Ok c (gone r) := by
  unfold gone; split
  · exact ⟨h.reg, h.mem, hp, h.code, h.n0, h.nM, h.low⟩
  · exact h
theorem count_ok {c : Cf} {s : Sm} (h : Ok c s) : Ok c (count s) := ⟨h.reg, h.mem, h.pc, h.code, h.n0, h.nM, h.low⟩
/-- The fields of an instruction that is one. -/
theorem f_facts {v : Int} (h0 : 0 ≤ v) (h1 : v ≤ 4294967295) (h : dck v = 0) : 1 ≤ fOp v ∧ fOp v ≤ 25 ∧ fA v < 16 ∧ fB v < 16 ∧ fC v < 16 ∧ -32768 ≤ fM v ∧ fM v ≤ 65535
    ∧ v / 1048576 % 16 = (fA v : Int) ∧ v / 65536 % 16 = (fB v : Int) ∧ dC (kind (v / 16777216)) (v % 65536) = (fC v : Int) := by
  have := ck_facts h
  unfold fOp fA fB fC fM
  omega
/-- The number of a movh has no sign. -/
theorem f_movh {v : Int} (h : dck v = 0) (h3 : fOp v = 3) : 0 ≤ fM v := by
  unfold dck at h
  unfold fOp at h3
  unfold fM
  rw [h3] at *
  have hk : kind 3 = 3 := rfl
  rw [hk] at *
  have h73 : hasL 3 73 = true := has_3_73
  unfold dM
  rw [if_pos h73]
  have hl : lo 3 = 0 := rfl
  have hh : hi 3 = 65535 := rfl
  rw [hl, hh]
  split <;> omega
theorem step_ok {c : Cf} {s : Sm} (h : Ok c s) : Ok c (step c s) := by
  unfold step
  split
  · rename_i hi
    simp [isI] at hi
    have hc := h.code s.pc.toNat (by omega)
    have f := f_facts hc.1 hc.2.1 hi.2
    have := exec_ok (count_ok h) (fOp (c.code s.pc.toNat)) (fA (c.code s.pc.toNat)) (fB (c.code s.pc.toNat)) (fC (c.code s.pc.toNat)) (fM (c.code s.pc.toNat)) f.2.2.2.2.2.1 f.2.2.2.2.2.2.1 hi.1
    exact gone_ok this.1 this.2
  · exact ⟨h.reg, h.mem, h.pc, h.code, h.n0, h.nM, h.low⟩
theorem run_ok {c : Cf} {s : Sm} (h : Ok c s) (k : Nat) : Ok c (run c k s) := by
  induction k with
  | zero => exact h
  | succ k ih =>
    show Ok c (go c (run c k s))
    unfold go; split
    · exact step_ok ih
    · exact ih
end Go.Proofs.Ytofhiooodgopeaa.M

namespace Go.Proofs.Ytofhiooodgopeaa.V
open Go.RowKit
set_option linter.unusedVariables false

theorem below_drewN {B : Nat} {a w : World} (h : Below B a w) (n : Nat) : Below B a (w.drewN n) := by
  have e : (w.drewN n).heap = w.heap := by simp
  exact ⟨h.os, h.tape, h.output, by rw [e]; exact h.size, fun k hk => by rw [e]; exact h.block k hk⟩
theorem bcell {W w1 : World} (hb : Below W.heap.size W w1) : (∀ b o, b < W.heap.size → w1.cell? ⟨b, o, none⟩ = W.cell? ⟨b, o, none⟩) ∧ (∀ b o, b < W.heap.size → w1.frozen? ⟨b, o, none⟩ = W.frozen? ⟨b, o, none⟩) :=
  ⟨fun b o h => hb.cell (p := ⟨b, o, none⟩) h, fun b o h => hb.frozen (p := ⟨b, o, none⟩) h⟩
/-- An end that is thrown. -/
abbrev thrown (n : Int) : Ending := .panicked [{ v := .iface 67 (.int .i64 n), recovered := false }]

set_option maxRecDepth 100000 in
set_option maxHeartbeats 400000 in
theorem give_ok (b : Nat) (r : Nat) (x : Int) (y : Value) (w : World) (hr : r < 16) (hc : w.cell? ⟨b, r, none⟩ = some y) (hf : w.frozen? ⟨b, r, none⟩ = false) (h13 : ¬ r = 13) :
    Calls Try.prog 38 #[.pointer (some ⟨b, 0, none⟩), .int .i64 r, .int .i32 x] w fun e w' => e = .returned (.tuple #[]) ∧ w' = w.setCell ⟨b, r, none⟩ (.int .i32 x) := by
  have hr' : (0 : Int) ≤ r ∧ (r : Int) < 16 := by omega
  have h13' : ((r : Int) != 13) = true := by simp; omega
  go_enter Try.func38, Try.ntmps38
  go_wp2
  refine bodyPost_ret (results_none rfl _ _ _) rfl ?_
  exact ⟨rfl, rfl⟩

set_option maxRecDepth 100000 in
set_option maxHeartbeats 400000 in
theorem give_13 (b : Nat) (x low : Int) (mb M cap : Nat) (y : Value) (w : World) (hc : w.cell? ⟨b, 13, none⟩ = some y) (hf : w.frozen? ⟨b, 13, none⟩ = false)
    (hl : w.cell? ⟨b, 23, none⟩ = some (.int .i64 low)) (hm : w.cell? ⟨b, 21, none⟩ = some (.slice (some ⟨mb, 0, none⟩) M cap)) (x0 : -2147483648 ≤ x) (x1 : x ≤ 2147483647) (h1 : ¬ x < low) (h2 : ¬ (M : Int) < x) :
    Calls Try.prog 38 #[.pointer (some ⟨b, 0, none⟩), .int .i64 13, .int .i32 x] w fun e w' => e = .returned (.tuple #[]) ∧ w' = w.setCell ⟨b, 13, none⟩ (.int .i32 x) := by
  go_enter Try.func38, Try.ntmps38
  go_wp2
  go_end0
  exact ⟨rfl, rfl⟩

set_option maxRecDepth 100000 in
set_option maxHeartbeats 400000 in
theorem give_low (b : Nat) (x low : Int) (y : Value) (w : World) (hc : w.cell? ⟨b, 13, none⟩ = some y) (hf : w.frozen? ⟨b, 13, none⟩ = false)
    (hl : w.cell? ⟨b, 23, none⟩ = some (.int .i64 low)) (x0 : -2147483648 ≤ x) (x1 : x ≤ 2147483647) (h1 : x < low) :
    Calls Try.prog 38 #[.pointer (some ⟨b, 0, none⟩), .int .i64 13, .int .i32 x] w fun e w' => e = thrown 3 ∧ w' = w.setCell ⟨b, 13, none⟩ (.int .i32 x) := by
  go_enter Try.func38, Try.ntmps38
  go_wp2
  exact ⟨rfl, rfl, rfl⟩

set_option maxRecDepth 100000 in
set_option maxHeartbeats 400000 in
theorem give_high (b : Nat) (x low : Int) (mb M cap : Nat) (y : Value) (w : World) (hc : w.cell? ⟨b, 13, none⟩ = some y) (hf : w.frozen? ⟨b, 13, none⟩ = false)
    (hl : w.cell? ⟨b, 23, none⟩ = some (.int .i64 low)) (hm : w.cell? ⟨b, 21, none⟩ = some (.slice (some ⟨mb, 0, none⟩) M cap)) (x0 : -2147483648 ≤ x) (x1 : x ≤ 2147483647) (h1 : ¬ x < low) (h2 : (M : Int) < x) :
    Calls Try.prog 38 #[.pointer (some ⟨b, 0, none⟩), .int .i64 13, .int .i32 x] w fun e w' => e = thrown 4 ∧ w' = w.setCell ⟨b, 13, none⟩ (.int .i32 x) := by
  go_enter Try.func38, Try.ntmps38
  go_wp2
  exact ⟨rfl, rfl, rfl⟩

set_option maxRecDepth 100000 in
set_option maxHeartbeats 400000 in
theorem address_ok (b : Nat) (op : Int) (a r k : Nat) (m x : Int) (mb M cap : Nat) (w : World) (hb : b < w.heap.size) (hr : r < 16) (hc : w.cell? ⟨b, r, none⟩ = some (.int .i32 x))
    (hm : w.cell? ⟨b, 21, none⟩ = some (.slice (some ⟨mb, 0, none⟩) M cap)) (x0 : -2147483648 ≤ x) (x1 : x ≤ 2147483647) (m0 : -32768 ≤ m) (m1 : m ≤ 65535) (h1 : ¬ x + m < 0) (h2 : ¬ (M : Int) ≤ x + m) :
    Calls Try.prog 45 #[.pointer (some ⟨b, 0, none⟩), .agg #[.int .i64 op, .int .i64 a, .int .i64 r, .int .i64 k, .int .i64 m]] w fun e w' => e = .returned (.int .i64 (x + m)) ∧ Below w.heap.size w w' := by
  have hr' : (0 : Int) ≤ r ∧ (r : Int) < 16 := by omega
  go_enter Try.func45, Try.ntmps45
  go_wp2
  go_quiet (fail)
  go_wp2
  go_ret
  exact ⟨rfl, below_drewN ((Below.refl _ _).alloc (Nat.le_refl _) _) _⟩

set_option maxRecDepth 100000 in
set_option maxHeartbeats 400000 in
theorem address_bad (b : Nat) (op : Int) (a r k : Nat) (m x : Int) (mb M cap : Nat) (w : World) (hb : b < w.heap.size) (hr : r < 16) (hc : w.cell? ⟨b, r, none⟩ = some (.int .i32 x))
    (hm : w.cell? ⟨b, 21, none⟩ = some (.slice (some ⟨mb, 0, none⟩) M cap)) (x0 : -2147483648 ≤ x) (x1 : x ≤ 2147483647) (m0 : -32768 ≤ m) (m1 : m ≤ 65535) (h : x + m < 0 ∨ (¬ x + m < 0 ∧ (M : Int) ≤ x + m)) :
    Calls Try.prog 45 #[.pointer (some ⟨b, 0, none⟩), .agg #[.int .i64 op, .int .i64 a, .int .i64 r, .int .i64 k, .int .i64 m]] w fun e w' => e = thrown 4 ∧ Below w.heap.size w w' := by
  have hr' : (0 : Int) ≤ r ∧ (r : Int) < 16 := by omega
  rcases h with h | ⟨h, h2⟩
  all_goals
    go_enter Try.func45, Try.ntmps45
    go_wp2
    go_quiet (fail)
    go_wp2
    exact ⟨rfl, rfl, below_drewN ((Below.refl _ _).alloc (Nat.le_refl _) _) _⟩

set_option maxRecDepth 100000 in
set_option maxHeartbeats 400000 in
theorem store_bad (b : Nat) (op : Int) (a r k : Nat) (m x : Int) (mb M cap : Nat) (w : World) (hb : b < w.heap.size) (hr : r < 16) (hc : w.cell? ⟨b, r, none⟩ = some (.int .i32 x))
    (hm : w.cell? ⟨b, 21, none⟩ = some (.slice (some ⟨mb, 0, none⟩) M cap)) (x0 : -2147483648 ≤ x) (x1 : x ≤ 2147483647) (m0 : -32768 ≤ m) (m1 : m ≤ 65535) (h : x + m < 0 ∨ (¬ x + m < 0 ∧ (M : Int) ≤ x + m)) :
    Calls Try.prog 39 #[.pointer (some ⟨b, 0, none⟩), .agg #[.int .i64 op, .int .i64 a, .int .i64 r, .int .i64 k, .int .i64 m]] w fun e w' => e = thrown 4 ∧ Below w.heap.size w w' := by
  have ha := fun w' h1 h2 h3 => address_bad b op a r k m x mb M cap w' h1 hr h2 h3 x0 x1 m0 m1 h
  clear h
  go_enter Try.func39, Try.ntmps39
  go_wp2_with fail
  go_at_call 45
  refine (ha _ ?_ ?_ ?_).mono ?_
  · simp; omega
  · exact (World.cell?_alloc_past _ _ _ hb).trans hc
  · exact (World.cell?_alloc_past _ _ _ hb).trans hm
  rintro e w1 ⟨rfl, hb1⟩
  exact ⟨rfl, rfl, ((Below.refl _ _).alloc (Nat.le_refl _) _).trans (hb1.mono (by simp))⟩

set_option maxRecDepth 100000 in
set_option maxHeartbeats 400000 in
theorem store_ok (b : Nat) (op : Int) (a r k : Nat) (m x y : Int) (mb kb M n cap cap2 : Nat) (z : Value) (t : Nat) (w : World) (hb : b < w.heap.size) (hmb : mb < w.heap.size) (ha : a < 16) (hr : r < 16) (hc : w.cell? ⟨b, r, none⟩ = some (.int .i32 x)) (hy : w.cell? ⟨b, a, none⟩ = some (.int .i32 y))
    (hm : w.cell? ⟨b, 21, none⟩ = some (.slice (some ⟨mb, 0, none⟩) M cap)) (hk : w.cell? ⟨b, 22, none⟩ = some (.slice (some ⟨kb, 0, none⟩) n cap2)) (x0 : -2147483648 ≤ x) (x1 : x ≤ 2147483647) (m0 : -32768 ≤ m) (m1 : m ≤ 65535) (ht : x + m = t) (h1 : t < M) (h2 : ¬ (t : Int) < n)
    (hz : w.cell? ⟨mb, t, none⟩ = some z) (hf : w.frozen? ⟨mb, t, none⟩ = false) :
    Calls Try.prog 39 #[.pointer (some ⟨b, 0, none⟩), .agg #[.int .i64 op, .int .i64 a, .int .i64 r, .int .i64 k, .int .i64 m]] w fun e w' => e = .returned (.tuple #[]) ∧ ∃ w1, Below w.heap.size w w1 ∧ w' = w1.setCell ⟨mb, t, none⟩ (.int .i32 y) := by
  have ha' : (0 : Int) ≤ a ∧ (a : Int) < 16 := by omega
  have ht' : (0 : Int) ≤ t ∧ (t : Int) < M := by omega
  have had := fun w' h1 h2 h3 => address_ok b op a r k m x mb M cap w' h1 hr h2 h3 x0 x1 m0 m1 (by omega) (by omega)
  rw [ht] at had
  have HT : Hid (x + m = t) := ht
  clear ht
  go_enter Try.func39, Try.ntmps39
  go_wp2_with fail
  go_at_call 45
  refine (had _ ?_ ?_ ?_).mono ?_
  · simp; omega
  · exact (World.cell?_alloc_past _ _ _ hb).trans hc
  · exact (World.cell?_alloc_past _ _ _ hb).trans hm
  rintro e w1 ⟨rfl, hb1⟩
  obtain ⟨hce, hfr⟩ := bcell hb1
  have hz1 : w.heap.size < w1.heap.size := by have := hb1.size; simp at this; omega
  have hb2 : b < w.heap.size + 1 := by omega
  have hb3 : mb < w.heap.size + 1 := by omega
  have hB : Below w.heap.size w w1 := ((Below.refl _ _).alloc (Nat.le_refl _) _).trans (hb1.mono (by simp))
  go_wp2_with fail
  go_region
  all_goals
    go_end0
    exact ⟨rfl, _, hB.drew, rfl⟩

set_option maxRecDepth 100000 in
set_option maxHeartbeats 400000 in
theorem store_code (b : Nat) (op : Int) (a r k : Nat) (m x : Int) (mb kb M n cap cap2 : Nat) (t : Nat) (w : World) (hb : b < w.heap.size) (hr : r < 16) (hc : w.cell? ⟨b, r, none⟩ = some (.int .i32 x))
    (hm : w.cell? ⟨b, 21, none⟩ = some (.slice (some ⟨mb, 0, none⟩) M cap)) (hk : w.cell? ⟨b, 22, none⟩ = some (.slice (some ⟨kb, 0, none⟩) n cap2)) (x0 : -2147483648 ≤ x) (x1 : x ≤ 2147483647) (m0 : -32768 ≤ m) (m1 : m ≤ 65535) (ht : x + m = t) (h1 : t < M) (h2 : (t : Int) < n) :
    Calls Try.prog 39 #[.pointer (some ⟨b, 0, none⟩), .agg #[.int .i64 op, .int .i64 a, .int .i64 r, .int .i64 k, .int .i64 m]] w fun e w' => e = thrown 4 ∧ Below w.heap.size w w' := by
  have had := fun w' h1 h2 h3 => address_ok b op a r k m x mb M cap w' h1 hr h2 h3 x0 x1 m0 m1 (by omega) (by omega)
  rw [ht] at had
  have HT : Hid (x + m = t) := ht
  clear ht
  go_enter Try.func39, Try.ntmps39
  go_wp2_with fail
  go_at_call 45
  refine (had _ ?_ ?_ ?_).mono ?_
  · simp; omega
  · exact (World.cell?_alloc_past _ _ _ hb).trans hc
  · exact (World.cell?_alloc_past _ _ _ hb).trans hm
  rintro e w1 ⟨rfl, hb1⟩
  obtain ⟨hce, hfr⟩ := bcell hb1
  have hz1 : w.heap.size < w1.heap.size := by have := hb1.size; simp at this; omega
  have hb2 : b < w.heap.size + 1 := by omega
  have hB : Below w.heap.size w w1 := ((Below.refl _ _).alloc (Nat.le_refl _) _).trans (hb1.mono (by simp))
  go_wp2_with fail
  exact ⟨rfl, rfl, hB⟩
end Go.Proofs.Ytofhiooodgopeaa.V
