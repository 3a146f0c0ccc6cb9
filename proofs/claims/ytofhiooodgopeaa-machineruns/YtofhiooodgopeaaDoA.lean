/- The contract of (*machine).do. -/
import Derived.Test.YtofhiooodgopeaaLay
import Derived.Test.YtofhiooodgopeaaLoad
namespace Go.Proofs.Ytofhiooodgopeaa.V
open Go.RowKit Go.Proofs.Ytofhiooodgopeaa.M
set_option linter.unusedVariables false
set_option linter.unusedSimpArgs false

variable {w : World} {b mb kb ob : Nat} {c : Cf} {s : Sm} {en : Int}
/-- How a call of do ends. -/
def doEnd (r : Sm × Int) : Ending := if r.1.fin = 0 then .returned (.int .i64 r.2) else thrown r.1.fin

set_option maxRecDepth 100000 in
set_option maxHeartbeats 1000000 in
theorem do_jump (h : Lo w b mb kb ob c s en) (hok : Ok c s)  (a r k : Nat) (m : Int) (ha : a < 16) (hr : r < 16) (hk : k < 16) (m0 : -32768 ≤ m) (m1 : m ≤ 65535) (hp : 0 ≤ s.pc ∧ s.pc < c.n)
    :
    Calls Try.prog 26 #[.pointer (some ⟨b, 0, none⟩), .agg #[.int .i64 19, .int .i64 a, .int .i64 r, .int .i64 k, .int .i64 m]] w fun e w' => e = .returned (.int .i64 m) ∧ Below w.heap.size w w' := by
  have ha' : (0 : Int) ≤ a ∧ (a : Int) < 16 := by omega
  have hb : b < w.heap.size := by have := h.lb; have := h.lo; omega
  have hpc1 : s.pc ≤ 16000 := by have := hok.n0; have := hok.nM; omega
  have hpc0 : 0 ≤ s.pc := hp.1
  have e16 := h.c16
  have era := h.reg a ha
  go_enter Try.func26, Try.ntmps26
  go_wp2
  go_ret
  exact ⟨rfl, ((Below.refl _ _).alloc (Nat.le_refl _) _)⟩

set_option maxRecDepth 100000 in
set_option maxHeartbeats 1000000 in
theorem do_zero (h : Lo w b mb kb ob c s en) (hok : Ok c s)  (a r k : Nat) (m : Int) (ha : a < 16) (hr : r < 16) (hk : k < 16) (m0 : -32768 ≤ m) (m1 : m ≤ 65535) (hp : 0 ≤ s.pc ∧ s.pc < c.n)
    :
    Calls Try.prog 26 #[.pointer (some ⟨b, 0, none⟩), .agg #[.int .i64 20, .int .i64 a, .int .i64 r, .int .i64 k, .int .i64 m]] w fun e w' => e = .returned (.int .i64 (if s.R a = 0 then m else s.pc + 1)) ∧ Below w.heap.size w w' := by
  have ha' : (0 : Int) ≤ a ∧ (a : Int) < 16 := by omega
  have hb : b < w.heap.size := by have := h.lb; have := h.lo; omega
  have hpc1 : s.pc ≤ 16000 := by have := hok.n0; have := hok.nM; omega
  have hpc0 : 0 ≤ s.pc := hp.1
  have e16 := h.c16
  have era := h.reg a ha
  by_cases hz : s.R a = 0
  · rw [if_pos hz]
    rw [hz] at era
    go_enter Try.func26, Try.ntmps26
    go_wp2
    go_quiet (fail)
    go_wp2
    go_ret
    exact ⟨rfl, below_drewN ((Below.refl _ _).alloc (Nat.le_refl _) _) _⟩
  · rw [if_neg hz]
    have hz' : (s.R a == 0) = false := beq_eq_false_iff_ne.2 hz
    generalize s.R a = x at *
    go_enter Try.func26, Try.ntmps26
    go_wp2
    go_quiet (fail)
    go_wp2
    go_ret
    exact ⟨rfl, below_drewN ((Below.refl _ _).alloc (Nat.le_refl _) _) _⟩

set_option maxRecDepth 100000 in
set_option maxHeartbeats 1000000 in
theorem do_jumpr (h : Lo w b mb kb ob c s en) (hok : Ok c s)  (a r k : Nat) (m : Int) (ha : a < 16) (hr : r < 16) (hk : k < 16) (m0 : -32768 ≤ m) (m1 : m ≤ 65535) (hp : 0 ≤ s.pc ∧ s.pc < c.n)
    :
    Calls Try.prog 26 #[.pointer (some ⟨b, 0, none⟩), .agg #[.int .i64 23, .int .i64 a, .int .i64 r, .int .i64 k, .int .i64 m]] w fun e w' => e = .returned (.int .i64 (s.R a)) ∧ Below w.heap.size w w' := by
  have ha' : (0 : Int) ≤ a ∧ (a : Int) < 16 := by omega
  have hb : b < w.heap.size := by have := h.lb; have := h.lo; omega
  have hpc1 : s.pc ≤ 16000 := by have := hok.n0; have := hok.nM; omega
  have hpc0 : 0 ≤ s.pc := hp.1
  have e16 := h.c16
  have era := h.reg a ha
  have hx := hok.reg a
  unfold Fit at hx
  obtain ⟨hx0, hx1⟩ := hx
  generalize s.R a = x at *
  go_enter Try.func26, Try.ntmps26
  go_wp2
  go_quiet (fail)
  go_wp2
  go_ret
  exact ⟨rfl, below_drewN ((Below.refl _ _).alloc (Nat.le_refl _) _) _⟩

set_option maxRecDepth 100000 in
set_option maxHeartbeats 1000000 in
theorem do_call (h : Lo w b mb kb ob c s en) (hok : Ok c s)  (a r k : Nat) (m : Int) (ha : a < 16) (hr : r < 16) (hk : k < 16) (m0 : -32768 ≤ m) (m1 : m ≤ 65535) (hp : 0 ≤ s.pc ∧ s.pc < c.n)
    :
    Calls Try.prog 26 #[.pointer (some ⟨b, 0, none⟩), .agg #[.int .i64 21, .int .i64 a, .int .i64 r, .int .i64 k, .int .i64 m]] w fun e w' => e = .returned (.int .i64 m) ∧ Lo w' b mb kb ob c { s with R := upd s.R 14 (s.pc + 1) } en ∧ Kp b mb kb ob w w' := by
  have ha' : (0 : Int) ≤ a ∧ (a : Int) < 16 := by omega
  have hb : b < w.heap.size := by have := h.lb; have := h.lo; omega
  have hpc1 : s.pc ≤ 16000 := by have := hok.n0; have := hok.nM; omega
  have hpc0 : 0 ≤ s.pc := hp.1
  have e16 := h.c16
  have era := h.reg a ha
  have e14 := h.reg 14 (by omega)
  have f14 := (h.fz 14).1
  have hgv := fun w' h1 h2 => give_ok b 14 (s.pc + 1) (.int .i32 (s.R 14)) w' (by omega) h1 h2 (by omega)
  go_enter Try.func26, Try.ntmps26
  go_wp2_with fail
  go_at_call 38
  refine (hgv _ ?_ ?_).mono ?_
  · exact (World.cell?_alloc_past _ _ _ hb).trans e14
  · exact (World.frozen?_alloc_old _ _ _ (by show b ≠ _; omega)).trans f14
  rintro e w1 ⟨rfl, rfl⟩
  go_wp2_with fail
  go_ret
  exact ⟨rfl, (h.setR 14 _ (by omega)).below ((Below.refl _ _).alloc (Nat.le_refl _) _), Kp.set_then (p := ⟨b, 14, none⟩) (v := .int .i32 (s.pc + 1)) ((Below.refl _ _).alloc (Nat.le_of_eq (set_size _ _ _).symm) _) h.lo (Or.inl rfl)⟩

set_option maxRecDepth 100000 in
set_option maxHeartbeats 1000000 in
theorem do_callr (h : Lo w b mb kb ob c s en) (hok : Ok c s)  (a r k : Nat) (m : Int) (ha : a < 16) (hr : r < 16) (hk : k < 16) (m0 : -32768 ≤ m) (m1 : m ≤ 65535) (hp : 0 ≤ s.pc ∧ s.pc < c.n)
    :
    Calls Try.prog 26 #[.pointer (some ⟨b, 0, none⟩), .agg #[.int .i64 22, .int .i64 a, .int .i64 r, .int .i64 k, .int .i64 m]] w fun e w' => e = .returned (.int .i64 (s.R a)) ∧ Lo w' b mb kb ob c { s with R := upd s.R 14 (s.pc + 1) } en ∧ Kp b mb kb ob w w' := by
  have ha' : (0 : Int) ≤ a ∧ (a : Int) < 16 := by omega
  have hb : b < w.heap.size := by have := h.lb; have := h.lo; omega
  have hpc1 : s.pc ≤ 16000 := by have := hok.n0; have := hok.nM; omega
  have hpc0 : 0 ≤ s.pc := hp.1
  have e16 := h.c16
  have era := h.reg a ha
  have e14 := h.reg 14 (by omega)
  have f14 := (h.fz 14).1
  have hgv := fun w' h1 h2 => give_ok b 14 (s.pc + 1) (.int .i32 (s.R 14)) w' (by omega) h1 h2 (by omega)
  have hx := hok.reg a
  unfold Fit at hx
  obtain ⟨hx0, hx1⟩ := hx
  generalize s.R a = x at *
  go_enter Try.func26, Try.ntmps26
  go_wp2_with fail
  go_quiet (fail)
  go_wp2_with fail
  go_at_call 38
  refine (hgv _ ?_ ?_).mono ?_
  · exact (World.cell?_alloc_past _ _ _ hb).trans e14
  · exact (World.frozen?_alloc_old _ _ _ (by show b ≠ _; omega)).trans f14
  rintro e w1 ⟨rfl, rfl⟩
  go_wp2_with fail
  go_ret
  exact ⟨rfl, (h.below (below_drewN ((Below.refl _ _).alloc (Nat.le_refl _) _) _)).setR 14 _ (by omega), (Kp.of_below (below_drewN ((Below.refl _ _).alloc (Nat.le_refl _) _) _) h.lo).trans (Kp.set ⟨b, 14, none⟩ _ (Or.inl rfl))⟩

set_option maxRecDepth 100000 in
set_option maxHeartbeats 1000000 in
theorem do_store_bad (h : Lo w b mb kb ob c s en) (hok : Ok c s)  (a r k : Nat) (m : Int) (ha : a < 16) (hr : r < 16) (hk : k < 16) (m0 : -32768 ≤ m) (m1 : m ≤ 65535) (hp : 0 ≤ s.pc ∧ s.pc < c.n)
    (hbad : s.R r + m < 0 ∨ (¬ s.R r + m < 0 ∧ (c.M : Int) ≤ s.R r + m)) :
    Calls Try.prog 26 #[.pointer (some ⟨b, 0, none⟩), .agg #[.int .i64 18, .int .i64 a, .int .i64 r, .int .i64 k, .int .i64 m]] w fun e w' => e = thrown 4 ∧ Below w.heap.size w w' := by
  have ha' : (0 : Int) ≤ a ∧ (a : Int) < 16 := by omega
  have hb : b < w.heap.size := by have := h.lb; have := h.lo; omega
  have hpc1 : s.pc ≤ 16000 := by have := hok.n0; have := hok.nM; omega
  have hpc0 : 0 ≤ s.pc := hp.1
  have e16 := h.c16
  have era := h.reg a ha
  have hst := fun w' h1 h2 h3 => store_bad b 18 a r k m (s.R r) mb c.M c.M w' h1 hr h2 h3 (hok.reg r).1 (hok.reg r).2 m0 m1 hbad
  clear hbad
  have err := h.reg r hr
  have e21 := h.c21
  go_enter Try.func26, Try.ntmps26
  go_wp2_with fail
  go_at_call 39
  refine (hst _ ?_ ?_ ?_).mono ?_
  · simp; omega
  · exact (World.cell?_alloc_past _ _ _ hb).trans err
  · exact (World.cell?_alloc_past _ _ _ hb).trans e21
  rintro e w1 ⟨rfl, hb1⟩
  exact ⟨rfl, rfl, ((Below.refl _ _).alloc (Nat.le_refl _) _).trans (hb1.mono (by simp))⟩

set_option maxRecDepth 100000 in
set_option maxHeartbeats 1000000 in
theorem do_store_code (h : Lo w b mb kb ob c s en) (hok : Ok c s)  (a r k : Nat) (m : Int) (ha : a < 16) (hr : r < 16) (hk : k < 16) (m0 : -32768 ≤ m) (m1 : m ≤ 65535) (hp : 0 ≤ s.pc ∧ s.pc < c.n)
    (t : Nat) (ht : s.R r + m = t) (h1 : t < c.M) (h2 : (t : Int) < c.n) :
    Calls Try.prog 26 #[.pointer (some ⟨b, 0, none⟩), .agg #[.int .i64 18, .int .i64 a, .int .i64 r, .int .i64 k, .int .i64 m]] w fun e w' => e = thrown 4 ∧ Below w.heap.size w w' := by
  have ha' : (0 : Int) ≤ a ∧ (a : Int) < 16 := by omega
  have hb : b < w.heap.size := by have := h.lb; have := h.lo; omega
  have hpc1 : s.pc ≤ 16000 := by have := hok.n0; have := hok.nM; omega
  have hpc0 : 0 ≤ s.pc := hp.1
  have e16 := h.c16
  have era := h.reg a ha
  have hst := fun w' h1' h2' h3 h4 => store_code b 18 a r k m (s.R r) mb kb c.M c.n c.M c.n t w' h1' hr h2' h3 h4 (hok.reg r).1 (hok.reg r).2 m0 m1 ht h1 h2
  clear ht
  have err := h.reg r hr
  have e21 := h.c21
  have e22 := h.c22
  go_enter Try.func26, Try.ntmps26
  go_wp2_with fail
  go_at_call 39
  refine (hst _ ?_ ?_ ?_ ?_).mono ?_
  · simp; omega
  · exact (World.cell?_alloc_past _ _ _ hb).trans err
  · exact (World.cell?_alloc_past _ _ _ hb).trans e21
  · exact (World.cell?_alloc_past _ _ _ hb).trans e22
  rintro e w1 ⟨rfl, hb1⟩
  exact ⟨rfl, rfl, ((Below.refl _ _).alloc (Nat.le_refl _) _).trans (hb1.mono (by simp))⟩

set_option maxRecDepth 100000 in
set_option maxHeartbeats 1000000 in
theorem do_store (h : Lo w b mb kb ob c s en) (hok : Ok c s)  (a r k : Nat) (m : Int) (ha : a < 16) (hr : r < 16) (hk : k < 16) (m0 : -32768 ≤ m) (m1 : m ≤ 65535) (hp : 0 ≤ s.pc ∧ s.pc < c.n)
    (t : Nat) (ht : s.R r + m = t) (h1 : t < c.M) (h2 : ¬ (t : Int) < c.n) :
    Calls Try.prog 26 #[.pointer (some ⟨b, 0, none⟩), .agg #[.int .i64 18, .int .i64 a, .int .i64 r, .int .i64 k, .int .i64 m]] w fun e w' => e = .returned (.int .i64 (s.pc + 1)) ∧ Lo w' b mb kb ob c { s with mem := upd s.mem t (s.R a) } en ∧ Kp b mb kb ob w w' := by
  have ha' : (0 : Int) ≤ a ∧ (a : Int) < 16 := by omega
  have hb : b < w.heap.size := by have := h.lb; have := h.lo; omega
  have hpc1 : s.pc ≤ 16000 := by have := hok.n0; have := hok.nM; omega
  have hpc0 : 0 ≤ s.pc := hp.1
  have e16 := h.c16
  have era := h.reg a ha
  have hmb : mb < w.heap.size := by have := h.lmb; have := h.lo; omega
  have hst := fun w' h1' h2' h3 h4 h5 h6 h7 h8 => store_ok b 18 a r k m (s.R r) (s.R a) mb kb c.M c.n c.M c.n (.int .i32 (s.mem t)) t w' h1' h2' ha hr h3 h4 h5 h6 (hok.reg r).1 (hok.reg r).2 m0 m1 ht h1 h2 h7 h8
  clear ht
  have err := h.reg r hr
  have e21 := h.c21
  have e22 := h.c22
  have emt := h.memc t h1
  have fmt := (h.fz t).2.1
  go_enter Try.func26, Try.ntmps26
  go_wp2_with fail
  go_at_call 39
  refine (hst _ ?_ ?_ ?_ ?_ ?_ ?_ ?_ ?_).mono ?_
  · simp; omega
  · simp; omega
  · exact (World.cell?_alloc_past _ _ _ hb).trans err
  · exact (World.cell?_alloc_past _ _ _ hb).trans era
  · exact (World.cell?_alloc_past _ _ _ hb).trans e21
  · exact (World.cell?_alloc_past _ _ _ hb).trans e22
  · exact (World.cell?_alloc_past _ _ _ hmb).trans emt
  · exact (World.frozen?_alloc_old _ _ _ (by show mb ≠ _; omega)).trans fmt
  rintro e w1 ⟨rfl, w2, hb2, rfl⟩
  have hB : Below w.heap.size w w2 := ((Below.refl _ _).alloc (Nat.le_refl _) _).trans (hb2.mono (by simp))
  have hL := (h.below hB).setMem t (s.R a) h1
  have hK : Kp b mb kb ob w (w2.setCell ⟨mb, t, none⟩ (.int .i32 (s.R a))) := (Kp.of_below hB h.lo).trans (Kp.set _ _ (Or.inr (Or.inl rfl)))
  generalize w2.setCell ⟨mb, t, none⟩ (.int .i32 (s.R a)) = w3 at *
  go_wp2_with fail
  go_ret
  exact ⟨rfl, hL, hK⟩

set_option maxRecDepth 100000 in
set_option maxHeartbeats 1000000 in
theorem do_exit (h : Lo w b mb kb ob c s en) (hok : Ok c s)  (a r k : Nat) (m : Int) (ha : a < 16) (hr : r < 16) (hk : k < 16) (m0 : -32768 ≤ m) (m1 : m ≤ 65535) (hp : 0 ≤ s.pc ∧ s.pc < c.n)
    :
    Calls Try.prog 26 #[.pointer (some ⟨b, 0, none⟩), .agg #[.int .i64 25, .int .i64 a, .int .i64 r, .int .i64 k, .int .i64 m]] w fun e w' => e = thrown 1 ∧ Lo w' b mb kb ob c { s with val := s.R a } en ∧ Kp b mb kb ob w w' := by
  have ha' : (0 : Int) ≤ a ∧ (a : Int) < 16 := by omega
  have hb : b < w.heap.size := by have := h.lb; have := h.lo; omega
  have hpc1 : s.pc ≤ 16000 := by have := hok.n0; have := hok.nM; omega
  have hpc0 : 0 ≤ s.pc := hp.1
  have e16 := h.c16
  have era := h.reg a ha
  have e18 := h.c18
  have f18 := (h.fz 18).1
  generalize s.R a = x at *
  go_enter Try.func26, Try.ntmps26
  go_wp2_with fail
  go_region
  all_goals
    go_wp2_with fail
    exact ⟨rfl, rfl, (h.setVal x).below (Below.drew ((Below.refl _ _).alloc (Nat.le_refl _) _)), Kp.set_then (p := ⟨b, 18, none⟩) (v := .int .i32 x) (Below.drew ((Below.refl _ _).alloc (Nat.le_of_eq (set_size _ _ _).symm) _)) h.lo (Or.inl rfl)⟩
end Go.Proofs.Ytofhiooodgopeaa.V
