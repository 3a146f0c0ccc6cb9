/- The contract of (*machine).fetch. -/
import Derived.Test.YtofhiooodgopeaaDo
import Derived.Test.YtofhiooodgopeaaDec
namespace Go.Proofs.Ytofhiooodgopeaa.V
open Go.RowKit Go.Proofs.Ytofhiooodgopeaa.M
set_option linter.unusedVariables false
set_option linter.unusedSimpArgs false
variable {w : World} {b mb kb ob : Nat} {c : Cf} {s : Sm} {en : Int}

set_option maxRecDepth 100000 in
set_option maxHeartbeats 2000000 in
theorem fetch_out (h : Lo w b mb kb ob c s en) (hp : s.pc < 0 ∨ (¬ s.pc < 0 ∧ (c.n : Int) ≤ s.pc)) :
    Calls Try.prog 27 #[.pointer (some ⟨b, 0, none⟩)] w fun e w' => e = thrown 4 ∧ Below w.heap.size w w' := by
  have hb : b < w.heap.size := by have := h.lb; have := h.lo; omega
  have e16 := h.c16
  have e22 := h.c22
  rcases hp with h1 | ⟨h1, h2⟩
  · have hd : decide (s.pc < 0) = true := by simpa using h1
    go_enter Try.func27, Try.ntmps27
    go_wp2
    go_quiet (fail)
    go_wp2
    exact ⟨rfl, rfl, below_drewN ((Below.refl _ _).alloc (Nat.le_refl _) _) _⟩
  · have hd : decide (s.pc < 0) = false := by simpa using h1
    go_enter Try.func27, Try.ntmps27
    go_wp2
    go_quiet (fail)
    go_wp2
    exact ⟨rfl, rfl, below_drewN ((Below.refl _ _).alloc (Nat.le_refl _) _) _⟩

set_option maxRecDepth 100000 in
set_option maxHeartbeats 2000000 in
theorem fetch_known (h : Lo w b mb kb ob c s en) (t : Nat) (ht : s.pc = t) (hn : t < c.n) (op a r k m : Int) (h0 : w.cell? ⟨kb, t * 5, none⟩ = some (.int .i64 op)) (h1 : w.cell? ⟨kb, t * 5 + 1, none⟩ = some (.int .i64 a)) (h2 : w.cell? ⟨kb, t * 5 + 2, none⟩ = some (.int .i64 r))
    (h3 : w.cell? ⟨kb, t * 5 + 3, none⟩ = some (.int .i64 k)) (h4 : w.cell? ⟨kb, t * 5 + 4, none⟩ = some (.int .i64 m)) (ho : 1 ≤ op) :
    Calls Try.prog 27 #[.pointer (some ⟨b, 0, none⟩)] w fun e w' => e = .returned (.agg #[.int .i64 op, .int .i64 a, .int .i64 r, .int .i64 k, .int .i64 m]) ∧ Below w.heap.size w w' := by
  have hb : b < w.heap.size := by have := h.lb; have := h.lo; omega
  have hkb : kb < w.heap.size := by have := h.lkb; have := h.lo; omega
  have hop : (op == 0) = false := beq_eq_false_iff_ne.2 (by omega)
  have e16 := h.c16
  have e22 := h.c22
  rw [ht] at e16
  have ht' : (0 : Int) ≤ t ∧ (t : Int) < c.n := by omega
  have hd : decide ((t : Int) < 0) = false := by simp
  have hd2 : ¬ ((c.n : Int) ≤ t) := by omega
  clear h ht
  go_enter Try.func27, Try.ntmps27
  go_wp2
  go_quiet (fail)
  go_wp2
  go_quiet (fail)
  go_wp2
  refine bodyPost_ret (v := .agg #[.int .i64 op, .int .i64 a, .int .i64 r, .int .i64 k, .int .i64 m]) (by simp [results, Try.results27, go_sem]) rfl ⟨rfl, ?_⟩
  exact (((((below_drewN ((Below.refl _ _).alloc (Nat.le_refl _) _) _).setCell (Nat.le_refl _) _).setCell (Nat.le_refl _) _).setCell (Nat.le_refl _) _).setCell (Nat.le_refl _) _).setCell (Nat.le_refl _) _

end Go.Proofs.Ytofhiooodgopeaa.V
