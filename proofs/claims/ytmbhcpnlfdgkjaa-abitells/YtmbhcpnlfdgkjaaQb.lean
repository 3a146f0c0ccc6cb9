/- The program's param. -/
import Derived.Test.YtmbhcpnlfdgkjaaQa
import Derived.Test.YtmbhcpnlfdgkjaaPRest
namespace Go.Proofs.Ytmbhcpnlfdgkjaa.T
open Go.RowKit
set_option linter.unusedVariables false
set_option linter.unusedSimpArgs false
theorem may_up : ∀ (d : Nat) (T : Ty), mayN d T = true → mayN (d + 1) T = true
  | d, .leaf, h => by rw [mayN_leaf] at h; cases h
  | 0, .mk .., h => by simp [mayN] at h
  | d + 1, .mk kind name nn names pn parts many, h => by
    rw [mayN_succ] at h ⊢
    rw [Bool.and_eq_true, Bool.and_eq_true] at h ⊢
    refine ⟨⟨h.1.1, ?_⟩, h.2⟩
    rw [List.all_eq_true] at *
    intro i hi
    exact may_up d (parts i) (h.1.2 i hi)
theorem Fx.low {b : Nat} {W0 w w' : World} {L : List Rs} (h : Fx (· = b) w w' L) (hB : Below W0.heap.size W0 w) (hb : W0.heap.size ≤ b) : Below W0.heap.size W0 w' :=
  ⟨h.fr.below.os.trans hB.os, h.fr.below.tape.trans hB.tape, h.fr.below.output.trans hB.output, Nat.le_trans hB.size h.size, fun k hk => (h.keep k (Nat.lt_of_lt_of_le hk hB.size) (by omega)).trans (hB.block k hk)⟩
theorem grown_low {b : Nat} {W0 w w' : World} (h : w.grownBy w' (some b)) (hB : Below W0.heap.size W0 w) (hb : W0.heap.size ≤ b) : Below W0.heap.size W0 w' :=
  ⟨h.os.trans hB.os, h.tape.trans hB.tape, h.output.trans hB.output, Nat.le_trans hB.size h.size, fun k hk => (h.block k (Nat.lt_of_lt_of_le hk hB.size) (fun e => by have : k = b := Option.some.inj e; omega)).trans (hB.block k hk)⟩
/-- Where the words of a parameter begin. -/
def aT (r : Nat) (T : Ty) : Nat := r2N r (parE T) (decide (kindT T = 2))
def qT (r p : Nat) (T : Ty) : Nat := p3N r p (parE T) (decide (kindT T = 2))
theorem up_up (n : Nat) : upN (upN n) = upN n := by unfold upN; omega
theorem aq_even {r p : Nat} {T : Ty} (hr : r ≤ 4) (h : parE T = true) : aT r T = upN r ∧ qT r p T = if upN r = 4 then upN p else p := by
  have h1 : r1N r true = upN r := by
    unfold r1N
    by_cases h4 : r < 4
    · simp [h4]
    · have : r = 4 := by omega
      subst this; rfl
  have hu : upN r = 0 ∨ upN r = 2 ∨ upN r = 4 := by unfold upN; omega
  unfold aT qT p3N p2N r2N
  rw [h, h1]
  constructor
  · rcases hu with e | e | e <;> rw [e] <;> simp
  · unfold p1N
    by_cases h4 : r < 4
    · rcases hu with e | e | e <;> rw [e] <;> simp [h4] <;> (intros; try exact up_up _)
    · have : r = 4 := by omega
      subst this
      simp [show upN 4 = 4 from rfl, up_up]
theorem aq_not {r p : Nat} {T : Ty} (hr : r ≤ 4) (h : parE T = false) : aT r T = r ∧ qT r p T = p := by
  have hl : decide (kindT T = 2) = false := by
    cases hk : decide (kindT T = 2)
    · rfl
    · have := long_even hk; rw [this] at h; cases h
  unfold aT qT p3N p2N r2N r1N p1N
  rw [h, hl]
  simp
theorem q_le (r p : Nat) (T : Ty) : qT r p T ≤ p + 3 := p3_le r p _ _
theorem fx_other {b : Nat} {w w' : World} {v : Value} {e : TypeId} {z n : Nat} {xs : List Value} {cs : Array Value} {T : TypeId} {L : List Rs} (h : Fx (· = b) w w' L) {i j : Nat} (hi : L[i]? = some (.row v e z n xs)) (hj : L[j]? = some (.blk b cs T)) (hne : i ≠ j) : w'.ownsRow w.heap.size e z v n xs := by
  refine h.row hi fun q hq e => ?_
  have e' : q = b := e
  subst e'
  have ho : Rs.off _ _ := pw_get (fun _ _ => Rs.off_symm) h.fr.off hi hj hne
  exact ho q hq rfl
theorem par_copied (b r p : Nat) (T : Ty) (v : Value) (w W0 : World) (hb : w.heap[b]? = some (.cells (ly r p) 43 (0, 0))) (h4 : 4 < sizeT T) (hr : r ≤ 4) (hp : p ≤ 500) (hs : ∃ k0 k1 k2 k3 k4, v = .agg #[k0, k1, k2, k3, k4]) (hv : TyV W0 T v) :
    Calls Try.prog 14 #[.pointer (some ⟨b, 0, none⟩), v, .bool true] w fun e w' => ∃ lv, e = .returned lv ∧ w'.ownsRow w.heap.size 39 2 lv (parN T) (locV (lay (aT r T) (qT r p T) (parN T))) ∧ w'.heap[b]? = some (.cells (ly (adv (aT r T) (qT r p T) (parN T)).1 (adv (aT r T) (qT r p T) (parN T)).2) 43 (0, 0)) ∧ w.grownBy w' (some b) := by
  have hE : parE T = false := by unfold parE; simp [h4]
  have hN : parN T = 1 := by unfold parN; simp [h4]
  rw [(aq_not (p := p) hr hE).1, (aq_not (p := p) hr hE).2, hN]
  obtain ⟨k0, k1, k2, k3, k4, rfl⟩ := hs
  obtain ⟨kind, name, na, nn, nc, pa, pn, pc, many, rfl, rfl, rfl, rfl, rfl, -⟩ := hv.shape
  have HF := hide ((Fx.one' hb).alloc rfl #[.int .i64 kind, .string name, .slice na nn nc, .slice pa pn pc, .bool many] 25)
  have HC := hide (next_any b r p 0 _ (HF.out.fr.get (i := 1) rfl).2 (by show p ≤ 1000; omega))
  clear hv hb hE hN h4
  go_enter Try.func14, Try.ntmps14
  go_wp2_with fail
  go_at_call 12
  refine HC.out.mono ?_
  rintro e w1 ⟨x, hx, rfl, h1, h2⟩
  obtain ⟨x1, x2⟩ := x
  replace HF := hide ((HF.out.via 1 rfl h2 h1).alloc rfl #[.bool x1, .int .i64 x2] 39)
  have HX := hide hx
  clear h1 h2 hx HC
  go_wp2_with fail
  go_ret
  have hb0 := HF.out.fr.get (i := 0) rfl
  refine ⟨_, rfl, ?_, (HF.out.fr.get (i := 2) rfl).2, HF.out.grown⟩
  rw [HX.out]
  refine ⟨rfl, Or.inr ⟨_, 1, _, rfl, ?_, hb0.2, Nat.le_refl _, by decide, rfl, rfl⟩⟩
  have := HF.out.new _ (List.mem_of_getElem? (i := 0) rfl) _ rfl
  have hs := (HF.out.fr.lt 2 rfl rfl).2
  rcases this with e | e
  · exact absurd e (by
      have ho : Rs.off _ _ := pw_get (fun _ _ => Rs.off_symm) HF.out.fr.off (i := 0) (j := 2) rfl rfl (by decide)
      intro e
      exact ho _ rfl (by rw [e]; rfl))
  · exact e
end Go.Proofs.Ytmbhcpnlfdgkjaa.T
