/- The contract of machine.Check. -/
import Derived.Test.YtofhiooodgopeaaGoOn
namespace Go.Proofs.Ytofhiooodgopeaa.V
open Go.RowKit Go.Proofs.Ytofhiooodgopeaa.M
set_option linter.unusedVariables false
set_option linter.unusedSimpArgs false

/-- May an image be of so many words of Code and of Data, and so much memory? -/
def mayB (nc nd : Nat) (M : Int) : Bool := decide (1 ≤ nc ∧ nc ≤ 6000 ∧ 32 ≤ M ∧ M ≤ 16000 ∧ (nc : Int) + nd ≤ M - 16)
def chk (nc nd : Nat) (M : Int) : Int := if mayB nc nd M then 0 else 1

set_option maxRecDepth 100000 in
set_option maxHeartbeats 1000000 in
theorem check_img (ca da : Option Addr) (nc cc nd cd : Nat) (M : Int) (w : World) (hc : nc ≤ 140737488355328) (hd : nd ≤ 140737488355328) (M0 : -9223372036854775808 ≤ M) (M1 : M ≤ 9223372036854775807) :
    Calls Try.prog 7 #[.agg #[.slice ca nc cc, .slice da nd cd, .int .i64 M]] w fun e w' => e = .returned (.int .i64 (chk nc nd M)) ∧ Below w.heap.size w w' := by
  have hB : Below w.heap.size w (w.alloc (.cells #[.slice ca nc cc, .slice da nd cd, .int .i64 M] 25)) := (Below.refl _ _).alloc (Nat.le_refl _) _
  have hbad : mayB nc nd M = false → chk nc nd M = 1 := fun h => by unfold chk; rw [h]; rfl
  have hgood : mayB nc nd M = true → chk nc nd M = 0 := fun h => by unfold chk; rw [h]; rfl
  by_cases h1 : (nc : Int) < 1
  · rw [hbad (by unfold mayB; simp; omega)]
    go_enter Try.func7, Try.ntmps7
    go_wp2
    go_ret
    exact ⟨rfl, hB⟩
  by_cases h2 : (6000 : Int) < nc
  · rw [hbad (by unfold mayB; simp; omega)]
    go_enter Try.func7, Try.ntmps7
    go_wp2
    go_ret
    exact ⟨rfl, hB⟩
  by_cases h3 : M < 32
  · rw [hbad (by unfold mayB; simp; omega)]
    go_enter Try.func7, Try.ntmps7
    go_wp2
    go_ret
    exact ⟨rfl, hB⟩
  by_cases h4 : 16000 < M
  · rw [hbad (by unfold mayB; simp; omega)]
    go_enter Try.func7, Try.ntmps7
    go_wp2
    go_ret
    exact ⟨rfl, hB⟩
  by_cases h5 : M - 16 < (nc : Int) + nd
  · rw [hbad (by unfold mayB; simp; omega)]
    go_enter Try.func7, Try.ntmps7
    go_wp2
    go_ret
    exact ⟨rfl, hB⟩
  · rw [hgood (by unfold mayB; simp; omega)]
    go_enter Try.func7, Try.ntmps7
    go_wp2
    go_ret
    exact ⟨rfl, hB⟩
end Go.Proofs.Ytofhiooodgopeaa.V
