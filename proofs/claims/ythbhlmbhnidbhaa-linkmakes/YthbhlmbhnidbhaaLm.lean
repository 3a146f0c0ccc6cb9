/- The contract of the reference's May of images. -/
import Derived.Test.YthbhlmbhnidbhaaLp
namespace Go.Proofs.Ythbhlmbhnidbhaa.T
open Go.RowKit Go.Proofs.Ythbhlmbhnidbhaa.M
set_option linter.unusedVariables false
set_option linter.unusedSimpArgs false
set_option maxRecDepth 100000 in
set_option maxHeartbeats 1000000 in
theorem may_img (ca da : Option Addr) (nc cc nd cd : Nat) (M : Int) (w : World) (hc : nc ≤ 140737488355328) (hd : nd ≤ 140737488355328) (M0 : -9223372036854775808 ≤ M) (M1 : M ≤ 9223372036854775807) :
    Calls Try.prog 12 #[.agg #[.slice ca nc cc, .slice da nd cd, .int .i64 M]] w fun e w' => e = .returned (.bool (mayI nc nd M)) ∧ Below w.heap.size w w' := by
  have hB : Below w.heap.size w (w.alloc (.cells #[.slice ca nc cc, .slice da nd cd, .int .i64 M] 26)) := (Below.refl _ _).alloc (Nat.le_refl _) _
  by_cases h1 : (nc : Int) < 1
  · rw [show mayI nc nd M = false by unfold mayI; simp; omega]
    go_enter Try.func12, Try.ntmps12
    go_wp2
    go_ret
    exact ⟨rfl, hB⟩
  by_cases h2 : (6000 : Int) < nc
  · rw [show mayI nc nd M = false by unfold mayI; simp; omega]
    go_enter Try.func12, Try.ntmps12
    go_wp2
    go_ret
    exact ⟨rfl, hB⟩
  by_cases h3 : M < 32
  · rw [show mayI nc nd M = false by unfold mayI; simp; omega]
    go_enter Try.func12, Try.ntmps12
    go_wp2
    go_ret
    exact ⟨rfl, hB⟩
  by_cases h4 : 16000 < M
  · rw [show mayI nc nd M = false by unfold mayI; simp; omega]
    go_enter Try.func12, Try.ntmps12
    go_wp2
    go_ret
    exact ⟨rfl, hB⟩
  by_cases h5 : (16000 : Int) < nd
  · rw [show mayI nc nd M = false by unfold mayI; simp; omega]
    go_enter Try.func12, Try.ntmps12
    go_wp2
    go_ret
    exact ⟨rfl, hB⟩
  by_cases h6 : (nc : Int) + nd ≤ M - 16
  · rw [show mayI nc nd M = true by unfold mayI; simp; omega]
    go_enter Try.func12, Try.ntmps12
    go_wp2
    go_ret
    exact ⟨by simp [h6], hB⟩
  · rw [show mayI nc nd M = false by unfold mayI; simp; omega]
    go_enter Try.func12, Try.ntmps12
    go_wp2
    go_ret
    exact ⟨by simp, hB⟩
end Go.Proofs.Ythbhlmbhnidbhaa.T
