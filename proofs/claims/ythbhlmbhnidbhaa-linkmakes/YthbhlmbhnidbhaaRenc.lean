/- The contract of the reference's Encode. -/
import Derived.Test.YthbhlmbhnidbhaaRcheck
namespace Go.Proofs.Ythbhlmbhnidbhaa.W
open Go.RowKit Go.Proofs.Ythbhlmbhnidbhaa.M
set_option linter.unusedVariables false
theorem ret_ints {k l : IntKind} {a b c d : Int} (h : a = b) (g : c = d) : Ending.returned (.tuple #[.int k a, .int l c]) = .returned (.tuple #[.int k b, .int l d]) := by rw [h, g]
set_option maxRecDepth 100000 in
set_option maxHeartbeats 1000000 in
theorem rencode_bad (op a b c m ck : Int) (w : World) (HC : Hid (ckN op a b c m = ck)) (h : (ck == 0) = false) :
    Calls Try.prog 11 #[.agg #[.int .i64 op, .int .i64 a, .int .i64 b, .int .i64 c, .int .i64 m]] w fun e w' => e = .returned (.tuple #[.int .u32 0, .int .i64 ck]) ∧ Below w.heap.size w w' := by
  have hc := rcheck_any op a b c m
  rw [unhide HC] at hc
  go_enter Try.func11, Try.ntmps11
  go_wp2_with fail
  go_at_call 24
  refine (hc _).mono ?_
  rintro e w1 ⟨rfl, hb⟩
  go_wp2_with fail
  go_ret2
  exact ⟨rfl, own1_below hb⟩

set_option maxRecDepth 100000 in
set_option maxHeartbeats 1000000 in
theorem rencode_ok (op a b c m : Int) (w : World) (H : Hid (ckN op a b c m = 0)) :
    Calls Try.prog 11 #[.agg #[.int .i64 op, .int .i64 a, .int .i64 b, .int .i64 c, .int .i64 m]] w fun e w' => e = .returned (.tuple #[.int .u32 (encN op a b c m), .int .i64 0]) ∧ Below w.heap.size w w' := by
  have hc := rcheck_any op a b c m
  rw [unhide H] at hc
  obtain ⟨h1, h2, h3, h4, h5, h6, h7, h8, h9, h10, h11⟩ := ck_facts (unhide H)
  have H11 := hide h11
  clear h11
  by_cases hlow : c + m < 0
  all_goals
    go_enter Try.func11, Try.ntmps11
    go_wp2_with fail
    go_at_call 24
    refine (hc _).mono ?_
    rintro e w1 ⟨rfl, hb⟩
    obtain ⟨hce, hfr⟩ := bcell hb
    have hz : w.heap.size < w1.heap.size := (by have := hb.size; simp at this; omega)
    have hB := own1_below hb
    go_wp2_with fail
    go_ret2
    refine ⟨ret_ints ?_ rfl, hB⟩
    have h11 := unhide H11
    unfold encN
    first | omega | (simp; omega) | (rw [show ∀ x : Int, IntKind.u32.wrap x = x % 4294967296 from fun x => rfl]; omega)


end Go.Proofs.Ythbhlmbhnidbhaa.W
