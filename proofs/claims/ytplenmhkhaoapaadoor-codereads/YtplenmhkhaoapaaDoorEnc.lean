/- The contract of code.Encode. -/
import Derived.Test.YtplenmhkhaoapaaDoorCheck
import Derived.Test.YtplenmhkhaoapaaDoorBits
namespace Go.Proofs.YtplenmhkhaoapaaDoor.W
open Go.RowKit Go.Proofs.YtplenmhkhaoapaaDoor.M
set_option linter.unusedVariables false

theorem ret_ints {k l : IntKind} {a b c d : Int} (h : a = b) (g : c = d) : Ending.returned (.tuple #[.int k a, .int l c]) = .returned (.tuple #[.int k b, .int l d]) := by rw [h, g]
set_option maxRecDepth 100000 in
set_option maxHeartbeats 1000000 in
theorem encode_bad (op a b c m ck : Int) (w : World) (HC : Hid (ckN op a b c m = ck)) (h : (ck == 0) = false) :
    Calls Tryd.prog 6 #[.agg #[.int .i64 op, .int .i64 a, .int .i64 b, .int .i64 c, .int .i64 m]] w fun e w' => e = .returned (.tuple #[.int .u32 0, .int .i64 ck]) ∧ Below w.heap.size w w' := by
  have hc := check_any op a b c m (w.alloc (.cells #[.int .i64 op, .int .i64 a, .int .i64 b, .int .i64 c, .int .i64 m] 23))
  rw [unhide HC] at hc
  go_enter Tryd.func6, Tryd.ntmps6
  go_wp2_with (go_at_call 13; refine hc.mono ?_; rintro e w1 ⟨rfl, hb⟩)
  go_ret2
  exact ⟨rfl, ((Below.refl _ _).alloc (Nat.le_refl _) _).trans (hb.mono (by simp))⟩

set_option maxRecDepth 100000 in
set_option maxHeartbeats 1000000 in
theorem encode_ok (op a b c m : Int) (w : World) (H : Hid (ckN op a b c m = 0)) :
    Calls Tryd.prog 6 #[.agg #[.int .i64 op, .int .i64 a, .int .i64 b, .int .i64 c, .int .i64 m]] w fun e w' => e = .returned (.tuple #[.int .u32 (encN op a b c m), .int .i64 0]) ∧ Below w.heap.size w w' := by
  have hc := check_any op a b c m (w.alloc (.cells #[.int .i64 op, .int .i64 a, .int .i64 b, .int .i64 c, .int .i64 m] 23))
  rw [unhide H] at hc
  obtain ⟨h1, h2, h3, h4, h5, h6, h7, h8, h9, h10, h11⟩ := ck_facts (unhide H)
  have H11 := hide h11
  clear h11
  go_enter Tryd.func6, Tryd.ntmps6
  go_wp2_with (go_at_call 13; refine hc.mono ?_; rintro e w1 ⟨rfl, hb⟩; obtain ⟨hce, hfr⟩ := bcell hb; have hz : w.heap.size < w1.heap.size := (by have := hb.size; simp at this; omega))
  go_ret2
  refine ⟨?_, ((Below.refl _ _).alloc (Nat.le_refl _) _).trans (hb.mono (by simp))⟩
  refine ret_ints ?_ rfl
  show bits .or .u32 (bits .or .u32 (bits .or .u32 (op * 16777216) (a * 1048576)) (b * 65536)) (IntKind.u16.wrap (c + m) % 4294967296) = encN op a b c m
  rw [u16_wrap, enc_bits op a b _ (by omega) (by omega) h3 h4 h5 h6 (by omega) (by omega)]
  unfold encN
  omega
end Go.Proofs.YtplenmhkhaoapaaDoor.W
