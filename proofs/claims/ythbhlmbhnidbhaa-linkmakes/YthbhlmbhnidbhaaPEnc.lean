/- The contract of code.Encode. -/
import Derived.Test.YthbhlmbhnidbhaaPCheck
import Derived.Test.YthbhlmbhnidbhaaPBits
import Derived.Test.YthbhlmbhnidbhaaRenc
namespace Go.Proofs.Ythbhlmbhnidbhaa.W
open Go.RowKit Go.Proofs.Ythbhlmbhnidbhaa.M
set_option linter.unusedVariables false

set_option maxRecDepth 100000 in
set_option maxHeartbeats 1000000 in
theorem encode_bad (op a b c m ck : Int) (w : World) (HC : Hid (ckN op a b c m = ck)) (h : (ck == 0) = false) :
    Calls Try.prog 33 #[.agg #[.int .i64 op, .int .i64 a, .int .i64 b, .int .i64 c, .int .i64 m]] w fun e w' => e = .returned (.tuple #[.int .u32 0, .int .i64 ck]) ∧ Below w.heap.size w w' := by
  have hc := check_any op a b c m (w.alloc (.cells #[.int .i64 op, .int .i64 a, .int .i64 b, .int .i64 c, .int .i64 m] 53))
  rw [unhide HC] at hc
  go_enter Try.func33, Try.ntmps33
  go_wp2_with (go_at_call 45; refine hc.mono ?_; rintro e w1 ⟨rfl, hb⟩)
  go_ret2
  exact ⟨rfl, ((Below.refl _ _).alloc (Nat.le_refl _) _).trans (hb.mono (by simp))⟩

set_option maxRecDepth 100000 in
set_option maxHeartbeats 1000000 in
theorem encode_ok (op a b c m : Int) (w : World) (H : Hid (ckN op a b c m = 0)) :
    Calls Try.prog 33 #[.agg #[.int .i64 op, .int .i64 a, .int .i64 b, .int .i64 c, .int .i64 m]] w fun e w' => e = .returned (.tuple #[.int .u32 (encN op a b c m), .int .i64 0]) ∧ Below w.heap.size w w' := by
  have hc := check_any op a b c m (w.alloc (.cells #[.int .i64 op, .int .i64 a, .int .i64 b, .int .i64 c, .int .i64 m] 53))
  rw [unhide H] at hc
  obtain ⟨h1, h2, h3, h4, h5, h6, h7, h8, h9, h10, h11⟩ := ck_facts (unhide H)
  have H11 := hide h11
  clear h11
  go_enter Try.func33, Try.ntmps33
  go_wp2_with (go_at_call 45; refine hc.mono ?_; rintro e w1 ⟨rfl, hb⟩; obtain ⟨hce, hfr⟩ := bcell hb; have hz : w.heap.size < w1.heap.size := (by have := hb.size; simp at this; omega))
  go_ret2
  refine ⟨?_, ((Below.refl _ _).alloc (Nat.le_refl _) _).trans (hb.mono (by simp))⟩
  refine ret_ints ?_ rfl
  show bits .or .u32 (bits .or .u32 (bits .or .u32 (op * 16777216) (a * 1048576)) (b * 65536)) (IntKind.u16.wrap (c + m) % 4294967296) = encN op a b c m
  rw [u16_wrap, enc_bits op a b _ (by omega) (by omega) h3 h4 h5 h6 (by omega) (by omega)]
  unfold encN
  omega
end Go.Proofs.Ythbhlmbhnidbhaa.W
