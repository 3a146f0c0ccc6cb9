/- The contracts of (*machine).made. -/
import Derived.Test.YtofhiooodgopeaaGive
import Derived.Test.YtofhiooodgopeaaAWop
import Derived.Test.YtofhiooodgopeaaMovh
namespace Go.Proofs.Ytofhiooodgopeaa.V
open Go.RowKit Go.Proofs.Ytofhiooodgopeaa.AW
set_option linter.unusedVariables false

set_option maxRecDepth 100000 in
set_option maxHeartbeats 400000 in
theorem made_mov (b : Nat) (a r k : Nat) (m x : Int) (w : World) (hb : b < w.heap.size) (hr : r < 16) (hc : w.cell? ⟨b, r, none⟩ = some (.int .i32 x)) :
    Calls Try.prog 40 #[.pointer (some ⟨b, 0, none⟩), .agg #[.int .i64 1, .int .i64 a, .int .i64 r, .int .i64 k, .int .i64 m]] w fun e w' => e = .returned (.int .i32 x) ∧ Below w.heap.size w w' := by
  have hr' : (0 : Int) ≤ r ∧ (r : Int) < 16 := by omega
  go_enter Try.func40, Try.ntmps40
  go_wp2
  go_quiet (fail)
  go_wp2
  go_ret
  exact ⟨rfl, below_drewN ((Below.refl _ _).alloc (Nat.le_refl _) _) _⟩

set_option maxRecDepth 100000 in
set_option maxHeartbeats 400000 in
theorem made_movi (b : Nat) (a r k : Nat) (m : Int) (w : World) (m0 : -32768 ≤ m) (m1 : m ≤ 65535) :
    Calls Try.prog 40 #[.pointer (some ⟨b, 0, none⟩), .agg #[.int .i64 2, .int .i64 a, .int .i64 r, .int .i64 k, .int .i64 m]] w fun e w' => e = .returned (.int .i32 m) ∧ Below w.heap.size w w' := by
  go_enter Try.func40, Try.ntmps40
  go_wp2
  go_ret
  exact ⟨rfl, ((Below.refl _ _).alloc (Nat.le_refl _) _)⟩

set_option maxRecDepth 100000 in
set_option maxHeartbeats 400000 in
theorem made_movh (b : Nat) (a r k : Nat) (m x : Int) (w : World) (hb : b < w.heap.size) (ha : a < 16) (hc : w.cell? ⟨b, a, none⟩ = some (.int .i32 x)) (m0 : 0 ≤ m) (m1 : m ≤ 65535) (x0 : -2147483648 ≤ x) (x1 : x ≤ 2147483647) :
    Calls Try.prog 40 #[.pointer (some ⟨b, 0, none⟩), .agg #[.int .i64 3, .int .i64 a, .int .i64 r, .int .i64 k, .int .i64 m]] w fun e w' => e = .returned (.int .i32 (wrap32 (m * 65536 + x % 65536))) ∧ Below w.heap.size w w' := by
  have hr' : (0 : Int) ≤ a ∧ (a : Int) < 16 := by omega
  go_enter Try.func40, Try.ntmps40
  go_wp2
  go_quiet (fail)
  go_wp2
  go_ret
  exact ⟨ret_int (movh_eq m x m0 m1), below_drewN ((Below.refl _ _).alloc (Nat.le_refl _) _) _⟩

set_option maxRecDepth 100000 in
set_option maxHeartbeats 400000 in
theorem made_addi (b : Nat) (a r k : Nat) (m x : Int) (w : World) (hb : b < w.heap.size) (hr : r < 16) (hc : w.cell? ⟨b, r, none⟩ = some (.int .i32 x)) (m0 : -32768 ≤ m) (m1 : m ≤ 65535) :
    Calls Try.prog 40 #[.pointer (some ⟨b, 0, none⟩), .agg #[.int .i64 16, .int .i64 a, .int .i64 r, .int .i64 k, .int .i64 m]] w fun e w' => e = .returned (.int .i32 (wrap32 (x + m))) ∧ Below w.heap.size w w' := by
  have hr' : (0 : Int) ≤ r ∧ (r : Int) < 16 := by omega
  go_enter Try.func40, Try.ntmps40
  go_wp2
  go_quiet (fail)
  go_wp2
  go_ret
  exact ⟨rfl, below_drewN ((Below.refl _ _).alloc (Nat.le_refl _) _) _⟩

set_option maxRecDepth 100000 in
set_option maxHeartbeats 1000000 in
theorem made_op (b : Nat) (op : Int) (a r k : Nat) (m x y v : Int) (w : World) (hb : b < w.heap.size) (hr : r < 16) (hk : k < 16) (hc : w.cell? ⟨b, r, none⟩ = some (.int .i32 x)) (hd : w.cell? ⟨b, k, none⟩ = some (.int .i32 y))
    (x0 : -2147483648 ≤ x) (x1 : x ≤ 2147483647) (y0 : -2147483648 ≤ y) (y1 : y ≤ 2147483647) (o0 : 4 ≤ op) (o1 : op ≤ 15) (HB : Hid (opB (op - 3) y = true)) (HV : Hid (opN (op - 3) x y = v)) :
    Calls Try.prog 40 #[.pointer (some ⟨b, 0, none⟩), .agg #[.int .i64 op, .int .i64 a, .int .i64 r, .int .i64 k, .int .i64 m]] w fun e w' => e = .returned (.int .i32 v) ∧ Below w.heap.size w w' := by
  have hr' : (0 : Int) ≤ r ∧ (r : Int) < 16 := by omega
  have hk' : (0 : Int) ≤ k ∧ (k : Int) < 16 := by omega
  have c1 : (op == 1) = false := beq_eq_false_iff_ne.2 (by omega)
  have c2 : (op == 2) = false := beq_eq_false_iff_ne.2 (by omega)
  have c3 : (op == 3) = false := beq_eq_false_iff_ne.2 (by omega)
  have c4 : (op == 16) = false := beq_eq_false_iff_ne.2 (by omega)
  have c5 : (op == 17) = false := beq_eq_false_iff_ne.2 (by omega)
  have hw := fun w' => wop_any (op - 3) x y w' x0 x1 y0 y1
  rw [HB.out, HV.out] at hw
  go_enter Try.func40, Try.ntmps40
  go_wp2_with fail
  go_quiet ((go_at_call 46; exact Calls.quiet_of_same (hw _)))
  go_wp2_with fail
  go_ret
  exact ⟨rfl, below_drewN ((Below.refl _ _).alloc (Nat.le_refl _) _) _⟩

set_option maxRecDepth 100000 in
set_option maxHeartbeats 1000000 in
theorem made_op_bad (b : Nat) (op : Int) (a r k : Nat) (m x y : Int) (w : World) (hb : b < w.heap.size) (hr : r < 16) (hk : k < 16) (hc : w.cell? ⟨b, r, none⟩ = some (.int .i32 x)) (hd : w.cell? ⟨b, k, none⟩ = some (.int .i32 y))
    (x0 : -2147483648 ≤ x) (x1 : x ≤ 2147483647) (y0 : -2147483648 ≤ y) (y1 : y ≤ 2147483647) (o0 : 4 ≤ op) (o1 : op ≤ 15) (HB : Hid (opB (op - 3) y = false)) :
    Calls Try.prog 40 #[.pointer (some ⟨b, 0, none⟩), .agg #[.int .i64 op, .int .i64 a, .int .i64 r, .int .i64 k, .int .i64 m]] w fun e w' => e = thrown 2 ∧ Below w.heap.size w w' := by
  have hr' : (0 : Int) ≤ r ∧ (r : Int) < 16 := by omega
  have hk' : (0 : Int) ≤ k ∧ (k : Int) < 16 := by omega
  have c1 : (op == 1) = false := beq_eq_false_iff_ne.2 (by omega)
  have c2 : (op == 2) = false := beq_eq_false_iff_ne.2 (by omega)
  have c3 : (op == 3) = false := beq_eq_false_iff_ne.2 (by omega)
  have c4 : (op == 16) = false := beq_eq_false_iff_ne.2 (by omega)
  have c5 : (op == 17) = false := beq_eq_false_iff_ne.2 (by omega)
  have hw := fun w' => wop_any (op - 3) x y w' x0 x1 y0 y1
  rw [HB.out] at hw
  generalize opN (op - 3) x y = v at hw
  go_enter Try.func40, Try.ntmps40
  go_wp2_with fail
  go_quiet ((go_at_call 46; exact Calls.quiet_of_same (hw _)))
  go_wp2_with fail
  exact ⟨rfl, rfl, below_drewN ((Below.refl _ _).alloc (Nat.le_refl _) _) _⟩
end Go.Proofs.Ytofhiooodgopeaa.V
