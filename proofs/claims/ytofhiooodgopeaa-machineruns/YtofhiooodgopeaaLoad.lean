/- movh as bits and as a sum. -/
import Derived.Test.YtofhiooodgopeaaAWop
import Derived.Test.YtofhiooodgopeaaGive
namespace Go.Proofs.Ytofhiooodgopeaa.V
open Go.RowKit
theorem and_low (x : Nat) : x &&& 65535 = x % 65536 := Nat.and_two_pow_sub_one_eq_mod x 16
theorem movh_eq (m x : Int) (m0 : 0 ≤ m) (m1 : m ≤ 65535) : bits .or .i32 (wrap32 (m * 65536)) (bits .and .i32 x 65535) = wrap32 (m * 65536 + x % 65536) := by
  have e1 : bits .and .i32 x 65535 = x % 65536 := by
    have e0 : ((65535 : Int) % 4294967296).toNat = 65535 := by decide
    rw [(AM.bits32 _ _).1, e0, and_low, AM.w32]
    omega
  rw [e1, (AM.bits32 _ _).2.1]
  have e2 : (wrap32 (m * 65536) % 4294967296).toNat = m.toNat * 65536 := by rw [AM.w32]; omega
  have e3 : (x % 65536 % 4294967296).toNat = (x % 65536).toNat := by omega
  have e4 : m.toNat * 65536 ||| (x % 65536).toNat = m.toNat * 65536 + (x % 65536).toNat := nat_join 16 _ _ (by omega) (by omega)
  rw [e2, e3, e4]
  have e5 : ((m.toNat * 65536 + (x % 65536).toNat : Nat) : Int) = m * 65536 + x % 65536 := by omega
  rw [e5]
end Go.Proofs.Ytofhiooodgopeaa.V

namespace Go.Proofs.Ytofhiooodgopeaa.V
open Go.RowKit Go.Proofs.Ytofhiooodgopeaa.AW
set_option linter.unusedVariables false

set_option maxRecDepth 100000 in
set_option maxHeartbeats 400000 in
theorem made_mov (b : Nat) (a r k : Nat) (m x : Int) (w : World) (hb : b < w.heap.size) (hr : r < 16) (hc : w.cell? ⟨b, r, none⟩ = some (.int .i32 x)) :
    Calls Try.prog 40 #[.pointer (some ⟨b, 0, none⟩), .agg #[.int .i64 1, .int .i64 a, .int .i64 r, .int .i64 k, .int .i64 m]] w fun e w' => e = .returned (.int .i32 x) ∧ Below w.heap.size w w' := by
  have hr' : (0 : Int) ≤ r ∧ (r : Int) < 16 := by omega
  go_enter Try.func40, Try.ntmps40
  go_wp2
  go_quiet (fail)
  go_wp2
  go_ret
  exact ⟨rfl, below_drewN ((Below.refl _ _).alloc (Nat.le_refl _) _) _⟩

set_option maxRecDepth 100000 in
set_option maxHeartbeats 400000 in
theorem made_movi (b : Nat) (a r k : Nat) (m : Int) (w : World) (m0 : -32768 ≤ m) (m1 : m ≤ 65535) :
    Calls Try.prog 40 #[.pointer (some ⟨b, 0, none⟩), .agg #[.int .i64 2, .int .i64 a, .int .i64 r, .int .i64 k, .int .i64 m]] w fun e w' => e = .returned (.int .i32 m) ∧ Below w.heap.size w w' := by
  go_enter Try.func40, Try.ntmps40
  go_wp2
  go_ret
  exact ⟨rfl, ((Below.refl _ _).alloc (Nat.le_refl _) _)⟩

set_option maxRecDepth 100000 in
set_option maxHeartbeats 400000 in
theorem made_movh (b : Nat) (a r k : Nat) (m x : Int) (w : World) (hb : b < w.heap.size) (ha : a < 16) (hc : w.cell? ⟨b, a, none⟩ = some (.int .i32 x)) (m0 : 0 ≤ m) (m1 : m ≤ 65535) (x0 : -2147483648 ≤ x) (x1 : x ≤ 2147483647) :
    Calls Try.prog 40 #[.pointer (some ⟨b, 0, none⟩), .agg #[.int .i64 3, .int .i64 a, .int .i64 r, .int .i64 k, .int .i64 m]] w fun e w' => e = .returned (.int .i32 (wrap32 (m * 65536 + x % 65536))) ∧ Below w.heap.size w w' := by
  have hr' : (0 : Int) ≤ a ∧ (a : Int) < 16 := by omega
  go_enter Try.func40, Try.ntmps40
  go_wp2
  go_quiet (fail)
  go_wp2
  go_ret
  exact ⟨ret_int (movh_eq m x m0 m1), below_drewN ((Below.refl _ _).alloc (Nat.le_refl _) _) _⟩

set_option maxRecDepth 100000 in
set_option maxHeartbeats 400000 in
theorem made_addi (b : Nat) (a r k : Nat) (m x : Int) (w : World) (hb : b < w.heap.size) (hr : r < 16) (hc : w.cell? ⟨b, r, none⟩ = some (.int .i32 x)) (m0 : -32768 ≤ m) (m1 : m ≤ 65535) :
    Calls Try.prog 40 #[.pointer (some ⟨b, 0, none⟩), .agg #[.int .i64 16, .int .i64 a, .int .i64 r, .int .i64 k, .int .i64 m]] w fun e w' => e = .returned (.int .i32 (wrap32 (x + m))) ∧ Below w.heap.size w w' := by
  have hr' : (0 : Int) ≤ r ∧ (r : Int) < 16 := by omega
  go_enter Try.func40, Try.ntmps40
  go_wp2
  go_quiet (fail)
  go_wp2
  go_ret
  exact ⟨rfl, below_drewN ((Below.refl _ _).alloc (Nat.le_refl _) _) _⟩

set_option maxRecDepth 100000 in
set_option maxHeartbeats 1000000 in
theorem made_op (b : Nat) (op : Int) (a r k : Nat) (m x y v : Int) (w : World) (hb : b < w.heap.size) (hr : r < 16) (hk : k < 16) (hc : w.cell? ⟨b, r, none⟩ = some (.int .i32 x)) (hd : w.cell? ⟨b, k, none⟩ = some (.int .i32 y))
    (x0 : -2147483648 ≤ x) (x1 : x ≤ 2147483647) (y0 : -2147483648 ≤ y) (y1 : y ≤ 2147483647) (o0 : 4 ≤ op) (o1 : op ≤ 15) (HB : Hid (opB (op - 3) y = true)) (HV : Hid (opN (op - 3) x y = v)) :
    Calls Try.prog 40 #[.pointer (some ⟨b, 0, none⟩), .agg #[.int .i64 op, .int .i64 a, .int .i64 r, .int .i64 k, .int .i64 m]] w fun e w' => e = .returned (.int .i32 v) ∧ Below w.heap.size w w' := by
  have hr' : (0 : Int) ≤ r ∧ (r : Int) < 16 := by omega
  have hk' : (0 : Int) ≤ k ∧ (k : Int) < 16 := by omega
  have c1 : (op == 1) = false := beq_eq_false_iff_ne.2 (by omega)
  have c2 : (op == 2) = false := beq_eq_false_iff_ne.2 (by omega)
  have c3 : (op == 3) = false := beq_eq_false_iff_ne.2 (by omega)
  have c4 : (op == 16) = false := beq_eq_false_iff_ne.2 (by omega)
  have c5 : (op == 17) = false := beq_eq_false_iff_ne.2 (by omega)
  have hw := fun w' => wop_any (op - 3) x y w' x0 x1 y0 y1
  rw [HB.out, HV.out] at hw
  go_enter Try.func40, Try.ntmps40
  go_wp2_with fail
  go_quiet ((go_at_call 46; exact Calls.quiet_of_same (hw _)))
  go_wp2_with fail
  go_ret
  exact ⟨rfl, below_drewN ((Below.refl _ _).alloc (Nat.le_refl _) _) _⟩

set_option maxRecDepth 100000 in
set_option maxHeartbeats 1000000 in
theorem made_op_bad (b : Nat) (op : Int) (a r k : Nat) (m x y : Int) (w : World) (hb : b < w.heap.size) (hr : r < 16) (hk : k < 16) (hc : w.cell? ⟨b, r, none⟩ = some (.int .i32 x)) (hd : w.cell? ⟨b, k, none⟩ = some (.int .i32 y))
    (x0 : -2147483648 ≤ x) (x1 : x ≤ 2147483647) (y0 : -2147483648 ≤ y) (y1 : y ≤ 2147483647) (o0 : 4 ≤ op) (o1 : op ≤ 15) (HB : Hid (opB (op - 3) y = false)) :
    Calls Try.prog 40 #[.pointer (some ⟨b, 0, none⟩), .agg #[.int .i64 op, .int .i64 a, .int .i64 r, .int .i64 k, .int .i64 m]] w fun e w' => e = thrown 2 ∧ Below w.heap.size w w' := by
  have hr' : (0 : Int) ≤ r ∧ (r : Int) < 16 := by omega
  have hk' : (0 : Int) ≤ k ∧ (k : Int) < 16 := by omega
  have c1 : (op == 1) = false := beq_eq_false_iff_ne.2 (by omega)
  have c2 : (op == 2) = false := beq_eq_false_iff_ne.2 (by omega)
  have c3 : (op == 3) = false := beq_eq_false_iff_ne.2 (by omega)
  have c4 : (op == 16) = false := beq_eq_false_iff_ne.2 (by omega)
  have c5 : (op == 17) = false := beq_eq_false_iff_ne.2 (by omega)
  have hw := fun w' => wop_any (op - 3) x y w' x0 x1 y0 y1
  rw [HB.out] at hw
  generalize opN (op - 3) x y = v at hw
  go_enter Try.func40, Try.ntmps40
  go_wp2_with fail
  go_quiet ((go_at_call 46; exact Calls.quiet_of_same (hw _)))
  go_wp2_with fail
  exact ⟨rfl, rfl, below_drewN ((Below.refl _ _).alloc (Nat.le_refl _) _) _⟩
end Go.Proofs.Ytofhiooodgopeaa.V

namespace Go.Proofs.Ytofhiooodgopeaa.V
open Go.RowKit Go.Proofs.Ytofhiooodgopeaa.AW
set_option linter.unusedVariables false
set_option linter.unusedSimpArgs false

/-- The worlds in which all that was there is as it was. -/
theorem held_drew (W : World) (n : Nat) : Below W.heap.size W W.drew ∧ (∀ bb o, bb < n → W.drew.cell? ⟨bb, o, none⟩ = W.cell? ⟨bb, o, none⟩) := ⟨(Below.refl _ _).drew, fun _ _ _ => rfl⟩
theorem held_next {W w1 w2 : World} {n : Nat} (hn : W.heap.size = n) (h : Below W.heap.size W w1 ∧ (∀ bb o, bb < n → w1.cell? ⟨bb, o, none⟩ = W.cell? ⟨bb, o, none⟩)) (hb : Below w1.heap.size w1 w2) :
    Below W.heap.size W w2 ∧ (∀ bb o, bb < n → w2.cell? ⟨bb, o, none⟩ = W.cell? ⟨bb, o, none⟩) :=
  ⟨h.1.trans (hb.mono h.1.size), fun bb o hlt => (hb.cell (p := ⟨bb, o, none⟩) (by have := h.1.size; show bb < _; omega)).trans (h.2 bb o hlt)⟩

set_option maxRecDepth 100000 in
set_option maxHeartbeats 1000000 in
theorem made_load (b : Nat) (a r k : Nat) (m x y : Int) (mb M cap : Nat) (t : Nat) (w : World) (hb : b < w.heap.size) (hmb : mb < w.heap.size) (hr : r < 16) (hc : w.cell? ⟨b, r, none⟩ = some (.int .i32 x))
    (hm : w.cell? ⟨b, 21, none⟩ = some (.slice (some ⟨mb, 0, none⟩) M cap)) (x0 : -2147483648 ≤ x) (x1 : x ≤ 2147483647) (m0 : -32768 ≤ m) (m1 : m ≤ 65535) (ht : x + m = t) (h1 : t < M)
    (hz : w.cell? ⟨mb, t, none⟩ = some (.int .i32 y)) :
    Calls Try.prog 40 #[.pointer (some ⟨b, 0, none⟩), .agg #[.int .i64 17, .int .i64 a, .int .i64 r, .int .i64 k, .int .i64 m]] w fun e w' => e = .returned (.int .i32 y) ∧ Below w.heap.size w w' := by
  have ht' : (0 : Int) ≤ t ∧ (t : Int) < M := by omega
  have had := fun w' h1 h2 h3 => address_ok b 17 a r k m x mb M cap w' h1 hr h2 h3 x0 x1 m0 m1 (by omega) (by omega)
  rw [ht] at had
  have HT : Hid (x + m = t) := ht
  clear ht
  go_enter Try.func40, Try.ntmps40
  go_wp2_with fail
  have gb : b < w.heap.size + 1 := by omega
  have gmb : mb < w.heap.size + 1 := by omega
  have g0 : (w.alloc (.cells #[.int .i64 17, .int .i64 a, .int .i64 r, .int .i64 k, .int .i64 m] 57)).heap.size = w.heap.size + 1 := by simp
  have g1 : ∀ o, (w.alloc (.cells #[.int .i64 17, .int .i64 a, .int .i64 r, .int .i64 k, .int .i64 m] 57)).cell? ⟨b, o, none⟩ = w.cell? ⟨b, o, none⟩ := fun o => World.cell?_alloc_past _ _ _ hb
  have g2 : ∀ o, (w.alloc (.cells #[.int .i64 17, .int .i64 a, .int .i64 r, .int .i64 k, .int .i64 m] 57)).cell? ⟨mb, o, none⟩ = w.cell? ⟨mb, o, none⟩ := fun o => World.cell?_alloc_past _ _ _ hmb
  have g3 : ∀ o, (w.alloc (.cells #[.int .i64 17, .int .i64 a, .int .i64 r, .int .i64 k, .int .i64 m] 57)).cell? ⟨w.heap.size, o, none⟩ = (#[Value.int .i64 17, .int .i64 a, .int .i64 r, .int .i64 k, .int .i64 m])[o]? := fun o => World.cell?_alloc_at _ _ _ _ rfl
  have g4 : Below w.heap.size w (w.alloc (.cells #[.int .i64 17, .int .i64 a, .int .i64 r, .int .i64 k, .int .i64 m] 57)) := (Below.refl _ _).alloc (Nat.le_refl _) _
  generalize w.alloc (.cells #[.int .i64 17, .int .i64 a, .int .i64 r, .int .i64 k, .int .i64 m] 57) = W at *
  go_region_held (fun w' => Below W.heap.size W w' ∧ (∀ bb o, bb < w.heap.size + 1 → w'.cell? ⟨bb, o, none⟩ = W.cell? ⟨bb, o, none⟩)) (first | exact held_drew _ _ | exact held_next g0 (by assumption) (by assumption)) ((go_at_call 45; refine (had _ ?_ ?_ ?_).mono ?_; (simp; omega); (simp [g1, hc]); (simp [g1, hm]); rintro e w1 ⟨rfl, hb1⟩))
  go_wp2_with fail
  go_ret
  exact ⟨rfl, g4.trans ((held_next g0 (held_drew _ _) (by assumption)).1.mono (by omega))⟩

set_option maxRecDepth 100000 in
set_option maxHeartbeats 1000000 in
theorem made_load_bad (b : Nat) (a r k : Nat) (m x : Int) (mb M cap : Nat) (w : World) (hb : b < w.heap.size) (hmb : mb < w.heap.size) (hr : r < 16) (hc : w.cell? ⟨b, r, none⟩ = some (.int .i32 x))
    (hm : w.cell? ⟨b, 21, none⟩ = some (.slice (some ⟨mb, 0, none⟩) M cap)) (x0 : -2147483648 ≤ x) (x1 : x ≤ 2147483647) (m0 : -32768 ≤ m) (m1 : m ≤ 65535) (h : x + m < 0 ∨ (¬ x + m < 0 ∧ (M : Int) ≤ x + m)) :
    Calls Try.prog 40 #[.pointer (some ⟨b, 0, none⟩), .agg #[.int .i64 17, .int .i64 a, .int .i64 r, .int .i64 k, .int .i64 m]] w fun e w' => e = thrown 4 ∧ Below w.heap.size w w' := by
  have had := fun w' h1 h2 h3 => address_bad b 17 a r k m x mb M cap w' h1 hr h2 h3 x0 x1 m0 m1 h
  clear h
  go_enter Try.func40, Try.ntmps40
  go_wp2_with fail
  have gb : b < w.heap.size + 1 := by omega
  have gmb : mb < w.heap.size + 1 := by omega
  have g0 : (w.alloc (.cells #[.int .i64 17, .int .i64 a, .int .i64 r, .int .i64 k, .int .i64 m] 57)).heap.size = w.heap.size + 1 := by simp
  have g1 : ∀ o, (w.alloc (.cells #[.int .i64 17, .int .i64 a, .int .i64 r, .int .i64 k, .int .i64 m] 57)).cell? ⟨b, o, none⟩ = w.cell? ⟨b, o, none⟩ := fun o => World.cell?_alloc_past _ _ _ hb
  have g2 : ∀ o, (w.alloc (.cells #[.int .i64 17, .int .i64 a, .int .i64 r, .int .i64 k, .int .i64 m] 57)).cell? ⟨mb, o, none⟩ = w.cell? ⟨mb, o, none⟩ := fun o => World.cell?_alloc_past _ _ _ hmb
  have g3 : ∀ o, (w.alloc (.cells #[.int .i64 17, .int .i64 a, .int .i64 r, .int .i64 k, .int .i64 m] 57)).cell? ⟨w.heap.size, o, none⟩ = (#[Value.int .i64 17, .int .i64 a, .int .i64 r, .int .i64 k, .int .i64 m])[o]? := fun o => World.cell?_alloc_at _ _ _ _ rfl
  have g4 : Below w.heap.size w (w.alloc (.cells #[.int .i64 17, .int .i64 a, .int .i64 r, .int .i64 k, .int .i64 m] 57)) := (Below.refl _ _).alloc (Nat.le_refl _) _
  generalize w.alloc (.cells #[.int .i64 17, .int .i64 a, .int .i64 r, .int .i64 k, .int .i64 m] 57) = W at *
  refine wp_region_held_drew (S := (fun w' => Below W.heap.size W w' ∧ (∀ bb o, bb < w.heap.size + 1 → w'.cell? ⟨bb, o, none⟩ = W.cell? ⟨bb, o, none⟩))) (by kernel_rfl) (held_drew _ _) (fun hHeld => ?_)
  refine wpAnyH_take (i := 0) (v := ?_) rfl (by kernel_rfl) (by kernel_rfl) (by kernel_rfl) (fun _ _ _ h => h) (Or.inl ⟨by rfl, ?_⟩) (by assumption) ?_
  rotate_left
  · (intro w hSw; (try dsimp only at hSw); go_simp) <;> with_reducible rfl
  (try simp only [Act.put, List.setIfInBounds_toArray, List.set_cons_zero, List.set_cons_succ])
  refine wpAnyH_take (i := 1) (v := ?_) rfl (by kernel_rfl) (by kernel_rfl) (by kernel_rfl) (fun _ _ _ h => h) (Or.inl ⟨by rfl, ?_⟩) (by assumption) ?_
  rotate_left
  · (intro w hSw; (try dsimp only at hSw); go_simp) <;> with_reducible rfl
  (try simp only [Act.put, List.setIfInBounds_toArray, List.set_cons_zero, List.set_cons_succ])
  refine wpAnyH_take (i := 2) (v := ?_) rfl (by kernel_rfl) (by kernel_rfl) (by kernel_rfl) (fun _ _ _ h => h) (Or.inl ⟨by rfl, ?_⟩) (by assumption) ?_
  rotate_left
  · (intro w hSw; (try dsimp only at hSw); go_simp) <;> with_reducible rfl
  (try simp only [Act.put, List.setIfInBounds_toArray, List.set_cons_zero, List.set_cons_succ])
  refine wpAnyH_take (i := 3) (v := ?_) rfl (by kernel_rfl) (by kernel_rfl) (by kernel_rfl) (fun _ _ _ h => h) (Or.inl ⟨by rfl, ?_⟩) (by assumption) ?_
  rotate_left
  · (intro w hSw; (try dsimp only at hSw); go_simp) <;> with_reducible rfl
  (try simp only [Act.put, List.setIfInBounds_toArray, List.set_cons_zero, List.set_cons_succ])
  refine wpAnyH_take (i := 4) (v := ?_) rfl (by kernel_rfl) (by kernel_rfl) (by kernel_rfl) (fun _ _ _ h => h) (Or.inl ⟨by rfl, ?_⟩) (by assumption) ?_
  rotate_left
  · (intro w hSw; (try dsimp only at hSw); go_simp) <;> with_reducible rfl
  (try simp only [Act.put, List.setIfInBounds_toArray, List.set_cons_zero, List.set_cons_succ])
  refine wpAnyH_take (i := 5) (v := ?_) rfl (by kernel_rfl) (by kernel_rfl) (by kernel_rfl) (fun _ _ _ h => h) (Or.inl ⟨by rfl, ?_⟩) (by assumption) ?_
  rotate_left
  · (intro w hSw; (try dsimp only at hSw); go_simp) <;> with_reducible rfl
  (try simp only [Act.put, List.setIfInBounds_toArray, List.set_cons_zero, List.set_cons_succ])
  refine wpAnyH_ready (rs := [6]) (by kernel_rfl) (by simp) ?_
  refine AllReadyH.cons rfl (fun K hK => ?_) AllReadyH.nil
  go_simp
  refine (had _ ?_ ?_ ?_).mono ?_
  · simp; omega
  · simp [g1, hc]
  · simp [g1, hm]
  rintro e w1 ⟨rfl, hb1⟩
  exact ⟨rfl, rfl, g4.trans ((held_next g0 (held_drew _ _) hb1).1.mono (by omega))⟩
end Go.Proofs.Ytofhiooodgopeaa.V
