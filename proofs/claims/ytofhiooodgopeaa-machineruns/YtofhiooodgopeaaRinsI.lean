/- The reference's Step at an instruction, more. -/
import Derived.Test.YtofhiooodgopeaaRinsD
namespace Go.Proofs.Ytofhiooodgopeaa.V
open Go.RowKit Go.Proofs.Ytofhiooodgopeaa.M
set_option linter.unusedVariables false
set_option linter.unusedSimpArgs false
variable {w : World} {b mb kc ki ob p1 p2 : Nat} {c : Cf} {s : Sm}

set_option maxRecDepth 100000 in
set_option maxHeartbeats 4000000 in
theorem step_load_bad (h : Rl w b mb kc ki ob p1 p2 c s (-1)) (hok : Ok c s) (hst : s.steps ≤ 300000) (t : Nat) (ht : s.pc = t) (hn : t < c.n) (a r k : Nat) (m : Int) (hA : At w ki kc t 17 a r k m) (ha : a < 16) (hr : r < 16) (hk : k < 16) (m0 : -32768 ≤ m) (m1 : m ≤ 65535) (hx : ¬ (0 ≤ s.R r + m ∧ s.R r + m < c.M)) :
    Calls Try.prog 17 #[.pointer (some ⟨b, 0, none⟩)] w fun e w' => e = .returned (.tuple #[]) ∧ Rl w' b mb kc ki ob p1 p2 c { count s with fin := 4 } 4 ∧ Kp b mb mb ob w w' := by
  have hnM : c.n ≤ 16000 := by have := hok.n0; have := hok.nM; omega
  have e24 := h.x24
  have f24 := (h.fz 24).1
  have e20 := h.x20
  rw [ht] at e20
  have e0 := h.x0
  have e1 := h.x1
  have hb : b < w.heap.size := by have := h.lb; have := h.lo; omega
  have hki : ki < w.heap.size := by have := h.lki; have := h.lo; omega
  have hkc : kc < w.heap.size := by have := h.lkc; have := h.lo; omega
  have n2 := h.n2
  have n3 := h.n3
  obtain ⟨eis, i0, i1, i2, i3, i4⟩ := hA
  have hd0 : decide ((t : Int) < 0) = false := by simp
  have hd1 : decide ((c.n : Int) ≤ t) = false := by simp; omega
  have hd3 : decide (c.n ≤ t) = false := by simp; omega
  have hidx : (0 : Int) ≤ t ∧ (t : Int) < c.n := by omega
  have hd2 : ¬ (c.n : Int) ≤ t := by omega
  have ha' : (0 : Int) ≤ a ∧ (a : Int) < 16 := by omega
  have hr' : (0 : Int) ≤ r ∧ (r : Int) < 16 := by omega
  have hk' : (0 : Int) ≤ k ∧ (k : Int) < 16 := by omega
  have hL1 := h.setSteps (s.steps + 1)
  have HK0 : Hid (Kp b mb mb ob w (w.setCell ⟨b, 24, none⟩ (.int .i64 (↑s.steps + 1)))) := Kp.set ⟨b, 24, none⟩ _ (Or.inl rfl)
  have HL1 := hide hL1
  have HOk := hide hok
  clear h hL1 hok
  go_enter Try.func17, Try.ntmps17
  go_wp2_with fail
  go_quiet (fail)
  generalize nq = q0
  go_wp2_with fail
  have hB0 : Below (w.setCell ⟨b, 24, none⟩ (.int .i64 (↑s.steps + 1))).heap.size (w.setCell ⟨b, 24, none⟩ (.int .i64 (↑s.steps + 1))) ((w.setCell ⟨b, 24, none⟩ (.int .i64 (↑s.steps + 1))).drewN q0) := below_drewN (Below.refl _ _) q0
  have hL2 : Rl ((w.setCell ⟨b, 24, none⟩ (.int .i64 (↑s.steps + 1))).drewN q0) b mb kc ki ob p1 p2 c (count s) (-1) := HL1.out.below hB0
  have HK2 : Hid (Kp b mb mb ob w ((w.setCell ⟨b, 24, none⟩ (.int .i64 (↑s.steps + 1))).drewN q0)) := HK0.out.trans (Kp.of_below hB0 HL1.out.lo)
  have j0 : ((w.setCell ⟨b, 24, none⟩ (.int .i64 (↑s.steps + 1))).drewN q0).cell? ⟨kc, t * 5, none⟩ = some (.int .i64 17) := (set_blk _ _ _ _ _ _ n2).trans i0
  have j1 : ((w.setCell ⟨b, 24, none⟩ (.int .i64 (↑s.steps + 1))).drewN q0).cell? ⟨kc, t * 5 + 1, none⟩ = some (.int .i64 a) := (set_blk _ _ _ _ _ _ n2).trans i1
  have j2 : ((w.setCell ⟨b, 24, none⟩ (.int .i64 (↑s.steps + 1))).drewN q0).cell? ⟨kc, t * 5 + 2, none⟩ = some (.int .i64 r) := (set_blk _ _ _ _ _ _ n2).trans i2
  have j3 : ((w.setCell ⟨b, 24, none⟩ (.int .i64 (↑s.steps + 1))).drewN q0).cell? ⟨kc, t * 5 + 3, none⟩ = some (.int .i64 k) := (set_blk _ _ _ _ _ _ n2).trans i3
  have j4 : ((w.setCell ⟨b, 24, none⟩ (.int .i64 (↑s.steps + 1))).drewN q0).cell? ⟨kc, t * 5 + 4, none⟩ = some (.int .i64 m) := (set_blk _ _ _ _ _ _ n2).trans i4
  have hz2 : w.heap.size = ((w.setCell ⟨b, 24, none⟩ (.int .i64 (↑s.steps + 1))).drewN q0).heap.size := (set_size _ _ _).symm
  clear e24 f24 e20 e0 e1 eis i0 i1 i2 i3 i4 hB0 HK0 HL1
  generalize (w.setCell ⟨b, 24, none⟩ (.int .i64 (↑s.steps + 1))).drewN q0 = W at *
  have e20 := hL2.x20
  have e20' : W.cell? ⟨b, 20, none⟩ = some (.int .i64 t) := by rw [e20]; show some (Value.int .i64 s.pc) = _; rw [ht]
  clear e20
  have e0 := hL2.x0
  have era := hL2.reg a ha
  have err := hL2.reg r hr
  have erk := hL2.reg k hk
  rw [hz2] at hb hkc hki
  have HL2 := hide hL2
  clear hL2 hz2
  go_region_held (fun w' => (∀ bb o, bb < W.heap.size → w'.cell? ⟨bb, o, none⟩ = W.cell? ⟨bb, o, none⟩)) (first | exact fun _ _ _ => rfl | exact fun bb o hlt => (World.cell?_alloc_past _ _ _ hlt)) (fail)
  have hBX : Below W.heap.size W (W.alloc (.cells #[.int .i64 17, .int .i64 a, .int .i64 r, .int .i64 k, .int .i64 m] 57)).drew := ((Below.refl _ _).alloc (Nat.le_refl _) _).drew
  have y : ∀ o, (W.alloc (.cells #[.int .i64 17, .int .i64 a, .int .i64 r, .int .i64 k, .int .i64 m] 57)).drew.cell? ⟨W.heap.size, o, none⟩ = (#[Value.int .i64 17, .int .i64 a, .int .i64 r, .int .i64 k, .int .i64 m])[o]? := fun o => World.cell?_alloc_at _ _ _ _ rfl
  have hL3 := HL2.out.below hBX
  have HK3 : Hid (Kp b mb mb ob w (W.alloc (.cells #[.int .i64 17, .int .i64 a, .int .i64 r, .int .i64 k, .int .i64 m] 57)).drew) := HK2.out.trans (Kp.of_below hBX HL2.out.lo)
  have e22W := HL2.out.x22
  have e23W := HL2.out.x23
  have e18W := HL2.out.reg 14 (by omega)
  clear j0 j1 j2 j3 j4 hBX HK2
  generalize (W.alloc (.cells #[.int .i64 17, .int .i64 a, .int .i64 r, .int .i64 k, .int .i64 m] 57)).drew = X at *
  have z20 : X.cell? ⟨b, 20, none⟩ = some (.int .i64 t) := by rw [hL3.x20]; show some (Value.int .i64 s.pc) = _; rw [ht]
  have zra := hL3.reg a ha
  have zrr := hL3.reg r hr
  have zrk := hL3.reg k hk
  have z22 := hL3.x22
  have f20 := (hL3.fz 20).1
  have HL3 := hide hL3
  clear hL3
  go_wp2_with fail
  go_quiet (fail)
  generalize nq = q1
  go_wp2_with fail
  go_quiet (fail)
  generalize nq = q2
  have rb : -2147483648 ≤ (count s).R r ∧ (count s).R r ≤ 2147483647 := ⟨(HOk.out.reg r).1, (HOk.out.reg r).2⟩
  have z2 := HL3.out.x2
  have e2W := HL2.out.x2
  have z0 := HL3.out.x0
  have hw1 : IntKind.i64.wrap ((count s).R r + m) = (count s).R r + m := by rw [IntKind.wrap_i64]; omega
  by_cases h0 : (count s).R r + m < 0
  · have hd5 : decide ((count s).R r + m < 0) = true := by simpa using h0
    have f22 := (HL3.out.fz 22).1
    go_wp2_with fail
    first | refine bodyPost_ret (results_none rfl _ _ _) rfl ?_ | go_end0
    exact ⟨rfl, ((HL3.out.below (below_drewN (Below.refl _ _) _)).setEnd 4).fin 4, (HK3.out.trans (Kp.of_below (below_drewN (Below.refl _ _) _) HL3.out.lo)).trans (Kp.set ⟨b, 22, none⟩ _ (Or.inl rfl))⟩
  · have hd5 : decide ((count s).R r + m < 0) = false := by simpa using h0
    have h1 : (c.M : Int) ≤ (count s).R r + m := by
      have : ¬ (0 ≤ (count s).R r + m ∧ (count s).R r + m < c.M) := hx
      omega
    have hd6 : decide ((c.M : Int) ≤ (count s).R r + m) = true := by simpa using h1
    have f22 := (HL3.out.fz 22).1
    go_wp2_with fail
    first | refine bodyPost_ret (results_none rfl _ _ _) rfl ?_ | go_end0
    exact ⟨rfl, ((HL3.out.below (below_drewN (Below.refl _ _) _)).setEnd 4).fin 4, (HK3.out.trans (Kp.of_below (below_drewN (Below.refl _ _) _) HL3.out.lo)).trans (Kp.set ⟨b, 22, none⟩ _ (Or.inl rfl))⟩
end Go.Proofs.Ytofhiooodgopeaa.V

namespace Go.Proofs.Ytofhiooodgopeaa.V
open Go.RowKit Go.Proofs.Ytofhiooodgopeaa.M
set_option linter.unusedVariables false
set_option linter.unusedSimpArgs false
variable {w : World} {b mb kc ki ob p1 p2 : Nat} {c : Cf} {s : Sm}

set_option maxRecDepth 100000 in
set_option maxHeartbeats 4000000 in
theorem step_store_bad (h : Rl w b mb kc ki ob p1 p2 c s (-1)) (hok : Ok c s) (hst : s.steps ≤ 300000) (t : Nat) (ht : s.pc = t) (hn : t < c.n) (a r k : Nat) (m : Int) (hA : At w ki kc t 18 a r k m) (ha : a < 16) (hr : r < 16) (hk : k < 16) (m0 : -32768 ≤ m) (m1 : m ≤ 65535) (hx : ¬ ((c.n : Int) ≤ s.R r + m ∧ s.R r + m < c.M)) :
    Calls Try.prog 17 #[.pointer (some ⟨b, 0, none⟩)] w fun e w' => e = .returned (.tuple #[]) ∧ Rl w' b mb kc ki ob p1 p2 c { count s with fin := 4 } 4 ∧ Kp b mb mb ob w w' := by
  have hnM : c.n ≤ 16000 := by have := hok.n0; have := hok.nM; omega
  have e24 := h.x24
  have f24 := (h.fz 24).1
  have e20 := h.x20
  rw [ht] at e20
  have e0 := h.x0
  have e1 := h.x1
  have hb : b < w.heap.size := by have := h.lb; have := h.lo; omega
  have hki : ki < w.heap.size := by have := h.lki; have := h.lo; omega
  have hkc : kc < w.heap.size := by have := h.lkc; have := h.lo; omega
  have n2 := h.n2
  have n3 := h.n3
  obtain ⟨eis, i0, i1, i2, i3, i4⟩ := hA
  have hd0 : decide ((t : Int) < 0) = false := by simp
  have hd1 : decide ((c.n : Int) ≤ t) = false := by simp; omega
  have hd3 : decide (c.n ≤ t) = false := by simp; omega
  have hidx : (0 : Int) ≤ t ∧ (t : Int) < c.n := by omega
  have hd2 : ¬ (c.n : Int) ≤ t := by omega
  have ha' : (0 : Int) ≤ a ∧ (a : Int) < 16 := by omega
  have hr' : (0 : Int) ≤ r ∧ (r : Int) < 16 := by omega
  have hk' : (0 : Int) ≤ k ∧ (k : Int) < 16 := by omega
  have hL1 := h.setSteps (s.steps + 1)
  have HK0 : Hid (Kp b mb mb ob w (w.setCell ⟨b, 24, none⟩ (.int .i64 (↑s.steps + 1)))) := Kp.set ⟨b, 24, none⟩ _ (Or.inl rfl)
  have HL1 := hide hL1
  have HOk := hide hok
  clear h hL1 hok
  go_enter Try.func17, Try.ntmps17
  go_wp2_with fail
  go_quiet (fail)
  generalize nq = q0
  go_wp2_with fail
  have hB0 : Below (w.setCell ⟨b, 24, none⟩ (.int .i64 (↑s.steps + 1))).heap.size (w.setCell ⟨b, 24, none⟩ (.int .i64 (↑s.steps + 1))) ((w.setCell ⟨b, 24, none⟩ (.int .i64 (↑s.steps + 1))).drewN q0) := below_drewN (Below.refl _ _) q0
  have hL2 : Rl ((w.setCell ⟨b, 24, none⟩ (.int .i64 (↑s.steps + 1))).drewN q0) b mb kc ki ob p1 p2 c (count s) (-1) := HL1.out.below hB0
  have HK2 : Hid (Kp b mb mb ob w ((w.setCell ⟨b, 24, none⟩ (.int .i64 (↑s.steps + 1))).drewN q0)) := HK0.out.trans (Kp.of_below hB0 HL1.out.lo)
  have j0 : ((w.setCell ⟨b, 24, none⟩ (.int .i64 (↑s.steps + 1))).drewN q0).cell? ⟨kc, t * 5, none⟩ = some (.int .i64 18) := (set_blk _ _ _ _ _ _ n2).trans i0
  have j1 : ((w.setCell ⟨b, 24, none⟩ (.int .i64 (↑s.steps + 1))).drewN q0).cell? ⟨kc, t * 5 + 1, none⟩ = some (.int .i64 a) := (set_blk _ _ _ _ _ _ n2).trans i1
  have j2 : ((w.setCell ⟨b, 24, none⟩ (.int .i64 (↑s.steps + 1))).drewN q0).cell? ⟨kc, t * 5 + 2, none⟩ = some (.int .i64 r) := (set_blk _ _ _ _ _ _ n2).trans i2
  have j3 : ((w.setCell ⟨b, 24, none⟩ (.int .i64 (↑s.steps + 1))).drewN q0).cell? ⟨kc, t * 5 + 3, none⟩ = some (.int .i64 k) := (set_blk _ _ _ _ _ _ n2).trans i3
  have j4 : ((w.setCell ⟨b, 24, none⟩ (.int .i64 (↑s.steps + 1))).drewN q0).cell? ⟨kc, t * 5 + 4, none⟩ = some (.int .i64 m) := (set_blk _ _ _ _ _ _ n2).trans i4
  have hz2 : w.heap.size = ((w.setCell ⟨b, 24, none⟩ (.int .i64 (↑s.steps + 1))).drewN q0).heap.size := (set_size _ _ _).symm
  clear e24 f24 e20 e0 e1 eis i0 i1 i2 i3 i4 hB0 HK0 HL1
  generalize (w.setCell ⟨b, 24, none⟩ (.int .i64 (↑s.steps + 1))).drewN q0 = W at *
  have e20 := hL2.x20
  have e20' : W.cell? ⟨b, 20, none⟩ = some (.int .i64 t) := by rw [e20]; show some (Value.int .i64 s.pc) = _; rw [ht]
  clear e20
  have e0 := hL2.x0
  have era := hL2.reg a ha
  have err := hL2.reg r hr
  have erk := hL2.reg k hk
  rw [hz2] at hb hkc hki
  have HL2 := hide hL2
  clear hL2 hz2
  go_region_held (fun w' => (∀ bb o, bb < W.heap.size → w'.cell? ⟨bb, o, none⟩ = W.cell? ⟨bb, o, none⟩)) (first | exact fun _ _ _ => rfl | exact fun bb o hlt => (World.cell?_alloc_past _ _ _ hlt)) (fail)
  have hBX : Below W.heap.size W (W.alloc (.cells #[.int .i64 18, .int .i64 a, .int .i64 r, .int .i64 k, .int .i64 m] 57)).drew := ((Below.refl _ _).alloc (Nat.le_refl _) _).drew
  have y : ∀ o, (W.alloc (.cells #[.int .i64 18, .int .i64 a, .int .i64 r, .int .i64 k, .int .i64 m] 57)).drew.cell? ⟨W.heap.size, o, none⟩ = (#[Value.int .i64 18, .int .i64 a, .int .i64 r, .int .i64 k, .int .i64 m])[o]? := fun o => World.cell?_alloc_at _ _ _ _ rfl
  have hL3 := HL2.out.below hBX
  have HK3 : Hid (Kp b mb mb ob w (W.alloc (.cells #[.int .i64 18, .int .i64 a, .int .i64 r, .int .i64 k, .int .i64 m] 57)).drew) := HK2.out.trans (Kp.of_below hBX HL2.out.lo)
  have e22W := HL2.out.x22
  have e23W := HL2.out.x23
  have e18W := HL2.out.reg 14 (by omega)
  clear j0 j1 j2 j3 j4 hBX HK2
  generalize (W.alloc (.cells #[.int .i64 18, .int .i64 a, .int .i64 r, .int .i64 k, .int .i64 m] 57)).drew = X at *
  have z20 : X.cell? ⟨b, 20, none⟩ = some (.int .i64 t) := by rw [hL3.x20]; show some (Value.int .i64 s.pc) = _; rw [ht]
  have zra := hL3.reg a ha
  have zrr := hL3.reg r hr
  have zrk := hL3.reg k hk
  have z22 := hL3.x22
  have f20 := (hL3.fz 20).1
  have HL3 := hide hL3
  clear hL3
  go_wp2_with fail
  go_quiet (fail)
  generalize nq = q1
  go_wp2_with fail
  go_quiet (fail)
  generalize nq = q2
  have rb : -2147483648 ≤ (count s).R r ∧ (count s).R r ≤ 2147483647 := ⟨(HOk.out.reg r).1, (HOk.out.reg r).2⟩
  have z2 := HL3.out.x2
  have e2W := HL2.out.x2
  have z0 := HL3.out.x0
  have hw1 : IntKind.i64.wrap ((count s).R r + m) = (count s).R r + m := by rw [IntKind.wrap_i64]; omega
  by_cases h0 : (count s).R r + m < 0
  · have hd5 : decide ((count s).R r + m < 0) = true := by simpa using h0
    have f22 := (HL3.out.fz 22).1
    go_wp2_with fail
    first | refine bodyPost_ret (results_none rfl _ _ _) rfl ?_ | go_end0
    exact ⟨rfl, ((HL3.out.below (below_drewN (Below.refl _ _) _)).setEnd 4).fin 4, (HK3.out.trans (Kp.of_below (below_drewN (Below.refl _ _) _) HL3.out.lo)).trans (Kp.set ⟨b, 22, none⟩ _ (Or.inl rfl))⟩
  · have hd5 : decide ((count s).R r + m < 0) = false := by simpa using h0
    by_cases h1 : (c.M : Int) ≤ (count s).R r + m
    · have hd6 : decide ((c.M : Int) ≤ (count s).R r + m) = true := by simpa using h1
      have f22 := (HL3.out.fz 22).1
      go_wp2_with fail
      first | refine bodyPost_ret (results_none rfl _ _ _) rfl ?_ | go_end0
      exact ⟨rfl, ((HL3.out.below (below_drewN (Below.refl _ _) _)).setEnd 4).fin 4, (HK3.out.trans (Kp.of_below (below_drewN (Below.refl _ _) _) HL3.out.lo)).trans (Kp.set ⟨b, 22, none⟩ _ (Or.inl rfl))⟩
    · have hd6 : decide ((c.M : Int) ≤ (count s).R r + m) = false := by simpa using h1
      have h2 : (count s).R r + m < c.n := by
        have : ¬ ((c.n : Int) ≤ (count s).R r + m ∧ (count s).R r + m < c.M) := hx
        omega
      have hd7 : decide ((count s).R r + m < c.n) = true := by simpa using h2
      have f22 := (HL3.out.fz 22).1
      go_wp2_with fail
      first | refine bodyPost_ret (results_none rfl _ _ _) rfl ?_ | go_end0
      exact ⟨rfl, ((HL3.out.below (below_drewN (Below.refl _ _) _)).setEnd 4).fin 4, (HK3.out.trans (Kp.of_below (below_drewN (Below.refl _ _) _) HL3.out.lo)).trans (Kp.set ⟨b, 22, none⟩ _ (Or.inl rfl))⟩
end Go.Proofs.Ytofhiooodgopeaa.V
