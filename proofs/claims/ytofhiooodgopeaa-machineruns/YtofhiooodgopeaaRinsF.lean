/- The reference's Step at an instruction, more. -/
import Derived.Test.YtofhiooodgopeaaRins
namespace Go.Proofs.Ytofhiooodgopeaa.V
open Go.RowKit Go.Proofs.Ytofhiooodgopeaa.M
set_option linter.unusedVariables false
set_option linter.unusedSimpArgs false
variable {w : World} {b mb kc ki ob p1 p2 : Nat} {c : Cf} {s : Sm}

set_option maxRecDepth 100000 in
set_option maxHeartbeats 4000000 in
theorem step_op (h : Rl w b mb kc ki ob p1 p2 c s (-1)) (hok : Ok c s) (hst : s.steps ≤ 300000) (t : Nat) (ht : s.pc = t) (hn : t < c.n) (op : Int) (a r k : Nat) (m : Int) (hA : At w ki kc t op a r k m) (ha : a < 16) (hr : r < 16) (hk : k < 16) (m0 : -32768 ≤ m) (m1 : m ≤ 65535) (o4 : 4 ≤ op) (o15 : op ≤ 15) (HB : Hid (AW.opB (op - 3) (s.R k) = true)) :
    Calls Try.prog 17 #[.pointer (some ⟨b, 0, none⟩)] w fun e w' => e = .returned (.tuple #[]) ∧ Rl w' b mb kc ki ob p1 p2 c (gave c s a (AW.opN (op - 3) (s.R r) (s.R k))) (endOf (giveFin c a (AW.opN (op - 3) (s.R r) (s.R k)))) ∧ Kp b mb mb ob w w' := by
  have hnM : c.n ≤ 16000 := by have := hok.n0; have := hok.nM; omega
  have e24 := h.x24
  have f24 := (h.fz 24).1
  have e20 := h.x20
  rw [ht] at e20
  have e0 := h.x0
  have e1 := h.x1
  have hb : b < w.heap.size := by have := h.lb; have := h.lo; omega
  have hki : ki < w.heap.size := by have := h.lki; have := h.lo; omega
  have hkc : kc < w.heap.size := by have := h.lkc; have := h.lo; omega
  have n2 := h.n2
  have n3 := h.n3
  obtain ⟨eis, i0, i1, i2, i3, i4⟩ := hA
  have hd0 : decide ((t : Int) < 0) = false := by simp
  have hd1 : decide ((c.n : Int) ≤ t) = false := by simp; omega
  have hd3 : decide (c.n ≤ t) = false := by simp; omega
  have hidx : (0 : Int) ≤ t ∧ (t : Int) < c.n := by omega
  have hd2 : ¬ (c.n : Int) ≤ t := by omega
  have ha' : (0 : Int) ≤ a ∧ (a : Int) < 16 := by omega
  have hr' : (0 : Int) ≤ r ∧ (r : Int) < 16 := by omega
  have hk' : (0 : Int) ≤ k ∧ (k : Int) < 16 := by omega
  have hL1 := h.setSteps (s.steps + 1)
  have HK0 : Hid (Kp b mb mb ob w (w.setCell ⟨b, 24, none⟩ (.int .i64 (↑s.steps + 1)))) := Kp.set ⟨b, 24, none⟩ _ (Or.inl rfl)
  have HL1 := hide hL1
  have HOk := hide hok
  clear h hL1 hok
  go_enter Try.func17, Try.ntmps17
  go_wp2_with fail
  go_quiet (fail)
  generalize nq = q0
  go_wp2_with fail
  have hB0 : Below (w.setCell ⟨b, 24, none⟩ (.int .i64 (↑s.steps + 1))).heap.size (w.setCell ⟨b, 24, none⟩ (.int .i64 (↑s.steps + 1))) ((w.setCell ⟨b, 24, none⟩ (.int .i64 (↑s.steps + 1))).drewN q0) := below_drewN (Below.refl _ _) q0
  have hL2 : Rl ((w.setCell ⟨b, 24, none⟩ (.int .i64 (↑s.steps + 1))).drewN q0) b mb kc ki ob p1 p2 c (count s) (-1) := HL1.out.below hB0
  have HK2 : Hid (Kp b mb mb ob w ((w.setCell ⟨b, 24, none⟩ (.int .i64 (↑s.steps + 1))).drewN q0)) := HK0.out.trans (Kp.of_below hB0 HL1.out.lo)
  have j0 : ((w.setCell ⟨b, 24, none⟩ (.int .i64 (↑s.steps + 1))).drewN q0).cell? ⟨kc, t * 5, none⟩ = some (.int .i64 op) := (set_blk _ _ _ _ _ _ n2).trans i0
  have j1 : ((w.setCell ⟨b, 24, none⟩ (.int .i64 (↑s.steps + 1))).drewN q0).cell? ⟨kc, t * 5 + 1, none⟩ = some (.int .i64 a) := (set_blk _ _ _ _ _ _ n2).trans i1
  have j2 : ((w.setCell ⟨b, 24, none⟩ (.int .i64 (↑s.steps + 1))).drewN q0).cell? ⟨kc, t * 5 + 2, none⟩ = some (.int .i64 r) := (set_blk _ _ _ _ _ _ n2).trans i2
  have j3 : ((w.setCell ⟨b, 24, none⟩ (.int .i64 (↑s.steps + 1))).drewN q0).cell? ⟨kc, t * 5 + 3, none⟩ = some (.int .i64 k) := (set_blk _ _ _ _ _ _ n2).trans i3
  have j4 : ((w.setCell ⟨b, 24, none⟩ (.int .i64 (↑s.steps + 1))).drewN q0).cell? ⟨kc, t * 5 + 4, none⟩ = some (.int .i64 m) := (set_blk _ _ _ _ _ _ n2).trans i4
  have hz2 : w.heap.size = ((w.setCell ⟨b, 24, none⟩ (.int .i64 (↑s.steps + 1))).drewN q0).heap.size := (set_size _ _ _).symm
  clear e24 f24 e20 e0 e1 eis i0 i1 i2 i3 i4 hB0 HK0 HL1
  generalize (w.setCell ⟨b, 24, none⟩ (.int .i64 (↑s.steps + 1))).drewN q0 = W at *
  have e20 := hL2.x20
  have e20' : W.cell? ⟨b, 20, none⟩ = some (.int .i64 t) := by rw [e20]; show some (Value.int .i64 s.pc) = _; rw [ht]
  clear e20
  have e0 := hL2.x0
  have era := hL2.reg a ha
  have err := hL2.reg r hr
  have erk := hL2.reg k hk
  rw [hz2] at hb hkc hki
  have HL2 := hide hL2
  clear hL2 hz2
  go_region_held (fun w' => (∀ bb o, bb < W.heap.size → w'.cell? ⟨bb, o, none⟩ = W.cell? ⟨bb, o, none⟩)) (first | exact fun _ _ _ => rfl | exact fun bb o hlt => (World.cell?_alloc_past _ _ _ hlt)) (fail)
  have hBX : Below W.heap.size W (W.alloc (.cells #[.int .i64 op, .int .i64 a, .int .i64 r, .int .i64 k, .int .i64 m] 57)).drew := ((Below.refl _ _).alloc (Nat.le_refl _) _).drew
  have y : ∀ o, (W.alloc (.cells #[.int .i64 op, .int .i64 a, .int .i64 r, .int .i64 k, .int .i64 m] 57)).drew.cell? ⟨W.heap.size, o, none⟩ = (#[Value.int .i64 op, .int .i64 a, .int .i64 r, .int .i64 k, .int .i64 m])[o]? := fun o => World.cell?_alloc_at _ _ _ _ rfl
  have hL3 := HL2.out.below hBX
  have HK3 : Hid (Kp b mb mb ob w (W.alloc (.cells #[.int .i64 op, .int .i64 a, .int .i64 r, .int .i64 k, .int .i64 m] 57)).drew) := HK2.out.trans (Kp.of_below hBX HL2.out.lo)
  have e22W := HL2.out.x22
  have e23W := HL2.out.x23
  have e18W := HL2.out.reg 14 (by omega)
  clear j0 j1 j2 j3 j4 hBX HK2
  generalize (W.alloc (.cells #[.int .i64 op, .int .i64 a, .int .i64 r, .int .i64 k, .int .i64 m] 57)).drew = X at *
  have z20 : X.cell? ⟨b, 20, none⟩ = some (.int .i64 t) := by rw [hL3.x20]; show some (Value.int .i64 s.pc) = _; rw [ht]
  have zra := hL3.reg a ha
  have zrr := hL3.reg r hr
  have zrk := hL3.reg k hk
  have z22 := hL3.x22
  have f20 := (hL3.fz 20).1
  have HL3 := hide hL3
  clear hL3
  go_wp2_with fail
  go_quiet (fail)
  generalize nq = q1
  go_wp2_with fail
  go_quiet (fail)
  generalize nq = q2
  have rb := HOk.out.reg r
  have rk := HOk.out.reg k
  have c1 : (op == 1) = false := beq_eq_false_iff_ne.2 (by omega)
  have c2 : (op == 2) = false := beq_eq_false_iff_ne.2 (by omega)
  have c3 : (op == 3) = false := beq_eq_false_iff_ne.2 (by omega)
  have c16 : (op == 16) = false := beq_eq_false_iff_ne.2 (by omega)
  have c17 : (op == 17) = false := beq_eq_false_iff_ne.2 (by omega)
  have c18 : (op == 18) = false := beq_eq_false_iff_ne.2 (by omega)
  have c19 : (op == 19) = false := beq_eq_false_iff_ne.2 (by omega)
  have c20 : (op == 20) = false := beq_eq_false_iff_ne.2 (by omega)
  have c21 : (op == 21) = false := beq_eq_false_iff_ne.2 (by omega)
  have c22 : (op == 22) = false := beq_eq_false_iff_ne.2 (by omega)
  have c23 : (op == 23) = false := beq_eq_false_iff_ne.2 (by omega)
  have c24 : (op == 24) = false := beq_eq_false_iff_ne.2 (by omega)
  have c25 : (op == 25) = false := beq_eq_false_iff_ne.2 (by omega)
  have hop := fun w' => AW.rop_any (op - 3) ((count s).R r) ((count s).R k) w' rb.1 rb.2 rk.1 rk.2
  rw [show AW.opB (op - 3) ((count s).R k) = _ from HB.out] at hop
  have hfit := fit_op (op - 3) (s.R r) (s.R k) rb rk
  go_wp2_with fail
  have hwo : IntKind.i64.wrap (op - 3) = op - 3 := by rw [IntKind.wrap_i64]; omega
  go_quiet ((go_at_call 24; first | (refine (hop _).mono ?_; rintro e w4 ⟨rfl, rfl⟩; exact ⟨rfl, _, rfl⟩) | (rw [hwo]; refine (hop _).mono ?_; rintro e w4 ⟨rfl, rfl⟩; exact ⟨rfl, _, rfl⟩)))
  generalize nq = q3
  go_wp2_with fail
  go_at_call 22
  refine (put_any (HL3.out.below (below_drewN (Below.refl _ _) _)) HOk.out.low.2 a (AW.opN (op - 3) (s.R r) (s.R k)) ha (hfit)).mono ?_
  rintro e w5 ⟨rfl, hL5, hK5⟩
  have hK6 := (HK3.out.trans (Kp.of_below (below_drewN (Below.refl _ _) _) HL3.out.lo)).trans hK5
  have HK6 := hide hK6
  clear hK5 hK6
  by_cases hg : giveFin c a (AW.opN (op - 3) (s.R r) (s.R k)) = 0
  · have hp : putEnd c a (AW.opN (op - 3) (s.R r) (s.R k)) (-1) = -1 := by unfold putEnd; rw [if_pos hg]
    rw [hp] at hL5
    have u22 := hL5.x22
    have u20 := hL5.x20
    have v20 := (hL5.fz 20).1
    have HL5 := hide hL5
    have HG := hide hg
    clear hL5 hp hg
    go_wp2_with fail
    go_end0
    refine ⟨rfl, ?_, HK6.out.trans (Kp.set ⟨b, 20, none⟩ _ (Or.inl rfl))⟩
    rw [gave_go HG.out, HG.out, ht]
    exact (HL5.out.setPc _).fin 0
  · have hp : putEnd c a (AW.opN (op - 3) (s.R r) (s.R k)) (-1) = giveFin c a (AW.opN (op - 3) (s.R r) (s.R k)) := by unfold putEnd; rw [if_neg hg]
    rw [hp] at hL5
    have u22 := hL5.x22
    have hneg := giveFin_pos c a (AW.opN (op - 3) (s.R r) (s.R k)) hg
    have HL5 := hide hL5
    have HG := hide hg
    clear hL5 hp hg
    go_wp2_with fail
    go_end0
    refine ⟨rfl, ?_, HK6.out⟩
    rw [gave_end HG.out, show endOf (giveFin c a (AW.opN (op - 3) (s.R r) (s.R k))) = giveFin c a (AW.opN (op - 3) (s.R r) (s.R k)) by unfold endOf; rw [if_neg HG.out]]
    exact HL5.out.fin _

end Go.Proofs.Ytofhiooodgopeaa.V
