/- The walk of MachineRuns. -/
import Derived.Test.YtofhiooodgopeaaRlaw
import Derived.Test.YtofhiooodgopeaaOpen
namespace Go.Proofs.Ytofhiooodgopeaa.V
open Go.RowKit Go.Proofs.Ytofhiooodgopeaa.M
set_option linter.unusedVariables false
set_option linter.unusedSimpArgs false
variable {w : World} {ca da : Option Addr} {nc cc nd cd : Nat} {code data : Nat → Int} {M fuel : Int}

set_option maxRecDepth 100000 in
set_option maxHeartbeats 4000000 in
theorem rgs_at {w : World} {b mb kc ki ob p1 p2 : Nat} {c : Cf} {s : Sm} {en : Int} (h : Rl w b mb kc ki ob p1 p2 c s en) (j : Nat) (v : Value) (hv : (rgs s.R).toList[j]? = some v) : w.cell? ⟨b, 4 + j, none⟩ = some v := by
  have hj : j < 16 := by simpa using (List.getElem?_eq_some_iff.1 hv).1
  rw [h.reg j hj, ← hv]
  have : j = 0 ∨ j = 1 ∨ j = 2 ∨ j = 3 ∨ j = 4 ∨ j = 5 ∨ j = 6 ∨ j = 7 ∨ j = 8 ∨ j = 9 ∨ j = 10 ∨ j = 11 ∨ j = 12 ∨ j = 13 ∨ j = 14 ∨ j = 15 := by omega
  rcases this with rfl | rfl | rfl | rfl | rfl | rfl | rfl | rfl | rfl | rfl | rfl | rfl | rfl | rfl | rfl | rfl <;> rfl

set_option maxRecDepth 100000 in
set_option maxHeartbeats 4000000 in
theorem law_ok (hI : Img w ca da nc nd code data) (M0 : -9223372036854775808 ≤ M) (M1 : M ≤ 9223372036854775807) (hm : mayB nc nd M = true) (hd1 : decide (fuel < 0) = false) (hd2 : decide (300000 < fuel) = false) (s : Sm) (c : Cf) (hfin : 0 ≤ s.fin) (hl : s.out.length ≤ 1000000)
    (HR : Hid (∀ w', Below w.heap.size w w' → Calls Try.prog 5 #[.agg #[.slice ca nc cc, .slice da nd cd, .int .i64 M], .int .i64 fuel] w' fun e w'' => ∃ ov, e = .returned (.tuple #[.agg #[.int .i64 s.fin, .int .i32 s.val, ov, .int .i64 ↑s.steps], .int .i64 0]) ∧ w''.ownsRow w'.heap.size 21 1 ov s.out.length (s.out.map (Value.int .i32)) ∧ Below w'.heap.size w' w''))
    (HS : Hid (∀ w', Below w.heap.size w w' → Calls Try.prog 6 #[.agg #[.slice ca nc cc, .slice da nd cd, .int .i64 M], .int .i64 fuel] w' fun e w'' => e = .returned (.tuple #[.agg (rcells s.R s.pc), .int .i64 0]) ∧ Below w'.heap.size w' w''))
    (HX : Hid (∀ w', Below w.heap.size w w' → Calls Try.prog 10 #[.agg #[.slice ca nc cc, .slice da nd cd, .int .i64 M], .int .i64 fuel] w' fun e w'' => ∃ b mb kc ki ob p1 p2, e = .returned (.pointer (some ⟨b, 0, none⟩)) ∧ Below w'.heap.size w' w'' ∧ w'.heap.size ≤ b ∧ w'.heap.size ≤ ob ∧ Rl w'' b mb kc ki ob p1 p2 c s (endOf s.fin))) :
    Calls Try.prog 3 #[.agg #[.slice ca nc cc, .slice da nd cd, .int .i64 M], .int .i64 fuel] w fun e w' => e = .returned (.bool true) ∧ Below w.heap.size w w' := by
  have hck : chk nc nd M = 0 := by unfold chk; rw [hm]; rfl
  have HQ : Hid (∀ w', (Op.equal 33 (.agg (rcells s.R s.pc)) (.agg (rcells s.R s.pc))).run Try.prog w' = .ok true w') := eq33 s.R s.pc
  have HMx : Hid (max (endOf s.fin) 0 = s.fin) := by show _ = _; unfold endOf; split <;> omega
  go_enter Try.func3, Try.ntmps3
  go_wp2_with fail
  have hB0 : Below w.heap.size w (w.alloc (.cells #[.slice ca nc cc, .slice da nd cd, .int .i64 M] 25)) := (Below.refl _ _).alloc (Nat.le_refl _) _
  go_at_call 5
  refine (HR.out _ hB0).mono ?_
  rintro e w1 ⟨ov1, rfl, ho1, hb1⟩
  obtain ⟨oa1, oc1, rfl⟩ := own_form ho1
  have HO1 : Hid (w1.ownsRow 0 21 1 (.slice oa1 s.out.length oc1) s.out.length (s.out.map (Value.int .i32))) := ownsRow_base ho1 (Nat.zero_le _)
  have hB1 : Below w.heap.size w w1 := hB0.trans (hb1.mono (by simp))
  have hz1 : w.heap.size < w1.heap.size := by have := hb1.size; simp at this; omega
  have hx1 : ∀ o, w1.cell? ⟨w.heap.size, o, none⟩ = (#[Value.slice ca nc cc, .slice da nd cd, .int .i64 M])[o]? := fun o => (hb1.cell (p := ⟨w.heap.size, o, none⟩) (by simp)).trans (World.cell?_alloc_at _ _ _ _ rfl)
  clear hb1 hB0
  go_wp2_with fail
  go_at_call 6
  refine (HS.out _ (hB1.alloc hB1.size _)).mono ?_
  rintro e w2 ⟨rfl, hb2⟩
  have hB2 : Below w.heap.size w w2 := (hB1.alloc hB1.size _).trans (hb2.mono (by simp; omega))
  have hz2 : w1.heap.size < w2.heap.size := by have := hb2.size; simp at this; omega
  have hy2 : ∀ o, w2.cell? ⟨w1.heap.size, o, none⟩ = (#[Value.int .i64 s.fin, .int .i32 s.val, .slice oa1 s.out.length oc1, .int .i64 ↑s.steps])[o]? := fun o => (hb2.cell (p := ⟨w1.heap.size, o, none⟩) (by simp)).trans (World.cell?_alloc_at _ _ _ _ rfl)
  have hx2 : ∀ o, w2.cell? ⟨w.heap.size, o, none⟩ = (#[Value.slice ca nc cc, .slice da nd cd, .int .i64 M])[o]? := fun o => (hb2.cell (p := ⟨w.heap.size, o, none⟩) (by simp; omega)).trans ((World.cell?_alloc_past _ _ _ hz1).trans (hx1 o))
  have HO2 : Hid (w2.ownsRow 0 21 1 (.slice oa1 s.out.length oc1) s.out.length (s.out.map (Value.int .i32))) := ownsRow_below (ownsRow_below HO1.out ((Below.refl _ _).alloc (Nat.le_refl _) (.cells #[Value.int .i64 s.fin, .int .i32 s.val, .slice oa1 s.out.length oc1, .int .i64 ↑s.steps] 27))) (hb2.mono (by simp))
  clear HO1 ho1
  clear hx1 hb2
  have hT : (w2.alloc (.cells zz33 33)).there w2.heap.size 0 (rcells s.R s.pc).size := there_block (al_new w2 (.cells zz33 33) _ rfl) _ rfl
  have HT := hide hT
  have HB3 : Hid (Below w2.heap.size w2 ((w2.alloc (.cells zz33 33)).setCells w2.heap.size 0 (rcells s.R s.pc).toList)) := setCells_below _ (Nat.le_refl _) _ _ _ ((Below.refl _ _).alloc (Nat.le_refl _) _)
  have hx3 : ∀ o, ((w2.alloc (.cells zz33 33)).setCells w2.heap.size 0 (rcells s.R s.pc).toList).cell? ⟨w.heap.size, o, none⟩ = (#[Value.slice ca nc cc, .slice da nd cd, .int .i64 M])[o]? := fun o => (HB3.out.cell (p := ⟨w.heap.size, o, none⟩) (by show w.heap.size < _; omega)).trans (hx2 o)
  have HG3 : Hid (((w2.alloc (.cells zz33 33)).setCells w2.heap.size 0 (rcells s.R s.pc).toList).rangeAt w2.heap.size 0 (rcells s.R s.pc).toList) := World.rangeAt_setCells_same (w2.alloc (.cells zz33 33)) w2.heap.size 0 (rcells s.R s.pc).toList HT.out
  have HZ3 : Hid (((w2.alloc (.cells zz33 33)).setCells w2.heap.size 0 (rcells s.R s.pc).toList).heap.size = w2.heap.size + 1) := by show _ = _; rw [setCells_size]; simp
  clear hT hx2
  go_wp2_with (refine wpList_store_mid rfl 33 (.tmp 7) (.tmp 22) rfl w2.heap.size 0 (rcells s.R s.pc) rfl rfl ?_ info33 ?_ ?_; exact HT.out; (case _ => exact one33 _ _))
  go_at_call 7
  refine (check_img ca da nc cc nd cd M _ hI.nc hI.nd M0 M1).mono ?_
  rintro e w3 ⟨rfl, hb3⟩
  rw [hck]
  have hx4 : ∀ o, w3.cell? ⟨w.heap.size, o, none⟩ = (#[Value.slice ca nc cc, .slice da nd cd, .int .i64 M])[o]? := fun o => (hb3.cell (p := ⟨w.heap.size, o, none⟩) (by show w.heap.size < _; rw [HZ3.out]; omega)).trans (hx3 o)
  have HF3 : Hid (Below w2.heap.size w2 w3 ∧ w2.heap.size < w3.heap.size ∧ w3.rangeAt w2.heap.size 0 (rcells s.R s.pc).toList) := by
    have hs : w2.heap.size + 1 ≤ w3.heap.size := Nat.le_trans (Nat.le_of_eq HZ3.out.symm) hb3.size
    refine ⟨HB3.out.trans (hb3.mono (Nat.le_trans (Nat.le_succ _) (Nat.le_of_eq HZ3.out.symm))), by omega, fun j v hv => ?_⟩
    exact (hb3.cell (p := ⟨w2.heap.size, 0 + j, none⟩) (Nat.lt_of_lt_of_eq (Nat.lt_succ_self _) HZ3.out.symm)).trans (HG3.out j v hv)
  clear hx3 HG3 HZ3 hb3 HB3 HT
  go_wp2_with fail
  go_at_call 8
  refine (may_img ca da nc cc nd cd M _ hI.nc hI.nd M0 M1).mono ?_
  rintro e w4 ⟨rfl, hb4⟩
  rw [hm]
  have hs4 := hb4.size
  have hs3 := HF3.out.2.1
  have hx5 : ∀ o, w4.cell? ⟨w.heap.size, o, none⟩ = (#[Value.slice ca nc cc, .slice da nd cd, .int .i64 M])[o]? := fun o => (hb4.cell (p := ⟨w.heap.size, o, none⟩) (by show w.heap.size < _; omega)).trans (hx4 o)
  have hy5 : ∀ o, w4.cell? ⟨w1.heap.size, o, none⟩ = (#[Value.int .i64 s.fin, .int .i32 s.val, .slice oa1 s.out.length oc1, .int .i64 ↑s.steps])[o]? := fun o => (hb4.cell (p := ⟨w1.heap.size, o, none⟩) (by show w1.heap.size < _; omega)).trans ((HF3.out.1.cell (p := ⟨w1.heap.size, o, none⟩) (by show w1.heap.size < _; omega)).trans (hy2 o))
  have HF4 : Hid (Below w2.heap.size w2 w4 ∧ w2.heap.size < w4.heap.size ∧ w4.rangeAt w2.heap.size 0 (rcells s.R s.pc).toList) := by
    refine ⟨HF3.out.1.trans (hb4.mono (by omega)), by omega, fun j v hv => ?_⟩
    exact (hb4.cell (p := ⟨w2.heap.size, 0 + j, none⟩) (by show w2.heap.size < _; omega)).trans (HF3.out.2.2 j v hv)
  have hB4 : Below w.heap.size w w4 := hB2.trans (HF4.out.1.mono (by omega))
  have hq4 : w2.heap.size < w4.heap.size := HF4.out.2.1
  clear hx4 HF3 hb4 hy2 hs3 hs4
  go_wp2_with fail
  go_at_call 10
  refine (HX.out _ hB4).mono ?_
  rintro e w5 ⟨b, mb, kc, ki, ob, p1, p2, rfl, hb5, gb, gob, hRl⟩
  have hs5 := hb5.size
  have hB5 : Below w.heap.size w w5 := hB4.trans (hb5.mono hB4.size)
  have hy6 : ∀ o, w5.cell? ⟨w1.heap.size, o, none⟩ = (#[Value.int .i64 s.fin, .int .i32 s.val, .slice oa1 s.out.length oc1, .int .i64 ↑s.steps])[o]? := fun o => (hb5.cell (p := ⟨w1.heap.size, o, none⟩) (by show w1.heap.size < _; omega)).trans (hy5 o)
  have HF5 : Hid (w5.rangeAt w2.heap.size 0 (rcells s.R s.pc).toList) := fun j v hv => (hb5.cell (p := ⟨w2.heap.size, 0 + j, none⟩) (by show w2.heap.size < _; omega)).trans (HF4.out.2.2 j v hv)
  have HO5 : Hid (w5.ownsRow 0 21 1 (.slice oa1 s.out.length oc1) s.out.length (s.out.map (Value.int .i32))) := ownsRow_below HO2.out (HF4.out.1.trans (hb5.mono (by omega)))
  have HRl := hide hRl
  have hbb : b < w5.heap.size := by have := hRl.lb; have := hRl.lo; omega
  clear HF4 hy5 hx5 hb5 HO2 hRl hB4
  go_wp2_with fail
  go_at_call 11
  refine (stop_any HRl.out).mono ?_
  rintro e w6 ⟨v2, rfl, ho2, hb6⟩
  obtain ⟨oa2, oc2, rfl⟩ := own_form ho2
  rw [HMx.out]
  have hs6 := hb6.size
  have hy7 : ∀ o, w6.cell? ⟨w1.heap.size, o, none⟩ = (#[Value.int .i64 s.fin, .int .i32 s.val, .slice oa1 s.out.length oc1, .int .i64 ↑s.steps])[o]? := fun o => (hb6.cell (p := ⟨w1.heap.size, o, none⟩) (by show w1.heap.size < _; omega)).trans (hy6 o)
  have HF6 : Hid (w6.rangeAt w2.heap.size 0 (rcells s.R s.pc).toList) := fun j v hv => (hb6.cell (p := ⟨w2.heap.size, 0 + j, none⟩) (by show w2.heap.size < _; omega)).trans (HF5.out j v hv)
  have HO6 := hide (And.intro (ownsRow_below HO5.out hb6) (ownsRow_base ho2 (Nat.zero_le _)))
  have HR6 := hide (HRl.out.below hb6)
  have hB6 : Below w.heap.size w w6 := hB5.trans (hb6.mono hB5.size)
  clear hy6 HF5 HO5 HRl ho2 hb6 hB5
  go_wp2_with fail
  have hBV : Below w6.heap.size w6 (w6.alloc (.cells #[.int .i64 s.fin, .int .i32 s.val, .slice oa2 s.out.length oc2, .int .i64 ↑s.steps] 27)) := (Below.refl _ _).alloc (Nat.le_refl _) _
  have hzV : (w6.alloc (.cells #[.int .i64 s.fin, .int .i32 s.val, .slice oa2 s.out.length oc2, .int .i64 ↑s.steps] 27)).heap.size = w6.heap.size + 1 := by simp
  have hq7 : ∀ o, (w6.alloc (.cells #[.int .i64 s.fin, .int .i32 s.val, .slice oa2 s.out.length oc2, .int .i64 ↑s.steps] 27)).cell? ⟨w6.heap.size, o, none⟩ = (#[Value.int .i64 s.fin, .int .i32 s.val, .slice oa2 s.out.length oc2, .int .i64 ↑s.steps])[o]? := fun o => World.cell?_alloc_at _ _ _ _ rfl
  have HSb : Hid (∀ w7, Below (w6.alloc (.cells #[.int .i64 s.fin, .int .i32 s.val, .slice oa2 s.out.length oc2, .int .i64 ↑s.steps] 27)).heap.size (w6.alloc (.cells #[.int .i64 s.fin, .int .i32 s.val, .slice oa2 s.out.length oc2, .int .i64 ↑s.steps] 27)) w7 → (fun w' => w'.cell? ⟨b, 20, none⟩ = some (.int .i64 s.pc) ∧ Hid (w'.rangeAt w1.heap.size 0 [Value.int .i64 s.fin, .int .i32 s.val, .slice oa1 s.out.length oc1, .int .i64 ↑s.steps] ∧ w'.rangeAt w6.heap.size 0 [Value.int .i64 s.fin, .int .i32 s.val, .slice oa2 s.out.length oc2, .int .i64 ↑s.steps] ∧ w'.rangeAt w2.heap.size 0 (rcells s.R s.pc).toList ∧ w'.rangeAt b 4 (rgs s.R).toList)) w7) := fun w7 hb7 => by
    have hB67 := hBV.trans (hb7.mono (by omega))
    refine ⟨(hB67.cell (p := ⟨b, 20, none⟩) (by show b < _; omega)).trans HR6.out.x20, fun j v hv => ?_, fun j v hv => ?_, fun j v hv => (hB67.cell (p := ⟨w2.heap.size, 0 + j, none⟩) (by show w2.heap.size < _; omega)).trans (HF6.out j v hv), fun j v hv => ?_⟩
    · refine (hB67.cell (p := ⟨w1.heap.size, 0 + j, none⟩) (by show w1.heap.size < _; omega)).trans ((hy7 (0 + j)).trans ?_)
      simpa using hv
    · refine (hb7.cell (p := ⟨w6.heap.size, 0 + j, none⟩) (by show w6.heap.size < _; omega)).trans ((hq7 (0 + j)).trans ?_)
      simpa using hv
    refine (hB67.cell (p := ⟨b, 4 + j, none⟩) (by show b < _; omega)).trans ?_
    exact rgs_at HR6.out j v hv
  have HO7 : Hid (∀ w7, Below (w6.alloc (.cells #[.int .i64 s.fin, .int .i32 s.val, .slice oa2 s.out.length oc2, .int .i64 ↑s.steps] 27)).heap.size (w6.alloc (.cells #[.int .i64 s.fin, .int .i32 s.val, .slice oa2 s.out.length oc2, .int .i64 ↑s.steps] 27)) w7 → w7.ownsRow 0 21 1 (.slice oa1 s.out.length oc1) s.out.length (s.out.map (Value.int .i32)) ∧ w7.ownsRow 0 21 1 (.slice oa2 s.out.length oc2) s.out.length (s.out.map (Value.int .i32))) := fun w7 hb7 =>
    ⟨ownsRow_below HO6.out.1 (hBV.trans (hb7.mono (by omega))), ownsRow_below HO6.out.2 (hBV.trans (hb7.mono (by omega)))⟩
  have HB7 : Hid (Below w.heap.size w (w6.alloc (.cells #[.int .i64 s.fin, .int .i32 s.val, .slice oa2 s.out.length oc2, .int .i64 ↑s.steps] 27))) := hB6.alloc hB6.size _
  clear hBV hq7 HO6 HR6 HF6 hy7 hB6
  generalize w6.alloc (.cells #[.int .i64 s.fin, .int .i32 s.val, .slice oa2 s.out.length oc2, .int .i64 ↑s.steps] 27) = V at *
  refine wp_region_held_drew (S := fun w' => w'.cell? ⟨b, 20, none⟩ = some (.int .i64 s.pc) ∧ Hid (w'.rangeAt w1.heap.size 0 [Value.int .i64 s.fin, .int .i32 s.val, .slice oa1 s.out.length oc1, .int .i64 ↑s.steps] ∧ w'.rangeAt w6.heap.size 0 [Value.int .i64 s.fin, .int .i32 s.val, .slice oa2 s.out.length oc2, .int .i64 ↑s.steps] ∧ w'.rangeAt w2.heap.size 0 (rcells s.R s.pc).toList ∧ w'.rangeAt b 4 (rgs s.R).toList)) (by kernel_rfl) (HSb.out _ ((Below.refl _ _).drew)) (fun hHeld => ?_)
  refine wpAnyH_take (i := 0) (v := ?_) rfl (by kernel_rfl) (by kernel_rfl) (by kernel_rfl) (fun _ _ _ h => h) (Or.inl ⟨by rfl, ?_⟩) (by assumption) ?_
  rotate_left
  · (intro w hSw; (try dsimp only at hSw); go_simp) <;> with_reducible rfl
  (simp only [Act.put, List.getElem_toArray, List.getElem_cons_zero, List.getElem_cons_succ, List.setIfInBounds_toArray, List.set_cons_zero, List.set_cons_succ])
  refine wpAnyH_take (i := 1) (v := ?_) rfl (by kernel_rfl) (by kernel_rfl) (by kernel_rfl) (fun _ _ _ h => h) (Or.inl ⟨by rfl, ?_⟩) (by assumption) ?_
  rotate_left
  · (intro w hSw; (try dsimp only at hSw); go_simp) <;> with_reducible rfl
  (simp only [Act.put, List.getElem_toArray, List.getElem_cons_zero, List.getElem_cons_succ, List.setIfInBounds_toArray, List.set_cons_zero, List.set_cons_succ])
  refine wpAnyH_take (i := 2) (v := ?_) rfl (by kernel_rfl) (by kernel_rfl) (by kernel_rfl) (fun _ _ _ h => h) (Or.inl ⟨by rfl, ?_⟩) (by assumption) ?_
  rotate_left
  · (intro w hSw; (try dsimp only at hSw); go_simp) <;> with_reducible rfl
  (simp only [Act.put, List.getElem_toArray, List.getElem_cons_zero, List.getElem_cons_succ, List.setIfInBounds_toArray, List.set_cons_zero, List.set_cons_succ])
  refine wpAnyH_take (i := 3) (v := ?_) rfl (by kernel_rfl) (by kernel_rfl) (by kernel_rfl) (fun _ _ _ h => h) (Or.inl ⟨by rfl, ?_⟩) (by assumption) ?_
  rotate_left
  · (intro w hSw; (try dsimp only at hSw); go_simp) <;> with_reducible rfl
  (simp only [Act.put, List.getElem_toArray, List.getElem_cons_zero, List.getElem_cons_succ, List.setIfInBounds_toArray, List.set_cons_zero, List.set_cons_succ])
  refine wpAnyH_take (i := 4) (v := ?_) rfl (by kernel_rfl) (by kernel_rfl) (by kernel_rfl) (fun _ _ _ h => h) (Or.inl ⟨by rfl, ?_⟩) (by assumption) ?_
  rotate_left
  · (intro w hSw; (try dsimp only at hSw); go_simp) <;> with_reducible rfl
  (simp only [Act.put, List.getElem_toArray, List.getElem_cons_zero, List.getElem_cons_succ, List.setIfInBounds_toArray, List.set_cons_zero, List.set_cons_succ])
  refine wpAnyH_take (i := 5) (v := ?_) rfl (by kernel_rfl) (by kernel_rfl) (by kernel_rfl) (fun _ _ _ h => h) (Or.inl ⟨by rfl, ?_⟩) (by assumption) ?_
  rotate_left
  · (intro w hSw; (try dsimp only at hSw); go_simp) <;> with_reducible rfl
  (simp only [Act.put, List.getElem_toArray, List.getElem_cons_zero, List.getElem_cons_succ, List.setIfInBounds_toArray, List.set_cons_zero, List.set_cons_succ])
  refine wpAnyH_take (i := 6) (v := ?_) rfl (by kernel_rfl) (by kernel_rfl) (by kernel_rfl) (fun _ _ _ h => h) (Or.inl ⟨by rfl, ?_⟩) (by assumption) ?_
  rotate_left
  · (intro w hSw; (try dsimp only at hSw); go_simp) <;> with_reducible rfl
  (simp only [Act.put, List.getElem_toArray, List.getElem_cons_zero, List.getElem_cons_succ, List.setIfInBounds_toArray, List.set_cons_zero, List.set_cons_succ])
  refine wpAnyH_take (i := 7) (v := .agg (#[.int .i64 s.fin, .int .i32 s.val, .slice oa1 s.out.length oc1, .int .i64 ↑s.steps])) rfl (by kernel_rfl) (by kernel_rfl) (by kernel_rfl) (fun _ _ _ h => h) (yieldsIf_load_mid (by rfl) 27 (.tmp 5) rfl w1.heap.size 0 rfl [Value.int .i64 s.fin, .int .i32 s.val, .slice oa1 s.out.length oc1, .int .i64 ↑s.steps] _ (fun w hS => hS.2.out.1) Try.underlying27 rfl info27) (by assumption) ?_
  (simp only [Act.put, List.getElem_toArray, List.getElem_cons_zero, List.getElem_cons_succ, List.setIfInBounds_toArray, List.set_cons_zero, List.set_cons_succ])
  refine wpAnyH_take (i := 8) (v := .agg (#[.int .i64 s.fin, .int .i32 s.val, .slice oa2 s.out.length oc2, .int .i64 ↑s.steps])) rfl (by kernel_rfl) (by kernel_rfl) (by kernel_rfl) (fun _ _ _ h => h) (yieldsIf_load_mid (by rfl) 27 (.tmp 11) rfl w6.heap.size 0 rfl [Value.int .i64 s.fin, .int .i32 s.val, .slice oa2 s.out.length oc2, .int .i64 ↑s.steps] _ (fun w hS => hS.2.out.2.1) Try.underlying27 rfl info27) (by assumption) ?_
  (simp only [Act.put, List.getElem_toArray, List.getElem_cons_zero, List.getElem_cons_succ, List.setIfInBounds_toArray, List.set_cons_zero, List.set_cons_succ])
  refine wpAnyH_ready (rs := [9]) (by kernel_rfl) (by simp) ?_
  refine AllReadyH.cons rfl (fun K hK => ?_) AllReadyH.nil
  go_simp
  refine (stops_same s.fin s.val ↑s.steps _ _ s.out _ hl (HO7.out _ ((Below.refl _ _).drew)).1 (HO7.out _ ((Below.refl _ _).drew)).2).mono ?_
  rintro e w7 ⟨rfl, hb7⟩
  have hb8 : Below V.heap.size V w7 := ((Below.refl V.heap.size V).drew).trans hb7
  refine hK.out _ _ (HSb.out _ hb8) (fun hHeld2 => ?_)
  clear hK K hHeld
  (try simp only [Act.put, List.getElem_toArray, List.getElem_cons_zero, List.getElem_cons_succ, List.setIfInBounds_toArray, List.set_cons_zero, List.set_cons_succ])
  refine wpAnyH_take (i := 10) (v := ?_) rfl (by kernel_rfl) (by kernel_rfl) (by kernel_rfl) (fun _ _ _ h => h) (Or.inl ⟨by rfl, ?_⟩) (by assumption) ?_
  rotate_left
  · (intro w hSw; (try dsimp only at hSw); go_simp) <;> with_reducible rfl
  (simp only [Act.put, List.getElem_toArray, List.getElem_cons_zero, List.getElem_cons_succ, List.setIfInBounds_toArray, List.set_cons_zero, List.set_cons_succ])
  refine wpAnyH_take (i := 11) (v := ?_) rfl (by kernel_rfl) (by kernel_rfl) (by kernel_rfl) (fun _ _ _ h => h) (Or.inl ⟨by rfl, ?_⟩) (by assumption) ?_
  rotate_left
  · (intro w hSw; (try dsimp only at hSw); go_simp) <;> with_reducible rfl
  (simp only [Act.put, List.getElem_toArray, List.getElem_cons_zero, List.getElem_cons_succ, List.setIfInBounds_toArray, List.set_cons_zero, List.set_cons_succ])
  refine wpAnyH_take (i := 12) (v := .agg ((rcells s.R s.pc).toList.toArray)) rfl (by kernel_rfl) (by kernel_rfl) (by kernel_rfl) (fun _ _ _ h => h) (yieldsIf_load_mid (by rfl) 33 (.tmp 7) rfl w2.heap.size 0 rfl (rcells s.R s.pc).toList _ (fun w hS => hS.2.out.2.2.1) Try.underlying33 rfl info33) (by assumption) ?_
  (simp only [Act.put, List.getElem_toArray, List.getElem_cons_zero, List.getElem_cons_succ, List.setIfInBounds_toArray, List.set_cons_zero, List.set_cons_succ])
  refine wpAnyH_take (i := 13) (v := ?_) rfl (by kernel_rfl) (by kernel_rfl) (by kernel_rfl) (fun _ _ _ h => h) (Or.inl ⟨by rfl, ?_⟩) (by assumption) ?_
  rotate_left
  · (intro w hSw; (try dsimp only at hSw); go_simp) <;> with_reducible rfl
  (simp only [Act.put, List.getElem_toArray, List.getElem_cons_zero, List.getElem_cons_succ, List.setIfInBounds_toArray, List.set_cons_zero, List.set_cons_succ])
  refine wpAnyH_take (i := 14) (v := ?_) rfl (by kernel_rfl) (by kernel_rfl) (by kernel_rfl) (fun _ _ _ h => h) (Or.inl ⟨by rfl, ?_⟩) (by assumption) ?_
  rotate_left
  · (intro w hSw; (try dsimp only at hSw); go_simp) <;> with_reducible rfl
  (simp only [Act.put, List.getElem_toArray, List.getElem_cons_zero, List.getElem_cons_succ, List.setIfInBounds_toArray, List.set_cons_zero, List.set_cons_succ])
  refine wpAnyH_take (i := 15) (v := ?_) rfl (by kernel_rfl) (by kernel_rfl) (by kernel_rfl) (fun _ _ _ h => h) (Or.inl ⟨by rfl, ?_⟩) (by assumption) ?_
  rotate_left
  · (intro w hSw; (try dsimp only at hSw); go_simp) <;> with_reducible rfl
  (simp only [Act.put, List.getElem_toArray, List.getElem_cons_zero, List.getElem_cons_succ, List.setIfInBounds_toArray, List.set_cons_zero, List.set_cons_succ])
  refine wpAnyH_take (i := 16) (v := .agg ((rgs s.R).toList.toArray)) rfl (by kernel_rfl) (by kernel_rfl) (by kernel_rfl) (fun _ _ _ h => h) (yieldsIf_load_mid (by rfl) 31 (.tmp 93) rfl b 4 rfl (rgs s.R).toList _ (fun w hS => hS.2.out.2.2.2) Try.underlying31 rfl info31) (by assumption) ?_
  (simp only [Act.put, List.getElem_toArray, List.getElem_cons_zero, List.getElem_cons_succ, List.setIfInBounds_toArray, List.set_cons_zero, List.set_cons_succ])
  refine wpAnyH_take (i := 17) (v := ?_) rfl (by kernel_rfl) (by kernel_rfl) (by kernel_rfl) (fun _ _ _ h => h) (Or.inl ⟨by rfl, ?_⟩) (by assumption) ?_
  rotate_left
  · (intro w hSw; (try dsimp only at hSw); go_simp) <;> with_reducible rfl
  (simp only [Act.put, List.getElem_toArray, List.getElem_cons_zero, List.getElem_cons_succ, List.setIfInBounds_toArray, List.set_cons_zero, List.set_cons_succ])
  refine wpAnyH_take (i := 18) (v := ?_) rfl (by kernel_rfl) (by kernel_rfl) (by kernel_rfl) (fun _ _ _ h => h) (Or.inl ⟨by rfl, ?_⟩) (by assumption) ?_
  rotate_left
  · (intro w hSw; (try dsimp only at hSw); go_simp) <;> with_reducible rfl
  (simp only [Act.put, List.getElem_toArray, List.getElem_cons_zero, List.getElem_cons_succ, List.setIfInBounds_toArray, List.set_cons_zero, List.set_cons_succ])
  refine wpAnyH_take (i := 19) (v := ?_) rfl (by kernel_rfl) (by kernel_rfl) (by kernel_rfl) (fun _ _ _ h => h) (Or.inl ⟨by rfl, ?_⟩) (by assumption) ?_
  rotate_left
  · (intro w hSw; (try dsimp only at hSw); go_simp) <;> with_reducible rfl
  (simp only [Act.put, List.getElem_toArray, List.getElem_cons_zero, List.getElem_cons_succ, List.setIfInBounds_toArray, List.set_cons_zero, List.set_cons_succ])
  refine wpAnyH_take (i := 20) (v := ?_) rfl (by kernel_rfl) (by kernel_rfl) (by kernel_rfl) (fun _ _ _ h => h) (Or.inl ⟨by rfl, ?_⟩) (by assumption) ?_
  rotate_left
  · (intro w hSw; (try dsimp only at hSw); go_simp) <;> with_reducible rfl
  (simp only [Act.put, List.getElem_toArray, List.getElem_cons_zero, List.getElem_cons_succ, List.setIfInBounds_toArray, List.set_cons_zero, List.set_cons_succ])
  refine wpAnyH_take (i := 21) (v := ?_) rfl (by kernel_rfl) (by kernel_rfl) (by kernel_rfl) (fun _ _ _ h => h) (Or.inl ⟨by rfl, ?_⟩) (by assumption) ?_
  rotate_left
  · (intro w hSw; (try dsimp only at hSw); go_simp) <;> with_reducible rfl
  (simp only [Act.put, List.getElem_toArray, List.getElem_cons_zero, List.getElem_cons_succ, List.setIfInBounds_toArray, List.set_cons_zero, List.set_cons_succ])
  refine wpAnyH_take (i := 22) (v := .bool true) rfl (by kernel_rfl) (by kernel_rfl) (by kernel_rfl) (fun _ _ _ h => h) (yieldsIf_eql33 (by rfl) (.tmp 90) (.tmp 99) _ rfl (rcells s.R s.pc) rfl rfl HQ.out) (by assumption) ?_
  (simp only [Act.put, List.getElem_toArray, List.getElem_cons_zero, List.getElem_cons_succ, List.setIfInBounds_toArray, List.set_cons_zero, List.set_cons_succ])
  refine wpAnyH_take (i := 23) (v := ?_) rfl (by kernel_rfl) (by kernel_rfl) (by kernel_rfl) (fun _ _ _ h => h) (Or.inl ⟨by rfl, ?_⟩) (by assumption) ?_
  rotate_left
  · (intro w hSw; (try dsimp only at hSw); go_simp) <;> with_reducible rfl
  (simp only [Act.put, List.getElem_toArray, List.getElem_cons_zero, List.getElem_cons_succ, List.setIfInBounds_toArray, List.set_cons_zero, List.set_cons_succ])
  refine wpAnyH_take (i := 24) (v := ?_) rfl (by kernel_rfl) (by kernel_rfl) (by kernel_rfl) (fun _ _ _ h => h) (Or.inl ⟨by rfl, ?_⟩) (by assumption) ?_
  rotate_left
  · (intro w hSw; (try dsimp only at hSw); go_simp) <;> with_reducible rfl
  (simp only [Act.put, List.getElem_toArray, List.getElem_cons_zero, List.getElem_cons_succ, List.setIfInBounds_toArray, List.set_cons_zero, List.set_cons_succ])
  refine wpAnyH_done (by kernel_rfl) ?_ _
  go_wp2_with fail
  go_ret
  exact ⟨rfl, HB7.out.trans (hb8.mono HB7.out.size)⟩
end Go.Proofs.Ytofhiooodgopeaa.V

namespace Go.Proofs.Ytofhiooodgopeaa.V
open Go.RowKit Go.Proofs.Ytofhiooodgopeaa.M
set_option linter.unusedVariables false
variable {w : World} {ca da : Option Addr} {nc cc nd cd : Nat} {code data : Nat → Int} {M fuel : Int}
theorem law_any (h : Img w ca da nc nd code data) (M0 : -9223372036854775808 ≤ M) (M1 : M ≤ 9223372036854775807) :
    Calls Try.prog 3 #[.agg #[.slice ca nc cc, .slice da nd cd, .int .i64 M], .int .i64 fuel] w fun e w' => e = .returned (.bool true) ∧ Below w.heap.size w w' := by
  cases hm : mayB nc nd M with
  | false => exact law_may h M0 M1 hm
  | true =>
    by_cases h1 : fuel < 0
    · exact law_fuel_neg h M0 M1 hm (decide_eq_true h1)
    by_cases h2 : 300000 < fuel
    · exact law_fuel_more h M0 M1 hm (decide_eq_false h1) (decide_eq_true h2)
    have hmm : 1 ≤ nc ∧ nc ≤ 6000 ∧ (32 : Int) ≤ M ∧ M ≤ 16000 ∧ (nc : Int) + nd ≤ M - 16 := by simpa [mayB] using hm
    obtain ⟨Mn, rfl⟩ : ∃ n : Nat, M = n := ⟨M.toNat, by omega⟩
    obtain ⟨k, rfl⟩ : ∃ n : Nat, fuel = n := ⟨fuel.toNat, by omega⟩
    refine law_ok h M0 M1 hm (decide_eq_false h1) (decide_eq_false h2) (fin nc nd Mn k code data) (cf nc nd Mn code) (run_fin _ _ rfl k) (fin_len nc nd Mn k code data (by omega))
      (fun w' hb => run_ok' (h.below hb) Mn k hm (by omega)) (fun w' hb => shown_ok (h.below hb) Mn k hm (by omega)) (fun w' hb => ?_)
    obtain ⟨cb, co, rfl, e2, e3⟩ := h.cs (by omega)
    exact ref_run cb co nc cc nd cd Mn k da code data w' (by omega) (by omega) (by omega) (by omega) (by omega) (Nat.lt_of_lt_of_le e2 hb.size) (fun j hj => (hb.cell (p := ⟨cb, co + j, none⟩) e2).trans (e3 j hj)) h.c32 (h.below hb).ds h.d32
end Go.Proofs.Ytofhiooodgopeaa.V
