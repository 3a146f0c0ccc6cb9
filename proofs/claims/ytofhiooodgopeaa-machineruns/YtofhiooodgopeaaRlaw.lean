/- The walk of MachineRuns. -/
import Derived.Test.YtofhiooodgopeaaReq
import Derived.Test.YtofhiooodgopeaaOpen
namespace Go.Proofs.Ytofhiooodgopeaa.V
open Go.RowKit Go.Proofs.Ytofhiooodgopeaa.M
set_option linter.unusedVariables false
set_option linter.unusedSimpArgs false
variable {w : World} {ca da : Option Addr} {nc cc nd cd : Nat} {code data : Nat → Int} {M fuel : Int}
theorem one33 (R : Nat → Int) (pc : Int) : (rcells R pc).all (·.oneCell') = true := by simp [rcells, Value.oneCell']

set_option maxRecDepth 100000 in
set_option maxHeartbeats 4000000 in
theorem law_may (hI : Img w ca da nc nd code data) (M0 : -9223372036854775808 ≤ M) (M1 : M ≤ 9223372036854775807) (hm : mayB nc nd M = false) :
    Calls Try.prog 3 #[.agg #[.slice ca nc cc, .slice da nd cd, .int .i64 M], .int .i64 fuel] w fun e w' => e = .returned (.bool true) ∧ Below w.heap.size w w' := by
  have hck : chk nc nd M = 1 := by unfold chk; rw [hm]; rfl
  have HR : Hid (∀ w', Below w.heap.size w w' → Calls Try.prog 5 #[.agg #[.slice ca nc cc, .slice da nd cd, .int .i64 M], .int .i64 fuel] w' fun e w'' => e = .returned (.tuple #[.agg #[.int .i64 0, .int .i32 0, .slice none 0 0, .int .i64 0], .int .i64 1]) ∧ Below w'.heap.size w' w'') := fun w' hb => run_may (hI.below hb) M fuel M0 M1 hm
  have HS : Hid (∀ w', Below w.heap.size w w' → Calls Try.prog 6 #[.agg #[.slice ca nc cc, .slice da nd cd, .int .i64 M], .int .i64 fuel] w' fun e w'' => e = .returned (.tuple #[.agg (rcells (fun _ => 0) 0), .int .i64 1]) ∧ Below w'.heap.size w' w'') := fun w' hb => shown_may (hI.below hb) M fuel M0 M1 hm
  have HQ : Hid (∀ w', (Op.equal 33 (.agg zz33) (.agg zz33)).run Try.prog w' = .ok true w') := eq33 (fun _ => 0) 0
  go_enter Try.func3, Try.ntmps3
  go_wp2_with fail
  have hB0 : Below w.heap.size w (w.alloc (.cells #[.slice ca nc cc, .slice da nd cd, .int .i64 M] 25)) := (Below.refl _ _).alloc (Nat.le_refl _) _
  go_at_call 5
  refine (HR.out _ hB0).mono ?_
  rintro e w1 ⟨rfl, hb1⟩
  have hB1 : Below w.heap.size w w1 := hB0.trans (hb1.mono (by simp))
  have hz1 : w.heap.size < w1.heap.size := by have := hb1.size; simp at this; omega
  have hx1 : ∀ o, w1.cell? ⟨w.heap.size, o, none⟩ = (#[Value.slice ca nc cc, .slice da nd cd, .int .i64 M])[o]? := fun o => (hb1.cell (p := ⟨w.heap.size, o, none⟩) (by simp)).trans (World.cell?_alloc_at _ _ _ _ rfl)
  clear hb1 hB0
  go_wp2_with fail
  go_at_call 6
  refine (HS.out _ (hB1.alloc hB1.size _)).mono ?_
  rintro e w2 ⟨rfl, hb2⟩
  have hB2 : Below w.heap.size w w2 := (hB1.alloc hB1.size _).trans (hb2.mono (by simp; omega))
  have hz2 : w1.heap.size < w2.heap.size := by have := hb2.size; simp at this; omega
  have hy2 : ∀ o, w2.cell? ⟨w1.heap.size, o, none⟩ = (#[Value.int .i64 0, .int .i32 0, .slice none 0 0, .int .i64 0])[o]? := fun o => (hb2.cell (p := ⟨w1.heap.size, o, none⟩) (by simp)).trans (World.cell?_alloc_at _ _ _ _ rfl)
  have hx2 : ∀ o, w2.cell? ⟨w.heap.size, o, none⟩ = (#[Value.slice ca nc cc, .slice da nd cd, .int .i64 M])[o]? := fun o => (hb2.cell (p := ⟨w.heap.size, o, none⟩) (by simp; omega)).trans ((World.cell?_alloc_past _ _ _ hz1).trans (hx1 o))
  clear hx1 hb2
  have hT : (w2.alloc (.cells zz33 33)).there w2.heap.size 0 (rcells (fun _ => 0) 0).size := there_block (al_new w2 (.cells zz33 33) _ rfl) _ rfl
  have HT := hide hT
  have HB3 : Hid (Below w2.heap.size w2 ((w2.alloc (.cells zz33 33)).setCells w2.heap.size 0 (rcells (fun _ => 0) 0).toList)) := setCells_below _ (Nat.le_refl _) _ _ _ ((Below.refl _ _).alloc (Nat.le_refl _) _)
  have hx3 : ∀ o, ((w2.alloc (.cells zz33 33)).setCells w2.heap.size 0 (rcells (fun _ => 0) 0).toList).cell? ⟨w.heap.size, o, none⟩ = (#[Value.slice ca nc cc, .slice da nd cd, .int .i64 M])[o]? := fun o => (HB3.out.cell (p := ⟨w.heap.size, o, none⟩) (by show w.heap.size < _; omega)).trans (hx2 o)
  have HG3 : Hid (((w2.alloc (.cells zz33 33)).setCells w2.heap.size 0 (rcells (fun _ => 0) 0).toList).rangeAt w2.heap.size 0 (rcells (fun _ => 0) 0).toList) := World.rangeAt_setCells_same (w2.alloc (.cells zz33 33)) w2.heap.size 0 (rcells (fun _ => 0) 0).toList HT.out
  have HZ3 : Hid (((w2.alloc (.cells zz33 33)).setCells w2.heap.size 0 (rcells (fun _ => 0) 0).toList).heap.size = w2.heap.size + 1) := by show _ = _; rw [setCells_size]; simp
  clear hT hx2
  go_wp2_with (refine wpList_store_mid rfl 33 (.tmp 7) (.tmp 22) rfl w2.heap.size 0 (rcells (fun _ => 0) 0) rfl rfl ?_ info33 ?_ ?_; exact HT.out; (case _ => exact one33 _ _))
  go_at_call 7
  refine (check_img ca da nc cc nd cd M _ hI.nc hI.nd M0 M1).mono ?_
  rintro e w3 ⟨rfl, hb3⟩
  rw [hck]
  have hx4 : ∀ o, w3.cell? ⟨w.heap.size, o, none⟩ = (#[Value.slice ca nc cc, .slice da nd cd, .int .i64 M])[o]? := fun o => (hb3.cell (p := ⟨w.heap.size, o, none⟩) (by show w.heap.size < _; rw [HZ3.out]; omega)).trans (hx3 o)
  have HF3 : Hid (Below w2.heap.size w2 w3 ∧ w2.heap.size < w3.heap.size ∧ w3.rangeAt w2.heap.size 0 (rcells (fun _ => 0) 0).toList) := by
    have hs : w2.heap.size + 1 ≤ w3.heap.size := Nat.le_trans (Nat.le_of_eq HZ3.out.symm) hb3.size
    refine ⟨HB3.out.trans (hb3.mono (Nat.le_trans (Nat.le_succ _) (Nat.le_of_eq HZ3.out.symm))), by omega, fun j v hv => ?_⟩
    exact (hb3.cell (p := ⟨w2.heap.size, 0 + j, none⟩) (Nat.lt_of_lt_of_eq (Nat.lt_succ_self _) HZ3.out.symm)).trans (HG3.out j v hv)
  clear hx3 HG3 HZ3 hb3 HB3 HT
  go_wp2_with fail
  go_at_call 8
  refine (may_img ca da nc cc nd cd M _ hI.nc hI.nd M0 M1).mono ?_
  rintro e w4 ⟨rfl, hb4⟩
  rw [hm]
  have hs4 := hb4.size
  have hs3 := HF3.out.2.1
  have hx5 : ∀ o, w4.cell? ⟨w.heap.size, o, none⟩ = (#[Value.slice ca nc cc, .slice da nd cd, .int .i64 M])[o]? := fun o => (hb4.cell (p := ⟨w.heap.size, o, none⟩) (by show w.heap.size < _; omega)).trans (hx4 o)
  have hy5 : ∀ o, w4.cell? ⟨w1.heap.size, o, none⟩ = (#[Value.int .i64 0, .int .i32 0, .slice none 0 0, .int .i64 0])[o]? := fun o => (hb4.cell (p := ⟨w1.heap.size, o, none⟩) (by show w1.heap.size < _; omega)).trans ((HF3.out.1.cell (p := ⟨w1.heap.size, o, none⟩) (by show w1.heap.size < _; omega)).trans (hy2 o))
  have HF4 : Hid (Below w2.heap.size w2 w4 ∧ w2.heap.size < w4.heap.size ∧ w4.rangeAt w2.heap.size 0 (rcells (fun _ => 0) 0).toList) := by
    refine ⟨HF3.out.1.trans (hb4.mono (by omega)), by omega, fun j v hv => ?_⟩
    exact (hb4.cell (p := ⟨w2.heap.size, 0 + j, none⟩) (by show w2.heap.size < _; omega)).trans (HF3.out.2.2 j v hv)
  have hB4 : Below w.heap.size w w4 := hB2.trans (HF4.out.1.mono (by omega))
  have hq4 : w2.heap.size < w4.heap.size := HF4.out.2.1
  clear hx4 HF3 hb4 hy2 hs3 hs4
  go_wp2_with fail
  go_at_call 9
  refine (stops_same 0 0 0 (.slice none 0 0) (.slice none 0 0) [] w4 (by simp) ⟨rfl, Or.inl ⟨rfl, rfl⟩⟩ ⟨rfl, Or.inl ⟨rfl, rfl⟩⟩).mono ?_
  rintro e w5 ⟨rfl, hb5⟩
  have HF5 : Hid (w5.rangeAt w2.heap.size 0 (rcells (fun _ => 0) 0).toList) := fun j v hv => (hb5.cell (p := ⟨w2.heap.size, 0 + j, none⟩) (by show w2.heap.size < _; omega)).trans (HF4.out.2.2 j v hv)
  have HB5 : Hid (Below w.heap.size w w5) := hB4.trans (hb5.mono hB4.size)
  clear hb5 HF4 hB4
  go_wp2_with (first | (refine wpList_load_mid_g (by rfl) 33 (.tmp 7) rfl w2.heap.size 0 rfl (rcells (fun _ => 0) 0).toList _ ?_ Try.underlying33 rfl info33 ?_; exact HF5.out) | (refine wpList_eql33_g (by rfl) _ _ _ rfl zz33 rfl rfl (HQ.out _) ?_))
  go_ret
  exact ⟨rfl, HB5.out⟩

set_option maxRecDepth 100000 in
set_option maxHeartbeats 4000000 in
theorem law_fuel_neg (hI : Img w ca da nc nd code data) (M0 : -9223372036854775808 ≤ M) (M1 : M ≤ 9223372036854775807) (hm : mayB nc nd M = true) (hd1 : decide (fuel < 0) = true) :
    Calls Try.prog 3 #[.agg #[.slice ca nc cc, .slice da nd cd, .int .i64 M], .int .i64 fuel] w fun e w' => e = .returned (.bool true) ∧ Below w.heap.size w w' := by
  have hck : chk nc nd M = 0 := by unfold chk; rw [hm]; rfl
  have hf : fuel < 0 ∨ (¬ fuel < 0 ∧ 300000 < fuel) := Or.inl (of_decide_eq_true hd1)
  have HR : Hid (∀ w', Below w.heap.size w w' → Calls Try.prog 5 #[.agg #[.slice ca nc cc, .slice da nd cd, .int .i64 M], .int .i64 fuel] w' fun e w'' => e = .returned (.tuple #[.agg #[.int .i64 0, .int .i32 0, .slice none 0 0, .int .i64 0], .int .i64 6]) ∧ Below w'.heap.size w' w'') := fun w' hb => run_fuel (hI.below hb) M fuel M0 M1 hm hf
  have HS : Hid (∀ w', Below w.heap.size w w' → Calls Try.prog 6 #[.agg #[.slice ca nc cc, .slice da nd cd, .int .i64 M], .int .i64 fuel] w' fun e w'' => e = .returned (.tuple #[.agg (rcells (fun _ => 0) 0), .int .i64 6]) ∧ Below w'.heap.size w' w'') := fun w' hb => shown_fuel (hI.below hb) M fuel M0 M1 hm hf
  have HQ : Hid (∀ w', (Op.equal 33 (.agg zz33) (.agg zz33)).run Try.prog w' = .ok true w') := eq33 (fun _ => 0) 0
  clear hf
  go_enter Try.func3, Try.ntmps3
  go_wp2_with fail
  have hB0 : Below w.heap.size w (w.alloc (.cells #[.slice ca nc cc, .slice da nd cd, .int .i64 M] 25)) := (Below.refl _ _).alloc (Nat.le_refl _) _
  go_at_call 5
  refine (HR.out _ hB0).mono ?_
  rintro e w1 ⟨rfl, hb1⟩
  have hB1 : Below w.heap.size w w1 := hB0.trans (hb1.mono (by simp))
  have hz1 : w.heap.size < w1.heap.size := by have := hb1.size; simp at this; omega
  have hx1 : ∀ o, w1.cell? ⟨w.heap.size, o, none⟩ = (#[Value.slice ca nc cc, .slice da nd cd, .int .i64 M])[o]? := fun o => (hb1.cell (p := ⟨w.heap.size, o, none⟩) (by simp)).trans (World.cell?_alloc_at _ _ _ _ rfl)
  clear hb1 hB0
  go_wp2_with fail
  go_at_call 6
  refine (HS.out _ (hB1.alloc hB1.size _)).mono ?_
  rintro e w2 ⟨rfl, hb2⟩
  have hB2 : Below w.heap.size w w2 := (hB1.alloc hB1.size _).trans (hb2.mono (by simp; omega))
  have hz2 : w1.heap.size < w2.heap.size := by have := hb2.size; simp at this; omega
  have hy2 : ∀ o, w2.cell? ⟨w1.heap.size, o, none⟩ = (#[Value.int .i64 0, .int .i32 0, .slice none 0 0, .int .i64 0])[o]? := fun o => (hb2.cell (p := ⟨w1.heap.size, o, none⟩) (by simp)).trans (World.cell?_alloc_at _ _ _ _ rfl)
  have hx2 : ∀ o, w2.cell? ⟨w.heap.size, o, none⟩ = (#[Value.slice ca nc cc, .slice da nd cd, .int .i64 M])[o]? := fun o => (hb2.cell (p := ⟨w.heap.size, o, none⟩) (by simp; omega)).trans ((World.cell?_alloc_past _ _ _ hz1).trans (hx1 o))
  clear hx1 hb2
  have hT : (w2.alloc (.cells zz33 33)).there w2.heap.size 0 (rcells (fun _ => 0) 0).size := there_block (al_new w2 (.cells zz33 33) _ rfl) _ rfl
  have HT := hide hT
  have HB3 : Hid (Below w2.heap.size w2 ((w2.alloc (.cells zz33 33)).setCells w2.heap.size 0 (rcells (fun _ => 0) 0).toList)) := setCells_below _ (Nat.le_refl _) _ _ _ ((Below.refl _ _).alloc (Nat.le_refl _) _)
  have hx3 : ∀ o, ((w2.alloc (.cells zz33 33)).setCells w2.heap.size 0 (rcells (fun _ => 0) 0).toList).cell? ⟨w.heap.size, o, none⟩ = (#[Value.slice ca nc cc, .slice da nd cd, .int .i64 M])[o]? := fun o => (HB3.out.cell (p := ⟨w.heap.size, o, none⟩) (by show w.heap.size < _; omega)).trans (hx2 o)
  have HG3 : Hid (((w2.alloc (.cells zz33 33)).setCells w2.heap.size 0 (rcells (fun _ => 0) 0).toList).rangeAt w2.heap.size 0 (rcells (fun _ => 0) 0).toList) := World.rangeAt_setCells_same (w2.alloc (.cells zz33 33)) w2.heap.size 0 (rcells (fun _ => 0) 0).toList HT.out
  have HZ3 : Hid (((w2.alloc (.cells zz33 33)).setCells w2.heap.size 0 (rcells (fun _ => 0) 0).toList).heap.size = w2.heap.size + 1) := by show _ = _; rw [setCells_size]; simp
  clear hT hx2
  go_wp2_with (refine wpList_store_mid rfl 33 (.tmp 7) (.tmp 22) rfl w2.heap.size 0 (rcells (fun _ => 0) 0) rfl rfl ?_ info33 ?_ ?_; exact HT.out; (case _ => exact one33 _ _))
  go_at_call 7
  refine (check_img ca da nc cc nd cd M _ hI.nc hI.nd M0 M1).mono ?_
  rintro e w3 ⟨rfl, hb3⟩
  rw [hck]
  have hx4 : ∀ o, w3.cell? ⟨w.heap.size, o, none⟩ = (#[Value.slice ca nc cc, .slice da nd cd, .int .i64 M])[o]? := fun o => (hb3.cell (p := ⟨w.heap.size, o, none⟩) (by show w.heap.size < _; rw [HZ3.out]; omega)).trans (hx3 o)
  have HF3 : Hid (Below w2.heap.size w2 w3 ∧ w2.heap.size < w3.heap.size ∧ w3.rangeAt w2.heap.size 0 (rcells (fun _ => 0) 0).toList) := by
    have hs : w2.heap.size + 1 ≤ w3.heap.size := Nat.le_trans (Nat.le_of_eq HZ3.out.symm) hb3.size
    refine ⟨HB3.out.trans (hb3.mono (Nat.le_trans (Nat.le_succ _) (Nat.le_of_eq HZ3.out.symm))), by omega, fun j v hv => ?_⟩
    exact (hb3.cell (p := ⟨w2.heap.size, 0 + j, none⟩) (Nat.lt_of_lt_of_eq (Nat.lt_succ_self _) HZ3.out.symm)).trans (HG3.out j v hv)
  clear hx3 HG3 HZ3 hb3 HB3 HT
  go_wp2_with fail
  go_at_call 8
  refine (may_img ca da nc cc nd cd M _ hI.nc hI.nd M0 M1).mono ?_
  rintro e w4 ⟨rfl, hb4⟩
  rw [hm]
  have hs4 := hb4.size
  have hs3 := HF3.out.2.1
  have hx5 : ∀ o, w4.cell? ⟨w.heap.size, o, none⟩ = (#[Value.slice ca nc cc, .slice da nd cd, .int .i64 M])[o]? := fun o => (hb4.cell (p := ⟨w.heap.size, o, none⟩) (by show w.heap.size < _; omega)).trans (hx4 o)
  have hy5 : ∀ o, w4.cell? ⟨w1.heap.size, o, none⟩ = (#[Value.int .i64 0, .int .i32 0, .slice none 0 0, .int .i64 0])[o]? := fun o => (hb4.cell (p := ⟨w1.heap.size, o, none⟩) (by show w1.heap.size < _; omega)).trans ((HF3.out.1.cell (p := ⟨w1.heap.size, o, none⟩) (by show w1.heap.size < _; omega)).trans (hy2 o))
  have HF4 : Hid (Below w2.heap.size w2 w4 ∧ w2.heap.size < w4.heap.size ∧ w4.rangeAt w2.heap.size 0 (rcells (fun _ => 0) 0).toList) := by
    refine ⟨HF3.out.1.trans (hb4.mono (by omega)), by omega, fun j v hv => ?_⟩
    exact (hb4.cell (p := ⟨w2.heap.size, 0 + j, none⟩) (by show w2.heap.size < _; omega)).trans (HF3.out.2.2 j v hv)
  have hB4 : Below w.heap.size w w4 := hB2.trans (HF4.out.1.mono (by omega))
  have hq4 : w2.heap.size < w4.heap.size := HF4.out.2.1
  clear hx4 HF3 hb4 hy2 hs3 hs4
  go_wp2_with fail
  go_at_call 9
  refine (stops_same 0 0 0 (.slice none 0 0) (.slice none 0 0) [] w4 (by simp) ⟨rfl, Or.inl ⟨rfl, rfl⟩⟩ ⟨rfl, Or.inl ⟨rfl, rfl⟩⟩).mono ?_
  rintro e w5 ⟨rfl, hb5⟩
  have HF5 : Hid (w5.rangeAt w2.heap.size 0 (rcells (fun _ => 0) 0).toList) := fun j v hv => (hb5.cell (p := ⟨w2.heap.size, 0 + j, none⟩) (by show w2.heap.size < _; omega)).trans (HF4.out.2.2 j v hv)
  have HB5 : Hid (Below w.heap.size w w5) := hB4.trans (hb5.mono hB4.size)
  clear hb5 HF4 hB4
  go_wp2_with (first | (refine wpList_load_mid_g (by rfl) 33 (.tmp 7) rfl w2.heap.size 0 rfl (rcells (fun _ => 0) 0).toList _ ?_ Try.underlying33 rfl info33 ?_; exact HF5.out) | (refine wpList_eql33_g (by rfl) _ _ _ rfl zz33 rfl rfl (HQ.out _) ?_))
  go_ret
  exact ⟨rfl, HB5.out⟩

set_option maxRecDepth 100000 in
set_option maxHeartbeats 4000000 in
theorem law_fuel_more (hI : Img w ca da nc nd code data) (M0 : -9223372036854775808 ≤ M) (M1 : M ≤ 9223372036854775807) (hm : mayB nc nd M = true) (hd1 : decide (fuel < 0) = false) (hd2 : decide (300000 < fuel) = true) :
    Calls Try.prog 3 #[.agg #[.slice ca nc cc, .slice da nd cd, .int .i64 M], .int .i64 fuel] w fun e w' => e = .returned (.bool true) ∧ Below w.heap.size w w' := by
  have hck : chk nc nd M = 0 := by unfold chk; rw [hm]; rfl
  have hf : fuel < 0 ∨ (¬ fuel < 0 ∧ 300000 < fuel) := Or.inr ⟨of_decide_eq_false hd1, of_decide_eq_true hd2⟩
  have HR : Hid (∀ w', Below w.heap.size w w' → Calls Try.prog 5 #[.agg #[.slice ca nc cc, .slice da nd cd, .int .i64 M], .int .i64 fuel] w' fun e w'' => e = .returned (.tuple #[.agg #[.int .i64 0, .int .i32 0, .slice none 0 0, .int .i64 0], .int .i64 6]) ∧ Below w'.heap.size w' w'') := fun w' hb => run_fuel (hI.below hb) M fuel M0 M1 hm hf
  have HS : Hid (∀ w', Below w.heap.size w w' → Calls Try.prog 6 #[.agg #[.slice ca nc cc, .slice da nd cd, .int .i64 M], .int .i64 fuel] w' fun e w'' => e = .returned (.tuple #[.agg (rcells (fun _ => 0) 0), .int .i64 6]) ∧ Below w'.heap.size w' w'') := fun w' hb => shown_fuel (hI.below hb) M fuel M0 M1 hm hf
  have HQ : Hid (∀ w', (Op.equal 33 (.agg zz33) (.agg zz33)).run Try.prog w' = .ok true w') := eq33 (fun _ => 0) 0
  clear hf
  go_enter Try.func3, Try.ntmps3
  go_wp2_with fail
  have hB0 : Below w.heap.size w (w.alloc (.cells #[.slice ca nc cc, .slice da nd cd, .int .i64 M] 25)) := (Below.refl _ _).alloc (Nat.le_refl _) _
  go_at_call 5
  refine (HR.out _ hB0).mono ?_
  rintro e w1 ⟨rfl, hb1⟩
  have hB1 : Below w.heap.size w w1 := hB0.trans (hb1.mono (by simp))
  have hz1 : w.heap.size < w1.heap.size := by have := hb1.size; simp at this; omega
  have hx1 : ∀ o, w1.cell? ⟨w.heap.size, o, none⟩ = (#[Value.slice ca nc cc, .slice da nd cd, .int .i64 M])[o]? := fun o => (hb1.cell (p := ⟨w.heap.size, o, none⟩) (by simp)).trans (World.cell?_alloc_at _ _ _ _ rfl)
  clear hb1 hB0
  go_wp2_with fail
  go_at_call 6
  refine (HS.out _ (hB1.alloc hB1.size _)).mono ?_
  rintro e w2 ⟨rfl, hb2⟩
  have hB2 : Below w.heap.size w w2 := (hB1.alloc hB1.size _).trans (hb2.mono (by simp; omega))
  have hz2 : w1.heap.size < w2.heap.size := by have := hb2.size; simp at this; omega
  have hy2 : ∀ o, w2.cell? ⟨w1.heap.size, o, none⟩ = (#[Value.int .i64 0, .int .i32 0, .slice none 0 0, .int .i64 0])[o]? := fun o => (hb2.cell (p := ⟨w1.heap.size, o, none⟩) (by simp)).trans (World.cell?_alloc_at _ _ _ _ rfl)
  have hx2 : ∀ o, w2.cell? ⟨w.heap.size, o, none⟩ = (#[Value.slice ca nc cc, .slice da nd cd, .int .i64 M])[o]? := fun o => (hb2.cell (p := ⟨w.heap.size, o, none⟩) (by simp; omega)).trans ((World.cell?_alloc_past _ _ _ hz1).trans (hx1 o))
  clear hx1 hb2
  have hT : (w2.alloc (.cells zz33 33)).there w2.heap.size 0 (rcells (fun _ => 0) 0).size := there_block (al_new w2 (.cells zz33 33) _ rfl) _ rfl
  have HT := hide hT
  have HB3 : Hid (Below w2.heap.size w2 ((w2.alloc (.cells zz33 33)).setCells w2.heap.size 0 (rcells (fun _ => 0) 0).toList)) := setCells_below _ (Nat.le_refl _) _ _ _ ((Below.refl _ _).alloc (Nat.le_refl _) _)
  have hx3 : ∀ o, ((w2.alloc (.cells zz33 33)).setCells w2.heap.size 0 (rcells (fun _ => 0) 0).toList).cell? ⟨w.heap.size, o, none⟩ = (#[Value.slice ca nc cc, .slice da nd cd, .int .i64 M])[o]? := fun o => (HB3.out.cell (p := ⟨w.heap.size, o, none⟩) (by show w.heap.size < _; omega)).trans (hx2 o)
  have HG3 : Hid (((w2.alloc (.cells zz33 33)).setCells w2.heap.size 0 (rcells (fun _ => 0) 0).toList).rangeAt w2.heap.size 0 (rcells (fun _ => 0) 0).toList) := World.rangeAt_setCells_same (w2.alloc (.cells zz33 33)) w2.heap.size 0 (rcells (fun _ => 0) 0).toList HT.out
  have HZ3 : Hid (((w2.alloc (.cells zz33 33)).setCells w2.heap.size 0 (rcells (fun _ => 0) 0).toList).heap.size = w2.heap.size + 1) := by show _ = _; rw [setCells_size]; simp
  clear hT hx2
  go_wp2_with (refine wpList_store_mid rfl 33 (.tmp 7) (.tmp 22) rfl w2.heap.size 0 (rcells (fun _ => 0) 0) rfl rfl ?_ info33 ?_ ?_; exact HT.out; (case _ => exact one33 _ _))
  go_at_call 7
  refine (check_img ca da nc cc nd cd M _ hI.nc hI.nd M0 M1).mono ?_
  rintro e w3 ⟨rfl, hb3⟩
  rw [hck]
  have hx4 : ∀ o, w3.cell? ⟨w.heap.size, o, none⟩ = (#[Value.slice ca nc cc, .slice da nd cd, .int .i64 M])[o]? := fun o => (hb3.cell (p := ⟨w.heap.size, o, none⟩) (by show w.heap.size < _; rw [HZ3.out]; omega)).trans (hx3 o)
  have HF3 : Hid (Below w2.heap.size w2 w3 ∧ w2.heap.size < w3.heap.size ∧ w3.rangeAt w2.heap.size 0 (rcells (fun _ => 0) 0).toList) := by
    have hs : w2.heap.size + 1 ≤ w3.heap.size := Nat.le_trans (Nat.le_of_eq HZ3.out.symm) hb3.size
    refine ⟨HB3.out.trans (hb3.mono (Nat.le_trans (Nat.le_succ _) (Nat.le_of_eq HZ3.out.symm))), by omega, fun j v hv => ?_⟩
    exact (hb3.cell (p := ⟨w2.heap.size, 0 + j, none⟩) (Nat.lt_of_lt_of_eq (Nat.lt_succ_self _) HZ3.out.symm)).trans (HG3.out j v hv)
  clear hx3 HG3 HZ3 hb3 HB3 HT
  go_wp2_with fail
  go_at_call 8
  refine (may_img ca da nc cc nd cd M _ hI.nc hI.nd M0 M1).mono ?_
  rintro e w4 ⟨rfl, hb4⟩
  rw [hm]
  have hs4 := hb4.size
  have hs3 := HF3.out.2.1
  have hx5 : ∀ o, w4.cell? ⟨w.heap.size, o, none⟩ = (#[Value.slice ca nc cc, .slice da nd cd, .int .i64 M])[o]? := fun o => (hb4.cell (p := ⟨w.heap.size, o, none⟩) (by show w.heap.size < _; omega)).trans (hx4 o)
  have hy5 : ∀ o, w4.cell? ⟨w1.heap.size, o, none⟩ = (#[Value.int .i64 0, .int .i32 0, .slice none 0 0, .int .i64 0])[o]? := fun o => (hb4.cell (p := ⟨w1.heap.size, o, none⟩) (by show w1.heap.size < _; omega)).trans ((HF3.out.1.cell (p := ⟨w1.heap.size, o, none⟩) (by show w1.heap.size < _; omega)).trans (hy2 o))
  have HF4 : Hid (Below w2.heap.size w2 w4 ∧ w2.heap.size < w4.heap.size ∧ w4.rangeAt w2.heap.size 0 (rcells (fun _ => 0) 0).toList) := by
    refine ⟨HF3.out.1.trans (hb4.mono (by omega)), by omega, fun j v hv => ?_⟩
    exact (hb4.cell (p := ⟨w2.heap.size, 0 + j, none⟩) (by show w2.heap.size < _; omega)).trans (HF3.out.2.2 j v hv)
  have hB4 : Below w.heap.size w w4 := hB2.trans (HF4.out.1.mono (by omega))
  have hq4 : w2.heap.size < w4.heap.size := HF4.out.2.1
  clear hx4 HF3 hb4 hy2 hs3 hs4
  go_wp2_with fail
  go_at_call 9
  refine (stops_same 0 0 0 (.slice none 0 0) (.slice none 0 0) [] w4 (by simp) ⟨rfl, Or.inl ⟨rfl, rfl⟩⟩ ⟨rfl, Or.inl ⟨rfl, rfl⟩⟩).mono ?_
  rintro e w5 ⟨rfl, hb5⟩
  have HF5 : Hid (w5.rangeAt w2.heap.size 0 (rcells (fun _ => 0) 0).toList) := fun j v hv => (hb5.cell (p := ⟨w2.heap.size, 0 + j, none⟩) (by show w2.heap.size < _; omega)).trans (HF4.out.2.2 j v hv)
  have HB5 : Hid (Below w.heap.size w w5) := hB4.trans (hb5.mono hB4.size)
  clear hb5 HF4 hB4
  go_wp2_with (first | (refine wpList_load_mid_g (by rfl) 33 (.tmp 7) rfl w2.heap.size 0 rfl (rcells (fun _ => 0) 0).toList _ ?_ Try.underlying33 rfl info33 ?_; exact HF5.out) | (refine wpList_eql33_g (by rfl) _ _ _ rfl zz33 rfl rfl (HQ.out _) ?_))
  go_ret
  exact ⟨rfl, HB5.out⟩
end Go.Proofs.Ytofhiooodgopeaa.V
