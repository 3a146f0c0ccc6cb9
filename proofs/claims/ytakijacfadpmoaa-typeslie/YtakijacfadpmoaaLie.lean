/- TypesLie, by what the program is to answer. -/
import Derived.Test.YtakijacfadpmoaaAlaw
namespace Go.Proofs.Ytakijacfadpmoaa.T
open Go.RowKit
set_option linter.unusedVariables false
set_option linter.unusedSimpArgs false
theorem may_mono {d : Nat} : ∀ {T : Ty}, mayN d T = true → mayN (d + 1) T = true := by
  induction d with
  | zero => intro T h; simp [mayN] at h
  | succ d ih =>
    intro T h
    rcases T with _ | ⟨kind, name, nn, names, pn, parts, many⟩
    · rw [mayN_leaf] at h; cases h
    rw [mayN_succ] at h ⊢
    simp only [Bool.and_eq_true, List.all_eq_true, List.mem_range] at h ⊢
    exact ⟨⟨h.1.1, fun i hi => ih (h.1.2 i hi)⟩, h.2⟩
theorem rnd_even (n : Nat) : rnd true n % 2 = 0 := by unfold rnd; split <;> simp_all <;> omega
theorem rnd_odd (n : Nat) : rnd false n = n := by unfold rnd; simp
variable {kind : Int} {name : ByteArray} {nn : Nat} {names : Nat → ByteArray} {pn : Nat} {parts : Nat → Ty} {many : Bool}
set_option maxRecDepth 100000 in
set_option maxHeartbeats 2000000 in
theorem lie_f (HP : Pr) (v : Value) (w : World) (hv : TyV w (.mk kind name nn names pn parts many) v) (hm : mayN 4 (.mk kind name nn names pn parts many) = false) : Calls Try.prog 4 #[v] w fun e w' => e = .returned (.bool true) ∧ Below w.heap.size w w' := by
  have hP := hide HP
  have HT := hide hv
  obtain ⟨na, nc, pa, pc, rfl, hS, q1, q2, q3, q4, q5, q6, q7, HPt⟩ := hv.part
  clear hv hS HP
  have cl : ∀ w', Calls Try.prog 6 #[.agg #[.int .i64 2, .string ⟨#[]⟩, .slice none 0 0, .slice none 0 0, .bool false]] w' fun e w'' => e = .returned (.bool true) ∧ Below w'.heap.size w' w'' := fun w' => by
    have h := hP.out.may longT _ w' (longV w')
    rw [long_may] at h
    exact h
  have cm : ∀ w', TyV w' (.mk kind name nn names pn parts many) (.agg #[.int .i64 kind, .string name, .slice na nn nc, .slice pa pn pc, .bool many]) → Calls Try.prog 6 #[.agg #[.int .i64 kind, .string name, .slice na nn nc, .slice pa pn pc, .bool many]] w' fun e w'' => e = .returned (.bool (mayN 4 (.mk kind name nn names pn parts many))) ∧ Below w'.heap.size w' w'' := fun w' h => hP.out.may _ _ w' h
  rw [hm] at cm
  have cw := fun w' (h : TyV w' (.mk kind name nn names pn parts many) (.agg #[.int .i64 kind, .string name, .slice na nn nc, .slice pa pn pc, .bool many])) => hP.out.words_f _ _ w' hm h
  go_enter Try.func4, Try.ntmps4
  go_wp2_with fail
  have hB0 : Below w.heap.size w (w.alloc (.cells #[.int .i64 kind, .string name, .slice na nn nc, .slice pa pn pc, .bool many] 25)) := (Below.refl _ _).alloc (Nat.le_refl _) _
  have hx00 : ∀ o, (w.alloc (.cells #[.int .i64 kind, .string name, .slice na nn nc, .slice pa pn pc, .bool many] 25)).cell? ⟨w.heap.size, o, none⟩ = (#[Value.int .i64 kind, .string name, .slice na nn nc, .slice pa pn pc, .bool many])[o]? := fun o => World.cell?_alloc_at _ _ _ _ rfl
  have hz0 : (w.alloc (.cells #[.int .i64 kind, .string name, .slice na nn nc, .slice pa pn pc, .bool many] 25)).heap.size = w.heap.size + 1 := by simp
  generalize w.alloc (.cells #[.int .i64 kind, .string name, .slice na nn nc, .slice pa pn pc, .bool many] 25) = W at *
  have HW : Hid (∀ w', Below W.heap.size W w' → Below w.heap.size w w') := fun w' hw => hB0.trans (hw.mono (by omega))
  have HXc : Hid (∀ w', Below W.heap.size W w' → ∀ o, w'.cell? ⟨w.heap.size, o, none⟩ = (#[Value.int .i64 kind, .string name, .slice na nn nc, .slice pa pn pc, .bool many])[o]?) := fun w' hw o => (hw.cell (p := ⟨w.heap.size, o, none⟩) (by show w.heap.size < _; omega)).trans (hx00 o)
  have HB0 : Hid (Below W.heap.size W W) := Below.refl _ _
  have hx0 := HXc.out W HB0.out
  clear hx00 hz0 hB0
  go_at_call 8
  refine ((fun w' (hw : Below W.heap.size W w') => cw w' (HT.out.below (HW.out w' hw))) _ HB0.out).mono ?_
  rintro e w1 ⟨rfl, hb⟩
  have HB1 : Hid (Below W.heap.size W w1) := HB0.out.trans (hb.mono HB0.out.size)
  have hx1 := HXc.out w1 HB1.out
  clear hb hx0
  go_wp2_with fail
  go_at_call 6
  refine (cl _).mono ?_
  rintro e w2 ⟨rfl, hb⟩
  have HB2 : Hid (Below W.heap.size W w2) := HB1.out.trans (hb.mono HB1.out.size)
  have hx2 := HXc.out w2 HB2.out
  clear hb hx1
  go_wp2_with fail
  go_at_call 6
  refine ((fun w' (hw : Below W.heap.size W w') => cm w' (HT.out.below (HW.out w' hw))) _ HB2.out).mono ?_
  rintro e w3 ⟨rfl, hb⟩
  have HB3 : Hid (Below W.heap.size W w3) := HB2.out.trans (hb.mono HB2.out.size)
  have hx3 := HXc.out w3 HB3.out
  clear hb hx2
  go_wp2_with fail
  go_ret
  exact ⟨rfl, HW.out _ HB3.out⟩
set_option maxRecDepth 100000 in
set_option maxHeartbeats 2000000 in
theorem lie_1 (HP : Pr) (v : Value) (w : World) (hv : TyV w (.mk 1 name nn names pn parts many) v) (hm : mayN 4 (.mk 1 name nn names pn parts many) = true) : Calls Try.prog 4 #[v] w fun e w' => e = .returned (.bool true) ∧ Below w.heap.size w w' := by
  have hP := hide HP
  have HT := hide hv
  obtain ⟨na, nc, pa, pc, rfl, hS, q1, q2, q3, q4, q5, q6, q7, HPt⟩ := hv.part
  clear hv hS HP
  have cl : ∀ w', Calls Try.prog 6 #[.agg #[.int .i64 2, .string ⟨#[]⟩, .slice none 0 0, .slice none 0 0, .bool false]] w' fun e w'' => e = .returned (.bool true) ∧ Below w'.heap.size w' w'' := fun w' => by
    have h := hP.out.may longT _ w' (longV w')
    rw [long_may] at h
    exact h
  have cm : ∀ w', TyV w' (.mk 1 name nn names pn parts many) (.agg #[.int .i64 1, .string name, .slice na nn nc, .slice pa pn pc, .bool many]) → Calls Try.prog 6 #[.agg #[.int .i64 1, .string name, .slice na nn nc, .slice pa pn pc, .bool many]] w' fun e w'' => e = .returned (.bool (mayN 4 (.mk 1 name nn names pn parts many))) ∧ Below w'.heap.size w' w'' := fun w' h => hP.out.may _ _ w' h
  rw [hm] at cm
  have cw := fun w' (h : TyV w' (.mk 1 name nn names pn parts many) (.agg #[.int .i64 1, .string name, .slice na nn nc, .slice pa pn pc, .bool many])) => hP.out.words_t _ _ w' hm h
  have cp := fun w' (h : TyV w' (.mk 1 name nn names pn parts many) (.agg #[.int .i64 1, .string name, .slice na nn nc, .slice pa pn pc, .bool many])) => hP.out.places_t _ _ w' hm h
  rw [sizeT_mk] at cw
  rw [placesT_mk] at cp
  rw [if_neg (by decide), if_neg (by decide)] at cw
  rw [if_neg (by decide)] at cp
  go_enter Try.func4, Try.ntmps4
  go_wp2_with fail
  have hB0 : Below w.heap.size w (w.alloc (.cells #[.int .i64 1, .string name, .slice na nn nc, .slice pa pn pc, .bool many] 25)) := (Below.refl _ _).alloc (Nat.le_refl _) _
  have hx00 : ∀ o, (w.alloc (.cells #[.int .i64 1, .string name, .slice na nn nc, .slice pa pn pc, .bool many] 25)).cell? ⟨w.heap.size, o, none⟩ = (#[Value.int .i64 1, .string name, .slice na nn nc, .slice pa pn pc, .bool many])[o]? := fun o => World.cell?_alloc_at _ _ _ _ rfl
  have hz0 : (w.alloc (.cells #[.int .i64 1, .string name, .slice na nn nc, .slice pa pn pc, .bool many] 25)).heap.size = w.heap.size + 1 := by simp
  generalize w.alloc (.cells #[.int .i64 1, .string name, .slice na nn nc, .slice pa pn pc, .bool many] 25) = W at *
  have HW : Hid (∀ w', Below W.heap.size W w' → Below w.heap.size w w') := fun w' hw => hB0.trans (hw.mono (by omega))
  have HXc : Hid (∀ w', Below W.heap.size W w' → ∀ o, w'.cell? ⟨w.heap.size, o, none⟩ = (#[Value.int .i64 1, .string name, .slice na nn nc, .slice pa pn pc, .bool many])[o]?) := fun w' hw o => (hw.cell (p := ⟨w.heap.size, o, none⟩) (by show w.heap.size < _; omega)).trans (hx00 o)
  have HB0 : Hid (Below W.heap.size W W) := Below.refl _ _
  have hx0 := HXc.out W HB0.out
  clear hx00 hz0 hB0
  go_at_call 8
  refine ((fun w' (hw : Below W.heap.size W w') => cw w' (HT.out.below (HW.out w' hw))) _ HB0.out).mono ?_
  rintro e w1 ⟨rfl, hb⟩
  have HB1 : Hid (Below W.heap.size W w1) := HB0.out.trans (hb.mono HB0.out.size)
  have hx1 := HXc.out w1 HB1.out
  clear hb hx0
  go_wp2_with fail
  go_at_call 6
  refine (cl _).mono ?_
  rintro e w2 ⟨rfl, hb⟩
  have HB2 : Hid (Below W.heap.size W w2) := HB1.out.trans (hb.mono HB1.out.size)
  have hx2 := HXc.out w2 HB2.out
  clear hb hx1
  go_wp2_with fail
  go_at_call 6
  refine ((fun w' (hw : Below W.heap.size W w') => cm w' (HT.out.below (HW.out w' hw))) _ HB2.out).mono ?_
  rintro e w3 ⟨rfl, hb⟩
  have HB3 : Hid (Below W.heap.size W w3) := HB2.out.trans (hb.mono HB2.out.size)
  have hx3 := HXc.out w3 HB3.out
  clear hb hx2
  go_wp2_with fail
  go_at_call 10
  refine ((fun w' (hw : Below W.heap.size W w') => cp w' (HT.out.below (HW.out w' hw))) _ HB3.out).mono ?_
  rintro e w4 ⟨l, rfl, ho, hb⟩
  obtain ⟨a1, c1, rfl, -⟩ := own_cells ho
  clear ho
  have HB4 : Hid (Below W.heap.size W w4) := HB3.out.trans (hb.mono HB3.out.size)
  have hx4 := HXc.out w4 HB4.out
  clear hb hx3
  go_wp2_with fail
  go_ret
  exact ⟨rfl, HW.out _ HB4.out⟩
set_option maxRecDepth 100000 in
set_option maxHeartbeats 2000000 in
theorem lie_2 (HP : Pr) (v : Value) (w : World) (hv : TyV w (.mk 2 name nn names pn parts many) v) (hm : mayN 4 (.mk 2 name nn names pn parts many) = true) : Calls Try.prog 4 #[v] w fun e w' => e = .returned (.bool true) ∧ Below w.heap.size w w' := by
  have hP := hide HP
  have HT := hide hv
  obtain ⟨na, nc, pa, pc, rfl, hS, q1, q2, q3, q4, q5, q6, q7, HPt⟩ := hv.part
  clear hv hS HP
  have cl : ∀ w', Calls Try.prog 6 #[.agg #[.int .i64 2, .string ⟨#[]⟩, .slice none 0 0, .slice none 0 0, .bool false]] w' fun e w'' => e = .returned (.bool true) ∧ Below w'.heap.size w' w'' := fun w' => by
    have h := hP.out.may longT _ w' (longV w')
    rw [long_may] at h
    exact h
  have cm : ∀ w', TyV w' (.mk 2 name nn names pn parts many) (.agg #[.int .i64 2, .string name, .slice na nn nc, .slice pa pn pc, .bool many]) → Calls Try.prog 6 #[.agg #[.int .i64 2, .string name, .slice na nn nc, .slice pa pn pc, .bool many]] w' fun e w'' => e = .returned (.bool (mayN 4 (.mk 2 name nn names pn parts many))) ∧ Below w'.heap.size w' w'' := fun w' h => hP.out.may _ _ w' h
  rw [hm] at cm
  have cw := fun w' (h : TyV w' (.mk 2 name nn names pn parts many) (.agg #[.int .i64 2, .string name, .slice na nn nc, .slice pa pn pc, .bool many])) => hP.out.words_t _ _ w' hm h
  have cp := fun w' (h : TyV w' (.mk 2 name nn names pn parts many) (.agg #[.int .i64 2, .string name, .slice na nn nc, .slice pa pn pc, .bool many])) => hP.out.places_t _ _ w' hm h
  rw [sizeT_mk] at cw
  rw [placesT_mk] at cp
  rw [if_pos rfl] at cw
  rw [if_neg (by decide)] at cp
  go_enter Try.func4, Try.ntmps4
  go_wp2_with fail
  have hB0 : Below w.heap.size w (w.alloc (.cells #[.int .i64 2, .string name, .slice na nn nc, .slice pa pn pc, .bool many] 25)) := (Below.refl _ _).alloc (Nat.le_refl _) _
  have hx00 : ∀ o, (w.alloc (.cells #[.int .i64 2, .string name, .slice na nn nc, .slice pa pn pc, .bool many] 25)).cell? ⟨w.heap.size, o, none⟩ = (#[Value.int .i64 2, .string name, .slice na nn nc, .slice pa pn pc, .bool many])[o]? := fun o => World.cell?_alloc_at _ _ _ _ rfl
  have hz0 : (w.alloc (.cells #[.int .i64 2, .string name, .slice na nn nc, .slice pa pn pc, .bool many] 25)).heap.size = w.heap.size + 1 := by simp
  generalize w.alloc (.cells #[.int .i64 2, .string name, .slice na nn nc, .slice pa pn pc, .bool many] 25) = W at *
  have HW : Hid (∀ w', Below W.heap.size W w' → Below w.heap.size w w') := fun w' hw => hB0.trans (hw.mono (by omega))
  have HXc : Hid (∀ w', Below W.heap.size W w' → ∀ o, w'.cell? ⟨w.heap.size, o, none⟩ = (#[Value.int .i64 2, .string name, .slice na nn nc, .slice pa pn pc, .bool many])[o]?) := fun w' hw o => (hw.cell (p := ⟨w.heap.size, o, none⟩) (by show w.heap.size < _; omega)).trans (hx00 o)
  have HB0 : Hid (Below W.heap.size W W) := Below.refl _ _
  have hx0 := HXc.out W HB0.out
  clear hx00 hz0 hB0
  go_at_call 8
  refine ((fun w' (hw : Below W.heap.size W w') => cw w' (HT.out.below (HW.out w' hw))) _ HB0.out).mono ?_
  rintro e w1 ⟨rfl, hb⟩
  have HB1 : Hid (Below W.heap.size W w1) := HB0.out.trans (hb.mono HB0.out.size)
  have hx1 := HXc.out w1 HB1.out
  clear hb hx0
  go_wp2_with fail
  go_at_call 6
  refine (cl _).mono ?_
  rintro e w2 ⟨rfl, hb⟩
  have HB2 : Hid (Below W.heap.size W w2) := HB1.out.trans (hb.mono HB1.out.size)
  have hx2 := HXc.out w2 HB2.out
  clear hb hx1
  go_wp2_with fail
  go_at_call 6
  refine ((fun w' (hw : Below W.heap.size W w') => cm w' (HT.out.below (HW.out w' hw))) _ HB2.out).mono ?_
  rintro e w3 ⟨rfl, hb⟩
  have HB3 : Hid (Below W.heap.size W w3) := HB2.out.trans (hb.mono HB2.out.size)
  have hx3 := HXc.out w3 HB3.out
  clear hb hx2
  go_wp2_with fail
  go_at_call 10
  refine ((fun w' (hw : Below W.heap.size W w') => cp w' (HT.out.below (HW.out w' hw))) _ HB3.out).mono ?_
  rintro e w4 ⟨l, rfl, ho, hb⟩
  obtain ⟨a1, c1, rfl, -⟩ := own_cells ho
  clear ho
  have HB4 : Hid (Below W.heap.size W w4) := HB3.out.trans (hb.mono HB3.out.size)
  have hx4 := HXc.out w4 HB4.out
  clear hb hx3
  go_wp2_with fail
  go_ret
  exact ⟨rfl, HW.out _ HB4.out⟩
set_option maxRecDepth 100000 in
set_option maxHeartbeats 2000000 in
theorem lie_4 (HP : Pr) (v : Value) (w : World) (hv : TyV w (.mk 4 name nn names pn parts many) v) (hm : mayN 4 (.mk 4 name nn names pn parts many) = true) : Calls Try.prog 4 #[v] w fun e w' => e = .returned (.bool true) ∧ Below w.heap.size w w' := by
  have hP := hide HP
  have HT := hide hv
  obtain ⟨na, nc, pa, pc, rfl, hS, q1, q2, q3, q4, q5, q6, q7, HPt⟩ := hv.part
  clear hv hS HP
  have cl : ∀ w', Calls Try.prog 6 #[.agg #[.int .i64 2, .string ⟨#[]⟩, .slice none 0 0, .slice none 0 0, .bool false]] w' fun e w'' => e = .returned (.bool true) ∧ Below w'.heap.size w' w'' := fun w' => by
    have h := hP.out.may longT _ w' (longV w')
    rw [long_may] at h
    exact h
  have cm : ∀ w', TyV w' (.mk 4 name nn names pn parts many) (.agg #[.int .i64 4, .string name, .slice na nn nc, .slice pa pn pc, .bool many]) → Calls Try.prog 6 #[.agg #[.int .i64 4, .string name, .slice na nn nc, .slice pa pn pc, .bool many]] w' fun e w'' => e = .returned (.bool (mayN 4 (.mk 4 name nn names pn parts many))) ∧ Below w'.heap.size w' w'' := fun w' h => hP.out.may _ _ w' h
  rw [hm] at cm
  have cw := fun w' (h : TyV w' (.mk 4 name nn names pn parts many) (.agg #[.int .i64 4, .string name, .slice na nn nc, .slice pa pn pc, .bool many])) => hP.out.words_t _ _ w' hm h
  have cp := fun w' (h : TyV w' (.mk 4 name nn names pn parts many) (.agg #[.int .i64 4, .string name, .slice na nn nc, .slice pa pn pc, .bool many])) => hP.out.places_t _ _ w' hm h
  rw [sizeT_mk] at cw
  rw [placesT_mk] at cp
  rw [if_neg (by decide), if_neg (by decide)] at cw
  rw [if_neg (by decide)] at cp
  go_enter Try.func4, Try.ntmps4
  go_wp2_with fail
  have hB0 : Below w.heap.size w (w.alloc (.cells #[.int .i64 4, .string name, .slice na nn nc, .slice pa pn pc, .bool many] 25)) := (Below.refl _ _).alloc (Nat.le_refl _) _
  have hx00 : ∀ o, (w.alloc (.cells #[.int .i64 4, .string name, .slice na nn nc, .slice pa pn pc, .bool many] 25)).cell? ⟨w.heap.size, o, none⟩ = (#[Value.int .i64 4, .string name, .slice na nn nc, .slice pa pn pc, .bool many])[o]? := fun o => World.cell?_alloc_at _ _ _ _ rfl
  have hz0 : (w.alloc (.cells #[.int .i64 4, .string name, .slice na nn nc, .slice pa pn pc, .bool many] 25)).heap.size = w.heap.size + 1 := by simp
  generalize w.alloc (.cells #[.int .i64 4, .string name, .slice na nn nc, .slice pa pn pc, .bool many] 25) = W at *
  have HW : Hid (∀ w', Below W.heap.size W w' → Below w.heap.size w w') := fun w' hw => hB0.trans (hw.mono (by omega))
  have HXc : Hid (∀ w', Below W.heap.size W w' → ∀ o, w'.cell? ⟨w.heap.size, o, none⟩ = (#[Value.int .i64 4, .string name, .slice na nn nc, .slice pa pn pc, .bool many])[o]?) := fun w' hw o => (hw.cell (p := ⟨w.heap.size, o, none⟩) (by show w.heap.size < _; omega)).trans (hx00 o)
  have HB0 : Hid (Below W.heap.size W W) := Below.refl _ _
  have hx0 := HXc.out W HB0.out
  clear hx00 hz0 hB0
  go_at_call 8
  refine ((fun w' (hw : Below W.heap.size W w') => cw w' (HT.out.below (HW.out w' hw))) _ HB0.out).mono ?_
  rintro e w1 ⟨rfl, hb⟩
  have HB1 : Hid (Below W.heap.size W w1) := HB0.out.trans (hb.mono HB0.out.size)
  have hx1 := HXc.out w1 HB1.out
  clear hb hx0
  go_wp2_with fail
  go_at_call 6
  refine (cl _).mono ?_
  rintro e w2 ⟨rfl, hb⟩
  have HB2 : Hid (Below W.heap.size W w2) := HB1.out.trans (hb.mono HB1.out.size)
  have hx2 := HXc.out w2 HB2.out
  clear hb hx1
  go_wp2_with fail
  go_at_call 6
  refine ((fun w' (hw : Below W.heap.size W w') => cm w' (HT.out.below (HW.out w' hw))) _ HB2.out).mono ?_
  rintro e w3 ⟨rfl, hb⟩
  have HB3 : Hid (Below W.heap.size W w3) := HB2.out.trans (hb.mono HB2.out.size)
  have hx3 := HXc.out w3 HB3.out
  clear hb hx2
  go_wp2_with fail
  go_at_call 10
  refine ((fun w' (hw : Below W.heap.size W w') => cp w' (HT.out.below (HW.out w' hw))) _ HB3.out).mono ?_
  rintro e w4 ⟨l, rfl, ho, hb⟩
  obtain ⟨a1, c1, rfl, -⟩ := own_cells ho
  clear ho
  have HB4 : Hid (Below W.heap.size W w4) := HB3.out.trans (hb.mono HB3.out.size)
  have hx4 := HXc.out w4 HB4.out
  clear hb hx3
  go_wp2_with fail
  go_ret
  exact ⟨rfl, HW.out _ HB4.out⟩
set_option maxRecDepth 100000 in
set_option maxHeartbeats 2000000 in
theorem lie_s (HP : Pr) (v : Value) (w : World) (hv : TyV w (.mk 3 name nn names pn parts many) v) (hm : mayN 4 (.mk 3 name nn names pn parts many) = true) : Calls Try.prog 4 #[v] w fun e w' => e = .returned (.bool true) ∧ Below w.heap.size w w' := by
  have hP := hide HP
  have HT := hide hv
  obtain ⟨na, nc, pa, pc, rfl, hS, q1, q2, q3, q4, q5, q6, q7, HPt⟩ := hv.part
  clear hv hS HP
  have cl : ∀ w', Calls Try.prog 6 #[.agg #[.int .i64 2, .string ⟨#[]⟩, .slice none 0 0, .slice none 0 0, .bool false]] w' fun e w'' => e = .returned (.bool true) ∧ Below w'.heap.size w' w'' := fun w' => by
    have h := hP.out.may longT _ w' (longV w')
    rw [long_may] at h
    exact h
  have cm : ∀ w', TyV w' (.mk 3 name nn names pn parts many) (.agg #[.int .i64 3, .string name, .slice na nn nc, .slice pa pn pc, .bool many]) → Calls Try.prog 6 #[.agg #[.int .i64 3, .string name, .slice na nn nc, .slice pa pn pc, .bool many]] w' fun e w'' => e = .returned (.bool (mayN 4 (.mk 3 name nn names pn parts many))) ∧ Below w'.heap.size w' w'' := fun w' h => hP.out.may _ _ w' h
  rw [hm] at cm
  have cw := fun w' (h : TyV w' (.mk 3 name nn names pn parts many) (.agg #[.int .i64 3, .string name, .slice na nn nc, .slice pa pn pc, .bool many])) => hP.out.words_t _ _ w' hm h
  have cp := fun w' (h : TyV w' (.mk 3 name nn names pn parts many) (.agg #[.int .i64 3, .string name, .slice na nn nc, .slice pa pn pc, .bool many])) => hP.out.places_t _ _ w' hm h
  have ce := fun w' (h : TyV w' (.mk 3 name nn names pn parts many) (.agg #[.int .i64 3, .string name, .slice na nn nc, .slice pa pn pc, .bool many])) => hP.out.even_t _ _ w' hm h
  have F := may_facts hm
  have hp7 := F.1
  have hs12 := (sizeT_le hm).2
  have HPm : Hid (∀ i, i < pn → mayN 4 (parts i) = true) := fun i hi => may_mono (F.2.2.1 i hi)
  rw [sizeT_mk, if_neg (by decide), if_pos rfl] at cw hs12
  rw [placesT_mk, if_pos rfl, List.length_map, List.length_range] at cp
  obtain ⟨sz, hsz⟩ : ∃ sz, sz = fun i => sizeT (parts i) := ⟨_, rfl⟩
  obtain ⟨ev, hev⟩ : ∃ ev, ev = evs (.mk 3 name nn names pn parts many) pn parts := ⟨_, rfl⟩
  rw [← hsz, ← hev] at cw cp hs12
  have HSl : Hid (∀ i, i < pn → sz i ≤ 12) := fun i hi => by rw [hsz]; exact (sizeT_le (F.2.2.1 i hi)).2
  have HPl : Hid (∀ i, i ≤ pn → placeN sz ev i ≤ 13 * i) := fun i hi => place_le HSl.out i hi
  have hee : evenT (.mk 3 name nn names pn parts many) = ev pn := by rw [hev]; unfold evs; rw [if_neg (by omega)]
  rw [hee] at ce
  have HEv : Hid (∀ i, i < pn → evenT (parts i) = ev i) := fun i hi => by rw [hev]; unfold evs; rw [if_pos hi]
  have HSz : Hid (∀ i, sizeT (parts i) = sz i) := fun i => by rw [hsz]
  have HPE := hide (place_end sz ev pn)
  have HM := hide (And.intro hm (And.intro F (And.intro hsz (And.intro hev hee))))
  clear hm F hsz hev hee
  go_enter Try.func4, Try.ntmps4
  go_wp2_with fail
  have hB0 : Below w.heap.size w (w.alloc (.cells #[.int .i64 3, .string name, .slice na nn nc, .slice pa pn pc, .bool many] 25)) := (Below.refl _ _).alloc (Nat.le_refl _) _
  have hx00 : ∀ o, (w.alloc (.cells #[.int .i64 3, .string name, .slice na nn nc, .slice pa pn pc, .bool many] 25)).cell? ⟨w.heap.size, o, none⟩ = (#[Value.int .i64 3, .string name, .slice na nn nc, .slice pa pn pc, .bool many])[o]? := fun o => World.cell?_alloc_at _ _ _ _ rfl
  have hz0 : (w.alloc (.cells #[.int .i64 3, .string name, .slice na nn nc, .slice pa pn pc, .bool many] 25)).heap.size = w.heap.size + 1 := by simp
  generalize w.alloc (.cells #[.int .i64 3, .string name, .slice na nn nc, .slice pa pn pc, .bool many] 25) = W at *
  have HW : Hid (∀ w', Below W.heap.size W w' → Below w.heap.size w w') := fun w' hw => hB0.trans (hw.mono (by omega))
  have HXc : Hid (∀ w', Below W.heap.size W w' → ∀ o, w'.cell? ⟨w.heap.size, o, none⟩ = (#[Value.int .i64 3, .string name, .slice na nn nc, .slice pa pn pc, .bool many])[o]?) := fun w' hw o => (hw.cell (p := ⟨w.heap.size, o, none⟩) (by show w.heap.size < _; omega)).trans (hx00 o)
  have HB0 : Hid (Below W.heap.size W W) := Below.refl _ _
  have hx0 := HXc.out W HB0.out
  clear hx00 hz0 hB0
  go_at_call 8
  refine ((fun w' (hw : Below W.heap.size W w') => cw w' (HT.out.below (HW.out w' hw))) _ HB0.out).mono ?_
  rintro e w1 ⟨rfl, hb⟩
  have HB1 : Hid (Below W.heap.size W w1) := HB0.out.trans (hb.mono HB0.out.size)
  have hx1 := HXc.out w1 HB1.out
  clear hb hx0
  go_wp2_with fail
  go_at_call 6
  refine (cl _).mono ?_
  rintro e w2 ⟨rfl, hb⟩
  have HB2 : Hid (Below W.heap.size W w2) := HB1.out.trans (hb.mono HB1.out.size)
  have hx2 := HXc.out w2 HB2.out
  clear hb hx1
  go_wp2_with fail
  go_at_call 6
  refine ((fun w' (hw : Below W.heap.size W w') => cm w' (HT.out.below (HW.out w' hw))) _ HB2.out).mono ?_
  rintro e w3 ⟨rfl, hb⟩
  have HB3 : Hid (Below W.heap.size W w3) := HB2.out.trans (hb.mono HB2.out.size)
  have hx3 := HXc.out w3 HB3.out
  clear hb hx2
  go_wp2_with fail
  go_at_call 10
  refine ((fun w' (hw : Below W.heap.size W w') => cp w' (HT.out.below (HW.out w' hw))) _ HB3.out).mono ?_
  rintro e w4 ⟨l, rfl, ho, hb⟩
  obtain ⟨a1, c1, rfl, HLc⟩ := own_cells ho
  clear ho
  have HB4 : Hid (Below W.heap.size W w4) := HB3.out.trans (hb.mono HB3.out.size)
  have hx4 := HXc.out w4 HB4.out
  clear hb hx3
  have HL4 : Hid (0 < pn → ∃ g, a1 = some ⟨g, 0, none⟩ ∧ ∀ w', Below W.heap.size W w' → Below w4.heap.size w4 w' → ∀ j, j < pn → w'.cell? ⟨g, j, none⟩ = some (.int .i64 (placeN sz ev j : Nat))) := fun hp => by
    obtain ⟨g, e1, e2, e3⟩ := HLc hp
    refine ⟨g, e1, fun w' _ hw j hj => ?_⟩
    have h1 := (hw.cell (p := ⟨g, 0 + j, none⟩) e2).trans (e3 j hj)
    rw [Nat.zero_add] at h1
    rw [h1]
    unfold ints
    rw [List.getElem?_map, List.getElem?_map, List.getElem?_range hj]
    rfl
  clear HLc
  have hs12' : ¬ (12 : Int) < (placeN sz ev pn : Nat) := by omega
  generalize hnp : placeN sz ev pn = np at *
  have HW4 : Hid (∀ w', Below w4.heap.size w4 w' → Below W.heap.size W w') := fun w' hw => HB4.out.trans (hw.mono HB4.out.size)
  have cel := fun w' (hw : Below w4.heap.size w4 w') => ce w' (HT.out.below (HW.out w' (HW4.out w' hw)))
  have hpe := HPE.out
  clear ce cw cm cp cl
  cases hE : ev pn with
  | false =>
    rw [hE] at cel
    rw [hE] at hpe
    clear hpe
    go_wp2_with fail
    go_at_call 9
    refine (cel _ (Below.refl _ _)).mono ?_
    rintro e w5 ⟨rfl, hb5⟩
    have HB5 := hide hb5
    have hx5 := HXc.out w5 (HW4.out w5 HB5.out)
    clear hb5
    go_wp2_with fail
    go_loopw [5, 6] (fun en' i' wr => ∃ i : Nat, i ≤ pn ∧ en' = .int .i64 (endN sz ev i : Nat) ∧ i' = .int .i64 i ∧ Hid (Below w4.heap.size w4 wr)) (fun _ i' _ => pn - (intOf i').toNat)
    case atStart => exact ⟨0, Nat.zero_le _, rfl, rfl, HB5⟩
    case round =>
      clear hx5 HB5
      obtain ⟨i, hi, rfl, rfl, HB⟩ := hrel
      have hx5 := HXc.out wr (HW4.out wr HB.out)
      by_cases hlt : i < pn
      · have hlt' : (i : Int) < pn := by omega
        have hidx : (0 : Int) ≤ i ∧ (i : Int) < pn := by omega
        obtain ⟨g, rfl, hg⟩ := HL4.out (by omega)
        obtain ⟨b, o, rfl, hb, hc⟩ := HPt.out (by omega)
        obtain ⟨c0, c1', c2, c3, c4, g0, g1, g2, g3, g4, g5⟩ := hc i hlt
        have cpe := fun w' (hw : Below w4.heap.size w4 w') => hP.out.even_t (parts i) _ w' (HPm.out i hlt) (g5.below (HW.out w' (HW4.out w' hw)))
        have cpw := fun w' (hw : Below w4.heap.size w4 w') => hP.out.words_t (parts i) _ w' (HPm.out i hlt) (g5.below (HW.out w' (HW4.out w' hw)))
        rw [HEv.out i hlt] at cpe
        rw [HSz.out i] at cpw
        have hpi := place_end sz ev i
        have hri := rnd_le (ev i) (endN sz ev i)
        rw [← hpi] at hri
        have b1 := HPl.out i (by omega)
        have b2 := HSl.out i hlt
        have hadd : IntKind.i64.wrap ((placeN sz ev i : Int) + (sz i : Int)) = ((endN sz ev (i + 1) : Nat) : Int) := by
          rw [IntKind.wrap_i64]
          show _ = ((placeN sz ev i + sz i : Nat) : Int)
          omega
        have hsb : ∀ w', Below w4.heap.size w4 w' → (fun w' => (∀ o', w'.cell? ⟨w.heap.size, o', none⟩ = (#[Value.int .i64 3, .string name, .slice na nn nc, .slice (some ⟨b, o, none⟩) pn pc, .bool many])[o']?) ∧ w'.cell? ⟨g, i, none⟩ = some (.int .i64 (placeN sz ev i : Nat)) ∧ w'.cell? ⟨b, o + i * 5, none⟩ = some c0 ∧ w'.cell? ⟨b, o + i * 5 + 1, none⟩ = some c1' ∧ w'.cell? ⟨b, o + i * 5 + 2, none⟩ = some c2 ∧ w'.cell? ⟨b, o + i * 5 + 3, none⟩ = some c3 ∧ w'.cell? ⟨b, o + i * 5 + 4, none⟩ = some c4) w' := fun w' hw => ⟨HXc.out w' (HW4.out w' hw), hg w' (HW4.out w' hw) hw i hlt, ((HW.out w' (HW4.out w' hw)).cell (p := ⟨b, o + i * 5, none⟩) hb).trans g0, ((HW.out w' (HW4.out w' hw)).cell (p := ⟨b, o + i * 5 + 1, none⟩) hb).trans g1, ((HW.out w' (HW4.out w' hw)).cell (p := ⟨b, o + i * 5 + 2, none⟩) hb).trans g2, ((HW.out w' (HW4.out w' hw)).cell (p := ⟨b, o + i * 5 + 3, none⟩) hb).trans g3, ((HW.out w' (HW4.out w' hw)).cell (p := ⟨b, o + i * 5 + 4, none⟩) hb).trans g4⟩
        clear g0 g1 g2 g3 g4 g5 hc hg
        generalize placeN sz ev i = pl at *
        have HSb := hide hsb
        clear hsb
        obtain ⟨-, hl5, e0, e1, e2, e3, e4⟩ := HSb.out wr HB.out
        have t0 : ¬ (pl : Int) < (endN sz ev i : Nat) := by omega
        have t1 : ¬ ((endN sz ev i : Nat) : Int) + 1 < pl := by omega
        have HEI := hide hpi
        cases hei : ev i with
        | true =>
          rw [hei] at cpe
          have hp2 : (pl : Int).tmod 2 = 0 := by rw [Int.tmod_eq_emod_of_nonneg (by omega)]; have := rnd_even (endN sz ev i); rw [hpi, hei]; omega
          have hp3 : (pl : Int) % 2 = 0 := by have := rnd_even (endN sz ev i); rw [hpi, hei]; omega
          have HH := hide hei
          clear hpi hei
          go_wp2_with fail
          go_at_call 9
          refine (cpe _ HB.out).mono ?_
          rintro e w7 ⟨rfl, hb1⟩
          have HB1 : Hid (Below w4.heap.size w4 w7) := HB.out.trans (hb1.mono HB.out.size)
          obtain ⟨hx7, hl7, -⟩ := HSb.out w7 HB1.out
          clear hb1
          go_wp2_with fail
          refine wp_region_held_drew (S := fun w' => (∀ o', w'.cell? ⟨w.heap.size, o', none⟩ = (#[Value.int .i64 3, .string name, .slice na nn nc, .slice (some ⟨b, o, none⟩) pn pc, .bool many])[o']?) ∧ w'.cell? ⟨g, i, none⟩ = some (.int .i64 (pl : Nat)) ∧ w'.cell? ⟨b, o + i * 5, none⟩ = some c0 ∧ w'.cell? ⟨b, o + i * 5 + 1, none⟩ = some c1' ∧ w'.cell? ⟨b, o + i * 5 + 2, none⟩ = some c2 ∧ w'.cell? ⟨b, o + i * 5 + 3, none⟩ = some c3 ∧ w'.cell? ⟨b, o + i * 5 + 4, none⟩ = some c4) (by kernel_rfl) (HSb.out _ HB1.out.drew) (fun hHeld => ?_)
          refine wpAnyH_take (i := 0) (v := ?_) rfl (by kernel_rfl) (by kernel_rfl) (by kernel_rfl) (fun _ _ _ h => h) (Or.inl ⟨by rfl, ?_⟩) (by assumption) ?_
          rotate_left
          · (intro w hSw; (try dsimp only at hSw); go_simp) <;> with_reducible rfl
          (simp only [Act.put, List.getElem_toArray, List.getElem_cons_zero, List.getElem_cons_succ, List.setIfInBounds_toArray, List.set_cons_zero, List.set_cons_succ])
          refine wpAnyH_take (i := 1) (v := ?_) rfl (by kernel_rfl) (by kernel_rfl) (by kernel_rfl) (fun _ _ _ h => h) (Or.inl ⟨by rfl, ?_⟩) (by assumption) ?_
          rotate_left
          · (intro w hSw; (try dsimp only at hSw); go_simp) <;> with_reducible rfl
          (simp only [Act.put, List.getElem_toArray, List.getElem_cons_zero, List.getElem_cons_succ, List.setIfInBounds_toArray, List.set_cons_zero, List.set_cons_succ])
          refine wpAnyH_take (i := 2) (v := ?_) rfl (by kernel_rfl) (by kernel_rfl) (by kernel_rfl) (fun _ _ _ h => h) (Or.inl ⟨by rfl, ?_⟩) (by assumption) ?_
          rotate_left
          · (intro w hSw; (try dsimp only at hSw); go_simp) <;> with_reducible rfl
          (simp only [Act.put, List.getElem_toArray, List.getElem_cons_zero, List.getElem_cons_succ, List.setIfInBounds_toArray, List.set_cons_zero, List.set_cons_succ])
          refine wpAnyH_take (i := 3) (v := ?_) rfl (by kernel_rfl) (by kernel_rfl) (by kernel_rfl) (fun _ _ _ h => h) (Or.inl ⟨by rfl, ?_⟩) (by assumption) ?_
          rotate_left
          · (intro w hSw; (try dsimp only at hSw); go_simp) <;> with_reducible rfl
          (simp only [Act.put, List.getElem_toArray, List.getElem_cons_zero, List.getElem_cons_succ, List.setIfInBounds_toArray, List.set_cons_zero, List.set_cons_succ])
          refine wpAnyH_take (i := 4) (v := ?_) rfl (by kernel_rfl) (by kernel_rfl) (by kernel_rfl) (fun _ _ _ h => h) (Or.inl ⟨by rfl, ?_⟩) (by assumption) ?_
          rotate_left
          · (intro w hSw; (try dsimp only at hSw); go_simp) <;> with_reducible rfl
          (simp only [Act.put, List.getElem_toArray, List.getElem_cons_zero, List.getElem_cons_succ, List.setIfInBounds_toArray, List.set_cons_zero, List.set_cons_succ])
          refine wpAnyH_take (i := 5) (v := ?_) rfl (by kernel_rfl) (by kernel_rfl) (by kernel_rfl) (fun _ _ _ h => h) (Or.inl ⟨by rfl, ?_⟩) (by assumption) ?_
          rotate_left
          · (intro w hSw; (try dsimp only at hSw); go_simp) <;> with_reducible rfl
          (simp only [Act.put, List.getElem_toArray, List.getElem_cons_zero, List.getElem_cons_succ, List.setIfInBounds_toArray, List.set_cons_zero, List.set_cons_succ])
          refine wpAnyH_take (i := 6) (v := ?_) rfl (by kernel_rfl) (by kernel_rfl) (by kernel_rfl) (fun _ _ _ h => h) (Or.inl ⟨by rfl, ?_⟩) (by assumption) ?_
          rotate_left
          · (intro w hSw; (try dsimp only at hSw); go_simp) <;> with_reducible rfl
          (simp only [Act.put, List.getElem_toArray, List.getElem_cons_zero, List.getElem_cons_succ, List.setIfInBounds_toArray, List.set_cons_zero, List.set_cons_succ])
          refine wpAnyH_take (i := 7) (v := ?_) rfl (by kernel_rfl) (by kernel_rfl) (by kernel_rfl) (fun _ _ _ h => h) (Or.inl ⟨by rfl, ?_⟩) (by assumption) ?_
          rotate_left
          · (intro w hSw; (try dsimp only at hSw); go_simp) <;> with_reducible rfl
          (simp only [Act.put, List.getElem_toArray, List.getElem_cons_zero, List.getElem_cons_succ, List.setIfInBounds_toArray, List.set_cons_zero, List.set_cons_succ])
          refine wpAnyH_take (i := 8) (v := ?_) rfl (by kernel_rfl) (by kernel_rfl) (by kernel_rfl) (fun _ _ _ h => h) (Or.inl ⟨by rfl, ?_⟩) (by assumption) ?_
          rotate_left
          · (intro w hSw; (try dsimp only at hSw); go_simp) <;> with_reducible rfl
          (simp only [Act.put, List.getElem_toArray, List.getElem_cons_zero, List.getElem_cons_succ, List.setIfInBounds_toArray, List.set_cons_zero, List.set_cons_succ])
          refine wpAnyH_ready (rs := [9]) (by kernel_rfl) (by simp) ?_
          refine AllReadyH.cons rfl (fun K hK => ?_) AllReadyH.nil
          go_simp
          refine (cpw _ HB1.out.drew).mono ?_
          rintro e w8 ⟨rfl, hb2⟩
          have HB2 : Hid (Below w4.heap.size w4 w8) := HB1.out.drew.trans (hb2.mono HB1.out.size)
          refine hK.out _ _ (HSb.out _ HB2.out) (fun hHeld2 => ?_)
          clear hK K hb2
          (try simp only [Act.put, List.getElem_toArray, List.getElem_cons_zero, List.getElem_cons_succ, List.setIfInBounds_toArray, List.set_cons_zero, List.set_cons_succ])
          refine wpAnyH_take (i := 10) (v := ?_) rfl (by kernel_rfl) (by kernel_rfl) (by kernel_rfl) (fun _ _ _ h => h) (Or.inl ⟨by rfl, ?_⟩) (by assumption) ?_
          rotate_left
          · (intro w hSw; (try dsimp only at hSw); go_simp) <;> with_reducible rfl
          (simp only [Act.put, List.getElem_toArray, List.getElem_cons_zero, List.getElem_cons_succ, List.setIfInBounds_toArray, List.set_cons_zero, List.set_cons_succ])
          refine wpAnyH_take (i := 11) (v := ?_) rfl (by kernel_rfl) (by kernel_rfl) (by kernel_rfl) (fun _ _ _ h => h) (Or.inl ⟨by rfl, ?_⟩) (by assumption) ?_
          rotate_left
          · (intro w hSw; (try dsimp only at hSw); go_simp) <;> with_reducible rfl
          (simp only [Act.put, List.getElem_toArray, List.getElem_cons_zero, List.getElem_cons_succ, List.setIfInBounds_toArray, List.set_cons_zero, List.set_cons_succ])
          refine wpAnyH_done (by kernel_rfl) ?_ _
          go_wp2_with fail
          go_roundw
          case rel => exact ⟨i + 1, by omega, rfl, by go_num, HB2⟩
          case measure => simp [intOf]; omega
        | false =>
          rw [hei] at cpe
          have hpe2 : pl = endN sz ev i := by rw [hpi, hei, rnd_odd]
          have u1 : ((pl : Int) != ((endN sz ev i : Nat) : Int)) = false := by rw [hpe2]; simp
          have u2 : ((pl : Int) == ((endN sz ev i : Nat) : Int)) = true := by rw [hpe2]; simp
          have u3 : (pl == endN sz ev i) = true := by rw [hpe2]; simp
          have u4 : (pl != endN sz ev i) = false := by rw [hpe2]; simp
          have HH := hide (And.intro hei hpe2)
          clear hpi hei hpe2
          go_wp2_with fail
          go_at_call 9
          refine (cpe _ HB.out).mono ?_
          rintro e w7 ⟨rfl, hb1⟩
          have HB1 : Hid (Below w4.heap.size w4 w7) := HB.out.trans (hb1.mono HB.out.size)
          obtain ⟨hx7, hl7, -⟩ := HSb.out w7 HB1.out
          clear hb1
          go_wp2_with fail
          refine wp_region_held_drew (S := fun w' => (∀ o', w'.cell? ⟨w.heap.size, o', none⟩ = (#[Value.int .i64 3, .string name, .slice na nn nc, .slice (some ⟨b, o, none⟩) pn pc, .bool many])[o']?) ∧ w'.cell? ⟨g, i, none⟩ = some (.int .i64 (pl : Nat)) ∧ w'.cell? ⟨b, o + i * 5, none⟩ = some c0 ∧ w'.cell? ⟨b, o + i * 5 + 1, none⟩ = some c1' ∧ w'.cell? ⟨b, o + i * 5 + 2, none⟩ = some c2 ∧ w'.cell? ⟨b, o + i * 5 + 3, none⟩ = some c3 ∧ w'.cell? ⟨b, o + i * 5 + 4, none⟩ = some c4) (by kernel_rfl) (HSb.out _ HB1.out.drew) (fun hHeld => ?_)
          refine wpAnyH_take (i := 0) (v := ?_) rfl (by kernel_rfl) (by kernel_rfl) (by kernel_rfl) (fun _ _ _ h => h) (Or.inl ⟨by rfl, ?_⟩) (by assumption) ?_
          rotate_left
          · (intro w hSw; (try dsimp only at hSw); go_simp) <;> with_reducible rfl
          (simp only [Act.put, List.getElem_toArray, List.getElem_cons_zero, List.getElem_cons_succ, List.setIfInBounds_toArray, List.set_cons_zero, List.set_cons_succ])
          refine wpAnyH_take (i := 1) (v := ?_) rfl (by kernel_rfl) (by kernel_rfl) (by kernel_rfl) (fun _ _ _ h => h) (Or.inl ⟨by rfl, ?_⟩) (by assumption) ?_
          rotate_left
          · (intro w hSw; (try dsimp only at hSw); go_simp) <;> with_reducible rfl
          (simp only [Act.put, List.getElem_toArray, List.getElem_cons_zero, List.getElem_cons_succ, List.setIfInBounds_toArray, List.set_cons_zero, List.set_cons_succ])
          refine wpAnyH_take (i := 2) (v := ?_) rfl (by kernel_rfl) (by kernel_rfl) (by kernel_rfl) (fun _ _ _ h => h) (Or.inl ⟨by rfl, ?_⟩) (by assumption) ?_
          rotate_left
          · (intro w hSw; (try dsimp only at hSw); go_simp) <;> with_reducible rfl
          (simp only [Act.put, List.getElem_toArray, List.getElem_cons_zero, List.getElem_cons_succ, List.setIfInBounds_toArray, List.set_cons_zero, List.set_cons_succ])
          refine wpAnyH_take (i := 3) (v := ?_) rfl (by kernel_rfl) (by kernel_rfl) (by kernel_rfl) (fun _ _ _ h => h) (Or.inl ⟨by rfl, ?_⟩) (by assumption) ?_
          rotate_left
          · (intro w hSw; (try dsimp only at hSw); go_simp) <;> with_reducible rfl
          (simp only [Act.put, List.getElem_toArray, List.getElem_cons_zero, List.getElem_cons_succ, List.setIfInBounds_toArray, List.set_cons_zero, List.set_cons_succ])
          refine wpAnyH_take (i := 4) (v := ?_) rfl (by kernel_rfl) (by kernel_rfl) (by kernel_rfl) (fun _ _ _ h => h) (Or.inl ⟨by rfl, ?_⟩) (by assumption) ?_
          rotate_left
          · (intro w hSw; (try dsimp only at hSw); go_simp) <;> with_reducible rfl
          (simp only [Act.put, List.getElem_toArray, List.getElem_cons_zero, List.getElem_cons_succ, List.setIfInBounds_toArray, List.set_cons_zero, List.set_cons_succ])
          refine wpAnyH_take (i := 5) (v := ?_) rfl (by kernel_rfl) (by kernel_rfl) (by kernel_rfl) (fun _ _ _ h => h) (Or.inl ⟨by rfl, ?_⟩) (by assumption) ?_
          rotate_left
          · (intro w hSw; (try dsimp only at hSw); go_simp) <;> with_reducible rfl
          (simp only [Act.put, List.getElem_toArray, List.getElem_cons_zero, List.getElem_cons_succ, List.setIfInBounds_toArray, List.set_cons_zero, List.set_cons_succ])
          refine wpAnyH_take (i := 6) (v := ?_) rfl (by kernel_rfl) (by kernel_rfl) (by kernel_rfl) (fun _ _ _ h => h) (Or.inl ⟨by rfl, ?_⟩) (by assumption) ?_
          rotate_left
          · (intro w hSw; (try dsimp only at hSw); go_simp) <;> with_reducible rfl
          (simp only [Act.put, List.getElem_toArray, List.getElem_cons_zero, List.getElem_cons_succ, List.setIfInBounds_toArray, List.set_cons_zero, List.set_cons_succ])
          refine wpAnyH_take (i := 7) (v := ?_) rfl (by kernel_rfl) (by kernel_rfl) (by kernel_rfl) (fun _ _ _ h => h) (Or.inl ⟨by rfl, ?_⟩) (by assumption) ?_
          rotate_left
          · (intro w hSw; (try dsimp only at hSw); go_simp) <;> with_reducible rfl
          (simp only [Act.put, List.getElem_toArray, List.getElem_cons_zero, List.getElem_cons_succ, List.setIfInBounds_toArray, List.set_cons_zero, List.set_cons_succ])
          refine wpAnyH_take (i := 8) (v := ?_) rfl (by kernel_rfl) (by kernel_rfl) (by kernel_rfl) (fun _ _ _ h => h) (Or.inl ⟨by rfl, ?_⟩) (by assumption) ?_
          rotate_left
          · (intro w hSw; (try dsimp only at hSw); go_simp) <;> with_reducible rfl
          (simp only [Act.put, List.getElem_toArray, List.getElem_cons_zero, List.getElem_cons_succ, List.setIfInBounds_toArray, List.set_cons_zero, List.set_cons_succ])
          refine wpAnyH_ready (rs := [9]) (by kernel_rfl) (by simp) ?_
          refine AllReadyH.cons rfl (fun K hK => ?_) AllReadyH.nil
          go_simp
          refine (cpw _ HB1.out.drew).mono ?_
          rintro e w8 ⟨rfl, hb2⟩
          have HB2 : Hid (Below w4.heap.size w4 w8) := HB1.out.drew.trans (hb2.mono HB1.out.size)
          refine hK.out _ _ (HSb.out _ HB2.out) (fun hHeld2 => ?_)
          clear hK K hb2
          (try simp only [Act.put, List.getElem_toArray, List.getElem_cons_zero, List.getElem_cons_succ, List.setIfInBounds_toArray, List.set_cons_zero, List.set_cons_succ])
          refine wpAnyH_take (i := 10) (v := ?_) rfl (by kernel_rfl) (by kernel_rfl) (by kernel_rfl) (fun _ _ _ h => h) (Or.inl ⟨by rfl, ?_⟩) (by assumption) ?_
          rotate_left
          · (intro w hSw; (try dsimp only at hSw); go_simp) <;> with_reducible rfl
          (simp only [Act.put, List.getElem_toArray, List.getElem_cons_zero, List.getElem_cons_succ, List.setIfInBounds_toArray, List.set_cons_zero, List.set_cons_succ])
          refine wpAnyH_take (i := 11) (v := ?_) rfl (by kernel_rfl) (by kernel_rfl) (by kernel_rfl) (fun _ _ _ h => h) (Or.inl ⟨by rfl, ?_⟩) (by assumption) ?_
          rotate_left
          · (intro w hSw; (try dsimp only at hSw); go_simp) <;> with_reducible rfl
          (simp only [Act.put, List.getElem_toArray, List.getElem_cons_zero, List.getElem_cons_succ, List.setIfInBounds_toArray, List.set_cons_zero, List.set_cons_succ])
          refine wpAnyH_done (by kernel_rfl) ?_ _
          go_wp2_with fail
          go_roundw
          case rel => exact ⟨i + 1, by omega, rfl, by go_num, HB2⟩
          case measure => simp [intOf]; omega
      · obtain rfl : pn = i := by omega
        have hlt' : ¬ (pn : Int) < pn := by omega
        have n1 : endN sz ev pn = np := by rw [HPE.out, hE, rnd_odd]
        rw [n1]
        have HH := hide n1
        clear n1
        go_wp2_with fail
        go_ret
        exact ⟨rfl, HW.out _ (HW4.out _ HB.out)⟩
  | true =>
    rw [hE] at cel
    rw [hE] at hpe
    have hrem : (np : Int).tmod 2 = 0 := by rw [Int.tmod_eq_emod_of_nonneg (by omega)]; have := rnd_even (endN sz ev pn); omega
    have hrem2 : (np : Int) % 2 = 0 := by have := rnd_even (endN sz ev pn); omega
    clear hpe
    go_wp2_with fail
    go_at_call 9
    refine (cel _ (Below.refl _ _)).mono ?_
    rintro e w5 ⟨rfl, hb5⟩
    have HB5 := hide hb5
    have hx5 := HXc.out w5 (HW4.out w5 HB5.out)
    clear hb5
    go_wp2_with fail
    go_loopw [5, 6] (fun en' i' wr => ∃ i : Nat, i ≤ pn ∧ en' = .int .i64 (endN sz ev i : Nat) ∧ i' = .int .i64 i ∧ Hid (Below w4.heap.size w4 wr)) (fun _ i' _ => pn - (intOf i').toNat)
    case atStart => exact ⟨0, Nat.zero_le _, rfl, rfl, HB5⟩
    case round =>
      clear hx5 HB5
      obtain ⟨i, hi, rfl, rfl, HB⟩ := hrel
      have hx5 := HXc.out wr (HW4.out wr HB.out)
      by_cases hlt : i < pn
      · have hlt' : (i : Int) < pn := by omega
        have hidx : (0 : Int) ≤ i ∧ (i : Int) < pn := by omega
        obtain ⟨g, rfl, hg⟩ := HL4.out (by omega)
        obtain ⟨b, o, rfl, hb, hc⟩ := HPt.out (by omega)
        obtain ⟨c0, c1', c2, c3, c4, g0, g1, g2, g3, g4, g5⟩ := hc i hlt
        have cpe := fun w' (hw : Below w4.heap.size w4 w') => hP.out.even_t (parts i) _ w' (HPm.out i hlt) (g5.below (HW.out w' (HW4.out w' hw)))
        have cpw := fun w' (hw : Below w4.heap.size w4 w') => hP.out.words_t (parts i) _ w' (HPm.out i hlt) (g5.below (HW.out w' (HW4.out w' hw)))
        rw [HEv.out i hlt] at cpe
        rw [HSz.out i] at cpw
        have hpi := place_end sz ev i
        have hri := rnd_le (ev i) (endN sz ev i)
        rw [← hpi] at hri
        have b1 := HPl.out i (by omega)
        have b2 := HSl.out i hlt
        have hadd : IntKind.i64.wrap ((placeN sz ev i : Int) + (sz i : Int)) = ((endN sz ev (i + 1) : Nat) : Int) := by
          rw [IntKind.wrap_i64]
          show _ = ((placeN sz ev i + sz i : Nat) : Int)
          omega
        have hsb : ∀ w', Below w4.heap.size w4 w' → (fun w' => (∀ o', w'.cell? ⟨w.heap.size, o', none⟩ = (#[Value.int .i64 3, .string name, .slice na nn nc, .slice (some ⟨b, o, none⟩) pn pc, .bool many])[o']?) ∧ w'.cell? ⟨g, i, none⟩ = some (.int .i64 (placeN sz ev i : Nat)) ∧ w'.cell? ⟨b, o + i * 5, none⟩ = some c0 ∧ w'.cell? ⟨b, o + i * 5 + 1, none⟩ = some c1' ∧ w'.cell? ⟨b, o + i * 5 + 2, none⟩ = some c2 ∧ w'.cell? ⟨b, o + i * 5 + 3, none⟩ = some c3 ∧ w'.cell? ⟨b, o + i * 5 + 4, none⟩ = some c4) w' := fun w' hw => ⟨HXc.out w' (HW4.out w' hw), hg w' (HW4.out w' hw) hw i hlt, ((HW.out w' (HW4.out w' hw)).cell (p := ⟨b, o + i * 5, none⟩) hb).trans g0, ((HW.out w' (HW4.out w' hw)).cell (p := ⟨b, o + i * 5 + 1, none⟩) hb).trans g1, ((HW.out w' (HW4.out w' hw)).cell (p := ⟨b, o + i * 5 + 2, none⟩) hb).trans g2, ((HW.out w' (HW4.out w' hw)).cell (p := ⟨b, o + i * 5 + 3, none⟩) hb).trans g3, ((HW.out w' (HW4.out w' hw)).cell (p := ⟨b, o + i * 5 + 4, none⟩) hb).trans g4⟩
        clear g0 g1 g2 g3 g4 g5 hc hg
        generalize placeN sz ev i = pl at *
        have HSb := hide hsb
        clear hsb
        obtain ⟨-, hl5, e0, e1, e2, e3, e4⟩ := HSb.out wr HB.out
        have t0 : ¬ (pl : Int) < (endN sz ev i : Nat) := by omega
        have t1 : ¬ ((endN sz ev i : Nat) : Int) + 1 < pl := by omega
        have HEI := hide hpi
        cases hei : ev i with
        | true =>
          rw [hei] at cpe
          have hp2 : (pl : Int).tmod 2 = 0 := by rw [Int.tmod_eq_emod_of_nonneg (by omega)]; have := rnd_even (endN sz ev i); rw [hpi, hei]; omega
          have hp3 : (pl : Int) % 2 = 0 := by have := rnd_even (endN sz ev i); rw [hpi, hei]; omega
          have HH := hide hei
          clear hpi hei
          go_wp2_with fail
          go_at_call 9
          refine (cpe _ HB.out).mono ?_
          rintro e w7 ⟨rfl, hb1⟩
          have HB1 : Hid (Below w4.heap.size w4 w7) := HB.out.trans (hb1.mono HB.out.size)
          obtain ⟨hx7, hl7, -⟩ := HSb.out w7 HB1.out
          clear hb1
          go_wp2_with fail
          refine wp_region_held_drew (S := fun w' => (∀ o', w'.cell? ⟨w.heap.size, o', none⟩ = (#[Value.int .i64 3, .string name, .slice na nn nc, .slice (some ⟨b, o, none⟩) pn pc, .bool many])[o']?) ∧ w'.cell? ⟨g, i, none⟩ = some (.int .i64 (pl : Nat)) ∧ w'.cell? ⟨b, o + i * 5, none⟩ = some c0 ∧ w'.cell? ⟨b, o + i * 5 + 1, none⟩ = some c1' ∧ w'.cell? ⟨b, o + i * 5 + 2, none⟩ = some c2 ∧ w'.cell? ⟨b, o + i * 5 + 3, none⟩ = some c3 ∧ w'.cell? ⟨b, o + i * 5 + 4, none⟩ = some c4) (by kernel_rfl) (HSb.out _ HB1.out.drew) (fun hHeld => ?_)
          refine wpAnyH_take (i := 0) (v := ?_) rfl (by kernel_rfl) (by kernel_rfl) (by kernel_rfl) (fun _ _ _ h => h) (Or.inl ⟨by rfl, ?_⟩) (by assumption) ?_
          rotate_left
          · (intro w hSw; (try dsimp only at hSw); go_simp) <;> with_reducible rfl
          (simp only [Act.put, List.getElem_toArray, List.getElem_cons_zero, List.getElem_cons_succ, List.setIfInBounds_toArray, List.set_cons_zero, List.set_cons_succ])
          refine wpAnyH_take (i := 1) (v := ?_) rfl (by kernel_rfl) (by kernel_rfl) (by kernel_rfl) (fun _ _ _ h => h) (Or.inl ⟨by rfl, ?_⟩) (by assumption) ?_
          rotate_left
          · (intro w hSw; (try dsimp only at hSw); go_simp) <;> with_reducible rfl
          (simp only [Act.put, List.getElem_toArray, List.getElem_cons_zero, List.getElem_cons_succ, List.setIfInBounds_toArray, List.set_cons_zero, List.set_cons_succ])
          refine wpAnyH_take (i := 2) (v := ?_) rfl (by kernel_rfl) (by kernel_rfl) (by kernel_rfl) (fun _ _ _ h => h) (Or.inl ⟨by rfl, ?_⟩) (by assumption) ?_
          rotate_left
          · (intro w hSw; (try dsimp only at hSw); go_simp) <;> with_reducible rfl
          (simp only [Act.put, List.getElem_toArray, List.getElem_cons_zero, List.getElem_cons_succ, List.setIfInBounds_toArray, List.set_cons_zero, List.set_cons_succ])
          refine wpAnyH_take (i := 3) (v := ?_) rfl (by kernel_rfl) (by kernel_rfl) (by kernel_rfl) (fun _ _ _ h => h) (Or.inl ⟨by rfl, ?_⟩) (by assumption) ?_
          rotate_left
          · (intro w hSw; (try dsimp only at hSw); go_simp) <;> with_reducible rfl
          (simp only [Act.put, List.getElem_toArray, List.getElem_cons_zero, List.getElem_cons_succ, List.setIfInBounds_toArray, List.set_cons_zero, List.set_cons_succ])
          refine wpAnyH_take (i := 4) (v := ?_) rfl (by kernel_rfl) (by kernel_rfl) (by kernel_rfl) (fun _ _ _ h => h) (Or.inl ⟨by rfl, ?_⟩) (by assumption) ?_
          rotate_left
          · (intro w hSw; (try dsimp only at hSw); go_simp) <;> with_reducible rfl
          (simp only [Act.put, List.getElem_toArray, List.getElem_cons_zero, List.getElem_cons_succ, List.setIfInBounds_toArray, List.set_cons_zero, List.set_cons_succ])
          refine wpAnyH_take (i := 5) (v := ?_) rfl (by kernel_rfl) (by kernel_rfl) (by kernel_rfl) (fun _ _ _ h => h) (Or.inl ⟨by rfl, ?_⟩) (by assumption) ?_
          rotate_left
          · (intro w hSw; (try dsimp only at hSw); go_simp) <;> with_reducible rfl
          (simp only [Act.put, List.getElem_toArray, List.getElem_cons_zero, List.getElem_cons_succ, List.setIfInBounds_toArray, List.set_cons_zero, List.set_cons_succ])
          refine wpAnyH_take (i := 6) (v := ?_) rfl (by kernel_rfl) (by kernel_rfl) (by kernel_rfl) (fun _ _ _ h => h) (Or.inl ⟨by rfl, ?_⟩) (by assumption) ?_
          rotate_left
          · (intro w hSw; (try dsimp only at hSw); go_simp) <;> with_reducible rfl
          (simp only [Act.put, List.getElem_toArray, List.getElem_cons_zero, List.getElem_cons_succ, List.setIfInBounds_toArray, List.set_cons_zero, List.set_cons_succ])
          refine wpAnyH_take (i := 7) (v := ?_) rfl (by kernel_rfl) (by kernel_rfl) (by kernel_rfl) (fun _ _ _ h => h) (Or.inl ⟨by rfl, ?_⟩) (by assumption) ?_
          rotate_left
          · (intro w hSw; (try dsimp only at hSw); go_simp) <;> with_reducible rfl
          (simp only [Act.put, List.getElem_toArray, List.getElem_cons_zero, List.getElem_cons_succ, List.setIfInBounds_toArray, List.set_cons_zero, List.set_cons_succ])
          refine wpAnyH_take (i := 8) (v := ?_) rfl (by kernel_rfl) (by kernel_rfl) (by kernel_rfl) (fun _ _ _ h => h) (Or.inl ⟨by rfl, ?_⟩) (by assumption) ?_
          rotate_left
          · (intro w hSw; (try dsimp only at hSw); go_simp) <;> with_reducible rfl
          (simp only [Act.put, List.getElem_toArray, List.getElem_cons_zero, List.getElem_cons_succ, List.setIfInBounds_toArray, List.set_cons_zero, List.set_cons_succ])
          refine wpAnyH_ready (rs := [9]) (by kernel_rfl) (by simp) ?_
          refine AllReadyH.cons rfl (fun K hK => ?_) AllReadyH.nil
          go_simp
          refine (cpw _ HB1.out.drew).mono ?_
          rintro e w8 ⟨rfl, hb2⟩
          have HB2 : Hid (Below w4.heap.size w4 w8) := HB1.out.drew.trans (hb2.mono HB1.out.size)
          refine hK.out _ _ (HSb.out _ HB2.out) (fun hHeld2 => ?_)
          clear hK K hb2
          (try simp only [Act.put, List.getElem_toArray, List.getElem_cons_zero, List.getElem_cons_succ, List.setIfInBounds_toArray, List.set_cons_zero, List.set_cons_succ])
          refine wpAnyH_take (i := 10) (v := ?_) rfl (by kernel_rfl) (by kernel_rfl) (by kernel_rfl) (fun _ _ _ h => h) (Or.inl ⟨by rfl, ?_⟩) (by assumption) ?_
          rotate_left
          · (intro w hSw; (try dsimp only at hSw); go_simp) <;> with_reducible rfl
          (simp only [Act.put, List.getElem_toArray, List.getElem_cons_zero, List.getElem_cons_succ, List.setIfInBounds_toArray, List.set_cons_zero, List.set_cons_succ])
          refine wpAnyH_take (i := 11) (v := ?_) rfl (by kernel_rfl) (by kernel_rfl) (by kernel_rfl) (fun _ _ _ h => h) (Or.inl ⟨by rfl, ?_⟩) (by assumption) ?_
          rotate_left
          · (intro w hSw; (try dsimp only at hSw); go_simp) <;> with_reducible rfl
          (simp only [Act.put, List.getElem_toArray, List.getElem_cons_zero, List.getElem_cons_succ, List.setIfInBounds_toArray, List.set_cons_zero, List.set_cons_succ])
          refine wpAnyH_done (by kernel_rfl) ?_ _
          go_wp2_with fail
          go_roundw
          case rel => exact ⟨i + 1, by omega, rfl, by go_num, HB2⟩
          case measure => simp [intOf]; omega
        | false =>
          rw [hei] at cpe
          have hpe2 : pl = endN sz ev i := by rw [hpi, hei, rnd_odd]
          have u1 : ((pl : Int) != ((endN sz ev i : Nat) : Int)) = false := by rw [hpe2]; simp
          have u2 : ((pl : Int) == ((endN sz ev i : Nat) : Int)) = true := by rw [hpe2]; simp
          have u3 : (pl == endN sz ev i) = true := by rw [hpe2]; simp
          have u4 : (pl != endN sz ev i) = false := by rw [hpe2]; simp
          have HH := hide (And.intro hei hpe2)
          clear hpi hei hpe2
          go_wp2_with fail
          go_at_call 9
          refine (cpe _ HB.out).mono ?_
          rintro e w7 ⟨rfl, hb1⟩
          have HB1 : Hid (Below w4.heap.size w4 w7) := HB.out.trans (hb1.mono HB.out.size)
          obtain ⟨hx7, hl7, -⟩ := HSb.out w7 HB1.out
          clear hb1
          go_wp2_with fail
          refine wp_region_held_drew (S := fun w' => (∀ o', w'.cell? ⟨w.heap.size, o', none⟩ = (#[Value.int .i64 3, .string name, .slice na nn nc, .slice (some ⟨b, o, none⟩) pn pc, .bool many])[o']?) ∧ w'.cell? ⟨g, i, none⟩ = some (.int .i64 (pl : Nat)) ∧ w'.cell? ⟨b, o + i * 5, none⟩ = some c0 ∧ w'.cell? ⟨b, o + i * 5 + 1, none⟩ = some c1' ∧ w'.cell? ⟨b, o + i * 5 + 2, none⟩ = some c2 ∧ w'.cell? ⟨b, o + i * 5 + 3, none⟩ = some c3 ∧ w'.cell? ⟨b, o + i * 5 + 4, none⟩ = some c4) (by kernel_rfl) (HSb.out _ HB1.out.drew) (fun hHeld => ?_)
          refine wpAnyH_take (i := 0) (v := ?_) rfl (by kernel_rfl) (by kernel_rfl) (by kernel_rfl) (fun _ _ _ h => h) (Or.inl ⟨by rfl, ?_⟩) (by assumption) ?_
          rotate_left
          · (intro w hSw; (try dsimp only at hSw); go_simp) <;> with_reducible rfl
          (simp only [Act.put, List.getElem_toArray, List.getElem_cons_zero, List.getElem_cons_succ, List.setIfInBounds_toArray, List.set_cons_zero, List.set_cons_succ])
          refine wpAnyH_take (i := 1) (v := ?_) rfl (by kernel_rfl) (by kernel_rfl) (by kernel_rfl) (fun _ _ _ h => h) (Or.inl ⟨by rfl, ?_⟩) (by assumption) ?_
          rotate_left
          · (intro w hSw; (try dsimp only at hSw); go_simp) <;> with_reducible rfl
          (simp only [Act.put, List.getElem_toArray, List.getElem_cons_zero, List.getElem_cons_succ, List.setIfInBounds_toArray, List.set_cons_zero, List.set_cons_succ])
          refine wpAnyH_take (i := 2) (v := ?_) rfl (by kernel_rfl) (by kernel_rfl) (by kernel_rfl) (fun _ _ _ h => h) (Or.inl ⟨by rfl, ?_⟩) (by assumption) ?_
          rotate_left
          · (intro w hSw; (try dsimp only at hSw); go_simp) <;> with_reducible rfl
          (simp only [Act.put, List.getElem_toArray, List.getElem_cons_zero, List.getElem_cons_succ, List.setIfInBounds_toArray, List.set_cons_zero, List.set_cons_succ])
          refine wpAnyH_take (i := 3) (v := ?_) rfl (by kernel_rfl) (by kernel_rfl) (by kernel_rfl) (fun _ _ _ h => h) (Or.inl ⟨by rfl, ?_⟩) (by assumption) ?_
          rotate_left
          · (intro w hSw; (try dsimp only at hSw); go_simp) <;> with_reducible rfl
          (simp only [Act.put, List.getElem_toArray, List.getElem_cons_zero, List.getElem_cons_succ, List.setIfInBounds_toArray, List.set_cons_zero, List.set_cons_succ])
          refine wpAnyH_take (i := 4) (v := ?_) rfl (by kernel_rfl) (by kernel_rfl) (by kernel_rfl) (fun _ _ _ h => h) (Or.inl ⟨by rfl, ?_⟩) (by assumption) ?_
          rotate_left
          · (intro w hSw; (try dsimp only at hSw); go_simp) <;> with_reducible rfl
          (simp only [Act.put, List.getElem_toArray, List.getElem_cons_zero, List.getElem_cons_succ, List.setIfInBounds_toArray, List.set_cons_zero, List.set_cons_succ])
          refine wpAnyH_take (i := 5) (v := ?_) rfl (by kernel_rfl) (by kernel_rfl) (by kernel_rfl) (fun _ _ _ h => h) (Or.inl ⟨by rfl, ?_⟩) (by assumption) ?_
          rotate_left
          · (intro w hSw; (try dsimp only at hSw); go_simp) <;> with_reducible rfl
          (simp only [Act.put, List.getElem_toArray, List.getElem_cons_zero, List.getElem_cons_succ, List.setIfInBounds_toArray, List.set_cons_zero, List.set_cons_succ])
          refine wpAnyH_take (i := 6) (v := ?_) rfl (by kernel_rfl) (by kernel_rfl) (by kernel_rfl) (fun _ _ _ h => h) (Or.inl ⟨by rfl, ?_⟩) (by assumption) ?_
          rotate_left
          · (intro w hSw; (try dsimp only at hSw); go_simp) <;> with_reducible rfl
          (simp only [Act.put, List.getElem_toArray, List.getElem_cons_zero, List.getElem_cons_succ, List.setIfInBounds_toArray, List.set_cons_zero, List.set_cons_succ])
          refine wpAnyH_take (i := 7) (v := ?_) rfl (by kernel_rfl) (by kernel_rfl) (by kernel_rfl) (fun _ _ _ h => h) (Or.inl ⟨by rfl, ?_⟩) (by assumption) ?_
          rotate_left
          · (intro w hSw; (try dsimp only at hSw); go_simp) <;> with_reducible rfl
          (simp only [Act.put, List.getElem_toArray, List.getElem_cons_zero, List.getElem_cons_succ, List.setIfInBounds_toArray, List.set_cons_zero, List.set_cons_succ])
          refine wpAnyH_take (i := 8) (v := ?_) rfl (by kernel_rfl) (by kernel_rfl) (by kernel_rfl) (fun _ _ _ h => h) (Or.inl ⟨by rfl, ?_⟩) (by assumption) ?_
          rotate_left
          · (intro w hSw; (try dsimp only at hSw); go_simp) <;> with_reducible rfl
          (simp only [Act.put, List.getElem_toArray, List.getElem_cons_zero, List.getElem_cons_succ, List.setIfInBounds_toArray, List.set_cons_zero, List.set_cons_succ])
          refine wpAnyH_ready (rs := [9]) (by kernel_rfl) (by simp) ?_
          refine AllReadyH.cons rfl (fun K hK => ?_) AllReadyH.nil
          go_simp
          refine (cpw _ HB1.out.drew).mono ?_
          rintro e w8 ⟨rfl, hb2⟩
          have HB2 : Hid (Below w4.heap.size w4 w8) := HB1.out.drew.trans (hb2.mono HB1.out.size)
          refine hK.out _ _ (HSb.out _ HB2.out) (fun hHeld2 => ?_)
          clear hK K hb2
          (try simp only [Act.put, List.getElem_toArray, List.getElem_cons_zero, List.getElem_cons_succ, List.setIfInBounds_toArray, List.set_cons_zero, List.set_cons_succ])
          refine wpAnyH_take (i := 10) (v := ?_) rfl (by kernel_rfl) (by kernel_rfl) (by kernel_rfl) (fun _ _ _ h => h) (Or.inl ⟨by rfl, ?_⟩) (by assumption) ?_
          rotate_left
          · (intro w hSw; (try dsimp only at hSw); go_simp) <;> with_reducible rfl
          (simp only [Act.put, List.getElem_toArray, List.getElem_cons_zero, List.getElem_cons_succ, List.setIfInBounds_toArray, List.set_cons_zero, List.set_cons_succ])
          refine wpAnyH_take (i := 11) (v := ?_) rfl (by kernel_rfl) (by kernel_rfl) (by kernel_rfl) (fun _ _ _ h => h) (Or.inl ⟨by rfl, ?_⟩) (by assumption) ?_
          rotate_left
          · (intro w hSw; (try dsimp only at hSw); go_simp) <;> with_reducible rfl
          (simp only [Act.put, List.getElem_toArray, List.getElem_cons_zero, List.getElem_cons_succ, List.setIfInBounds_toArray, List.set_cons_zero, List.set_cons_succ])
          refine wpAnyH_done (by kernel_rfl) ?_ _
          go_wp2_with fail
          go_roundw
          case rel => exact ⟨i + 1, by omega, rfl, by go_num, HB2⟩
          case measure => simp [intOf]; omega
      · obtain rfl : pn = i := by omega
        have hlt' : ¬ (pn : Int) < pn := by omega
        by_cases od : endN sz ev pn % 2 = 1
        · have n1 : np = endN sz ev pn + 1 := by rw [HPE.out, hE]; simp [rnd, od]
          have t1 : ((np : Int) == ((endN sz ev pn : Nat) : Int)) = false := by simp; omega
          have t2 : (np == endN sz ev pn) = false := by simp; omega
          have hw1 : IntKind.i64.wrap (((endN sz ev pn : Nat) : Int) + 1) = (np : Int) := by rw [IntKind.wrap_i64]; omega
          have r1 : ((endN sz ev pn : Nat) : Int).tmod 2 = 1 := by rw [Int.tmod_eq_emod_of_nonneg (by omega)]; omega
          have r2 : ((endN sz ev pn : Nat) : Int) % 2 = 1 := by omega
          have HH := hide (And.intro n1 od)
          have hx5 := HXc.out wr (HW4.out wr HB.out)
          clear n1 od
          generalize endN sz ev pn = en at *
          go_wp2_with fail
          go_at_call 9
          refine (cel _ HB.out).mono ?_
          rintro e w7 ⟨rfl, hb1⟩
          have HB1 : Hid (Below w4.heap.size w4 w7) := HB.out.trans (hb1.mono HB.out.size)
          clear hb1
          go_wp2_with fail
          go_ret
          exact ⟨rfl, HW.out _ (HW4.out _ HB1.out)⟩
        · have n1 : endN sz ev pn = np := by rw [HPE.out, hE]; simp [rnd, od]
          rw [n1]
          have HH := hide (And.intro n1 od)
          clear n1 od
          go_wp2_with fail
          go_ret
          exact ⟨rfl, HW.out _ (HW4.out _ HB.out)⟩
theorem lie_any (HP : Pr) (T : Ty) (v : Value) (w : World) (hv : TyV w T v) : Calls Try.prog 4 #[v] w fun e w' => e = .returned (.bool true) ∧ Below w.heap.size w w' := by
  rcases T with _ | ⟨kind, name, nn, names, pn, parts, many⟩
  · exact (TyV_leaf hv).elim
  cases hm : mayN 4 (.mk kind name nn names pn parts many) with
  | false => exact lie_f HP v w hv hm
  | true =>
    rcases (may_facts hm).2.2.2 with ⟨rfl, _⟩ | ⟨rfl, _⟩ | ⟨rfl, _⟩ | ⟨rfl, _⟩
    · exact lie_s HP v w hv hm
    · exact lie_4 HP v w hv hm
    · exact lie_1 HP v w hv hm
    · exact lie_2 HP v w hv hm
end Go.Proofs.Ytakijacfadpmoaa.T
