/- The contracts of the program's text, Words, Even, Text. -/
import Derived.Test.YtakijacfadpmoaaPMay2
import Derived.Test.YtakijacfadpmoaaPFn
namespace Go.Proofs.Ytakijacfadpmoaa.T
open Go.RowKit
set_option linter.unusedVariables false
set_option linter.unusedSimpArgs false
set_option maxRecDepth 100000 in
set_option maxHeartbeats 1000000 in
theorem ptext_any : ∀ (T : Ty) (d : Nat), d ≤ 4 → mayN d T = true → ∀ (v : Value) (w : World), TyV w T v → Calls Try.prog 24 #[v] w fun e w' => e = .returned (.string (strOf (textT T))) ∧ Below w.heap.size w w' := by
  intro T
  induction T with
  | leaf => intro d _ _ v w hv; exact (TyV_leaf hv).elim
  | mk kind name nn names pn parts many ih =>
    intro d hd hm v w hv
    cases d with
    | zero => simp [mayN] at hm
    | succ d =>
      have F := may_facts hm
      have HI : Hid (∀ i, i < pn → ∀ v w, TyV w (parts i) v → Calls Try.prog 24 #[v] w fun e w' => e = .returned (.string (strOf (textT (parts i)))) ∧ Below w.heap.size w w') := fun i hi v w hv => ih i d (by omega) (F.2.2.1 i hi) v w hv
      clear ih
      obtain ⟨na, nc, pa, pc, rfl, hS, q1, q2, q3, q4, q5, q6, q7, HP⟩ := hv.part
      have hB0 : Below w.heap.size w (w.alloc (.cells #[.int .i64 kind, .string name, .slice na nn nc, .slice pa pn pc, .bool many] 25)) := (Below.refl _ _).alloc (Nat.le_refl _) _
      have HT := hide hv
      have HM := hide hm
      clear hv hS hm HP
      rcases F.2.2.2 with ⟨rfl, -⟩ | ⟨rfl, -⟩ | ⟨rfl, -⟩ | ⟨rfl, -⟩
      · clear F
        have hc := ptext_struct d (by omega) HI HM.out _ _ (HT.out.below hB0)
        have HB0 := hide hB0
        generalize textT (.mk 3 name nn names pn parts many) = tx at *
        clear hB0
        go_enter Try.func24, Try.ntmps24
        go_wp2_with fail
        go_at_call 32
        refine hc.mono ?_
        rintro e w1 ⟨rfl, hb1⟩
        have HB1 : Hid (Below w.heap.size w w1) := HB0.out.trans (hb1.mono HB0.out.size)
        clear hb1
        go_wp2_with fail
        go_ret
        exact ⟨rfl, HB1.out⟩
      · clear F
        have hc := ptext_fn d (by omega) HI HM.out _ _ (HT.out.below hB0)
        have HB0 := hide hB0
        generalize textT (.mk 4 name nn names pn parts many) = tx at *
        clear hB0
        go_enter Try.func24, Try.ntmps24
        go_wp2_with fail
        go_at_call 33
        refine hc.mono ?_
        rintro e w1 ⟨rfl, hb1⟩
        have HB1 : Hid (Below w.heap.size w w1) := HB0.out.trans (hb1.mono HB0.out.size)
        clear hb1
        go_wp2_with fail
        go_ret
        exact ⟨rfl, HB1.out⟩
      · clear F
        rw [textT_mk, if_pos rfl]
        go_enter Try.func24, Try.ntmps24
        go_wp2_with fail
        go_ret
        exact ⟨rfl, hB0⟩
      · clear F
        rw [textT_mk, if_neg (by decide), if_pos rfl]
        go_enter Try.func24, Try.ntmps24
        go_wp2_with fail
        go_ret
        exact ⟨rfl, hB0⟩
set_option maxRecDepth 100000 in
set_option maxHeartbeats 1000000 in
theorem pWords_f (T : Ty) (v : Value) (w : World) (hm : mayN 4 T = false) (hv : TyV w T v) : Calls Try.prog 8 #[v] w fun e w' => e = .returned (.int .i64 0) ∧ Below w.heap.size w w' := by
  rcases T with _ | ⟨kind, name, nn, names, pn, parts, many⟩
  · exact (TyV_leaf hv).elim
  obtain ⟨na, nc, pa, pc, rfl, hS, q1, q2, q3, q4, q5, q6, q7, HP⟩ := hv.part
  have hB0 : Below w.heap.size w (w.alloc (.cells #[.int .i64 kind, .string name, .slice na nn nc, .slice pa pn pc, .bool many] 25)) := (Below.refl _ _).alloc (Nat.le_refl _) _
  have hx0 : ∀ o, (w.alloc (.cells #[.int .i64 kind, .string name, .slice na nn nc, .slice pa pn pc, .bool many] 25)).cell? ⟨w.heap.size, o, none⟩ = (#[Value.int .i64 kind, .string name, .slice na nn nc, .slice pa pn pc, .bool many])[o]? := fun o => World.cell?_alloc_at _ _ _ _ rfl
  have hz0 : (w.alloc (.cells #[.int .i64 kind, .string name, .slice na nn nc, .slice pa pn pc, .bool many] 25)).heap.size = w.heap.size + 1 := by simp
  obtain ⟨W, hW⟩ : ∃ W, w.alloc (.cells #[.int .i64 kind, .string name, .slice na nn nc, .slice pa pn pc, .bool many] 25) = W := ⟨_, rfl⟩
  have HWE := hide hW
  rw [hW] at hB0 hx0 hz0
  clear hW
  have HW : Hid (∀ w', Below W.heap.size W w' → Below w.heap.size w w') := fun w' hw => hB0.trans (hw.mono (by omega))
  have HXc : Hid (∀ w', Below W.heap.size W w' → ∀ o, w'.cell? ⟨w.heap.size, o, none⟩ = (#[Value.int .i64 kind, .string name, .slice na nn nc, .slice pa pn pc, .bool many])[o]?) := fun w' hw o => (hw.cell (p := ⟨w.heap.size, o, none⟩) (by show w.heap.size < _; omega)).trans (hx0 o)
  have HT := hide hv
  have cmay := pMay_any _ _ W (hv.below hB0)
  rw [hm] at cmay
  clear hv hS hx0 hz0 hB0 HP
  go_enter Try.func8, Try.ntmps8
  go_wp2_with fail
  simp only [HWE.out]
  go_at_call 6
  refine cmay.mono ?_
  rintro e w1 ⟨rfl, hb1⟩
  have HB1 : Hid (Below W.heap.size W w1) := hb1
  have hx1 := HXc.out w1 HB1.out
  clear hb1
  go_wp2_with fail
  go_ret
  exact ⟨rfl, HW.out _ HB1.out⟩
set_option maxRecDepth 100000 in
set_option maxHeartbeats 1000000 in
theorem pWords_t (T : Ty) (v : Value) (w : World) (hm : mayN 4 T = true) (hv : TyV w T v) : Calls Try.prog 8 #[v] w fun e w' => e = .returned (.int .i64 (sizeT T)) ∧ Below w.heap.size w w' := by
  rcases T with _ | ⟨kind, name, nn, names, pn, parts, many⟩
  · exact (TyV_leaf hv).elim
  obtain ⟨na, nc, pa, pc, rfl, hS, q1, q2, q3, q4, q5, q6, q7, HP⟩ := hv.part
  have hB0 : Below w.heap.size w (w.alloc (.cells #[.int .i64 kind, .string name, .slice na nn nc, .slice pa pn pc, .bool many] 25)) := (Below.refl _ _).alloc (Nat.le_refl _) _
  have hx0 : ∀ o, (w.alloc (.cells #[.int .i64 kind, .string name, .slice na nn nc, .slice pa pn pc, .bool many] 25)).cell? ⟨w.heap.size, o, none⟩ = (#[Value.int .i64 kind, .string name, .slice na nn nc, .slice pa pn pc, .bool many])[o]? := fun o => World.cell?_alloc_at _ _ _ _ rfl
  have hz0 : (w.alloc (.cells #[.int .i64 kind, .string name, .slice na nn nc, .slice pa pn pc, .bool many] 25)).heap.size = w.heap.size + 1 := by simp
  obtain ⟨W, hW⟩ : ∃ W, w.alloc (.cells #[.int .i64 kind, .string name, .slice na nn nc, .slice pa pn pc, .bool many] 25) = W := ⟨_, rfl⟩
  have HWE := hide hW
  rw [hW] at hB0 hx0 hz0
  clear hW
  have HW : Hid (∀ w', Below W.heap.size W w' → Below w.heap.size w w') := fun w' hw => hB0.trans (hw.mono (by omega))
  have HXc : Hid (∀ w', Below W.heap.size W w' → ∀ o, w'.cell? ⟨w.heap.size, o, none⟩ = (#[Value.int .i64 kind, .string name, .slice na nn nc, .slice pa pn pc, .bool many])[o]?) := fun w' hw o => (hw.cell (p := ⟨w.heap.size, o, none⟩) (by show w.heap.size < _; omega)).trans (hx0 o)
  have HT := hide hv
  have cmay := pMay_any _ _ W (hv.below hB0)
  rw [hm] at cmay
  clear hv hS hx0 hz0 hB0 HP
  have hc := fun w' (hw : Below W.heap.size W w') => words_any _ (sizeT_le hm).1 _ w' (HT.out.below (HW.out w' hw))
  have HM := hide hm
  clear hm
  go_enter Try.func8, Try.ntmps8
  go_wp2_with fail
  simp only [HWE.out]
  go_at_call 6
  refine cmay.mono ?_
  rintro e w1 ⟨rfl, hb1⟩
  have HB1 : Hid (Below W.heap.size W w1) := hb1
  have hx1 := HXc.out w1 HB1.out
  clear hb1
  go_wp2_with fail
  go_at_call 21
  refine (hc _ HB1.out).mono ?_
  rintro e w2 ⟨rfl, hb2⟩
  have HB2 : Hid (Below W.heap.size W w2) := HB1.out.trans (hb2.mono HB1.out.size)
  clear hb2
  go_wp2_with fail
  go_ret
  exact ⟨rfl, HW.out _ HB2.out⟩
set_option maxRecDepth 100000 in
set_option maxHeartbeats 1000000 in
theorem pEven_f (T : Ty) (v : Value) (w : World) (hm : mayN 4 T = false) (hv : TyV w T v) : Calls Try.prog 9 #[v] w fun e w' => e = .returned (.bool false) ∧ Below w.heap.size w w' := by
  rcases T with _ | ⟨kind, name, nn, names, pn, parts, many⟩
  · exact (TyV_leaf hv).elim
  obtain ⟨na, nc, pa, pc, rfl, hS, q1, q2, q3, q4, q5, q6, q7, HP⟩ := hv.part
  have hB0 : Below w.heap.size w (w.alloc (.cells #[.int .i64 kind, .string name, .slice na nn nc, .slice pa pn pc, .bool many] 25)) := (Below.refl _ _).alloc (Nat.le_refl _) _
  have hx0 : ∀ o, (w.alloc (.cells #[.int .i64 kind, .string name, .slice na nn nc, .slice pa pn pc, .bool many] 25)).cell? ⟨w.heap.size, o, none⟩ = (#[Value.int .i64 kind, .string name, .slice na nn nc, .slice pa pn pc, .bool many])[o]? := fun o => World.cell?_alloc_at _ _ _ _ rfl
  have hz0 : (w.alloc (.cells #[.int .i64 kind, .string name, .slice na nn nc, .slice pa pn pc, .bool many] 25)).heap.size = w.heap.size + 1 := by simp
  obtain ⟨W, hW⟩ : ∃ W, w.alloc (.cells #[.int .i64 kind, .string name, .slice na nn nc, .slice pa pn pc, .bool many] 25) = W := ⟨_, rfl⟩
  have HWE := hide hW
  rw [hW] at hB0 hx0 hz0
  clear hW
  have HW : Hid (∀ w', Below W.heap.size W w' → Below w.heap.size w w') := fun w' hw => hB0.trans (hw.mono (by omega))
  have HXc : Hid (∀ w', Below W.heap.size W w' → ∀ o, w'.cell? ⟨w.heap.size, o, none⟩ = (#[Value.int .i64 kind, .string name, .slice na nn nc, .slice pa pn pc, .bool many])[o]?) := fun w' hw o => (hw.cell (p := ⟨w.heap.size, o, none⟩) (by show w.heap.size < _; omega)).trans (hx0 o)
  have HT := hide hv
  have cmay := pMay_any _ _ W (hv.below hB0)
  rw [hm] at cmay
  clear hv hS hx0 hz0 hB0 HP
  go_enter Try.func9, Try.ntmps9
  go_wp2_with fail
  simp only [HWE.out]
  go_at_call 6
  refine cmay.mono ?_
  rintro e w1 ⟨rfl, hb1⟩
  have HB1 : Hid (Below W.heap.size W w1) := hb1
  have hx1 := HXc.out w1 HB1.out
  clear hb1
  go_wp2_with fail
  go_ret
  exact ⟨rfl, HW.out _ HB1.out⟩
set_option maxRecDepth 100000 in
set_option maxHeartbeats 1000000 in
theorem pEven_t (T : Ty) (v : Value) (w : World) (hm : mayN 4 T = true) (hv : TyV w T v) : Calls Try.prog 9 #[v] w fun e w' => e = .returned (.bool (evenT T)) ∧ Below w.heap.size w w' := by
  rcases T with _ | ⟨kind, name, nn, names, pn, parts, many⟩
  · exact (TyV_leaf hv).elim
  obtain ⟨na, nc, pa, pc, rfl, hS, q1, q2, q3, q4, q5, q6, q7, HP⟩ := hv.part
  have hB0 : Below w.heap.size w (w.alloc (.cells #[.int .i64 kind, .string name, .slice na nn nc, .slice pa pn pc, .bool many] 25)) := (Below.refl _ _).alloc (Nat.le_refl _) _
  have hx0 : ∀ o, (w.alloc (.cells #[.int .i64 kind, .string name, .slice na nn nc, .slice pa pn pc, .bool many] 25)).cell? ⟨w.heap.size, o, none⟩ = (#[Value.int .i64 kind, .string name, .slice na nn nc, .slice pa pn pc, .bool many])[o]? := fun o => World.cell?_alloc_at _ _ _ _ rfl
  have hz0 : (w.alloc (.cells #[.int .i64 kind, .string name, .slice na nn nc, .slice pa pn pc, .bool many] 25)).heap.size = w.heap.size + 1 := by simp
  obtain ⟨W, hW⟩ : ∃ W, w.alloc (.cells #[.int .i64 kind, .string name, .slice na nn nc, .slice pa pn pc, .bool many] 25) = W := ⟨_, rfl⟩
  have HWE := hide hW
  rw [hW] at hB0 hx0 hz0
  clear hW
  have HW : Hid (∀ w', Below W.heap.size W w' → Below w.heap.size w w') := fun w' hw => hB0.trans (hw.mono (by omega))
  have HXc : Hid (∀ w', Below W.heap.size W w' → ∀ o, w'.cell? ⟨w.heap.size, o, none⟩ = (#[Value.int .i64 kind, .string name, .slice na nn nc, .slice pa pn pc, .bool many])[o]?) := fun w' hw o => (hw.cell (p := ⟨w.heap.size, o, none⟩) (by show w.heap.size < _; omega)).trans (hx0 o)
  have HT := hide hv
  have cmay := pMay_any _ _ W (hv.below hB0)
  rw [hm] at cmay
  clear hv hS hx0 hz0 hB0 HP
  have hc := fun w' (hw : Below W.heap.size W w') => peven_any _ _ w' (HT.out.below (HW.out w' hw))
  have HM := hide hm
  clear hm
  go_enter Try.func9, Try.ntmps9
  go_wp2_with fail
  simp only [HWE.out]
  go_at_call 6
  refine cmay.mono ?_
  rintro e w1 ⟨rfl, hb1⟩
  have HB1 : Hid (Below W.heap.size W w1) := hb1
  have hx1 := HXc.out w1 HB1.out
  clear hb1
  go_wp2_with fail
  go_at_call 22
  refine (hc _ HB1.out).mono ?_
  rintro e w2 ⟨rfl, hb2⟩
  have HB2 : Hid (Below W.heap.size W w2) := HB1.out.trans (hb2.mono HB1.out.size)
  clear hb2
  go_wp2_with fail
  go_ret
  exact ⟨rfl, HW.out _ HB2.out⟩
set_option maxRecDepth 100000 in
set_option maxHeartbeats 1000000 in
theorem pText_f (T : Ty) (v : Value) (w : World) (hm : mayN 4 T = false) (hv : TyV w T v) : Calls Try.prog 11 #[v] w fun e w' => e = .returned (.string ⟨#[]⟩) ∧ Below w.heap.size w w' := by
  rcases T with _ | ⟨kind, name, nn, names, pn, parts, many⟩
  · exact (TyV_leaf hv).elim
  obtain ⟨na, nc, pa, pc, rfl, hS, q1, q2, q3, q4, q5, q6, q7, HP⟩ := hv.part
  have hB0 : Below w.heap.size w (w.alloc (.cells #[.int .i64 kind, .string name, .slice na nn nc, .slice pa pn pc, .bool many] 25)) := (Below.refl _ _).alloc (Nat.le_refl _) _
  have hx0 : ∀ o, (w.alloc (.cells #[.int .i64 kind, .string name, .slice na nn nc, .slice pa pn pc, .bool many] 25)).cell? ⟨w.heap.size, o, none⟩ = (#[Value.int .i64 kind, .string name, .slice na nn nc, .slice pa pn pc, .bool many])[o]? := fun o => World.cell?_alloc_at _ _ _ _ rfl
  have hz0 : (w.alloc (.cells #[.int .i64 kind, .string name, .slice na nn nc, .slice pa pn pc, .bool many] 25)).heap.size = w.heap.size + 1 := by simp
  obtain ⟨W, hW⟩ : ∃ W, w.alloc (.cells #[.int .i64 kind, .string name, .slice na nn nc, .slice pa pn pc, .bool many] 25) = W := ⟨_, rfl⟩
  have HWE := hide hW
  rw [hW] at hB0 hx0 hz0
  clear hW
  have HW : Hid (∀ w', Below W.heap.size W w' → Below w.heap.size w w') := fun w' hw => hB0.trans (hw.mono (by omega))
  have HXc : Hid (∀ w', Below W.heap.size W w' → ∀ o, w'.cell? ⟨w.heap.size, o, none⟩ = (#[Value.int .i64 kind, .string name, .slice na nn nc, .slice pa pn pc, .bool many])[o]?) := fun w' hw o => (hw.cell (p := ⟨w.heap.size, o, none⟩) (by show w.heap.size < _; omega)).trans (hx0 o)
  have HT := hide hv
  have cmay := pMay_any _ _ W (hv.below hB0)
  rw [hm] at cmay
  clear hv hS hx0 hz0 hB0 HP
  go_enter Try.func11, Try.ntmps11
  go_wp2_with fail
  simp only [HWE.out]
  go_at_call 6
  refine cmay.mono ?_
  rintro e w1 ⟨rfl, hb1⟩
  have HB1 : Hid (Below W.heap.size W w1) := hb1
  have hx1 := HXc.out w1 HB1.out
  clear hb1
  go_wp2_with fail
  go_ret
  exact ⟨rfl, HW.out _ HB1.out⟩
set_option maxRecDepth 100000 in
set_option maxHeartbeats 1000000 in
theorem pText_t (T : Ty) (v : Value) (w : World) (hm : mayN 4 T = true) (hv : TyV w T v) : Calls Try.prog 11 #[v] w fun e w' => e = .returned (.string (strOf (textT T))) ∧ Below w.heap.size w w' := by
  rcases T with _ | ⟨kind, name, nn, names, pn, parts, many⟩
  · exact (TyV_leaf hv).elim
  obtain ⟨na, nc, pa, pc, rfl, hS, q1, q2, q3, q4, q5, q6, q7, HP⟩ := hv.part
  have hB0 : Below w.heap.size w (w.alloc (.cells #[.int .i64 kind, .string name, .slice na nn nc, .slice pa pn pc, .bool many] 25)) := (Below.refl _ _).alloc (Nat.le_refl _) _
  have hx0 : ∀ o, (w.alloc (.cells #[.int .i64 kind, .string name, .slice na nn nc, .slice pa pn pc, .bool many] 25)).cell? ⟨w.heap.size, o, none⟩ = (#[Value.int .i64 kind, .string name, .slice na nn nc, .slice pa pn pc, .bool many])[o]? := fun o => World.cell?_alloc_at _ _ _ _ rfl
  have hz0 : (w.alloc (.cells #[.int .i64 kind, .string name, .slice na nn nc, .slice pa pn pc, .bool many] 25)).heap.size = w.heap.size + 1 := by simp
  obtain ⟨W, hW⟩ : ∃ W, w.alloc (.cells #[.int .i64 kind, .string name, .slice na nn nc, .slice pa pn pc, .bool many] 25) = W := ⟨_, rfl⟩
  have HWE := hide hW
  rw [hW] at hB0 hx0 hz0
  clear hW
  have HW : Hid (∀ w', Below W.heap.size W w' → Below w.heap.size w w') := fun w' hw => hB0.trans (hw.mono (by omega))
  have HXc : Hid (∀ w', Below W.heap.size W w' → ∀ o, w'.cell? ⟨w.heap.size, o, none⟩ = (#[Value.int .i64 kind, .string name, .slice na nn nc, .slice pa pn pc, .bool many])[o]?) := fun w' hw o => (hw.cell (p := ⟨w.heap.size, o, none⟩) (by show w.heap.size < _; omega)).trans (hx0 o)
  have HT := hide hv
  have cmay := pMay_any _ _ W (hv.below hB0)
  rw [hm] at cmay
  clear hv hS hx0 hz0 hB0 HP
  have hc := fun w' (hw : Below W.heap.size W w') => ptext_any _ 4 (by omega) hm _ w' (HT.out.below (HW.out w' hw))
  have HM := hide hm
  clear hm
  go_enter Try.func11, Try.ntmps11
  go_wp2_with fail
  simp only [HWE.out]
  go_at_call 6
  refine cmay.mono ?_
  rintro e w1 ⟨rfl, hb1⟩
  have HB1 : Hid (Below W.heap.size W w1) := hb1
  have hx1 := HXc.out w1 HB1.out
  clear hb1
  go_wp2_with fail
  go_at_call 24
  refine (hc _ HB1.out).mono ?_
  rintro e w2 ⟨rfl, hb2⟩
  have HB2 : Hid (Below W.heap.size W w2) := HB1.out.trans (hb2.mono HB1.out.size)
  clear hb2
  go_wp2_with fail
  go_ret
  exact ⟨rfl, HW.out _ HB2.out⟩
end Go.Proofs.Ytakijacfadpmoaa.T
