/- The contracts of the program's Words, Even. -/
import Derived.Test.YtmbhcpnlfdgkjaaPMay2
namespace Go.Proofs.Ytmbhcpnlfdgkjaa.T
open Go.RowKit
set_option linter.unusedVariables false
set_option linter.unusedSimpArgs false
set_option maxRecDepth 100000 in
set_option maxHeartbeats 1000000 in
theorem pWords_f (T : Ty) (v : Value) (w : World) (hm : mayN 4 T = false) (hv : TyV w T v) : Calls Try.prog 13 #[v] w fun e w' => e = .returned (.int .i64 0) ∧ Below w.heap.size w w' := by
  rcases T with _ | ⟨kind, name, nn, names, pn, parts, many⟩
  · exact (TyV_leaf hv).elim
  obtain ⟨na, nc, pa, pc, rfl, hS, q1, q2, q3, q4, q5, q6, q7, HP⟩ := hv.part
  have hB0 : Below w.heap.size w (w.alloc (.cells #[.int .i64 kind, .string name, .slice na nn nc, .slice pa pn pc, .bool many] 25)) := (Below.refl _ _).alloc (Nat.le_refl _) _
  have hx0 : ∀ o, (w.alloc (.cells #[.int .i64 kind, .string name, .slice na nn nc, .slice pa pn pc, .bool many] 25)).cell? ⟨w.heap.size, o, none⟩ = (#[Value.int .i64 kind, .string name, .slice na nn nc, .slice pa pn pc, .bool many])[o]? := fun o => World.cell?_alloc_at _ _ _ _ rfl
  have hz0 : (w.alloc (.cells #[.int .i64 kind, .string name, .slice na nn nc, .slice pa pn pc, .bool many] 25)).heap.size = w.heap.size + 1 := by simp
  obtain ⟨W, hW⟩ : ∃ W, w.alloc (.cells #[.int .i64 kind, .string name, .slice na nn nc, .slice pa pn pc, .bool many] 25) = W := ⟨_, rfl⟩
  have HWE := hide hW
  rw [hW] at hB0 hx0 hz0
  clear hW
  have HW : Hid (∀ w', Below W.heap.size W w' → Below w.heap.size w w') := fun w' hw => hB0.trans (hw.mono (by omega))
  have HXc : Hid (∀ w', Below W.heap.size W w' → ∀ o, w'.cell? ⟨w.heap.size, o, none⟩ = (#[Value.int .i64 kind, .string name, .slice na nn nc, .slice pa pn pc, .bool many])[o]?) := fun w' hw o => (hw.cell (p := ⟨w.heap.size, o, none⟩) (by show w.heap.size < _; omega)).trans (hx0 o)
  have HT := hide hv
  have cmay := pMay_any _ _ W (hv.below hB0)
  rw [hm] at cmay
  clear hv hS hx0 hz0 hB0 HP
  go_enter Try.func13, Try.ntmps13
  go_wp2_with fail
  simp only [HWE.out]
  go_at_call 23
  refine cmay.mono ?_
  rintro e w1 ⟨rfl, hb1⟩
  have HB1 : Hid (Below W.heap.size W w1) := hb1
  have hx1 := HXc.out w1 HB1.out
  clear hb1
  go_wp2_with fail
  go_ret
  exact ⟨rfl, HW.out _ HB1.out⟩
set_option maxRecDepth 100000 in
set_option maxHeartbeats 1000000 in
theorem pWords_t (T : Ty) (v : Value) (w : World) (hm : mayN 4 T = true) (hv : TyV w T v) : Calls Try.prog 13 #[v] w fun e w' => e = .returned (.int .i64 (sizeT T)) ∧ Below w.heap.size w w' := by
  rcases T with _ | ⟨kind, name, nn, names, pn, parts, many⟩
  · exact (TyV_leaf hv).elim
  obtain ⟨na, nc, pa, pc, rfl, hS, q1, q2, q3, q4, q5, q6, q7, HP⟩ := hv.part
  have hB0 : Below w.heap.size w (w.alloc (.cells #[.int .i64 kind, .string name, .slice na nn nc, .slice pa pn pc, .bool many] 25)) := (Below.refl _ _).alloc (Nat.le_refl _) _
  have hx0 : ∀ o, (w.alloc (.cells #[.int .i64 kind, .string name, .slice na nn nc, .slice pa pn pc, .bool many] 25)).cell? ⟨w.heap.size, o, none⟩ = (#[Value.int .i64 kind, .string name, .slice na nn nc, .slice pa pn pc, .bool many])[o]? := fun o => World.cell?_alloc_at _ _ _ _ rfl
  have hz0 : (w.alloc (.cells #[.int .i64 kind, .string name, .slice na nn nc, .slice pa pn pc, .bool many] 25)).heap.size = w.heap.size + 1 := by simp
  obtain ⟨W, hW⟩ : ∃ W, w.alloc (.cells #[.int .i64 kind, .string name, .slice na nn nc, .slice pa pn pc, .bool many] 25) = W := ⟨_, rfl⟩
  have HWE := hide hW
  rw [hW] at hB0 hx0 hz0
  clear hW
  have HW : Hid (∀ w', Below W.heap.size W w' → Below w.heap.size w w') := fun w' hw => hB0.trans (hw.mono (by omega))
  have HXc : Hid (∀ w', Below W.heap.size W w' → ∀ o, w'.cell? ⟨w.heap.size, o, none⟩ = (#[Value.int .i64 kind, .string name, .slice na nn nc, .slice pa pn pc, .bool many])[o]?) := fun w' hw o => (hw.cell (p := ⟨w.heap.size, o, none⟩) (by show w.heap.size < _; omega)).trans (hx0 o)
  have HT := hide hv
  have cmay := pMay_any _ _ W (hv.below hB0)
  rw [hm] at cmay
  clear hv hS hx0 hz0 hB0 HP
  have hc := fun w' (hw : Below W.heap.size W w') => words_any _ (sizeT_le hm).1 _ w' (HT.out.below (HW.out w' hw))
  have HM := hide hm
  clear hm
  go_enter Try.func13, Try.ntmps13
  go_wp2_with fail
  simp only [HWE.out]
  go_at_call 23
  refine cmay.mono ?_
  rintro e w1 ⟨rfl, hb1⟩
  have HB1 : Hid (Below W.heap.size W w1) := hb1
  have hx1 := HXc.out w1 HB1.out
  clear hb1
  go_wp2_with fail
  go_at_call 24
  refine (hc _ HB1.out).mono ?_
  rintro e w2 ⟨rfl, hb2⟩
  have HB2 : Hid (Below W.heap.size W w2) := HB1.out.trans (hb2.mono HB1.out.size)
  clear hb2
  go_wp2_with fail
  go_ret
  exact ⟨rfl, HW.out _ HB2.out⟩
set_option maxRecDepth 100000 in
set_option maxHeartbeats 1000000 in
theorem pEven_f (T : Ty) (v : Value) (w : World) (hm : mayN 4 T = false) (hv : TyV w T v) : Calls Try.prog 25 #[v] w fun e w' => e = .returned (.bool false) ∧ Below w.heap.size w w' := by
  rcases T with _ | ⟨kind, name, nn, names, pn, parts, many⟩
  · exact (TyV_leaf hv).elim
  obtain ⟨na, nc, pa, pc, rfl, hS, q1, q2, q3, q4, q5, q6, q7, HP⟩ := hv.part
  have hB0 : Below w.heap.size w (w.alloc (.cells #[.int .i64 kind, .string name, .slice na nn nc, .slice pa pn pc, .bool many] 25)) := (Below.refl _ _).alloc (Nat.le_refl _) _
  have hx0 : ∀ o, (w.alloc (.cells #[.int .i64 kind, .string name, .slice na nn nc, .slice pa pn pc, .bool many] 25)).cell? ⟨w.heap.size, o, none⟩ = (#[Value.int .i64 kind, .string name, .slice na nn nc, .slice pa pn pc, .bool many])[o]? := fun o => World.cell?_alloc_at _ _ _ _ rfl
  have hz0 : (w.alloc (.cells #[.int .i64 kind, .string name, .slice na nn nc, .slice pa pn pc, .bool many] 25)).heap.size = w.heap.size + 1 := by simp
  obtain ⟨W, hW⟩ : ∃ W, w.alloc (.cells #[.int .i64 kind, .string name, .slice na nn nc, .slice pa pn pc, .bool many] 25) = W := ⟨_, rfl⟩
  have HWE := hide hW
  rw [hW] at hB0 hx0 hz0
  clear hW
  have HW : Hid (∀ w', Below W.heap.size W w' → Below w.heap.size w w') := fun w' hw => hB0.trans (hw.mono (by omega))
  have HXc : Hid (∀ w', Below W.heap.size W w' → ∀ o, w'.cell? ⟨w.heap.size, o, none⟩ = (#[Value.int .i64 kind, .string name, .slice na nn nc, .slice pa pn pc, .bool many])[o]?) := fun w' hw o => (hw.cell (p := ⟨w.heap.size, o, none⟩) (by show w.heap.size < _; omega)).trans (hx0 o)
  have HT := hide hv
  have cmay := pMay_any _ _ W (hv.below hB0)
  rw [hm] at cmay
  clear hv hS hx0 hz0 hB0 HP
  go_enter Try.func25, Try.ntmps25
  go_wp2_with fail
  simp only [HWE.out]
  go_at_call 23
  refine cmay.mono ?_
  rintro e w1 ⟨rfl, hb1⟩
  have HB1 : Hid (Below W.heap.size W w1) := hb1
  have hx1 := HXc.out w1 HB1.out
  clear hb1
  go_wp2_with fail
  go_ret
  exact ⟨rfl, HW.out _ HB1.out⟩
set_option maxRecDepth 100000 in
set_option maxHeartbeats 1000000 in
theorem pEven_t (T : Ty) (v : Value) (w : World) (hm : mayN 4 T = true) (hv : TyV w T v) : Calls Try.prog 25 #[v] w fun e w' => e = .returned (.bool (evenT T)) ∧ Below w.heap.size w w' := by
  rcases T with _ | ⟨kind, name, nn, names, pn, parts, many⟩
  · exact (TyV_leaf hv).elim
  obtain ⟨na, nc, pa, pc, rfl, hS, q1, q2, q3, q4, q5, q6, q7, HP⟩ := hv.part
  have hB0 : Below w.heap.size w (w.alloc (.cells #[.int .i64 kind, .string name, .slice na nn nc, .slice pa pn pc, .bool many] 25)) := (Below.refl _ _).alloc (Nat.le_refl _) _
  have hx0 : ∀ o, (w.alloc (.cells #[.int .i64 kind, .string name, .slice na nn nc, .slice pa pn pc, .bool many] 25)).cell? ⟨w.heap.size, o, none⟩ = (#[Value.int .i64 kind, .string name, .slice na nn nc, .slice pa pn pc, .bool many])[o]? := fun o => World.cell?_alloc_at _ _ _ _ rfl
  have hz0 : (w.alloc (.cells #[.int .i64 kind, .string name, .slice na nn nc, .slice pa pn pc, .bool many] 25)).heap.size = w.heap.size + 1 := by simp
  obtain ⟨W, hW⟩ : ∃ W, w.alloc (.cells #[.int .i64 kind, .string name, .slice na nn nc, .slice pa pn pc, .bool many] 25) = W := ⟨_, rfl⟩
  have HWE := hide hW
  rw [hW] at hB0 hx0 hz0
  clear hW
  have HW : Hid (∀ w', Below W.heap.size W w' → Below w.heap.size w w') := fun w' hw => hB0.trans (hw.mono (by omega))
  have HXc : Hid (∀ w', Below W.heap.size W w' → ∀ o, w'.cell? ⟨w.heap.size, o, none⟩ = (#[Value.int .i64 kind, .string name, .slice na nn nc, .slice pa pn pc, .bool many])[o]?) := fun w' hw o => (hw.cell (p := ⟨w.heap.size, o, none⟩) (by show w.heap.size < _; omega)).trans (hx0 o)
  have HT := hide hv
  have cmay := pMay_any _ _ W (hv.below hB0)
  rw [hm] at cmay
  clear hv hS hx0 hz0 hB0 HP
  have hc := fun w' (hw : Below W.heap.size W w') => peven_any _ _ w' (HT.out.below (HW.out w' hw))
  have HM := hide hm
  clear hm
  go_enter Try.func25, Try.ntmps25
  go_wp2_with fail
  simp only [HWE.out]
  go_at_call 23
  refine cmay.mono ?_
  rintro e w1 ⟨rfl, hb1⟩
  have HB1 : Hid (Below W.heap.size W w1) := hb1
  have hx1 := HXc.out w1 HB1.out
  clear hb1
  go_wp2_with fail
  go_at_call 33
  refine (hc _ HB1.out).mono ?_
  rintro e w2 ⟨rfl, hb2⟩
  have HB2 : Hid (Below W.heap.size W w2) := HB1.out.trans (hb2.mono HB1.out.size)
  clear hb2
  go_wp2_with fail
  go_ret
  exact ⟨rfl, HW.out _ HB2.out⟩
end Go.Proofs.Ytmbhcpnlfdgkjaa.T
