/- What the program's functions of types are to answer; TypesTell, TypesAlike and TypesLie by that. -/
import Derived.Test.YtakijacfadpmoaaOpen
namespace Go.Proofs.Ytakijacfadpmoaa.T
open Go.RowKit
set_option linter.unusedVariables false
set_option linter.unusedSimpArgs false
/-- The program answers as the document asks. -/
structure Pr : Prop where
  may : ∀ (T : Ty) (v : Value) (w : World), TyV w T v → Calls Try.prog 6 #[v] w fun e w' => e = .returned (.bool (mayN 4 T)) ∧ Below w.heap.size w w'
  words_t : ∀ (T : Ty) (v : Value) (w : World), mayN 4 T = true → TyV w T v → Calls Try.prog 8 #[v] w fun e w' => e = .returned (.int .i64 (sizeT T)) ∧ Below w.heap.size w w'
  words_f : ∀ (T : Ty) (v : Value) (w : World), mayN 4 T = false → TyV w T v → Calls Try.prog 8 #[v] w fun e w' => e = .returned (.int .i64 0) ∧ Below w.heap.size w w'
  even_t : ∀ (T : Ty) (v : Value) (w : World), mayN 4 T = true → TyV w T v → Calls Try.prog 9 #[v] w fun e w' => e = .returned (.bool (evenT T)) ∧ Below w.heap.size w w'
  even_f : ∀ (T : Ty) (v : Value) (w : World), mayN 4 T = false → TyV w T v → Calls Try.prog 9 #[v] w fun e w' => e = .returned (.bool false) ∧ Below w.heap.size w w'
  places_t : ∀ (T : Ty) (v : Value) (w : World), mayN 4 T = true → TyV w T v → Calls Try.prog 10 #[v] w fun e w' => ∃ l, e = .returned l ∧ w'.ownsRow w.heap.size 3 1 l (placesT T).length (ints (placesT T)) ∧ Below w.heap.size w w'
  places_f : ∀ (T : Ty) (v : Value) (w : World), mayN 4 T = false → TyV w T v → Calls Try.prog 10 #[v] w fun e w' => ∃ l, e = .returned l ∧ w'.ownsRow w.heap.size 3 1 l 0 [] ∧ Below w.heap.size w w'
  text_t : ∀ (T : Ty) (v : Value) (w : World), mayN 4 T = true → TyV w T v → Calls Try.prog 11 #[v] w fun e w' => e = .returned (.string (strOf (textT T))) ∧ Below w.heap.size w w'
  text_f : ∀ (T : Ty) (v : Value) (w : World), mayN 4 T = false → TyV w T v → Calls Try.prog 11 #[v] w fun e w' => e = .returned (.string ⟨#[]⟩) ∧ Below w.heap.size w w'
  same : ∀ (a b : Ty) (va vb : Value) (w : World), TyV w a va → TyV w b vb → Calls Try.prog 12 #[va, vb] w fun e w' => e = .returned (.bool (mayN 4 a && mayN 4 b && alikeT a b)) ∧ Below w.heap.size w w'
/-- A type's value, written out. -/
theorem TyV.form {w : World} {T : Ty} {v : Value} (h : TyV w T v) : ∃ kind name na nn nc pa pn pc many, v = .agg #[.int .i64 kind, .string name, .slice na nn nc, .slice pa pn pc, .bool many] := by
  rcases T with _ | ⟨kind, name, nn, names, pn, parts, many⟩
  · exact (TyV_leaf h).elim
  · obtain ⟨na, nc, pa, pc, rfl, _⟩ := h.part
    exact ⟨_, _, _, _, _, _, _, _, _, rfl⟩
set_option maxRecDepth 100000 in
set_option maxHeartbeats 2000000 in
theorem tell_f (HP : Pr) (a b : Ty) (va vb : Value) (w : World) (ha : TyV w a va) (hb : TyV w b vb) (hm : mayN 4 a = false) : Calls Try.prog 3 #[va, vb] w fun e w' => e = .returned (.bool true) ∧ Below w.heap.size w w' := by
  have hP := hide HP
  have HA := hide ha
  have HBt := hide hb
  obtain ⟨k1, n1, na1, nn1, nc1, pa1, pn1, pc1, m1, rfl⟩ := ha.form
  obtain ⟨k2, n2, na2, nn2, nc2, pa2, pn2, pc2, m2, rfl⟩ := hb.form
  clear ha hb HP
  have cmay := fun w' (hv : TyV w' a (.agg #[.int .i64 k1, .string n1, .slice na1 nn1 nc1, .slice pa1 pn1 pc1, .bool m1])) => hP.out.may a _ w' hv
  have crmay := fun w' (hv : TyV w' a (.agg #[.int .i64 k1, .string n1, .slice na1 nn1 nc1, .slice pa1 pn1 pc1, .bool m1])) => may_any a _ w' hv
  have csame := fun w' (hv : TyV w' a (.agg #[.int .i64 k1, .string n1, .slice na1 nn1 nc1, .slice pa1 pn1 pc1, .bool m1])) (hu : TyV w' b (.agg #[.int .i64 k2, .string n2, .slice na2 nn2 nc2, .slice pa2 pn2 pc2, .bool m2])) => hP.out.same a b _ _ w' hv hu
  rw [hm] at cmay crmay csame
  go_enter Try.func3, Try.ntmps3
  go_wp2_with fail
  have hB0 : Below w.heap.size w ((w.alloc (.cells #[.int .i64 k1, .string n1, .slice na1 nn1 nc1, .slice pa1 pn1 pc1, .bool m1] 25)).alloc (.cells #[.int .i64 k2, .string n2, .slice na2 nn2 nc2, .slice pa2 pn2 pc2, .bool m2] 25)) := ((Below.refl _ _).alloc (Nat.le_refl _) _).alloc (by simp) _
  have hx00 : ∀ o, ((w.alloc (.cells #[.int .i64 k1, .string n1, .slice na1 nn1 nc1, .slice pa1 pn1 pc1, .bool m1] 25)).alloc (.cells #[.int .i64 k2, .string n2, .slice na2 nn2 nc2, .slice pa2 pn2 pc2, .bool m2] 25)).cell? ⟨w.heap.size, o, none⟩ = (#[Value.int .i64 k1, .string n1, .slice na1 nn1 nc1, .slice pa1 pn1 pc1, .bool m1])[o]? := fun o => (World.cell?_alloc_past _ _ _ (by simp)).trans (World.cell?_alloc_at _ _ _ _ rfl)
  have hy00 : ∀ o, ((w.alloc (.cells #[.int .i64 k1, .string n1, .slice na1 nn1 nc1, .slice pa1 pn1 pc1, .bool m1] 25)).alloc (.cells #[.int .i64 k2, .string n2, .slice na2 nn2 nc2, .slice pa2 pn2 pc2, .bool m2] 25)).cell? ⟨w.heap.size + 1, o, none⟩ = (#[Value.int .i64 k2, .string n2, .slice na2 nn2 nc2, .slice pa2 pn2 pc2, .bool m2])[o]? := fun o => World.cell?_alloc_at _ _ _ _ (by simp)
  have hz0 : ((w.alloc (.cells #[.int .i64 k1, .string n1, .slice na1 nn1 nc1, .slice pa1 pn1 pc1, .bool m1] 25)).alloc (.cells #[.int .i64 k2, .string n2, .slice na2 nn2 nc2, .slice pa2 pn2 pc2, .bool m2] 25)).heap.size = w.heap.size + 1 + 1 := by simp
  generalize (w.alloc (.cells #[.int .i64 k1, .string n1, .slice na1 nn1 nc1, .slice pa1 pn1 pc1, .bool m1] 25)).alloc (.cells #[.int .i64 k2, .string n2, .slice na2 nn2 nc2, .slice pa2 pn2 pc2, .bool m2] 25) = W at *
  have HW : Hid (∀ w', Below W.heap.size W w' → Below w.heap.size w w') := fun w' hw => hB0.trans (hw.mono (by omega))
  have HXc : Hid (∀ w', Below W.heap.size W w' → (∀ o, w'.cell? ⟨w.heap.size, o, none⟩ = (#[Value.int .i64 k1, .string n1, .slice na1 nn1 nc1, .slice pa1 pn1 pc1, .bool m1])[o]?) ∧ (∀ o, w'.cell? ⟨w.heap.size + 1, o, none⟩ = (#[Value.int .i64 k2, .string n2, .slice na2 nn2 nc2, .slice pa2 pn2 pc2, .bool m2])[o]?)) := fun w' hw => ⟨fun o => (hw.cell (p := ⟨w.heap.size, o, none⟩) (by show w.heap.size < _; omega)).trans (hx00 o), fun o => (hw.cell (p := ⟨w.heap.size + 1, o, none⟩) (by show w.heap.size + 1 < _; omega)).trans (hy00 o)⟩
  have HB0 : Hid (Below W.heap.size W W) := Below.refl _ _
  obtain ⟨hx0, hy0⟩ := HXc.out W HB0.out
  clear hx00 hy00 hz0 hB0
  go_at_call 6
  refine ((fun w' (hw : Below W.heap.size W w') => cmay w' (HA.out.below (HW.out w' hw))) _ HB0.out).mono ?_
  rintro e w1 ⟨rfl, hb⟩
  have HB1 : Hid (Below W.heap.size W w1) := HB0.out.trans (hb.mono HB0.out.size)
  obtain ⟨hx1, hy1⟩ := HXc.out w1 HB1.out
  clear hb hx0 hy0
  go_wp2_with fail
  go_at_call 7
  refine ((fun w' (hw : Below W.heap.size W w') => crmay w' (HA.out.below (HW.out w' hw))) _ HB1.out).mono ?_
  rintro e w2 ⟨rfl, hb⟩
  have HB2 : Hid (Below W.heap.size W w2) := HB1.out.trans (hb.mono HB1.out.size)
  obtain ⟨hx2, hy2⟩ := HXc.out w2 HB2.out
  clear hb hx1 hy1
  go_wp2_with fail
  go_at_call 8
  refine ((fun w' (hw : Below W.heap.size W w') => hP.out.words_f a _ w' hm (HA.out.below (HW.out w' hw))) _ HB2.out).mono ?_
  rintro e w3 ⟨rfl, hb⟩
  have HB3 : Hid (Below W.heap.size W w3) := HB2.out.trans (hb.mono HB2.out.size)
  obtain ⟨hx3, hy3⟩ := HXc.out w3 HB3.out
  clear hb hx2 hy2
  go_wp2_with fail
  go_at_call 9
  refine ((fun w' (hw : Below W.heap.size W w') => hP.out.even_f a _ w' hm (HA.out.below (HW.out w' hw))) _ HB3.out).mono ?_
  rintro e w4 ⟨rfl, hb⟩
  have HB4 : Hid (Below W.heap.size W w4) := HB3.out.trans (hb.mono HB3.out.size)
  obtain ⟨hx4, hy4⟩ := HXc.out w4 HB4.out
  clear hb hx3 hy3
  go_wp2_with fail
  go_at_call 10
  refine ((fun w' (hw : Below W.heap.size W w') => hP.out.places_f a _ w' hm (HA.out.below (HW.out w' hw))) _ HB4.out).mono ?_
  rintro e w5 ⟨l, rfl, ho, hb⟩
  obtain ⟨a1, c1, rfl, -⟩ := own_cells ho
  have HO5 := hide (own_base ho (Nat.zero_le _))
  clear ho
  have HB5 : Hid (Below W.heap.size W w5) := HB4.out.trans (hb.mono HB4.out.size)
  obtain ⟨hx5, hy5⟩ := HXc.out w5 HB5.out
  clear hb hx4 hy4
  go_wp2_with fail
  go_at_call 11
  refine ((fun w' (hw : Below W.heap.size W w') => hP.out.text_f a _ w' hm (HA.out.below (HW.out w' hw))) _ HB5.out).mono ?_
  rintro e w6 ⟨rfl, hb⟩
  have HO6 := hide (own_below HO5.out hb)
  have HB6 : Hid (Below W.heap.size W w6) := HB5.out.trans (hb.mono HB5.out.size)
  obtain ⟨hx6, hy6⟩ := HXc.out w6 HB6.out
  clear hb hx5 hy5
  go_wp2_with fail
  go_at_call 12
  refine ((fun w' (hw : Below W.heap.size W w') => csame w' (HA.out.below (HW.out w' hw)) (HBt.out.below (HW.out w' hw))) _ HB6.out).mono ?_
  rintro e w7 ⟨rfl, hb⟩
  have HO7 := hide (own_below HO6.out hb)
  have HB7 : Hid (Below W.heap.size W w7) := HB6.out.trans (hb.mono HB6.out.size)
  obtain ⟨hx7, hy7⟩ := HXc.out w7 HB7.out
  clear hb hx6 hy6
  (try simp only [Bool.false_and])
  go_wp2_with fail
  go_ret
  exact ⟨rfl, HW.out _ HB7.out⟩
set_option maxRecDepth 100000 in
set_option maxHeartbeats 2000000 in
theorem tell_t (HP : Pr) (a b : Ty) (va vb : Value) (w : World) (ha : TyV w a va) (hb : TyV w b vb) (hm : mayN 4 a = true) : Calls Try.prog 3 #[va, vb] w fun e w' => e = .returned (.bool true) ∧ Below w.heap.size w w' := by
  have hP := hide HP
  have HA := hide ha
  have HBt := hide hb
  obtain ⟨k1, n1, na1, nn1, nc1, pa1, pn1, pc1, m1, rfl⟩ := ha.form
  obtain ⟨k2, n2, na2, nn2, nc2, pa2, pn2, pc2, m2, rfl⟩ := hb.form
  clear ha hb HP
  have cmay := fun w' (hv : TyV w' a (.agg #[.int .i64 k1, .string n1, .slice na1 nn1 nc1, .slice pa1 pn1 pc1, .bool m1])) => hP.out.may a _ w' hv
  have crmay := fun w' (hv : TyV w' a (.agg #[.int .i64 k1, .string n1, .slice na1 nn1 nc1, .slice pa1 pn1 pc1, .bool m1])) => may_any a _ w' hv
  have csame := fun w' (hv : TyV w' a (.agg #[.int .i64 k1, .string n1, .slice na1 nn1 nc1, .slice pa1 pn1 pc1, .bool m1])) (hu : TyV w' b (.agg #[.int .i64 k2, .string n2, .slice na2 nn2 nc2, .slice pa2 pn2 pc2, .bool m2])) => hP.out.same a b _ _ w' hv hu
  rw [hm] at cmay crmay csame
  go_enter Try.func3, Try.ntmps3
  go_wp2_with fail
  have hB0 : Below w.heap.size w ((w.alloc (.cells #[.int .i64 k1, .string n1, .slice na1 nn1 nc1, .slice pa1 pn1 pc1, .bool m1] 25)).alloc (.cells #[.int .i64 k2, .string n2, .slice na2 nn2 nc2, .slice pa2 pn2 pc2, .bool m2] 25)) := ((Below.refl _ _).alloc (Nat.le_refl _) _).alloc (by simp) _
  have hx00 : ∀ o, ((w.alloc (.cells #[.int .i64 k1, .string n1, .slice na1 nn1 nc1, .slice pa1 pn1 pc1, .bool m1] 25)).alloc (.cells #[.int .i64 k2, .string n2, .slice na2 nn2 nc2, .slice pa2 pn2 pc2, .bool m2] 25)).cell? ⟨w.heap.size, o, none⟩ = (#[Value.int .i64 k1, .string n1, .slice na1 nn1 nc1, .slice pa1 pn1 pc1, .bool m1])[o]? := fun o => (World.cell?_alloc_past _ _ _ (by simp)).trans (World.cell?_alloc_at _ _ _ _ rfl)
  have hy00 : ∀ o, ((w.alloc (.cells #[.int .i64 k1, .string n1, .slice na1 nn1 nc1, .slice pa1 pn1 pc1, .bool m1] 25)).alloc (.cells #[.int .i64 k2, .string n2, .slice na2 nn2 nc2, .slice pa2 pn2 pc2, .bool m2] 25)).cell? ⟨w.heap.size + 1, o, none⟩ = (#[Value.int .i64 k2, .string n2, .slice na2 nn2 nc2, .slice pa2 pn2 pc2, .bool m2])[o]? := fun o => World.cell?_alloc_at _ _ _ _ (by simp)
  have hz0 : ((w.alloc (.cells #[.int .i64 k1, .string n1, .slice na1 nn1 nc1, .slice pa1 pn1 pc1, .bool m1] 25)).alloc (.cells #[.int .i64 k2, .string n2, .slice na2 nn2 nc2, .slice pa2 pn2 pc2, .bool m2] 25)).heap.size = w.heap.size + 1 + 1 := by simp
  generalize (w.alloc (.cells #[.int .i64 k1, .string n1, .slice na1 nn1 nc1, .slice pa1 pn1 pc1, .bool m1] 25)).alloc (.cells #[.int .i64 k2, .string n2, .slice na2 nn2 nc2, .slice pa2 pn2 pc2, .bool m2] 25) = W at *
  have HW : Hid (∀ w', Below W.heap.size W w' → Below w.heap.size w w') := fun w' hw => hB0.trans (hw.mono (by omega))
  have HXc : Hid (∀ w', Below W.heap.size W w' → (∀ o, w'.cell? ⟨w.heap.size, o, none⟩ = (#[Value.int .i64 k1, .string n1, .slice na1 nn1 nc1, .slice pa1 pn1 pc1, .bool m1])[o]?) ∧ (∀ o, w'.cell? ⟨w.heap.size + 1, o, none⟩ = (#[Value.int .i64 k2, .string n2, .slice na2 nn2 nc2, .slice pa2 pn2 pc2, .bool m2])[o]?)) := fun w' hw => ⟨fun o => (hw.cell (p := ⟨w.heap.size, o, none⟩) (by show w.heap.size < _; omega)).trans (hx00 o), fun o => (hw.cell (p := ⟨w.heap.size + 1, o, none⟩) (by show w.heap.size + 1 < _; omega)).trans (hy00 o)⟩
  have HB0 : Hid (Below W.heap.size W W) := Below.refl _ _
  obtain ⟨hx0, hy0⟩ := HXc.out W HB0.out
  clear hx00 hy00 hz0 hB0
  go_at_call 6
  refine ((fun w' (hw : Below W.heap.size W w') => cmay w' (HA.out.below (HW.out w' hw))) _ HB0.out).mono ?_
  rintro e w1 ⟨rfl, hb⟩
  have HB1 : Hid (Below W.heap.size W w1) := HB0.out.trans (hb.mono HB0.out.size)
  obtain ⟨hx1, hy1⟩ := HXc.out w1 HB1.out
  clear hb hx0 hy0
  go_wp2_with fail
  go_at_call 7
  refine ((fun w' (hw : Below W.heap.size W w') => crmay w' (HA.out.below (HW.out w' hw))) _ HB1.out).mono ?_
  rintro e w2 ⟨rfl, hb⟩
  have HB2 : Hid (Below W.heap.size W w2) := HB1.out.trans (hb.mono HB1.out.size)
  obtain ⟨hx2, hy2⟩ := HXc.out w2 HB2.out
  clear hb hx1 hy1
  go_wp2_with fail
  go_at_call 8
  refine ((fun w' (hw : Below W.heap.size W w') => hP.out.words_t a _ w' hm (HA.out.below (HW.out w' hw))) _ HB2.out).mono ?_
  rintro e w3 ⟨rfl, hb⟩
  have HB3 : Hid (Below W.heap.size W w3) := HB2.out.trans (hb.mono HB2.out.size)
  obtain ⟨hx3, hy3⟩ := HXc.out w3 HB3.out
  clear hb hx2 hy2
  go_wp2_with fail
  go_at_call 9
  refine ((fun w' (hw : Below W.heap.size W w') => hP.out.even_t a _ w' hm (HA.out.below (HW.out w' hw))) _ HB3.out).mono ?_
  rintro e w4 ⟨rfl, hb⟩
  have HB4 : Hid (Below W.heap.size W w4) := HB3.out.trans (hb.mono HB3.out.size)
  obtain ⟨hx4, hy4⟩ := HXc.out w4 HB4.out
  clear hb hx3 hy3
  go_wp2_with fail
  go_at_call 10
  refine ((fun w' (hw : Below W.heap.size W w') => hP.out.places_t a _ w' hm (HA.out.below (HW.out w' hw))) _ HB4.out).mono ?_
  rintro e w5 ⟨l, rfl, ho, hb⟩
  obtain ⟨a1, c1, rfl, -⟩ := own_cells ho
  have HO5 := hide (own_base ho (Nat.zero_le _))
  clear ho
  have HB5 : Hid (Below W.heap.size W w5) := HB4.out.trans (hb.mono HB4.out.size)
  obtain ⟨hx5, hy5⟩ := HXc.out w5 HB5.out
  clear hb hx4 hy4
  go_wp2_with fail
  go_at_call 11
  refine ((fun w' (hw : Below W.heap.size W w') => hP.out.text_t a _ w' hm (HA.out.below (HW.out w' hw))) _ HB5.out).mono ?_
  rintro e w6 ⟨rfl, hb⟩
  have HO6 := hide (own_below HO5.out hb)
  have HB6 : Hid (Below W.heap.size W w6) := HB5.out.trans (hb.mono HB5.out.size)
  obtain ⟨hx6, hy6⟩ := HXc.out w6 HB6.out
  clear hb hx5 hy5
  go_wp2_with fail
  go_at_call 12
  refine ((fun w' (hw : Below W.heap.size W w') => csame w' (HA.out.below (HW.out w' hw)) (HBt.out.below (HW.out w' hw))) _ HB6.out).mono ?_
  rintro e w7 ⟨rfl, hb⟩
  have HO7 := hide (own_below HO6.out hb)
  have HB7 : Hid (Below W.heap.size W w7) := HB6.out.trans (hb.mono HB6.out.size)
  obtain ⟨hx7, hy7⟩ := HXc.out w7 HB7.out
  clear hb hx6 hy6
  have HF := hide (sizeT_le hm)
  go_wp2_with fail
  go_at_call 13
  refine ((fun w' (hw : Below W.heap.size W w') => size_any a HF.out.1 _ w' (HA.out.below (HW.out w' hw))) _ HB7.out).mono ?_
  rintro e w8 ⟨rfl, hb⟩
  have HO8 := hide (own_below HO7.out hb)
  have HB8 : Hid (Below W.heap.size W w8) := HB7.out.trans (hb.mono HB7.out.size)
  obtain ⟨hx8, hy8⟩ := HXc.out w8 HB8.out
  clear hb hx7 hy7
  go_wp2_with fail
  go_at_call 14
  refine ((fun w' (hw : Below W.heap.size W w') => even_any a _ w' (HA.out.below (HW.out w' hw))) _ HB8.out).mono ?_
  rintro e w9 ⟨rfl, hb⟩
  have HO9 := hide (own_below HO8.out hb)
  have HB9 : Hid (Below W.heap.size W w9) := HB8.out.trans (hb.mono HB8.out.size)
  obtain ⟨hx9, hy9⟩ := HXc.out w9 HB9.out
  clear hb hx8 hy8
  go_wp2_with fail
  go_at_call 15
  refine ((fun w' (hw : Below W.heap.size W w') => text_any a 4 (by omega) hm _ w' (HA.out.below (HW.out w' hw))) _ HB9.out).mono ?_
  rintro e w10 ⟨rfl, hb⟩
  have HO10 := hide (own_below HO9.out hb)
  have HB10 : Hid (Below W.heap.size W w10) := HB9.out.trans (hb.mono HB9.out.size)
  obtain ⟨hx10, hy10⟩ := HXc.out w10 HB10.out
  clear hb hx9 hy9
  go_wp2_with fail
  go_at_call 16
  refine ((fun w' (hw : Below W.heap.size W w') => places_any a HF.out.1 _ w' (HA.out.below (HW.out w' hw))) _ HB10.out).mono ?_
  rintro e w11 ⟨l, rfl, ho, hb⟩
  obtain ⟨a2, c2, rfl, -⟩ := own_cells ho
  have HO11 := hide (And.intro (own_below HO10.out hb) (own_base ho (Nat.zero_le _)))
  clear ho
  have HB11 : Hid (Below W.heap.size W w11) := HB10.out.trans (hb.mono HB10.out.size)
  obtain ⟨hx11, hy11⟩ := HXc.out w11 HB11.out
  clear hb hx10 hy10
  have hlen : (placesT a).length ≤ 1000000 := by
    rcases a with _ | ⟨kind, name, nn, names, pn, parts, many⟩
    · simp [placesT]
    · have := (may_facts hm).1
      rw [placesT_mk]
      split <;> simp; omega
  go_wp2_with fail
  go_at_call 17
  refine (ints_same _ _ (placesT a) w11 hlen HO11.out.1 HO11.out.2).mono ?_
  rintro e w12 ⟨rfl, hb⟩
  have HB12 : Hid (Below W.heap.size W w12) := HB11.out.trans (hb.mono HB11.out.size)
  obtain ⟨hx12, hy12⟩ := HXc.out w12 HB12.out
  clear hb hx11 hy11
  have cmo := fun w' (hv : TyV w' b (.agg #[.int .i64 k2, .string n2, .slice na2 nn2 nc2, .slice pa2 pn2 pc2, .bool m2])) => may_any b _ w' hv
  have cal := fun w' (hv : TyV w' a (.agg #[.int .i64 k1, .string n1, .slice na1 nn1 nc1, .slice pa1 pn1 pc1, .bool m1])) (hu : TyV w' b (.agg #[.int .i64 k2, .string n2, .slice na2 nn2 nc2, .slice pa2 pn2 pc2, .bool m2])) => alike_any a b _ _ w' hv hu
  cases hmo : mayN 4 b with
  | false =>
    rw [hmo] at cmo
    go_wp2_with fail
    go_at_call 7
    refine ((fun w' (hw : Below W.heap.size W w') => cmo w' (HBt.out.below (HW.out w' hw))) _ HB12.out).mono ?_
    rintro e w13 ⟨rfl, hb⟩
    have HB13 : Hid (Below W.heap.size W w13) := HB12.out.trans (hb.mono HB12.out.size)
    obtain ⟨hx13, hy13⟩ := HXc.out w13 HB13.out
    clear hb hx12 hy12
    (try simp only [hmo, Bool.true_and, Bool.false_and, Bool.and_false])
    go_wp2_with fail
    go_ret
    exact ⟨rfl, HW.out _ HB13.out⟩
  | true =>
    rw [hmo] at cmo
    cases hal : alikeT a b with
    | false =>
      rw [hal] at cal
      go_wp2_with fail
      go_at_call 7
      refine ((fun w' (hw : Below W.heap.size W w') => cmo w' (HBt.out.below (HW.out w' hw))) _ HB12.out).mono ?_
      rintro e w13 ⟨rfl, hb⟩
      have HB13 : Hid (Below W.heap.size W w13) := HB12.out.trans (hb.mono HB12.out.size)
      obtain ⟨hx13, hy13⟩ := HXc.out w13 HB13.out
      clear hb hx12 hy12
      go_wp2_with fail
      go_at_call 18
      refine ((fun w' (hw : Below W.heap.size W w') => cal w' (HA.out.below (HW.out w' hw)) (HBt.out.below (HW.out w' hw))) _ HB13.out).mono ?_
      rintro e w14 ⟨rfl, hb⟩
      have HB14 : Hid (Below W.heap.size W w14) := HB13.out.trans (hb.mono HB13.out.size)
      obtain ⟨hx14, hy14⟩ := HXc.out w14 HB14.out
      clear hb hx13 hy13
      go_wp2_with fail
      go_ret
      exact ⟨rfl, HW.out _ HB14.out⟩
    | true =>
      rw [hal] at cal
      go_wp2_with fail
      go_at_call 7
      refine ((fun w' (hw : Below W.heap.size W w') => cmo w' (HBt.out.below (HW.out w' hw))) _ HB12.out).mono ?_
      rintro e w13 ⟨rfl, hb⟩
      have HB13 : Hid (Below W.heap.size W w13) := HB12.out.trans (hb.mono HB12.out.size)
      obtain ⟨hx13, hy13⟩ := HXc.out w13 HB13.out
      clear hb hx12 hy12
      go_wp2_with fail
      go_at_call 18
      refine ((fun w' (hw : Below W.heap.size W w') => cal w' (HA.out.below (HW.out w' hw)) (HBt.out.below (HW.out w' hw))) _ HB13.out).mono ?_
      rintro e w14 ⟨rfl, hb⟩
      have HB14 : Hid (Below W.heap.size W w14) := HB13.out.trans (hb.mono HB13.out.size)
      obtain ⟨hx14, hy14⟩ := HXc.out w14 HB14.out
      clear hb hx13 hy13
      go_wp2_with fail
      go_ret
      exact ⟨rfl, HW.out _ HB14.out⟩
theorem tell_any (HP : Pr) (a b : Ty) (va vb : Value) (w : World) (ha : TyV w a va) (hb : TyV w b vb) : Calls Try.prog 3 #[va, vb] w fun e w' => e = .returned (.bool true) ∧ Below w.heap.size w w' := by
  cases hm : mayN 4 a with
  | false => exact tell_f HP a b va vb w ha hb hm
  | true => exact tell_t HP a b va vb w ha hb hm
end Go.Proofs.Ytakijacfadpmoaa.T
