/- The contract of the program's Same; the program answers as the document asks. -/
import Derived.Test.YtakijacfadpmoaaPRest
import Derived.Test.YtakijacfadpmoaaPPl
import Derived.Test.YtakijacfadpmoaaTell
namespace Go.Proofs.Ytakijacfadpmoaa.T
open Go.RowKit
set_option linter.unusedVariables false
set_option linter.unusedSimpArgs false
set_option maxRecDepth 100000 in
set_option maxHeartbeats 2000000 in
theorem same_a (a b : Ty) (va vb : Value) (w : World) (ha : TyV w a va) (hb : TyV w b vb) (hm : mayN 4 a = false) : Calls Try.prog 12 #[va, vb] w fun e w' => e = .returned (.bool false) ∧ Below w.heap.size w w' := by
  have HA := hide ha
  have HBt := hide hb
  obtain ⟨k1, n1, na1, nn1, nc1, pa1, pn1, pc1, m1, rfl⟩ := ha.form
  obtain ⟨k2, n2, na2, nn2, nc2, pa2, pn2, pc2, m2, rfl⟩ := hb.form
  clear ha hb
  have cma := fun w' (hv : TyV w' a (.agg #[Value.int .i64 k1, .string n1, .slice na1 nn1 nc1, .slice pa1 pn1 pc1, .bool m1])) => pMay_any a _ w' hv
  have cmb := fun w' (hv : TyV w' b (.agg #[Value.int .i64 k2, .string n2, .slice na2 nn2 nc2, .slice pa2 pn2 pc2, .bool m2])) => pMay_any b _ w' hv
  rw [hm] at cma
  go_enter Try.func12, Try.ntmps12
  go_wp2_with fail
  have hB0 : Below w.heap.size w ((w.alloc (.cells #[Value.int .i64 k1, .string n1, .slice na1 nn1 nc1, .slice pa1 pn1 pc1, .bool m1] 25)).alloc (.cells #[Value.int .i64 k2, .string n2, .slice na2 nn2 nc2, .slice pa2 pn2 pc2, .bool m2] 25)) := ((Below.refl _ _).alloc (Nat.le_refl _) _).alloc (by simp) _
  have hx00 : ∀ o, ((w.alloc (.cells #[Value.int .i64 k1, .string n1, .slice na1 nn1 nc1, .slice pa1 pn1 pc1, .bool m1] 25)).alloc (.cells #[Value.int .i64 k2, .string n2, .slice na2 nn2 nc2, .slice pa2 pn2 pc2, .bool m2] 25)).cell? ⟨w.heap.size, o, none⟩ = (#[Value.int .i64 k1, .string n1, .slice na1 nn1 nc1, .slice pa1 pn1 pc1, .bool m1])[o]? := fun o => (World.cell?_alloc_past _ _ _ (by simp)).trans (World.cell?_alloc_at _ _ _ _ rfl)
  have hy00 : ∀ o, ((w.alloc (.cells #[Value.int .i64 k1, .string n1, .slice na1 nn1 nc1, .slice pa1 pn1 pc1, .bool m1] 25)).alloc (.cells #[Value.int .i64 k2, .string n2, .slice na2 nn2 nc2, .slice pa2 pn2 pc2, .bool m2] 25)).cell? ⟨w.heap.size + 1, o, none⟩ = (#[Value.int .i64 k2, .string n2, .slice na2 nn2 nc2, .slice pa2 pn2 pc2, .bool m2])[o]? := fun o => World.cell?_alloc_at _ _ _ _ (by simp)
  have hz0 : ((w.alloc (.cells #[Value.int .i64 k1, .string n1, .slice na1 nn1 nc1, .slice pa1 pn1 pc1, .bool m1] 25)).alloc (.cells #[Value.int .i64 k2, .string n2, .slice na2 nn2 nc2, .slice pa2 pn2 pc2, .bool m2] 25)).heap.size = w.heap.size + 1 + 1 := by simp
  generalize ((w.alloc (.cells #[Value.int .i64 k1, .string n1, .slice na1 nn1 nc1, .slice pa1 pn1 pc1, .bool m1] 25)).alloc (.cells #[Value.int .i64 k2, .string n2, .slice na2 nn2 nc2, .slice pa2 pn2 pc2, .bool m2] 25)) = W at *
  have HW : Hid (∀ w', Below W.heap.size W w' → Below w.heap.size w w') := fun w' hw => hB0.trans (hw.mono (by omega))
  have HSb : Hid (∀ w', Below W.heap.size W w' → (fun w' => (∀ o, w'.cell? ⟨w.heap.size, o, none⟩ = (#[Value.int .i64 k1, .string n1, .slice na1 nn1 nc1, .slice pa1 pn1 pc1, .bool m1])[o]?) ∧ (∀ o, w'.cell? ⟨w.heap.size + 1, o, none⟩ = (#[Value.int .i64 k2, .string n2, .slice na2 nn2 nc2, .slice pa2 pn2 pc2, .bool m2])[o]?)) w') := fun w' hw => ⟨fun o => (hw.cell (p := ⟨w.heap.size, o, none⟩) (by show w.heap.size < _; omega)).trans (hx00 o), fun o => (hw.cell (p := ⟨w.heap.size + 1, o, none⟩) (by show w.heap.size + 1 < _; omega)).trans (hy00 o)⟩
  have ca := fun w' (hw : Below W.heap.size W w') => cma w' (HA.out.below (HW.out w' hw))
  have cb := fun w' (hw : Below W.heap.size W w') => cmb w' (HBt.out.below (HW.out w' hw))
  have HB0 : Hid (Below W.heap.size W W.drew) := (Below.refl _ _).drew
  clear hx00 hy00 hz0 hB0 cma cmb
  refine wp_region_held_drew (S := (fun w' => (∀ o, w'.cell? ⟨w.heap.size, o, none⟩ = (#[Value.int .i64 k1, .string n1, .slice na1 nn1 nc1, .slice pa1 pn1 pc1, .bool m1])[o]?) ∧ (∀ o, w'.cell? ⟨w.heap.size + 1, o, none⟩ = (#[Value.int .i64 k2, .string n2, .slice na2 nn2 nc2, .slice pa2 pn2 pc2, .bool m2])[o]?))) (by kernel_rfl) (HSb.out _ HB0.out) (fun hHeld => ?_)
  refine wpAnyH_take (i := 0) (v := ?_) rfl (by kernel_rfl) (by kernel_rfl) (by kernel_rfl) (fun _ _ _ h => h) (Or.inl ⟨by rfl, ?_⟩) (by assumption) ?_
  rotate_left
  · (intro w hSw; (try dsimp only at hSw); go_simp) <;> with_reducible rfl
  (simp only [Act.put, List.getElem_toArray, List.getElem_cons_zero, List.getElem_cons_succ, List.setIfInBounds_toArray, List.set_cons_zero, List.set_cons_succ])
  refine wpAnyH_ready (rs := [1]) (by kernel_rfl) (by simp) ?_
  refine AllReadyH.cons rfl (fun K hK => ?_) AllReadyH.nil
  go_simp
  refine (ca _ HB0.out).mono ?_
  rintro e w1 ⟨rfl, hb⟩
  have Hw1 : Hid (Below W.heap.size W w1) := HB0.out.trans (hb.mono HB0.out.size)
  refine hK.out _ _ (HSb.out _ Hw1.out) (fun hHeld_w1 => ?_)
  clear hK K hb
  (try (simp only [Act.put, List.getElem_toArray, List.getElem_cons_zero, List.getElem_cons_succ, List.setIfInBounds_toArray, List.set_cons_zero, List.set_cons_succ]))
  refine wpAnyH_take (i := 2) (v := ?_) rfl (by kernel_rfl) (by kernel_rfl) (by kernel_rfl) (fun _ _ _ h => h) (Or.inl ⟨by rfl, ?_⟩) (by assumption) ?_
  rotate_left
  · (intro w hSw; (try dsimp only at hSw); go_simp) <;> with_reducible rfl
  (simp only [Act.put, List.getElem_toArray, List.getElem_cons_zero, List.getElem_cons_succ, List.setIfInBounds_toArray, List.set_cons_zero, List.set_cons_succ])
  refine wpAnyH_take (i := 3) (v := undef) rfl (by kernel_rfl) (by kernel_rfl) (by kernel_rfl) (fun _ _ _ h => h) (Or.inr ⟨by rfl, rfl⟩) (by assumption) ?_
  (simp only [Act.put, List.getElem_toArray, List.getElem_cons_zero, List.getElem_cons_succ, List.setIfInBounds_toArray, List.set_cons_zero, List.set_cons_succ])
  refine wpAnyH_take (i := 4) (v := undef) rfl (by kernel_rfl) (by kernel_rfl) (by kernel_rfl) (fun _ _ _ h => h) (Or.inr ⟨by rfl, rfl⟩) (by assumption) ?_
  (simp only [Act.put, List.getElem_toArray, List.getElem_cons_zero, List.getElem_cons_succ, List.setIfInBounds_toArray, List.set_cons_zero, List.set_cons_succ])
  refine wpAnyH_take (i := 5) (v := ?_) rfl (by kernel_rfl) (by kernel_rfl) (by kernel_rfl) (fun _ _ _ h => h) (Or.inl ⟨by rfl, ?_⟩) (by assumption) ?_
  rotate_left
  · (intro w hSw; (try dsimp only at hSw); go_simp) <;> with_reducible rfl
  (simp only [Act.put, List.getElem_toArray, List.getElem_cons_zero, List.getElem_cons_succ, List.setIfInBounds_toArray, List.set_cons_zero, List.set_cons_succ])
  refine wpAnyH_take (i := 6) (v := ?_) rfl (by kernel_rfl) (by kernel_rfl) (by kernel_rfl) (fun _ _ _ h => h) (Or.inl ⟨by rfl, ?_⟩) (by assumption) ?_
  rotate_left
  · (intro w hSw; (try dsimp only at hSw); go_simp) <;> with_reducible rfl
  (simp only [Act.put, List.getElem_toArray, List.getElem_cons_zero, List.getElem_cons_succ, List.setIfInBounds_toArray, List.set_cons_zero, List.set_cons_succ])
  refine wpAnyH_take (i := 7) (v := undef) rfl (by kernel_rfl) (by kernel_rfl) (by kernel_rfl) (fun _ _ _ h => h) (Or.inr ⟨by rfl, rfl⟩) (by assumption) ?_
  (simp only [Act.put, List.getElem_toArray, List.getElem_cons_zero, List.getElem_cons_succ, List.setIfInBounds_toArray, List.set_cons_zero, List.set_cons_succ])
  refine wpAnyH_take (i := 8) (v := undef) rfl (by kernel_rfl) (by kernel_rfl) (by kernel_rfl) (fun _ _ _ h => h) (Or.inr ⟨by rfl, rfl⟩) (by assumption) ?_
  (simp only [Act.put, List.getElem_toArray, List.getElem_cons_zero, List.getElem_cons_succ, List.setIfInBounds_toArray, List.set_cons_zero, List.set_cons_succ])
  refine wpAnyH_take (i := 9) (v := undef) rfl (by kernel_rfl) (by kernel_rfl) (by kernel_rfl) (fun _ _ _ h => h) (Or.inr ⟨by rfl, rfl⟩) (by assumption) ?_
  (simp only [Act.put, List.getElem_toArray, List.getElem_cons_zero, List.getElem_cons_succ, List.setIfInBounds_toArray, List.set_cons_zero, List.set_cons_succ])
  refine wpAnyH_take (i := 10) (v := undef) rfl (by kernel_rfl) (by kernel_rfl) (by kernel_rfl) (fun _ _ _ h => h) (Or.inr ⟨by rfl, rfl⟩) (by assumption) ?_
  (simp only [Act.put, List.getElem_toArray, List.getElem_cons_zero, List.getElem_cons_succ, List.setIfInBounds_toArray, List.set_cons_zero, List.set_cons_succ])
  refine wpAnyH_take (i := 11) (v := undef) rfl (by kernel_rfl) (by kernel_rfl) (by kernel_rfl) (fun _ _ _ h => h) (Or.inr ⟨by rfl, rfl⟩) (by assumption) ?_
  (simp only [Act.put, List.getElem_toArray, List.getElem_cons_zero, List.getElem_cons_succ, List.setIfInBounds_toArray, List.set_cons_zero, List.set_cons_succ])
  refine wpAnyH_take (i := 12) (v := ?_) rfl (by kernel_rfl) (by kernel_rfl) (by kernel_rfl) (fun _ _ _ h => h) (Or.inl ⟨by rfl, ?_⟩) (by assumption) ?_
  rotate_left
  · (intro w hSw; (try dsimp only at hSw); go_simp) <;> with_reducible rfl
  (simp only [Act.put, List.getElem_toArray, List.getElem_cons_zero, List.getElem_cons_succ, List.setIfInBounds_toArray, List.set_cons_zero, List.set_cons_succ])
  refine wpAnyH_take (i := 13) (v := ?_) rfl (by kernel_rfl) (by kernel_rfl) (by kernel_rfl) (fun _ _ _ h => h) (Or.inl ⟨by rfl, ?_⟩) (by assumption) ?_
  rotate_left
  · (intro w hSw; (try dsimp only at hSw); go_simp) <;> with_reducible rfl
  (simp only [Act.put, List.getElem_toArray, List.getElem_cons_zero, List.getElem_cons_succ, List.setIfInBounds_toArray, List.set_cons_zero, List.set_cons_succ])
  refine wpAnyH_done (by kernel_rfl) ?_ _
  go_wp2_with fail
  go_ret
  exact ⟨rfl, HW.out _ Hw1.out⟩
set_option maxRecDepth 100000 in
set_option maxHeartbeats 2000000 in
theorem same_b (a b : Ty) (va vb : Value) (w : World) (ha : TyV w a va) (hb : TyV w b vb) (hm : mayN 4 a = true) (hm2 : mayN 4 b = false) : Calls Try.prog 12 #[va, vb] w fun e w' => e = .returned (.bool false) ∧ Below w.heap.size w w' := by
  have HA := hide ha
  have HBt := hide hb
  obtain ⟨k1, n1, na1, nn1, nc1, pa1, pn1, pc1, m1, rfl⟩ := ha.form
  obtain ⟨k2, n2, na2, nn2, nc2, pa2, pn2, pc2, m2, rfl⟩ := hb.form
  clear ha hb
  have cma := fun w' (hv : TyV w' a (.agg #[Value.int .i64 k1, .string n1, .slice na1 nn1 nc1, .slice pa1 pn1 pc1, .bool m1])) => pMay_any a _ w' hv
  have cmb := fun w' (hv : TyV w' b (.agg #[Value.int .i64 k2, .string n2, .slice na2 nn2 nc2, .slice pa2 pn2 pc2, .bool m2])) => pMay_any b _ w' hv
  rw [hm] at cma
  rw [hm2] at cmb
  go_enter Try.func12, Try.ntmps12
  go_wp2_with fail
  have hB0 : Below w.heap.size w ((w.alloc (.cells #[Value.int .i64 k1, .string n1, .slice na1 nn1 nc1, .slice pa1 pn1 pc1, .bool m1] 25)).alloc (.cells #[Value.int .i64 k2, .string n2, .slice na2 nn2 nc2, .slice pa2 pn2 pc2, .bool m2] 25)) := ((Below.refl _ _).alloc (Nat.le_refl _) _).alloc (by simp) _
  have hx00 : ∀ o, ((w.alloc (.cells #[Value.int .i64 k1, .string n1, .slice na1 nn1 nc1, .slice pa1 pn1 pc1, .bool m1] 25)).alloc (.cells #[Value.int .i64 k2, .string n2, .slice na2 nn2 nc2, .slice pa2 pn2 pc2, .bool m2] 25)).cell? ⟨w.heap.size, o, none⟩ = (#[Value.int .i64 k1, .string n1, .slice na1 nn1 nc1, .slice pa1 pn1 pc1, .bool m1])[o]? := fun o => (World.cell?_alloc_past _ _ _ (by simp)).trans (World.cell?_alloc_at _ _ _ _ rfl)
  have hy00 : ∀ o, ((w.alloc (.cells #[Value.int .i64 k1, .string n1, .slice na1 nn1 nc1, .slice pa1 pn1 pc1, .bool m1] 25)).alloc (.cells #[Value.int .i64 k2, .string n2, .slice na2 nn2 nc2, .slice pa2 pn2 pc2, .bool m2] 25)).cell? ⟨w.heap.size + 1, o, none⟩ = (#[Value.int .i64 k2, .string n2, .slice na2 nn2 nc2, .slice pa2 pn2 pc2, .bool m2])[o]? := fun o => World.cell?_alloc_at _ _ _ _ (by simp)
  have hz0 : ((w.alloc (.cells #[Value.int .i64 k1, .string n1, .slice na1 nn1 nc1, .slice pa1 pn1 pc1, .bool m1] 25)).alloc (.cells #[Value.int .i64 k2, .string n2, .slice na2 nn2 nc2, .slice pa2 pn2 pc2, .bool m2] 25)).heap.size = w.heap.size + 1 + 1 := by simp
  generalize ((w.alloc (.cells #[Value.int .i64 k1, .string n1, .slice na1 nn1 nc1, .slice pa1 pn1 pc1, .bool m1] 25)).alloc (.cells #[Value.int .i64 k2, .string n2, .slice na2 nn2 nc2, .slice pa2 pn2 pc2, .bool m2] 25)) = W at *
  have HW : Hid (∀ w', Below W.heap.size W w' → Below w.heap.size w w') := fun w' hw => hB0.trans (hw.mono (by omega))
  have HSb : Hid (∀ w', Below W.heap.size W w' → (fun w' => (∀ o, w'.cell? ⟨w.heap.size, o, none⟩ = (#[Value.int .i64 k1, .string n1, .slice na1 nn1 nc1, .slice pa1 pn1 pc1, .bool m1])[o]?) ∧ (∀ o, w'.cell? ⟨w.heap.size + 1, o, none⟩ = (#[Value.int .i64 k2, .string n2, .slice na2 nn2 nc2, .slice pa2 pn2 pc2, .bool m2])[o]?)) w') := fun w' hw => ⟨fun o => (hw.cell (p := ⟨w.heap.size, o, none⟩) (by show w.heap.size < _; omega)).trans (hx00 o), fun o => (hw.cell (p := ⟨w.heap.size + 1, o, none⟩) (by show w.heap.size + 1 < _; omega)).trans (hy00 o)⟩
  have ca := fun w' (hw : Below W.heap.size W w') => cma w' (HA.out.below (HW.out w' hw))
  have cb := fun w' (hw : Below W.heap.size W w') => cmb w' (HBt.out.below (HW.out w' hw))
  have HB0 : Hid (Below W.heap.size W W.drew) := (Below.refl _ _).drew
  clear hx00 hy00 hz0 hB0 cma cmb
  refine wp_region_held_drew (S := (fun w' => (∀ o, w'.cell? ⟨w.heap.size, o, none⟩ = (#[Value.int .i64 k1, .string n1, .slice na1 nn1 nc1, .slice pa1 pn1 pc1, .bool m1])[o]?) ∧ (∀ o, w'.cell? ⟨w.heap.size + 1, o, none⟩ = (#[Value.int .i64 k2, .string n2, .slice na2 nn2 nc2, .slice pa2 pn2 pc2, .bool m2])[o]?))) (by kernel_rfl) (HSb.out _ HB0.out) (fun hHeld => ?_)
  refine wpAnyH_take (i := 0) (v := ?_) rfl (by kernel_rfl) (by kernel_rfl) (by kernel_rfl) (fun _ _ _ h => h) (Or.inl ⟨by rfl, ?_⟩) (by assumption) ?_
  rotate_left
  · (intro w hSw; (try dsimp only at hSw); go_simp) <;> with_reducible rfl
  (simp only [Act.put, List.getElem_toArray, List.getElem_cons_zero, List.getElem_cons_succ, List.setIfInBounds_toArray, List.set_cons_zero, List.set_cons_succ])
  refine wpAnyH_ready (rs := [1]) (by kernel_rfl) (by simp) ?_
  refine AllReadyH.cons rfl (fun K hK => ?_) AllReadyH.nil
  go_simp
  refine (ca _ HB0.out).mono ?_
  rintro e w1 ⟨rfl, hb⟩
  have Hw1 : Hid (Below W.heap.size W w1) := HB0.out.trans (hb.mono HB0.out.size)
  refine hK.out _ _ (HSb.out _ Hw1.out) (fun hHeld_w1 => ?_)
  clear hK K hb
  (try (simp only [Act.put, List.getElem_toArray, List.getElem_cons_zero, List.getElem_cons_succ, List.setIfInBounds_toArray, List.set_cons_zero, List.set_cons_succ]))
  refine wpAnyH_take (i := 2) (v := ?_) rfl (by kernel_rfl) (by kernel_rfl) (by kernel_rfl) (fun _ _ _ h => h) (Or.inl ⟨by rfl, ?_⟩) (by assumption) ?_
  rotate_left
  · (intro w hSw; (try dsimp only at hSw); go_simp) <;> with_reducible rfl
  (simp only [Act.put, List.getElem_toArray, List.getElem_cons_zero, List.getElem_cons_succ, List.setIfInBounds_toArray, List.set_cons_zero, List.set_cons_succ])
  refine wpAnyH_take (i := 3) (v := ?_) rfl (by kernel_rfl) (by kernel_rfl) (by kernel_rfl) (fun _ _ _ h => h) (Or.inl ⟨by rfl, ?_⟩) (by assumption) ?_
  rotate_left
  · (intro w hSw; (try dsimp only at hSw); go_simp) <;> with_reducible rfl
  (simp only [Act.put, List.getElem_toArray, List.getElem_cons_zero, List.getElem_cons_succ, List.setIfInBounds_toArray, List.set_cons_zero, List.set_cons_succ])
  refine wpAnyH_ready (rs := [4]) (by kernel_rfl) (by simp) ?_
  refine AllReadyH.cons rfl (fun K hK => ?_) AllReadyH.nil
  go_simp
  refine (cb _ Hw1.out).mono ?_
  rintro e w2 ⟨rfl, hb⟩
  have Hw2 : Hid (Below W.heap.size W w2) := Hw1.out.trans (hb.mono Hw1.out.size)
  refine hK.out _ _ (HSb.out _ Hw2.out) (fun hHeld_w2 => ?_)
  clear hK K hb
  (try (simp only [Act.put, List.getElem_toArray, List.getElem_cons_zero, List.getElem_cons_succ, List.setIfInBounds_toArray, List.set_cons_zero, List.set_cons_succ]))
  refine wpAnyH_take (i := 5) (v := ?_) rfl (by kernel_rfl) (by kernel_rfl) (by kernel_rfl) (fun _ _ _ h => h) (Or.inl ⟨by rfl, ?_⟩) (by assumption) ?_
  rotate_left
  · (intro w hSw; (try dsimp only at hSw); go_simp) <;> with_reducible rfl
  (simp only [Act.put, List.getElem_toArray, List.getElem_cons_zero, List.getElem_cons_succ, List.setIfInBounds_toArray, List.set_cons_zero, List.set_cons_succ])
  refine wpAnyH_take (i := 6) (v := ?_) rfl (by kernel_rfl) (by kernel_rfl) (by kernel_rfl) (fun _ _ _ h => h) (Or.inl ⟨by rfl, ?_⟩) (by assumption) ?_
  rotate_left
  · (intro w hSw; (try dsimp only at hSw); go_simp) <;> with_reducible rfl
  (simp only [Act.put, List.getElem_toArray, List.getElem_cons_zero, List.getElem_cons_succ, List.setIfInBounds_toArray, List.set_cons_zero, List.set_cons_succ])
  refine wpAnyH_take (i := 7) (v := undef) rfl (by kernel_rfl) (by kernel_rfl) (by kernel_rfl) (fun _ _ _ h => h) (Or.inr ⟨by rfl, rfl⟩) (by assumption) ?_
  (simp only [Act.put, List.getElem_toArray, List.getElem_cons_zero, List.getElem_cons_succ, List.setIfInBounds_toArray, List.set_cons_zero, List.set_cons_succ])
  refine wpAnyH_take (i := 8) (v := undef) rfl (by kernel_rfl) (by kernel_rfl) (by kernel_rfl) (fun _ _ _ h => h) (Or.inr ⟨by rfl, rfl⟩) (by assumption) ?_
  (simp only [Act.put, List.getElem_toArray, List.getElem_cons_zero, List.getElem_cons_succ, List.setIfInBounds_toArray, List.set_cons_zero, List.set_cons_succ])
  refine wpAnyH_take (i := 9) (v := undef) rfl (by kernel_rfl) (by kernel_rfl) (by kernel_rfl) (fun _ _ _ h => h) (Or.inr ⟨by rfl, rfl⟩) (by assumption) ?_
  (simp only [Act.put, List.getElem_toArray, List.getElem_cons_zero, List.getElem_cons_succ, List.setIfInBounds_toArray, List.set_cons_zero, List.set_cons_succ])
  refine wpAnyH_take (i := 10) (v := undef) rfl (by kernel_rfl) (by kernel_rfl) (by kernel_rfl) (fun _ _ _ h => h) (Or.inr ⟨by rfl, rfl⟩) (by assumption) ?_
  (simp only [Act.put, List.getElem_toArray, List.getElem_cons_zero, List.getElem_cons_succ, List.setIfInBounds_toArray, List.set_cons_zero, List.set_cons_succ])
  refine wpAnyH_take (i := 11) (v := undef) rfl (by kernel_rfl) (by kernel_rfl) (by kernel_rfl) (fun _ _ _ h => h) (Or.inr ⟨by rfl, rfl⟩) (by assumption) ?_
  (simp only [Act.put, List.getElem_toArray, List.getElem_cons_zero, List.getElem_cons_succ, List.setIfInBounds_toArray, List.set_cons_zero, List.set_cons_succ])
  refine wpAnyH_take (i := 12) (v := ?_) rfl (by kernel_rfl) (by kernel_rfl) (by kernel_rfl) (fun _ _ _ h => h) (Or.inl ⟨by rfl, ?_⟩) (by assumption) ?_
  rotate_left
  · (intro w hSw; (try dsimp only at hSw); go_simp) <;> with_reducible rfl
  (simp only [Act.put, List.getElem_toArray, List.getElem_cons_zero, List.getElem_cons_succ, List.setIfInBounds_toArray, List.set_cons_zero, List.set_cons_succ])
  refine wpAnyH_take (i := 13) (v := ?_) rfl (by kernel_rfl) (by kernel_rfl) (by kernel_rfl) (fun _ _ _ h => h) (Or.inl ⟨by rfl, ?_⟩) (by assumption) ?_
  rotate_left
  · (intro w hSw; (try dsimp only at hSw); go_simp) <;> with_reducible rfl
  (simp only [Act.put, List.getElem_toArray, List.getElem_cons_zero, List.getElem_cons_succ, List.setIfInBounds_toArray, List.set_cons_zero, List.set_cons_succ])
  refine wpAnyH_done (by kernel_rfl) ?_ _
  go_wp2_with fail
  go_ret
  exact ⟨rfl, HW.out _ Hw2.out⟩
set_option maxRecDepth 100000 in
set_option maxHeartbeats 2000000 in
theorem same_c (a b : Ty) (va vb : Value) (w : World) (ha : TyV w a va) (hb : TyV w b vb) (hm : mayN 4 a = true) (hm2 : mayN 4 b = true) : Calls Try.prog 12 #[va, vb] w fun e w' => e = .returned (.bool (alikeT a b)) ∧ Below w.heap.size w w' := by
  have HA := hide ha
  have HBt := hide hb
  obtain ⟨k1, n1, na1, nn1, nc1, pa1, pn1, pc1, m1, rfl⟩ := ha.form
  obtain ⟨k2, n2, na2, nn2, nc2, pa2, pn2, pc2, m2, rfl⟩ := hb.form
  clear ha hb
  have cma := fun w' (hv : TyV w' a (.agg #[Value.int .i64 k1, .string n1, .slice na1 nn1 nc1, .slice pa1 pn1 pc1, .bool m1])) => pMay_any a _ w' hv
  have cmb := fun w' (hv : TyV w' b (.agg #[Value.int .i64 k2, .string n2, .slice na2 nn2 nc2, .slice pa2 pn2 pc2, .bool m2])) => pMay_any b _ w' hv
  rw [hm] at cma
  rw [hm2] at cmb
  have cta := fun w' (hv : TyV w' a (.agg #[Value.int .i64 k1, .string n1, .slice na1 nn1 nc1, .slice pa1 pn1 pc1, .bool m1])) => ptext_any a 4 (by omega) hm _ w' hv
  have ctb := fun w' (hv : TyV w' b (.agg #[Value.int .i64 k2, .string n2, .slice na2 nn2 nc2, .slice pa2 pn2 pc2, .bool m2])) => ptext_any b 4 (by omega) hm2 _ w' hv
  have hr : ((strOf (textT a)).toList == (strOf (textT b)).toList) = alikeT a b := by rw [← text_same hm hm2, str_eq]; exact decide_eq_decide.2 ⟨fun e => by have := congrArg bytes e; exact this, fun e => by rw [e]⟩
  generalize alikeT a b = r at *
  generalize textT a = ta at *
  generalize textT b = tb at *
  clear hm hm2
  go_enter Try.func12, Try.ntmps12
  go_wp2_with fail
  have hB0 : Below w.heap.size w ((w.alloc (.cells #[Value.int .i64 k1, .string n1, .slice na1 nn1 nc1, .slice pa1 pn1 pc1, .bool m1] 25)).alloc (.cells #[Value.int .i64 k2, .string n2, .slice na2 nn2 nc2, .slice pa2 pn2 pc2, .bool m2] 25)) := ((Below.refl _ _).alloc (Nat.le_refl _) _).alloc (by simp) _
  have hx00 : ∀ o, ((w.alloc (.cells #[Value.int .i64 k1, .string n1, .slice na1 nn1 nc1, .slice pa1 pn1 pc1, .bool m1] 25)).alloc (.cells #[Value.int .i64 k2, .string n2, .slice na2 nn2 nc2, .slice pa2 pn2 pc2, .bool m2] 25)).cell? ⟨w.heap.size, o, none⟩ = (#[Value.int .i64 k1, .string n1, .slice na1 nn1 nc1, .slice pa1 pn1 pc1, .bool m1])[o]? := fun o => (World.cell?_alloc_past _ _ _ (by simp)).trans (World.cell?_alloc_at _ _ _ _ rfl)
  have hy00 : ∀ o, ((w.alloc (.cells #[Value.int .i64 k1, .string n1, .slice na1 nn1 nc1, .slice pa1 pn1 pc1, .bool m1] 25)).alloc (.cells #[Value.int .i64 k2, .string n2, .slice na2 nn2 nc2, .slice pa2 pn2 pc2, .bool m2] 25)).cell? ⟨w.heap.size + 1, o, none⟩ = (#[Value.int .i64 k2, .string n2, .slice na2 nn2 nc2, .slice pa2 pn2 pc2, .bool m2])[o]? := fun o => World.cell?_alloc_at _ _ _ _ (by simp)
  have hz0 : ((w.alloc (.cells #[Value.int .i64 k1, .string n1, .slice na1 nn1 nc1, .slice pa1 pn1 pc1, .bool m1] 25)).alloc (.cells #[Value.int .i64 k2, .string n2, .slice na2 nn2 nc2, .slice pa2 pn2 pc2, .bool m2] 25)).heap.size = w.heap.size + 1 + 1 := by simp
  generalize ((w.alloc (.cells #[Value.int .i64 k1, .string n1, .slice na1 nn1 nc1, .slice pa1 pn1 pc1, .bool m1] 25)).alloc (.cells #[Value.int .i64 k2, .string n2, .slice na2 nn2 nc2, .slice pa2 pn2 pc2, .bool m2] 25)) = W at *
  have HW : Hid (∀ w', Below W.heap.size W w' → Below w.heap.size w w') := fun w' hw => hB0.trans (hw.mono (by omega))
  have HSb : Hid (∀ w', Below W.heap.size W w' → (fun w' => (∀ o, w'.cell? ⟨w.heap.size, o, none⟩ = (#[Value.int .i64 k1, .string n1, .slice na1 nn1 nc1, .slice pa1 pn1 pc1, .bool m1])[o]?) ∧ (∀ o, w'.cell? ⟨w.heap.size + 1, o, none⟩ = (#[Value.int .i64 k2, .string n2, .slice na2 nn2 nc2, .slice pa2 pn2 pc2, .bool m2])[o]?)) w') := fun w' hw => ⟨fun o => (hw.cell (p := ⟨w.heap.size, o, none⟩) (by show w.heap.size < _; omega)).trans (hx00 o), fun o => (hw.cell (p := ⟨w.heap.size + 1, o, none⟩) (by show w.heap.size + 1 < _; omega)).trans (hy00 o)⟩
  have ca := fun w' (hw : Below W.heap.size W w') => cma w' (HA.out.below (HW.out w' hw))
  have cb := fun w' (hw : Below W.heap.size W w') => cmb w' (HBt.out.below (HW.out w' hw))
  have HB0 : Hid (Below W.heap.size W W.drew) := (Below.refl _ _).drew
  have ta' := fun w' (hw : Below W.heap.size W w') => cta w' (HA.out.below (HW.out w' hw))
  have tb' := fun w' (hw : Below W.heap.size W w') => ctb w' (HBt.out.below (HW.out w' hw))
  clear hx00 hy00 hz0 hB0 cma cmb cta ctb
  refine wp_region_held_drew (S := (fun w' => (∀ o, w'.cell? ⟨w.heap.size, o, none⟩ = (#[Value.int .i64 k1, .string n1, .slice na1 nn1 nc1, .slice pa1 pn1 pc1, .bool m1])[o]?) ∧ (∀ o, w'.cell? ⟨w.heap.size + 1, o, none⟩ = (#[Value.int .i64 k2, .string n2, .slice na2 nn2 nc2, .slice pa2 pn2 pc2, .bool m2])[o]?))) (by kernel_rfl) (HSb.out _ HB0.out) (fun hHeld => ?_)
  refine wpAnyH_take (i := 0) (v := ?_) rfl (by kernel_rfl) (by kernel_rfl) (by kernel_rfl) (fun _ _ _ h => h) (Or.inl ⟨by rfl, ?_⟩) (by assumption) ?_
  rotate_left
  · (intro w hSw; (try dsimp only at hSw); go_simp) <;> with_reducible rfl
  (simp only [Act.put, List.getElem_toArray, List.getElem_cons_zero, List.getElem_cons_succ, List.setIfInBounds_toArray, List.set_cons_zero, List.set_cons_succ])
  refine wpAnyH_ready (rs := [1]) (by kernel_rfl) (by simp) ?_
  refine AllReadyH.cons rfl (fun K hK => ?_) AllReadyH.nil
  go_simp
  refine (ca _ HB0.out).mono ?_
  rintro e w1 ⟨rfl, hb⟩
  have Hw1 : Hid (Below W.heap.size W w1) := HB0.out.trans (hb.mono HB0.out.size)
  refine hK.out _ _ (HSb.out _ Hw1.out) (fun hHeld_w1 => ?_)
  clear hK K hb
  (try (simp only [Act.put, List.getElem_toArray, List.getElem_cons_zero, List.getElem_cons_succ, List.setIfInBounds_toArray, List.set_cons_zero, List.set_cons_succ]))
  refine wpAnyH_take (i := 2) (v := ?_) rfl (by kernel_rfl) (by kernel_rfl) (by kernel_rfl) (fun _ _ _ h => h) (Or.inl ⟨by rfl, ?_⟩) (by assumption) ?_
  rotate_left
  · (intro w hSw; (try dsimp only at hSw); go_simp) <;> with_reducible rfl
  (simp only [Act.put, List.getElem_toArray, List.getElem_cons_zero, List.getElem_cons_succ, List.setIfInBounds_toArray, List.set_cons_zero, List.set_cons_succ])
  refine wpAnyH_take (i := 3) (v := ?_) rfl (by kernel_rfl) (by kernel_rfl) (by kernel_rfl) (fun _ _ _ h => h) (Or.inl ⟨by rfl, ?_⟩) (by assumption) ?_
  rotate_left
  · (intro w hSw; (try dsimp only at hSw); go_simp) <;> with_reducible rfl
  (simp only [Act.put, List.getElem_toArray, List.getElem_cons_zero, List.getElem_cons_succ, List.setIfInBounds_toArray, List.set_cons_zero, List.set_cons_succ])
  refine wpAnyH_ready (rs := [4]) (by kernel_rfl) (by simp) ?_
  refine AllReadyH.cons rfl (fun K hK => ?_) AllReadyH.nil
  go_simp
  refine (cb _ Hw1.out).mono ?_
  rintro e w2 ⟨rfl, hb⟩
  have Hw2 : Hid (Below W.heap.size W w2) := Hw1.out.trans (hb.mono Hw1.out.size)
  refine hK.out _ _ (HSb.out _ Hw2.out) (fun hHeld_w2 => ?_)
  clear hK K hb
  (try (simp only [Act.put, List.getElem_toArray, List.getElem_cons_zero, List.getElem_cons_succ, List.setIfInBounds_toArray, List.set_cons_zero, List.set_cons_succ]))
  refine wpAnyH_take (i := 5) (v := ?_) rfl (by kernel_rfl) (by kernel_rfl) (by kernel_rfl) (fun _ _ _ h => h) (Or.inl ⟨by rfl, ?_⟩) (by assumption) ?_
  rotate_left
  · (intro w hSw; (try dsimp only at hSw); go_simp) <;> with_reducible rfl
  (simp only [Act.put, List.getElem_toArray, List.getElem_cons_zero, List.getElem_cons_succ, List.setIfInBounds_toArray, List.set_cons_zero, List.set_cons_succ])
  refine wpAnyH_take (i := 6) (v := ?_) rfl (by kernel_rfl) (by kernel_rfl) (by kernel_rfl) (fun _ _ _ h => h) (Or.inl ⟨by rfl, ?_⟩) (by assumption) ?_
  rotate_left
  · (intro w hSw; (try dsimp only at hSw); go_simp) <;> with_reducible rfl
  (simp only [Act.put, List.getElem_toArray, List.getElem_cons_zero, List.getElem_cons_succ, List.setIfInBounds_toArray, List.set_cons_zero, List.set_cons_succ])
  refine wpAnyH_take (i := 7) (v := ?_) rfl (by kernel_rfl) (by kernel_rfl) (by kernel_rfl) (fun _ _ _ h => h) (Or.inl ⟨by rfl, ?_⟩) (by assumption) ?_
  rotate_left
  · (intro w hSw; (try dsimp only at hSw); go_simp) <;> with_reducible rfl
  (simp only [Act.put, List.getElem_toArray, List.getElem_cons_zero, List.getElem_cons_succ, List.setIfInBounds_toArray, List.set_cons_zero, List.set_cons_succ])
  refine wpAnyH_take (i := 9) (v := ?_) rfl (by kernel_rfl) (by kernel_rfl) (by kernel_rfl) (fun _ _ _ h => h) (Or.inl ⟨by rfl, ?_⟩) (by assumption) ?_
  rotate_left
  · (intro w hSw; (try dsimp only at hSw); go_simp) <;> with_reducible rfl
  (simp only [Act.put, List.getElem_toArray, List.getElem_cons_zero, List.getElem_cons_succ, List.setIfInBounds_toArray, List.set_cons_zero, List.set_cons_succ])
  refine wpAnyH_ready (rs := [8]) (by kernel_rfl) (by simp) ?_
  refine AllReadyH.cons rfl (fun K hK => ?_) AllReadyH.nil
  go_simp
  refine (ta' _ Hw2.out).mono ?_
  rintro e w3 ⟨rfl, hb⟩
  have Hw3 : Hid (Below W.heap.size W w3) := Hw2.out.trans (hb.mono Hw2.out.size)
  refine hK.out _ _ (HSb.out _ Hw3.out) (fun hHeld_w3 => ?_)
  clear hK K hb
  (try (simp only [Act.put, List.getElem_toArray, List.getElem_cons_zero, List.getElem_cons_succ, List.setIfInBounds_toArray, List.set_cons_zero, List.set_cons_succ]))
  refine wpAnyH_ready (rs := [10]) (by kernel_rfl) (by simp) ?_
  refine AllReadyH.cons rfl (fun K hK => ?_) AllReadyH.nil
  go_simp
  refine (tb' _ Hw3.out).mono ?_
  rintro e w4 ⟨rfl, hb⟩
  have Hw4 : Hid (Below W.heap.size W w4) := Hw3.out.trans (hb.mono Hw3.out.size)
  refine hK.out _ _ (HSb.out _ Hw4.out) (fun hHeld_w4 => ?_)
  clear hK K hb
  (try (simp only [Act.put, List.getElem_toArray, List.getElem_cons_zero, List.getElem_cons_succ, List.setIfInBounds_toArray, List.set_cons_zero, List.set_cons_succ]))
  refine wpAnyH_take (i := 11) (v := ?_) rfl (by kernel_rfl) (by kernel_rfl) (by kernel_rfl) (fun _ _ _ h => h) (Or.inl ⟨by rfl, ?_⟩) (by assumption) ?_
  rotate_left
  · (intro w hSw; (try dsimp only at hSw); go_simp) <;> with_reducible rfl
  (simp only [Act.put, List.getElem_toArray, List.getElem_cons_zero, List.getElem_cons_succ, List.setIfInBounds_toArray, List.set_cons_zero, List.set_cons_succ])
  refine wpAnyH_take (i := 12) (v := ?_) rfl (by kernel_rfl) (by kernel_rfl) (by kernel_rfl) (fun _ _ _ h => h) (Or.inl ⟨by rfl, ?_⟩) (by assumption) ?_
  rotate_left
  · (intro w hSw; (try dsimp only at hSw); go_simp) <;> with_reducible rfl
  (simp only [Act.put, List.getElem_toArray, List.getElem_cons_zero, List.getElem_cons_succ, List.setIfInBounds_toArray, List.set_cons_zero, List.set_cons_succ])
  refine wpAnyH_take (i := 13) (v := ?_) rfl (by kernel_rfl) (by kernel_rfl) (by kernel_rfl) (fun _ _ _ h => h) (Or.inl ⟨by rfl, ?_⟩) (by assumption) ?_
  rotate_left
  · (intro w hSw; (try dsimp only at hSw); go_simp) <;> with_reducible rfl
  (simp only [Act.put, List.getElem_toArray, List.getElem_cons_zero, List.getElem_cons_succ, List.setIfInBounds_toArray, List.set_cons_zero, List.set_cons_succ])
  refine wpAnyH_done (by kernel_rfl) ?_ _
  go_wp2_with fail
  go_ret
  exact ⟨rfl, HW.out _ Hw4.out⟩
theorem pSame_any (a b : Ty) (va vb : Value) (w : World) (ha : TyV w a va) (hb : TyV w b vb) : Calls Try.prog 12 #[va, vb] w fun e w' => e = .returned (.bool (mayN 4 a && mayN 4 b && alikeT a b)) ∧ Below w.heap.size w w' := by
  cases h1 : mayN 4 a with
  | false => exact same_a a b va vb w ha hb h1
  | true =>
    cases h2 : mayN 4 b with
    | false => exact same_b a b va vb w ha hb h1 h2
    | true => exact same_c a b va vb w ha hb h1 h2
theorem pr : Pr := ⟨fun T v w hv => pMay_any T v w hv, pWords_t, pWords_f, pEven_t, pEven_f, pPlaces_t, pPlaces_f, pText_t, pText_f, pSame_any⟩
end Go.Proofs.Ytakijacfadpmoaa.T
