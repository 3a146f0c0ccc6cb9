/- TypesAlike, by what the program is to answer. -/
import Derived.Test.YtakijacfadpmoaaTell
namespace Go.Proofs.Ytakijacfadpmoaa.T
open Go.RowKit
set_option linter.unusedVariables false
set_option linter.unusedSimpArgs false
/-- The same: both may be, and their texts are one. -/
def sameT (a b : Ty) : Bool := mayN 4 a && mayN 4 b && alikeT a b
theorem sameT_text (a b : Ty) : sameT a b = (mayN 4 a && mayN 4 b && decide (textT a = textT b)) := by
  unfold sameT
  cases ha : mayN 4 a with
  | false => rfl
  | true =>
    cases hb : mayN 4 b with
    | false => rfl
    | true => rw [text_same ha hb]
theorem sameT_symm (a b : Ty) : sameT a b = sameT b a := by
  rw [sameT_text, sameT_text, Bool.and_comm (mayN 4 a)]
  congr 1
  by_cases h : textT a = textT b
  · rw [decide_eq_true h, decide_eq_true h.symm]
  · rw [decide_eq_false h, decide_eq_false (fun e => h e.symm)]
theorem sameT_refl (a : Ty) : sameT a a = mayN 4 a := by rw [sameT_text]; simp
theorem sameT_trans {a b c : Ty} (h1 : sameT a b = true) (h2 : sameT b c = true) : sameT a c = true := by
  rw [sameT_text] at *
  simp only [Bool.and_eq_true, decide_eq_true_eq] at *
  exact ⟨⟨h1.1.1, h2.1.2⟩, h1.2.trans h2.2⟩
theorem even_alike : ∀ (a b : Ty), alikeT a b = true → evenT a = evenT b := by
  intro a
  induction a with
  | leaf => intro b h; simp [alikeT] at h
  | mk kind name nn names pn parts many ih =>
    intro b h
    rcases b with _ | ⟨kind', name', nn', names', pn', parts', many'⟩
    · simp [alikeT] at h
    rw [alikeT_mk] at h
    simp only [Bool.and_eq_true, decide_eq_true_eq, List.all_eq_true, List.mem_range] at h
    obtain ⟨⟨⟨⟨⟨⟨rfl, rfl⟩, rfl⟩, rfl⟩, rfl⟩, h6⟩, h7⟩ := h
    rw [evenT_mk, evenT_mk]
    congr 2
    rw [Bool.eq_iff_iff]
    simp only [List.any_eq_true, List.mem_range]
    exact ⟨fun ⟨i, hi, e⟩ => ⟨i, hi, (ih i _ (h7 i hi)) ▸ e⟩, fun ⟨i, hi, e⟩ => ⟨i, hi, (ih i _ (h7 i hi)).symm ▸ e⟩⟩
theorem place_congr {sz sz' : Nat → Nat} {ev ev' : Nat → Bool} {n : Nat} (hs : ∀ i, i < n → sz i = sz' i) (he : ∀ i, i ≤ n → ev i = ev' i) : ∀ k, k ≤ n → placeN sz ev k = placeN sz' ev' k
  | 0, _ => rfl
  | k + 1, hk => by
    unfold placeN
    rw [place_congr hs he k (by omega), hs k (by omega), he (k + 1) hk]
theorem size_alike : ∀ (a b : Ty), alikeT a b = true → sizeT a = sizeT b := by
  intro a
  induction a with
  | leaf => intro b h; simp [alikeT] at h
  | mk kind name nn names pn parts many ih =>
    intro b h
    have he := even_alike _ _ h
    rcases b with _ | ⟨kind', name', nn', names', pn', parts', many'⟩
    · simp [alikeT] at h
    rw [alikeT_mk] at h
    simp only [Bool.and_eq_true, decide_eq_true_eq, List.all_eq_true, List.mem_range] at h
    obtain ⟨⟨⟨⟨⟨⟨rfl, rfl⟩, rfl⟩, rfl⟩, rfl⟩, h6⟩, h7⟩ := h
    rw [sizeT_mk, sizeT_mk]
    split
    · rfl
    split
    · refine place_congr (fun i hi => ih i _ (h7 i hi)) (fun i hi => ?_) pn (Nat.le_refl _)
      unfold evs
      split
      · exact even_alike _ _ (h7 i (by assumption))
      · exact he
    · rfl
/-- int, as a value. -/
def intT : Ty := .mk 1 ⟨#[]⟩ 0 (fun _ => ⟨#[]⟩) 0 (fun _ => .leaf) false
theorem intV (w : World) : TyV w intT (.agg #[.int .i64 1, .string ⟨#[]⟩, .slice none 0 0, .slice none 0 0, .bool false]) := by
  unfold intT TyV
  exact ⟨none, 0, none, 0, rfl, fun h => by omega, fun h => by omega, by omega, by omega, by omega, by omega, by decide, fun j hj => by omega, by omega, by omega⟩
theorem int_may : mayN 4 intT = true := by decide
theorem int_same : sameT intT intT = true := by rw [sameT_refl]; exact int_may
/-- long, as a value. -/
def longT : Ty := .mk 2 ⟨#[]⟩ 0 (fun _ => ⟨#[]⟩) 0 (fun _ => .leaf) false
theorem longV (w : World) : TyV w longT (.agg #[.int .i64 2, .string ⟨#[]⟩, .slice none 0 0, .slice none 0 0, .bool false]) := by
  unfold longT TyV
  exact ⟨none, 0, none, 0, rfl, fun h => by omega, fun h => by omega, by omega, by omega, by omega, by omega, by decide, fun j hj => by omega, by omega, by omega⟩
theorem long_may : mayN 4 longT = true := by decide
set_option maxRecDepth 100000 in
set_option maxHeartbeats 2000000 in
theorem alaw_f (HP : Pr) (a b c : Ty) (v1 v2 v3 : Value) (w : World) (h1 : TyV w a v1) (h2 : TyV w b v2) (h3 : TyV w c v3) (hab : sameT a b = false) : Calls Try.prog 5 #[v1, v2, v3] w fun e w' => e = .returned (.bool true) ∧ Below w.heap.size w w' := by
  have hP := hide HP
  have HT1 := hide h1
  have HT2 := hide h2
  have HT3 := hide h3
  obtain ⟨k1, n1, na1, nn1, nc1, pa1, pn1, pc1, m1, rfl⟩ := h1.form
  obtain ⟨k2, n2, na2, nn2, nc2, pa2, pn2, pc2, m2, rfl⟩ := h2.form
  obtain ⟨k3, n3, na3, nn3, nc3, pa3, pn3, pc3, m3, rfl⟩ := h3.form
  clear h1 h2 h3 HP
  have c12 : ∀ w', TyV w' a (.agg #[.int .i64 k1, .string n1, .slice na1 nn1 nc1, .slice pa1 pn1 pc1, .bool m1]) → TyV w' b (.agg #[.int .i64 k2, .string n2, .slice na2 nn2 nc2, .slice pa2 pn2 pc2, .bool m2]) → Calls Try.prog 12 #[.agg #[.int .i64 k1, .string n1, .slice na1 nn1 nc1, .slice pa1 pn1 pc1, .bool m1], .agg #[.int .i64 k2, .string n2, .slice na2 nn2 nc2, .slice pa2 pn2 pc2, .bool m2]] w' fun e w'' => e = .returned (.bool false) ∧ Below w'.heap.size w' w'' := fun w' h1 h2 => by
    have h := hP.out.same a b _ _ w' h1 h2
    rw [show (mayN 4 a && mayN 4 b && alikeT a b) = false from hab] at h
    exact h
  have c21 : ∀ w', TyV w' b (.agg #[.int .i64 k2, .string n2, .slice na2 nn2 nc2, .slice pa2 pn2 pc2, .bool m2]) → TyV w' a (.agg #[.int .i64 k1, .string n1, .slice na1 nn1 nc1, .slice pa1 pn1 pc1, .bool m1]) → Calls Try.prog 12 #[.agg #[.int .i64 k2, .string n2, .slice na2 nn2 nc2, .slice pa2 pn2 pc2, .bool m2], .agg #[.int .i64 k1, .string n1, .slice na1 nn1 nc1, .slice pa1 pn1 pc1, .bool m1]] w' fun e w'' => e = .returned (.bool false) ∧ Below w'.heap.size w' w'' := fun w' h1 h2 => by
    have h := hP.out.same b a _ _ w' h1 h2
    rw [show (mayN 4 b && mayN 4 a && alikeT b a) = false from (sameT_symm b a).trans hab] at h
    exact h
  obtain ⟨ma, hma⟩ : ∃ ma, ma = mayN 4 a := ⟨_, rfl⟩
  have c11 : ∀ w', TyV w' a (.agg #[.int .i64 k1, .string n1, .slice na1 nn1 nc1, .slice pa1 pn1 pc1, .bool m1]) → TyV w' a (.agg #[.int .i64 k1, .string n1, .slice na1 nn1 nc1, .slice pa1 pn1 pc1, .bool m1]) → Calls Try.prog 12 #[.agg #[.int .i64 k1, .string n1, .slice na1 nn1 nc1, .slice pa1 pn1 pc1, .bool m1], .agg #[.int .i64 k1, .string n1, .slice na1 nn1 nc1, .slice pa1 pn1 pc1, .bool m1]] w' fun e w'' => e = .returned (.bool ma) ∧ Below w'.heap.size w' w'' := fun w' h1 h2 => by
    have h := hP.out.same a a _ _ w' h1 h2
    rw [show (mayN 4 a && mayN 4 a && alikeT a a) = ma from (sameT_refl a).trans hma.symm] at h
    exact h
  have cm : ∀ w', TyV w' a (.agg #[.int .i64 k1, .string n1, .slice na1 nn1 nc1, .slice pa1 pn1 pc1, .bool m1]) → Calls Try.prog 6 #[.agg #[.int .i64 k1, .string n1, .slice na1 nn1 nc1, .slice pa1 pn1 pc1, .bool m1]] w' fun e w'' => e = .returned (.bool ma) ∧ Below w'.heap.size w' w'' := fun w' h1 => by
    have h := hP.out.may a _ w' h1
    rw [← hma] at h
    exact h
  have ci : ∀ w', Calls Try.prog 12 #[.agg #[.int .i64 1, .string ⟨#[]⟩, .slice none 0 0, .slice none 0 0, .bool false], .agg #[.int .i64 1, .string ⟨#[]⟩, .slice none 0 0, .slice none 0 0, .bool false]] w' fun e w'' => e = .returned (.bool true) ∧ Below w'.heap.size w' w'' := fun w' => by
    have h := hP.out.same intT intT _ _ w' (intV w') (intV w')
    rw [show (mayN 4 intT && mayN 4 intT && alikeT intT intT) = true from int_same] at h
    exact h
  have HMA := hide hma
  clear hma hab
  go_enter Try.func5, Try.ntmps5
  go_wp2_with fail
  have hB0 : Below w.heap.size w (((w.alloc (.cells #[.int .i64 k1, .string n1, .slice na1 nn1 nc1, .slice pa1 pn1 pc1, .bool m1] 25)).alloc (.cells #[.int .i64 k2, .string n2, .slice na2 nn2 nc2, .slice pa2 pn2 pc2, .bool m2] 25)).alloc (.cells #[.int .i64 k3, .string n3, .slice na3 nn3 nc3, .slice pa3 pn3 pc3, .bool m3] 25)) := (((Below.refl _ _).alloc (Nat.le_refl _) _).alloc (by simp) _).alloc (by simp; omega) _
  have hx00 : ∀ o, (((w.alloc (.cells #[.int .i64 k1, .string n1, .slice na1 nn1 nc1, .slice pa1 pn1 pc1, .bool m1] 25)).alloc (.cells #[.int .i64 k2, .string n2, .slice na2 nn2 nc2, .slice pa2 pn2 pc2, .bool m2] 25)).alloc (.cells #[.int .i64 k3, .string n3, .slice na3 nn3 nc3, .slice pa3 pn3 pc3, .bool m3] 25)).cell? ⟨w.heap.size, o, none⟩ = (#[Value.int .i64 k1, .string n1, .slice na1 nn1 nc1, .slice pa1 pn1 pc1, .bool m1])[o]? := fun o => (World.cell?_alloc_past _ _ _ (by simp; omega)).trans ((World.cell?_alloc_past _ _ _ (by simp)).trans (World.cell?_alloc_at _ _ _ _ rfl))
  have hy00 : ∀ o, (((w.alloc (.cells #[.int .i64 k1, .string n1, .slice na1 nn1 nc1, .slice pa1 pn1 pc1, .bool m1] 25)).alloc (.cells #[.int .i64 k2, .string n2, .slice na2 nn2 nc2, .slice pa2 pn2 pc2, .bool m2] 25)).alloc (.cells #[.int .i64 k3, .string n3, .slice na3 nn3 nc3, .slice pa3 pn3 pc3, .bool m3] 25)).cell? ⟨w.heap.size + 1, o, none⟩ = (#[Value.int .i64 k2, .string n2, .slice na2 nn2 nc2, .slice pa2 pn2 pc2, .bool m2])[o]? := fun o => (World.cell?_alloc_past _ _ _ (by simp)).trans (World.cell?_alloc_at _ _ _ _ (by simp))
  have hv00 : ∀ o, (((w.alloc (.cells #[.int .i64 k1, .string n1, .slice na1 nn1 nc1, .slice pa1 pn1 pc1, .bool m1] 25)).alloc (.cells #[.int .i64 k2, .string n2, .slice na2 nn2 nc2, .slice pa2 pn2 pc2, .bool m2] 25)).alloc (.cells #[.int .i64 k3, .string n3, .slice na3 nn3 nc3, .slice pa3 pn3 pc3, .bool m3] 25)).cell? ⟨w.heap.size + 1 + 1, o, none⟩ = (#[Value.int .i64 k3, .string n3, .slice na3 nn3 nc3, .slice pa3 pn3 pc3, .bool m3])[o]? := fun o => World.cell?_alloc_at _ _ _ _ (by simp)
  have hz0 : (((w.alloc (.cells #[.int .i64 k1, .string n1, .slice na1 nn1 nc1, .slice pa1 pn1 pc1, .bool m1] 25)).alloc (.cells #[.int .i64 k2, .string n2, .slice na2 nn2 nc2, .slice pa2 pn2 pc2, .bool m2] 25)).alloc (.cells #[.int .i64 k3, .string n3, .slice na3 nn3 nc3, .slice pa3 pn3 pc3, .bool m3] 25)).heap.size = w.heap.size + 1 + 1 + 1 := by simp
  generalize ((w.alloc (.cells #[.int .i64 k1, .string n1, .slice na1 nn1 nc1, .slice pa1 pn1 pc1, .bool m1] 25)).alloc (.cells #[.int .i64 k2, .string n2, .slice na2 nn2 nc2, .slice pa2 pn2 pc2, .bool m2] 25)).alloc (.cells #[.int .i64 k3, .string n3, .slice na3 nn3 nc3, .slice pa3 pn3 pc3, .bool m3] 25) = W at *
  have HW : Hid (∀ w', Below W.heap.size W w' → Below w.heap.size w w') := fun w' hw => hB0.trans (hw.mono (by omega))
  have HXc : Hid (∀ w', Below W.heap.size W w' → (fun w' => (∀ o, w'.cell? ⟨w.heap.size, o, none⟩ = (#[Value.int .i64 k1, .string n1, .slice na1 nn1 nc1, .slice pa1 pn1 pc1, .bool m1])[o]?) ∧ (∀ o, w'.cell? ⟨w.heap.size + 1, o, none⟩ = (#[Value.int .i64 k2, .string n2, .slice na2 nn2 nc2, .slice pa2 pn2 pc2, .bool m2])[o]?) ∧ (∀ o, w'.cell? ⟨w.heap.size + 1 + 1, o, none⟩ = (#[Value.int .i64 k3, .string n3, .slice na3 nn3 nc3, .slice pa3 pn3 pc3, .bool m3])[o]?)) w') := fun w' hw => ⟨fun o => (hw.cell (p := ⟨w.heap.size, o, none⟩) (by show w.heap.size < _; omega)).trans (hx00 o), fun o => (hw.cell (p := ⟨w.heap.size + 1, o, none⟩) (by show w.heap.size + 1 < _; omega)).trans (hy00 o), fun o => (hw.cell (p := ⟨w.heap.size + 1 + 1, o, none⟩) (by show w.heap.size + 1 + 1 < _; omega)).trans (hv00 o)⟩
  have HB0 : Hid (Below W.heap.size W W) := Below.refl _ _
  obtain ⟨hx0, hy0, hv0⟩ := HXc.out W HB0.out
  clear hx00 hy00 hv00 hz0 hB0
  go_at_call 12
  refine ((fun w' (hw : Below W.heap.size W w') => c12 w' (HT1.out.below (HW.out w' hw)) (HT2.out.below (HW.out w' hw))) _ HB0.out).mono ?_
  rintro e w1 ⟨rfl, hb⟩
  have HB1 : Hid (Below W.heap.size W w1) := HB0.out.trans (hb.mono HB0.out.size)
  clear hb hx0 hy0 hv0
  go_wp2_with fail
  go_at_call 12
  refine (ci _).mono ?_
  rintro e w2 ⟨rfl, hb⟩
  have HB2' : Hid (Below W.heap.size W w2) := HB1.out.trans (hb.mono HB1.out.size)
  clear hb
  go_wp2_with fail
  have HB2 : Hid (Below W.heap.size W w2.drew) := HB2'.out.drew
  refine wp_region_held_drew (S := fun w' => (∀ o, w'.cell? ⟨w.heap.size, o, none⟩ = (#[Value.int .i64 k1, .string n1, .slice na1 nn1 nc1, .slice pa1 pn1 pc1, .bool m1])[o]?) ∧ (∀ o, w'.cell? ⟨w.heap.size + 1, o, none⟩ = (#[Value.int .i64 k2, .string n2, .slice na2 nn2 nc2, .slice pa2 pn2 pc2, .bool m2])[o]?) ∧ (∀ o, w'.cell? ⟨w.heap.size + 1 + 1, o, none⟩ = (#[Value.int .i64 k3, .string n3, .slice na3 nn3 nc3, .slice pa3 pn3 pc3, .bool m3])[o]?)) (by kernel_rfl) (HXc.out _ HB2.out) (fun hHeld => ?_)
  refine wpAnyH_take (i := 0) (v := ?_) rfl (by kernel_rfl) (by kernel_rfl) (by kernel_rfl) (fun _ _ _ h => h) (Or.inl ⟨by rfl, ?_⟩) (by assumption) ?_
  rotate_left
  · (intro w hSw; (try dsimp only at hSw); go_simp) <;> with_reducible rfl
  (simp only [Act.put, List.getElem_toArray, List.getElem_cons_zero, List.getElem_cons_succ, List.setIfInBounds_toArray, List.set_cons_zero, List.set_cons_succ])
  refine wpAnyH_take (i := 1) (v := ?_) rfl (by kernel_rfl) (by kernel_rfl) (by kernel_rfl) (fun _ _ _ h => h) (Or.inl ⟨by rfl, ?_⟩) (by assumption) ?_
  rotate_left
  · (intro w hSw; (try dsimp only at hSw); go_simp) <;> with_reducible rfl
  (simp only [Act.put, List.getElem_toArray, List.getElem_cons_zero, List.getElem_cons_succ, List.setIfInBounds_toArray, List.set_cons_zero, List.set_cons_succ])
  refine wpAnyH_take (i := 2) (v := ?_) rfl (by kernel_rfl) (by kernel_rfl) (by kernel_rfl) (fun _ _ _ h => h) (Or.inl ⟨by rfl, ?_⟩) (by assumption) ?_
  rotate_left
  · (intro w hSw; (try dsimp only at hSw); go_simp) <;> with_reducible rfl
  (simp only [Act.put, List.getElem_toArray, List.getElem_cons_zero, List.getElem_cons_succ, List.setIfInBounds_toArray, List.set_cons_zero, List.set_cons_succ])
  refine wpAnyH_ready (rs := [3]) (by kernel_rfl) (by simp) ?_
  refine AllReadyH.cons rfl (fun K hK => ?_) AllReadyH.nil
  go_simp
  refine ((fun w' (hw : Below W.heap.size W w') => c21 w' (HT2.out.below (HW.out w' hw)) (HT1.out.below (HW.out w' hw))) _ HB2.out).mono ?_
  rintro e w3 ⟨rfl, hb⟩
  have HB3 : Hid (Below W.heap.size W w3) := HB2.out.trans (hb.mono HB2.out.size)
  refine hK.out _ _ (HXc.out _ HB3.out) (fun hHeld3 => ?_)
  clear hK K hb
  (try simp only [Act.put, List.getElem_toArray, List.getElem_cons_zero, List.getElem_cons_succ, List.setIfInBounds_toArray, List.set_cons_zero, List.set_cons_succ])
  refine wpAnyH_take (i := 4) (v := ?_) rfl (by kernel_rfl) (by kernel_rfl) (by kernel_rfl) (fun _ _ _ h => h) (Or.inl ⟨by rfl, ?_⟩) (by assumption) ?_
  rotate_left
  · (intro w hSw; (try dsimp only at hSw); go_simp) <;> with_reducible rfl
  (simp only [Act.put, List.getElem_toArray, List.getElem_cons_zero, List.getElem_cons_succ, List.setIfInBounds_toArray, List.set_cons_zero, List.set_cons_succ])
  refine wpAnyH_take (i := 5) (v := ?_) rfl (by kernel_rfl) (by kernel_rfl) (by kernel_rfl) (fun _ _ _ h => h) (Or.inl ⟨by rfl, ?_⟩) (by assumption) ?_
  rotate_left
  · (intro w hSw; (try dsimp only at hSw); go_simp) <;> with_reducible rfl
  (simp only [Act.put, List.getElem_toArray, List.getElem_cons_zero, List.getElem_cons_succ, List.setIfInBounds_toArray, List.set_cons_zero, List.set_cons_succ])
  refine wpAnyH_take (i := 6) (v := ?_) rfl (by kernel_rfl) (by kernel_rfl) (by kernel_rfl) (fun _ _ _ h => h) (Or.inl ⟨by rfl, ?_⟩) (by assumption) ?_
  rotate_left
  · (intro w hSw; (try dsimp only at hSw); go_simp) <;> with_reducible rfl
  (simp only [Act.put, List.getElem_toArray, List.getElem_cons_zero, List.getElem_cons_succ, List.setIfInBounds_toArray, List.set_cons_zero, List.set_cons_succ])
  refine wpAnyH_take (i := 7) (v := ?_) rfl (by kernel_rfl) (by kernel_rfl) (by kernel_rfl) (fun _ _ _ h => h) (Or.inl ⟨by rfl, ?_⟩) (by assumption) ?_
  rotate_left
  · (intro w hSw; (try dsimp only at hSw); go_simp) <;> with_reducible rfl
  (simp only [Act.put, List.getElem_toArray, List.getElem_cons_zero, List.getElem_cons_succ, List.setIfInBounds_toArray, List.set_cons_zero, List.set_cons_succ])
  refine wpAnyH_take (i := 9) (v := ?_) rfl (by kernel_rfl) (by kernel_rfl) (by kernel_rfl) (fun _ _ _ h => h) (Or.inl ⟨by rfl, ?_⟩) (by assumption) ?_
  rotate_left
  · (intro w hSw; (try dsimp only at hSw); go_simp) <;> with_reducible rfl
  (simp only [Act.put, List.getElem_toArray, List.getElem_cons_zero, List.getElem_cons_succ, List.setIfInBounds_toArray, List.set_cons_zero, List.set_cons_succ])
  refine wpAnyH_ready (rs := [8]) (by kernel_rfl) (by simp) ?_
  refine AllReadyH.cons rfl (fun K hK => ?_) AllReadyH.nil
  go_simp
  refine ((fun w' (hw : Below W.heap.size W w') => c11 w' (HT1.out.below (HW.out w' hw)) (HT1.out.below (HW.out w' hw))) _ HB3.out).mono ?_
  rintro e w4 ⟨rfl, hb⟩
  have HB4 : Hid (Below W.heap.size W w4) := HB3.out.trans (hb.mono HB3.out.size)
  refine hK.out _ _ (HXc.out _ HB4.out) (fun hHeld4 => ?_)
  clear hK K hb
  (try simp only [Act.put, List.getElem_toArray, List.getElem_cons_zero, List.getElem_cons_succ, List.setIfInBounds_toArray, List.set_cons_zero, List.set_cons_succ])
  refine wpAnyH_ready (rs := [10]) (by kernel_rfl) (by simp) ?_
  refine AllReadyH.cons rfl (fun K hK => ?_) AllReadyH.nil
  go_simp
  refine ((fun w' (hw : Below W.heap.size W w') => cm w' (HT1.out.below (HW.out w' hw))) _ HB4.out).mono ?_
  rintro e w5 ⟨rfl, hb⟩
  have HB5 : Hid (Below W.heap.size W w5) := HB4.out.trans (hb.mono HB4.out.size)
  refine hK.out _ _ (HXc.out _ HB5.out) (fun hHeld5 => ?_)
  clear hK K hb
  (try simp only [Act.put, List.getElem_toArray, List.getElem_cons_zero, List.getElem_cons_succ, List.setIfInBounds_toArray, List.set_cons_zero, List.set_cons_succ])
  refine wpAnyH_take (i := 11) (v := ?_) rfl (by kernel_rfl) (by kernel_rfl) (by kernel_rfl) (fun _ _ _ h => h) (Or.inl ⟨by rfl, ?_⟩) (by assumption) ?_
  rotate_left
  · (intro w hSw; (try dsimp only at hSw); go_simp) <;> with_reducible rfl
  (simp only [Act.put, List.getElem_toArray, List.getElem_cons_zero, List.getElem_cons_succ, List.setIfInBounds_toArray, List.set_cons_zero, List.set_cons_succ])
  refine wpAnyH_take (i := 12) (v := ?_) rfl (by kernel_rfl) (by kernel_rfl) (by kernel_rfl) (fun _ _ _ h => h) (Or.inl ⟨by rfl, ?_⟩) (by assumption) ?_
  rotate_left
  · (intro w hSw; (try dsimp only at hSw); go_simp) <;> with_reducible rfl
  (simp only [Act.put, List.getElem_toArray, List.getElem_cons_zero, List.getElem_cons_succ, List.setIfInBounds_toArray, List.set_cons_zero, List.set_cons_succ])
  refine wpAnyH_done (by kernel_rfl) ?_ _
  obtain ⟨hx5, hy5, hv5⟩ := HXc.out w5 HB5.out
  go_wp2_with fail
  have HB5d : Hid (Below W.heap.size W w5.drew) := HB5.out.drew
  clear HB5
  have HB5 := HB5d
  clear HB5d
  refine wp_region_held_drew (S := fun w' => (∀ o, w'.cell? ⟨w.heap.size, o, none⟩ = (#[Value.int .i64 k1, .string n1, .slice na1 nn1 nc1, .slice pa1 pn1 pc1, .bool m1])[o]?) ∧ (∀ o, w'.cell? ⟨w.heap.size + 1, o, none⟩ = (#[Value.int .i64 k2, .string n2, .slice na2 nn2 nc2, .slice pa2 pn2 pc2, .bool m2])[o]?) ∧ (∀ o, w'.cell? ⟨w.heap.size + 1 + 1, o, none⟩ = (#[Value.int .i64 k3, .string n3, .slice na3 nn3 nc3, .slice pa3 pn3 pc3, .bool m3])[o]?)) (by kernel_rfl) (HXc.out _ HB5.out) (fun hHeldB => ?_)
  refine wpAnyH_take (i := 0) (v := ?_) rfl (by kernel_rfl) (by kernel_rfl) (by kernel_rfl) (fun _ _ _ h => h) (Or.inl ⟨by rfl, ?_⟩) (by assumption) ?_
  rotate_left
  · (intro w hSw; (try dsimp only at hSw); go_simp) <;> with_reducible rfl
  (simp only [Act.put, List.getElem_toArray, List.getElem_cons_zero, List.getElem_cons_succ, List.setIfInBounds_toArray, List.set_cons_zero, List.set_cons_succ])
  refine wpAnyH_take (i := 1) (v := ?_) rfl (by kernel_rfl) (by kernel_rfl) (by kernel_rfl) (fun _ _ _ h => h) (Or.inl ⟨by rfl, ?_⟩) (by assumption) ?_
  rotate_left
  · (intro w hSw; (try dsimp only at hSw); go_simp) <;> with_reducible rfl
  (simp only [Act.put, List.getElem_toArray, List.getElem_cons_zero, List.getElem_cons_succ, List.setIfInBounds_toArray, List.set_cons_zero, List.set_cons_succ])
  refine wpAnyH_take (i := 2) (v := ?_) rfl (by kernel_rfl) (by kernel_rfl) (by kernel_rfl) (fun _ _ _ h => h) (Or.inl ⟨by rfl, ?_⟩) (by assumption) ?_
  rotate_left
  · (intro w hSw; (try dsimp only at hSw); go_simp) <;> with_reducible rfl
  (simp only [Act.put, List.getElem_toArray, List.getElem_cons_zero, List.getElem_cons_succ, List.setIfInBounds_toArray, List.set_cons_zero, List.set_cons_succ])
  refine wpAnyH_take (i := 3) (v := undef) rfl (by kernel_rfl) (by kernel_rfl) (by kernel_rfl) (fun _ _ _ h => h) (Or.inr ⟨by rfl, rfl⟩) (by assumption) ?_
  (simp only [Act.put, List.getElem_toArray, List.getElem_cons_zero, List.getElem_cons_succ, List.setIfInBounds_toArray, List.set_cons_zero, List.set_cons_succ])
  refine wpAnyH_take (i := 4) (v := undef) rfl (by kernel_rfl) (by kernel_rfl) (by kernel_rfl) (fun _ _ _ h => h) (Or.inr ⟨by rfl, rfl⟩) (by assumption) ?_
  (simp only [Act.put, List.getElem_toArray, List.getElem_cons_zero, List.getElem_cons_succ, List.setIfInBounds_toArray, List.set_cons_zero, List.set_cons_succ])
  refine wpAnyH_take (i := 5) (v := undef) rfl (by kernel_rfl) (by kernel_rfl) (by kernel_rfl) (fun _ _ _ h => h) (Or.inr ⟨by rfl, rfl⟩) (by assumption) ?_
  (simp only [Act.put, List.getElem_toArray, List.getElem_cons_zero, List.getElem_cons_succ, List.setIfInBounds_toArray, List.set_cons_zero, List.set_cons_succ])
  refine wpAnyH_take (i := 6) (v := undef) rfl (by kernel_rfl) (by kernel_rfl) (by kernel_rfl) (fun _ _ _ h => h) (Or.inr ⟨by rfl, rfl⟩) (by assumption) ?_
  (simp only [Act.put, List.getElem_toArray, List.getElem_cons_zero, List.getElem_cons_succ, List.setIfInBounds_toArray, List.set_cons_zero, List.set_cons_succ])
  refine wpAnyH_take (i := 7) (v := undef) rfl (by kernel_rfl) (by kernel_rfl) (by kernel_rfl) (fun _ _ _ h => h) (Or.inr ⟨by rfl, rfl⟩) (by assumption) ?_
  (simp only [Act.put, List.getElem_toArray, List.getElem_cons_zero, List.getElem_cons_succ, List.setIfInBounds_toArray, List.set_cons_zero, List.set_cons_succ])
  refine wpAnyH_take (i := 8) (v := undef) rfl (by kernel_rfl) (by kernel_rfl) (by kernel_rfl) (fun _ _ _ h => h) (Or.inr ⟨by rfl, rfl⟩) (by assumption) ?_
  (simp only [Act.put, List.getElem_toArray, List.getElem_cons_zero, List.getElem_cons_succ, List.setIfInBounds_toArray, List.set_cons_zero, List.set_cons_succ])
  refine wpAnyH_take (i := 9) (v := undef) rfl (by kernel_rfl) (by kernel_rfl) (by kernel_rfl) (fun _ _ _ h => h) (Or.inr ⟨by rfl, rfl⟩) (by assumption) ?_
  (simp only [Act.put, List.getElem_toArray, List.getElem_cons_zero, List.getElem_cons_succ, List.setIfInBounds_toArray, List.set_cons_zero, List.set_cons_succ])
  refine wpAnyH_take (i := 10) (v := undef) rfl (by kernel_rfl) (by kernel_rfl) (by kernel_rfl) (fun _ _ _ h => h) (Or.inr ⟨by rfl, rfl⟩) (by assumption) ?_
  (simp only [Act.put, List.getElem_toArray, List.getElem_cons_zero, List.getElem_cons_succ, List.setIfInBounds_toArray, List.set_cons_zero, List.set_cons_succ])
  refine wpAnyH_take (i := 11) (v := undef) rfl (by kernel_rfl) (by kernel_rfl) (by kernel_rfl) (fun _ _ _ h => h) (Or.inr ⟨by rfl, rfl⟩) (by assumption) ?_
  (simp only [Act.put, List.getElem_toArray, List.getElem_cons_zero, List.getElem_cons_succ, List.setIfInBounds_toArray, List.set_cons_zero, List.set_cons_succ])
  refine wpAnyH_take (i := 12) (v := undef) rfl (by kernel_rfl) (by kernel_rfl) (by kernel_rfl) (fun _ _ _ h => h) (Or.inr ⟨by rfl, rfl⟩) (by assumption) ?_
  (simp only [Act.put, List.getElem_toArray, List.getElem_cons_zero, List.getElem_cons_succ, List.setIfInBounds_toArray, List.set_cons_zero, List.set_cons_succ])
  refine wpAnyH_take (i := 13) (v := undef) rfl (by kernel_rfl) (by kernel_rfl) (by kernel_rfl) (fun _ _ _ h => h) (Or.inr ⟨by rfl, rfl⟩) (by assumption) ?_
  (simp only [Act.put, List.getElem_toArray, List.getElem_cons_zero, List.getElem_cons_succ, List.setIfInBounds_toArray, List.set_cons_zero, List.set_cons_succ])
  refine wpAnyH_take (i := 14) (v := undef) rfl (by kernel_rfl) (by kernel_rfl) (by kernel_rfl) (fun _ _ _ h => h) (Or.inr ⟨by rfl, rfl⟩) (by assumption) ?_
  (simp only [Act.put, List.getElem_toArray, List.getElem_cons_zero, List.getElem_cons_succ, List.setIfInBounds_toArray, List.set_cons_zero, List.set_cons_succ])
  refine wpAnyH_take (i := 15) (v := undef) rfl (by kernel_rfl) (by kernel_rfl) (by kernel_rfl) (fun _ _ _ h => h) (Or.inr ⟨by rfl, rfl⟩) (by assumption) ?_
  (simp only [Act.put, List.getElem_toArray, List.getElem_cons_zero, List.getElem_cons_succ, List.setIfInBounds_toArray, List.set_cons_zero, List.set_cons_succ])
  refine wpAnyH_take (i := 16) (v := undef) rfl (by kernel_rfl) (by kernel_rfl) (by kernel_rfl) (fun _ _ _ h => h) (Or.inr ⟨by rfl, rfl⟩) (by assumption) ?_
  (simp only [Act.put, List.getElem_toArray, List.getElem_cons_zero, List.getElem_cons_succ, List.setIfInBounds_toArray, List.set_cons_zero, List.set_cons_succ])
  refine wpAnyH_take (i := 17) (v := undef) rfl (by kernel_rfl) (by kernel_rfl) (by kernel_rfl) (fun _ _ _ h => h) (Or.inr ⟨by rfl, rfl⟩) (by assumption) ?_
  (simp only [Act.put, List.getElem_toArray, List.getElem_cons_zero, List.getElem_cons_succ, List.setIfInBounds_toArray, List.set_cons_zero, List.set_cons_succ])
  refine wpAnyH_take (i := 18) (v := undef) rfl (by kernel_rfl) (by kernel_rfl) (by kernel_rfl) (fun _ _ _ h => h) (Or.inr ⟨by rfl, rfl⟩) (by assumption) ?_
  (simp only [Act.put, List.getElem_toArray, List.getElem_cons_zero, List.getElem_cons_succ, List.setIfInBounds_toArray, List.set_cons_zero, List.set_cons_succ])
  refine wpAnyH_take (i := 19) (v := undef) rfl (by kernel_rfl) (by kernel_rfl) (by kernel_rfl) (fun _ _ _ h => h) (Or.inr ⟨by rfl, rfl⟩) (by assumption) ?_
  (simp only [Act.put, List.getElem_toArray, List.getElem_cons_zero, List.getElem_cons_succ, List.setIfInBounds_toArray, List.set_cons_zero, List.set_cons_succ])
  refine wpAnyH_take (i := 20) (v := undef) rfl (by kernel_rfl) (by kernel_rfl) (by kernel_rfl) (fun _ _ _ h => h) (Or.inr ⟨by rfl, rfl⟩) (by assumption) ?_
  (simp only [Act.put, List.getElem_toArray, List.getElem_cons_zero, List.getElem_cons_succ, List.setIfInBounds_toArray, List.set_cons_zero, List.set_cons_succ])
  refine wpAnyH_take (i := 21) (v := undef) rfl (by kernel_rfl) (by kernel_rfl) (by kernel_rfl) (fun _ _ _ h => h) (Or.inr ⟨by rfl, rfl⟩) (by assumption) ?_
  (simp only [Act.put, List.getElem_toArray, List.getElem_cons_zero, List.getElem_cons_succ, List.setIfInBounds_toArray, List.set_cons_zero, List.set_cons_succ])
  refine wpAnyH_take (i := 22) (v := ?_) rfl (by kernel_rfl) (by kernel_rfl) (by kernel_rfl) (fun _ _ _ h => h) (Or.inl ⟨by rfl, ?_⟩) (by assumption) ?_
  rotate_left
  · (intro w hSw; (try dsimp only at hSw); go_simp) <;> with_reducible rfl
  (simp only [Act.put, List.getElem_toArray, List.getElem_cons_zero, List.getElem_cons_succ, List.setIfInBounds_toArray, List.set_cons_zero, List.set_cons_succ])
  refine wpAnyH_take (i := 23) (v := ?_) rfl (by kernel_rfl) (by kernel_rfl) (by kernel_rfl) (fun _ _ _ h => h) (Or.inl ⟨by rfl, ?_⟩) (by assumption) ?_
  rotate_left
  · (intro w hSw; (try dsimp only at hSw); go_simp) <;> with_reducible rfl
  (simp only [Act.put, List.getElem_toArray, List.getElem_cons_zero, List.getElem_cons_succ, List.setIfInBounds_toArray, List.set_cons_zero, List.set_cons_succ])
  refine wpAnyH_done (by kernel_rfl) ?_ _
  go_wp2_with fail
  go_ret
  exact ⟨rfl, HW.out _ HB5.out⟩
set_option maxRecDepth 100000 in
set_option maxHeartbeats 2000000 in
theorem alaw_tf (HP : Pr) (a b c : Ty) (v1 v2 v3 : Value) (w : World) (h1 : TyV w a v1) (h2 : TyV w b v2) (h3 : TyV w c v3) (hab : sameT a b = true) (hbc : sameT b c = false) : Calls Try.prog 5 #[v1, v2, v3] w fun e w' => e = .returned (.bool true) ∧ Below w.heap.size w w' := by
  have hP := hide HP
  have HT1 := hide h1
  have HT2 := hide h2
  have HT3 := hide h3
  obtain ⟨k1, n1, na1, nn1, nc1, pa1, pn1, pc1, m1, rfl⟩ := h1.form
  obtain ⟨k2, n2, na2, nn2, nc2, pa2, pn2, pc2, m2, rfl⟩ := h2.form
  obtain ⟨k3, n3, na3, nn3, nc3, pa3, pn3, pc3, m3, rfl⟩ := h3.form
  clear h1 h2 h3 HP
  have c12 : ∀ w', TyV w' a (.agg #[.int .i64 k1, .string n1, .slice na1 nn1 nc1, .slice pa1 pn1 pc1, .bool m1]) → TyV w' b (.agg #[.int .i64 k2, .string n2, .slice na2 nn2 nc2, .slice pa2 pn2 pc2, .bool m2]) → Calls Try.prog 12 #[.agg #[.int .i64 k1, .string n1, .slice na1 nn1 nc1, .slice pa1 pn1 pc1, .bool m1], .agg #[.int .i64 k2, .string n2, .slice na2 nn2 nc2, .slice pa2 pn2 pc2, .bool m2]] w' fun e w'' => e = .returned (.bool true) ∧ Below w'.heap.size w' w'' := fun w' h1 h2 => by
    have h := hP.out.same a b _ _ w' h1 h2
    rw [show (mayN 4 a && mayN 4 b && alikeT a b) = true from hab] at h
    exact h
  have c21 : ∀ w', TyV w' b (.agg #[.int .i64 k2, .string n2, .slice na2 nn2 nc2, .slice pa2 pn2 pc2, .bool m2]) → TyV w' a (.agg #[.int .i64 k1, .string n1, .slice na1 nn1 nc1, .slice pa1 pn1 pc1, .bool m1]) → Calls Try.prog 12 #[.agg #[.int .i64 k2, .string n2, .slice na2 nn2 nc2, .slice pa2 pn2 pc2, .bool m2], .agg #[.int .i64 k1, .string n1, .slice na1 nn1 nc1, .slice pa1 pn1 pc1, .bool m1]] w' fun e w'' => e = .returned (.bool true) ∧ Below w'.heap.size w' w'' := fun w' h1 h2 => by
    have h := hP.out.same b a _ _ w' h1 h2
    rw [show (mayN 4 b && mayN 4 a && alikeT b a) = true from (sameT_symm b a).trans hab] at h
    exact h
  obtain ⟨ma, hma⟩ : ∃ ma, ma = mayN 4 a := ⟨_, rfl⟩
  have c11 : ∀ w', TyV w' a (.agg #[.int .i64 k1, .string n1, .slice na1 nn1 nc1, .slice pa1 pn1 pc1, .bool m1]) → TyV w' a (.agg #[.int .i64 k1, .string n1, .slice na1 nn1 nc1, .slice pa1 pn1 pc1, .bool m1]) → Calls Try.prog 12 #[.agg #[.int .i64 k1, .string n1, .slice na1 nn1 nc1, .slice pa1 pn1 pc1, .bool m1], .agg #[.int .i64 k1, .string n1, .slice na1 nn1 nc1, .slice pa1 pn1 pc1, .bool m1]] w' fun e w'' => e = .returned (.bool ma) ∧ Below w'.heap.size w' w'' := fun w' h1 h2 => by
    have h := hP.out.same a a _ _ w' h1 h2
    rw [show (mayN 4 a && mayN 4 a && alikeT a a) = ma from (sameT_refl a).trans hma.symm] at h
    exact h
  have cm : ∀ w', TyV w' a (.agg #[.int .i64 k1, .string n1, .slice na1 nn1 nc1, .slice pa1 pn1 pc1, .bool m1]) → Calls Try.prog 6 #[.agg #[.int .i64 k1, .string n1, .slice na1 nn1 nc1, .slice pa1 pn1 pc1, .bool m1]] w' fun e w'' => e = .returned (.bool ma) ∧ Below w'.heap.size w' w'' := fun w' h1 => by
    have h := hP.out.may a _ w' h1
    rw [← hma] at h
    exact h
  have ci : ∀ w', Calls Try.prog 12 #[.agg #[.int .i64 1, .string ⟨#[]⟩, .slice none 0 0, .slice none 0 0, .bool false], .agg #[.int .i64 1, .string ⟨#[]⟩, .slice none 0 0, .slice none 0 0, .bool false]] w' fun e w'' => e = .returned (.bool true) ∧ Below w'.heap.size w' w'' := fun w' => by
    have h := hP.out.same intT intT _ _ w' (intV w') (intV w')
    rw [show (mayN 4 intT && mayN 4 intT && alikeT intT intT) = true from int_same] at h
    exact h
  have c23 : ∀ w', TyV w' b (.agg #[.int .i64 k2, .string n2, .slice na2 nn2 nc2, .slice pa2 pn2 pc2, .bool m2]) → TyV w' c (.agg #[.int .i64 k3, .string n3, .slice na3 nn3 nc3, .slice pa3 pn3 pc3, .bool m3]) → Calls Try.prog 12 #[.agg #[.int .i64 k2, .string n2, .slice na2 nn2 nc2, .slice pa2 pn2 pc2, .bool m2], .agg #[.int .i64 k3, .string n3, .slice na3 nn3 nc3, .slice pa3 pn3 pc3, .bool m3]] w' fun e w'' => e = .returned (.bool false) ∧ Below w'.heap.size w' w'' := fun w' h1 h2 => by
    have h := hP.out.same b c _ _ w' h1 h2
    rw [show (mayN 4 b && mayN 4 c && alikeT b c) = false from hbc] at h
    exact h
  have hmm : mayN 4 a = true ∧ mayN 4 b = true ∧ alikeT a b = true := by
    have := hab
    unfold sameT at this
    simp only [Bool.and_eq_true] at this
    exact ⟨this.1.1, this.1.2, this.2⟩
  have cw1 := fun w' (h : TyV w' a (.agg #[.int .i64 k1, .string n1, .slice na1 nn1 nc1, .slice pa1 pn1 pc1, .bool m1])) => hP.out.words_t a _ w' hmm.1 h
  have cw2 := fun w' (h : TyV w' b (.agg #[.int .i64 k2, .string n2, .slice na2 nn2 nc2, .slice pa2 pn2 pc2, .bool m2])) => hP.out.words_t b _ w' hmm.2.1 h
  have ce1 := fun w' (h : TyV w' a (.agg #[.int .i64 k1, .string n1, .slice na1 nn1 nc1, .slice pa1 pn1 pc1, .bool m1])) => hP.out.even_t a _ w' hmm.1 h
  have ce2 := fun w' (h : TyV w' b (.agg #[.int .i64 k2, .string n2, .slice na2 nn2 nc2, .slice pa2 pn2 pc2, .bool m2])) => hP.out.even_t b _ w' hmm.2.1 h
  have ct1 := fun w' (h : TyV w' a (.agg #[.int .i64 k1, .string n1, .slice na1 nn1 nc1, .slice pa1 pn1 pc1, .bool m1])) => hP.out.text_t a _ w' hmm.1 h
  have ct2 := fun w' (h : TyV w' b (.agg #[.int .i64 k2, .string n2, .slice na2 nn2 nc2, .slice pa2 pn2 pc2, .bool m2])) => hP.out.text_t b _ w' hmm.2.1 h
  rw [← size_alike a b hmm.2.2] at cw2
  rw [← even_alike a b hmm.2.2] at ce2
  rw [← text_alike a 4 4 b hmm.1 hmm.2.1 hmm.2.2] at ct2
  generalize sizeT a = sz at *
  generalize evenT a = ev at *
  generalize strOf (textT a) = tx at *
  have HMA := hide hma
  clear hma hab hbc hmm
  go_enter Try.func5, Try.ntmps5
  go_wp2_with fail
  have hB0 : Below w.heap.size w (((w.alloc (.cells #[.int .i64 k1, .string n1, .slice na1 nn1 nc1, .slice pa1 pn1 pc1, .bool m1] 25)).alloc (.cells #[.int .i64 k2, .string n2, .slice na2 nn2 nc2, .slice pa2 pn2 pc2, .bool m2] 25)).alloc (.cells #[.int .i64 k3, .string n3, .slice na3 nn3 nc3, .slice pa3 pn3 pc3, .bool m3] 25)) := (((Below.refl _ _).alloc (Nat.le_refl _) _).alloc (by simp) _).alloc (by simp; omega) _
  have hx00 : ∀ o, (((w.alloc (.cells #[.int .i64 k1, .string n1, .slice na1 nn1 nc1, .slice pa1 pn1 pc1, .bool m1] 25)).alloc (.cells #[.int .i64 k2, .string n2, .slice na2 nn2 nc2, .slice pa2 pn2 pc2, .bool m2] 25)).alloc (.cells #[.int .i64 k3, .string n3, .slice na3 nn3 nc3, .slice pa3 pn3 pc3, .bool m3] 25)).cell? ⟨w.heap.size, o, none⟩ = (#[Value.int .i64 k1, .string n1, .slice na1 nn1 nc1, .slice pa1 pn1 pc1, .bool m1])[o]? := fun o => (World.cell?_alloc_past _ _ _ (by simp; omega)).trans ((World.cell?_alloc_past _ _ _ (by simp)).trans (World.cell?_alloc_at _ _ _ _ rfl))
  have hy00 : ∀ o, (((w.alloc (.cells #[.int .i64 k1, .string n1, .slice na1 nn1 nc1, .slice pa1 pn1 pc1, .bool m1] 25)).alloc (.cells #[.int .i64 k2, .string n2, .slice na2 nn2 nc2, .slice pa2 pn2 pc2, .bool m2] 25)).alloc (.cells #[.int .i64 k3, .string n3, .slice na3 nn3 nc3, .slice pa3 pn3 pc3, .bool m3] 25)).cell? ⟨w.heap.size + 1, o, none⟩ = (#[Value.int .i64 k2, .string n2, .slice na2 nn2 nc2, .slice pa2 pn2 pc2, .bool m2])[o]? := fun o => (World.cell?_alloc_past _ _ _ (by simp)).trans (World.cell?_alloc_at _ _ _ _ (by simp))
  have hv00 : ∀ o, (((w.alloc (.cells #[.int .i64 k1, .string n1, .slice na1 nn1 nc1, .slice pa1 pn1 pc1, .bool m1] 25)).alloc (.cells #[.int .i64 k2, .string n2, .slice na2 nn2 nc2, .slice pa2 pn2 pc2, .bool m2] 25)).alloc (.cells #[.int .i64 k3, .string n3, .slice na3 nn3 nc3, .slice pa3 pn3 pc3, .bool m3] 25)).cell? ⟨w.heap.size + 1 + 1, o, none⟩ = (#[Value.int .i64 k3, .string n3, .slice na3 nn3 nc3, .slice pa3 pn3 pc3, .bool m3])[o]? := fun o => World.cell?_alloc_at _ _ _ _ (by simp)
  have hz0 : (((w.alloc (.cells #[.int .i64 k1, .string n1, .slice na1 nn1 nc1, .slice pa1 pn1 pc1, .bool m1] 25)).alloc (.cells #[.int .i64 k2, .string n2, .slice na2 nn2 nc2, .slice pa2 pn2 pc2, .bool m2] 25)).alloc (.cells #[.int .i64 k3, .string n3, .slice na3 nn3 nc3, .slice pa3 pn3 pc3, .bool m3] 25)).heap.size = w.heap.size + 1 + 1 + 1 := by simp
  generalize ((w.alloc (.cells #[.int .i64 k1, .string n1, .slice na1 nn1 nc1, .slice pa1 pn1 pc1, .bool m1] 25)).alloc (.cells #[.int .i64 k2, .string n2, .slice na2 nn2 nc2, .slice pa2 pn2 pc2, .bool m2] 25)).alloc (.cells #[.int .i64 k3, .string n3, .slice na3 nn3 nc3, .slice pa3 pn3 pc3, .bool m3] 25) = W at *
  have HW : Hid (∀ w', Below W.heap.size W w' → Below w.heap.size w w') := fun w' hw => hB0.trans (hw.mono (by omega))
  have HXc : Hid (∀ w', Below W.heap.size W w' → (fun w' => (∀ o, w'.cell? ⟨w.heap.size, o, none⟩ = (#[Value.int .i64 k1, .string n1, .slice na1 nn1 nc1, .slice pa1 pn1 pc1, .bool m1])[o]?) ∧ (∀ o, w'.cell? ⟨w.heap.size + 1, o, none⟩ = (#[Value.int .i64 k2, .string n2, .slice na2 nn2 nc2, .slice pa2 pn2 pc2, .bool m2])[o]?) ∧ (∀ o, w'.cell? ⟨w.heap.size + 1 + 1, o, none⟩ = (#[Value.int .i64 k3, .string n3, .slice na3 nn3 nc3, .slice pa3 pn3 pc3, .bool m3])[o]?)) w') := fun w' hw => ⟨fun o => (hw.cell (p := ⟨w.heap.size, o, none⟩) (by show w.heap.size < _; omega)).trans (hx00 o), fun o => (hw.cell (p := ⟨w.heap.size + 1, o, none⟩) (by show w.heap.size + 1 < _; omega)).trans (hy00 o), fun o => (hw.cell (p := ⟨w.heap.size + 1 + 1, o, none⟩) (by show w.heap.size + 1 + 1 < _; omega)).trans (hv00 o)⟩
  have HB0 : Hid (Below W.heap.size W W) := Below.refl _ _
  obtain ⟨hx0, hy0, hv0⟩ := HXc.out W HB0.out
  clear hx00 hy00 hv00 hz0 hB0
  go_at_call 12
  refine ((fun w' (hw : Below W.heap.size W w') => c12 w' (HT1.out.below (HW.out w' hw)) (HT2.out.below (HW.out w' hw))) _ HB0.out).mono ?_
  rintro e w1 ⟨rfl, hb⟩
  have HB1 : Hid (Below W.heap.size W w1) := HB0.out.trans (hb.mono HB0.out.size)
  clear hb hx0 hy0 hv0
  go_wp2_with fail
  go_at_call 12
  refine (ci _).mono ?_
  rintro e w2 ⟨rfl, hb⟩
  have HB2' : Hid (Below W.heap.size W w2) := HB1.out.trans (hb.mono HB1.out.size)
  clear hb
  go_wp2_with fail
  have HB2 : Hid (Below W.heap.size W w2.drew) := HB2'.out.drew
  refine wp_region_held_drew (S := fun w' => (∀ o, w'.cell? ⟨w.heap.size, o, none⟩ = (#[Value.int .i64 k1, .string n1, .slice na1 nn1 nc1, .slice pa1 pn1 pc1, .bool m1])[o]?) ∧ (∀ o, w'.cell? ⟨w.heap.size + 1, o, none⟩ = (#[Value.int .i64 k2, .string n2, .slice na2 nn2 nc2, .slice pa2 pn2 pc2, .bool m2])[o]?) ∧ (∀ o, w'.cell? ⟨w.heap.size + 1 + 1, o, none⟩ = (#[Value.int .i64 k3, .string n3, .slice na3 nn3 nc3, .slice pa3 pn3 pc3, .bool m3])[o]?)) (by kernel_rfl) (HXc.out _ HB2.out) (fun hHeld => ?_)
  refine wpAnyH_take (i := 0) (v := ?_) rfl (by kernel_rfl) (by kernel_rfl) (by kernel_rfl) (fun _ _ _ h => h) (Or.inl ⟨by rfl, ?_⟩) (by assumption) ?_
  rotate_left
  · (intro w hSw; (try dsimp only at hSw); go_simp) <;> with_reducible rfl
  (simp only [Act.put, List.getElem_toArray, List.getElem_cons_zero, List.getElem_cons_succ, List.setIfInBounds_toArray, List.set_cons_zero, List.set_cons_succ])
  refine wpAnyH_take (i := 1) (v := ?_) rfl (by kernel_rfl) (by kernel_rfl) (by kernel_rfl) (fun _ _ _ h => h) (Or.inl ⟨by rfl, ?_⟩) (by assumption) ?_
  rotate_left
  · (intro w hSw; (try dsimp only at hSw); go_simp) <;> with_reducible rfl
  (simp only [Act.put, List.getElem_toArray, List.getElem_cons_zero, List.getElem_cons_succ, List.setIfInBounds_toArray, List.set_cons_zero, List.set_cons_succ])
  refine wpAnyH_take (i := 2) (v := ?_) rfl (by kernel_rfl) (by kernel_rfl) (by kernel_rfl) (fun _ _ _ h => h) (Or.inl ⟨by rfl, ?_⟩) (by assumption) ?_
  rotate_left
  · (intro w hSw; (try dsimp only at hSw); go_simp) <;> with_reducible rfl
  (simp only [Act.put, List.getElem_toArray, List.getElem_cons_zero, List.getElem_cons_succ, List.setIfInBounds_toArray, List.set_cons_zero, List.set_cons_succ])
  refine wpAnyH_ready (rs := [3]) (by kernel_rfl) (by simp) ?_
  refine AllReadyH.cons rfl (fun K hK => ?_) AllReadyH.nil
  go_simp
  refine ((fun w' (hw : Below W.heap.size W w') => c21 w' (HT2.out.below (HW.out w' hw)) (HT1.out.below (HW.out w' hw))) _ HB2.out).mono ?_
  rintro e w3 ⟨rfl, hb⟩
  have HB3 : Hid (Below W.heap.size W w3) := HB2.out.trans (hb.mono HB2.out.size)
  refine hK.out _ _ (HXc.out _ HB3.out) (fun hHeld3 => ?_)
  clear hK K hb
  (try simp only [Act.put, List.getElem_toArray, List.getElem_cons_zero, List.getElem_cons_succ, List.setIfInBounds_toArray, List.set_cons_zero, List.set_cons_succ])
  refine wpAnyH_take (i := 4) (v := ?_) rfl (by kernel_rfl) (by kernel_rfl) (by kernel_rfl) (fun _ _ _ h => h) (Or.inl ⟨by rfl, ?_⟩) (by assumption) ?_
  rotate_left
  · (intro w hSw; (try dsimp only at hSw); go_simp) <;> with_reducible rfl
  (simp only [Act.put, List.getElem_toArray, List.getElem_cons_zero, List.getElem_cons_succ, List.setIfInBounds_toArray, List.set_cons_zero, List.set_cons_succ])
  refine wpAnyH_take (i := 5) (v := ?_) rfl (by kernel_rfl) (by kernel_rfl) (by kernel_rfl) (fun _ _ _ h => h) (Or.inl ⟨by rfl, ?_⟩) (by assumption) ?_
  rotate_left
  · (intro w hSw; (try dsimp only at hSw); go_simp) <;> with_reducible rfl
  (simp only [Act.put, List.getElem_toArray, List.getElem_cons_zero, List.getElem_cons_succ, List.setIfInBounds_toArray, List.set_cons_zero, List.set_cons_succ])
  refine wpAnyH_take (i := 6) (v := ?_) rfl (by kernel_rfl) (by kernel_rfl) (by kernel_rfl) (fun _ _ _ h => h) (Or.inl ⟨by rfl, ?_⟩) (by assumption) ?_
  rotate_left
  · (intro w hSw; (try dsimp only at hSw); go_simp) <;> with_reducible rfl
  (simp only [Act.put, List.getElem_toArray, List.getElem_cons_zero, List.getElem_cons_succ, List.setIfInBounds_toArray, List.set_cons_zero, List.set_cons_succ])
  refine wpAnyH_take (i := 7) (v := ?_) rfl (by kernel_rfl) (by kernel_rfl) (by kernel_rfl) (fun _ _ _ h => h) (Or.inl ⟨by rfl, ?_⟩) (by assumption) ?_
  rotate_left
  · (intro w hSw; (try dsimp only at hSw); go_simp) <;> with_reducible rfl
  (simp only [Act.put, List.getElem_toArray, List.getElem_cons_zero, List.getElem_cons_succ, List.setIfInBounds_toArray, List.set_cons_zero, List.set_cons_succ])
  refine wpAnyH_take (i := 9) (v := ?_) rfl (by kernel_rfl) (by kernel_rfl) (by kernel_rfl) (fun _ _ _ h => h) (Or.inl ⟨by rfl, ?_⟩) (by assumption) ?_
  rotate_left
  · (intro w hSw; (try dsimp only at hSw); go_simp) <;> with_reducible rfl
  (simp only [Act.put, List.getElem_toArray, List.getElem_cons_zero, List.getElem_cons_succ, List.setIfInBounds_toArray, List.set_cons_zero, List.set_cons_succ])
  refine wpAnyH_ready (rs := [8]) (by kernel_rfl) (by simp) ?_
  refine AllReadyH.cons rfl (fun K hK => ?_) AllReadyH.nil
  go_simp
  refine ((fun w' (hw : Below W.heap.size W w') => c11 w' (HT1.out.below (HW.out w' hw)) (HT1.out.below (HW.out w' hw))) _ HB3.out).mono ?_
  rintro e w4 ⟨rfl, hb⟩
  have HB4 : Hid (Below W.heap.size W w4) := HB3.out.trans (hb.mono HB3.out.size)
  refine hK.out _ _ (HXc.out _ HB4.out) (fun hHeld4 => ?_)
  clear hK K hb
  (try simp only [Act.put, List.getElem_toArray, List.getElem_cons_zero, List.getElem_cons_succ, List.setIfInBounds_toArray, List.set_cons_zero, List.set_cons_succ])
  refine wpAnyH_ready (rs := [10]) (by kernel_rfl) (by simp) ?_
  refine AllReadyH.cons rfl (fun K hK => ?_) AllReadyH.nil
  go_simp
  refine ((fun w' (hw : Below W.heap.size W w') => cm w' (HT1.out.below (HW.out w' hw))) _ HB4.out).mono ?_
  rintro e w5 ⟨rfl, hb⟩
  have HB5 : Hid (Below W.heap.size W w5) := HB4.out.trans (hb.mono HB4.out.size)
  refine hK.out _ _ (HXc.out _ HB5.out) (fun hHeld5 => ?_)
  clear hK K hb
  (try simp only [Act.put, List.getElem_toArray, List.getElem_cons_zero, List.getElem_cons_succ, List.setIfInBounds_toArray, List.set_cons_zero, List.set_cons_succ])
  refine wpAnyH_take (i := 11) (v := ?_) rfl (by kernel_rfl) (by kernel_rfl) (by kernel_rfl) (fun _ _ _ h => h) (Or.inl ⟨by rfl, ?_⟩) (by assumption) ?_
  rotate_left
  · (intro w hSw; (try dsimp only at hSw); go_simp) <;> with_reducible rfl
  (simp only [Act.put, List.getElem_toArray, List.getElem_cons_zero, List.getElem_cons_succ, List.setIfInBounds_toArray, List.set_cons_zero, List.set_cons_succ])
  refine wpAnyH_take (i := 12) (v := ?_) rfl (by kernel_rfl) (by kernel_rfl) (by kernel_rfl) (fun _ _ _ h => h) (Or.inl ⟨by rfl, ?_⟩) (by assumption) ?_
  rotate_left
  · (intro w hSw; (try dsimp only at hSw); go_simp) <;> with_reducible rfl
  (simp only [Act.put, List.getElem_toArray, List.getElem_cons_zero, List.getElem_cons_succ, List.setIfInBounds_toArray, List.set_cons_zero, List.set_cons_succ])
  refine wpAnyH_done (by kernel_rfl) ?_ _
  obtain ⟨hx5, hy5, hv5⟩ := HXc.out w5 HB5.out
  go_wp2_with fail
  go_at_call 12
  refine ((fun w' (hw : Below W.heap.size W w') => c23 w' (HT2.out.below (HW.out w' hw)) (HT3.out.below (HW.out w' hw))) _ HB5.out).mono ?_
  rintro e w6 ⟨rfl, hb⟩
  have HB6 : Hid (Below W.heap.size W w6) := HB5.out.trans (hb.mono HB5.out.size)
  obtain ⟨hx6, hy6, hv6⟩ := HXc.out w6 HB6.out
  clear hb hx5 hy5 hv5
  go_wp2_with fail
  have HB6d : Hid (Below W.heap.size W w6.drew) := HB6.out.drew
  clear HB6
  have HB6 := HB6d
  clear HB6d
  refine wp_region_held_drew (S := fun w' => (∀ o, w'.cell? ⟨w.heap.size, o, none⟩ = (#[Value.int .i64 k1, .string n1, .slice na1 nn1 nc1, .slice pa1 pn1 pc1, .bool m1])[o]?) ∧ (∀ o, w'.cell? ⟨w.heap.size + 1, o, none⟩ = (#[Value.int .i64 k2, .string n2, .slice na2 nn2 nc2, .slice pa2 pn2 pc2, .bool m2])[o]?) ∧ (∀ o, w'.cell? ⟨w.heap.size + 1 + 1, o, none⟩ = (#[Value.int .i64 k3, .string n3, .slice na3 nn3 nc3, .slice pa3 pn3 pc3, .bool m3])[o]?)) (by kernel_rfl) (HXc.out _ HB6.out) (fun hHeldB => ?_)
  refine wpAnyH_take (i := 0) (v := ?_) rfl (by kernel_rfl) (by kernel_rfl) (by kernel_rfl) (fun _ _ _ h => h) (Or.inl ⟨by rfl, ?_⟩) (by assumption) ?_
  rotate_left
  · (intro w hSw; (try dsimp only at hSw); go_simp) <;> with_reducible rfl
  (simp only [Act.put, List.getElem_toArray, List.getElem_cons_zero, List.getElem_cons_succ, List.setIfInBounds_toArray, List.set_cons_zero, List.set_cons_succ])
  refine wpAnyH_take (i := 1) (v := ?_) rfl (by kernel_rfl) (by kernel_rfl) (by kernel_rfl) (fun _ _ _ h => h) (Or.inl ⟨by rfl, ?_⟩) (by assumption) ?_
  rotate_left
  · (intro w hSw; (try dsimp only at hSw); go_simp) <;> with_reducible rfl
  (simp only [Act.put, List.getElem_toArray, List.getElem_cons_zero, List.getElem_cons_succ, List.setIfInBounds_toArray, List.set_cons_zero, List.set_cons_succ])
  refine wpAnyH_take (i := 2) (v := ?_) rfl (by kernel_rfl) (by kernel_rfl) (by kernel_rfl) (fun _ _ _ h => h) (Or.inl ⟨by rfl, ?_⟩) (by assumption) ?_
  rotate_left
  · (intro w hSw; (try dsimp only at hSw); go_simp) <;> with_reducible rfl
  (simp only [Act.put, List.getElem_toArray, List.getElem_cons_zero, List.getElem_cons_succ, List.setIfInBounds_toArray, List.set_cons_zero, List.set_cons_succ])
  refine wpAnyH_take (i := 3) (v := ?_) rfl (by kernel_rfl) (by kernel_rfl) (by kernel_rfl) (fun _ _ _ h => h) (Or.inl ⟨by rfl, ?_⟩) (by assumption) ?_
  rotate_left
  · (intro w hSw; (try dsimp only at hSw); go_simp) <;> with_reducible rfl
  (simp only [Act.put, List.getElem_toArray, List.getElem_cons_zero, List.getElem_cons_succ, List.setIfInBounds_toArray, List.set_cons_zero, List.set_cons_succ])
  refine wpAnyH_take (i := 5) (v := ?_) rfl (by kernel_rfl) (by kernel_rfl) (by kernel_rfl) (fun _ _ _ h => h) (Or.inl ⟨by rfl, ?_⟩) (by assumption) ?_
  rotate_left
  · (intro w hSw; (try dsimp only at hSw); go_simp) <;> with_reducible rfl
  (simp only [Act.put, List.getElem_toArray, List.getElem_cons_zero, List.getElem_cons_succ, List.setIfInBounds_toArray, List.set_cons_zero, List.set_cons_succ])
  refine wpAnyH_ready (rs := [4]) (by kernel_rfl) (by simp) ?_
  refine AllReadyH.cons rfl (fun K hK => ?_) AllReadyH.nil
  go_simp
  refine ((fun w' (hw : Below W.heap.size W w') => cw1 w' (HT1.out.below (HW.out w' hw))) _ HB6.out).mono ?_
  rintro e w7 ⟨rfl, hb⟩
  have HB7 : Hid (Below W.heap.size W w7) := HB6.out.trans (hb.mono HB6.out.size)
  refine hK.out _ _ (HXc.out _ HB7.out) (fun hHeld7 => ?_)
  clear hK K hb
  (try simp only [Act.put, List.getElem_toArray, List.getElem_cons_zero, List.getElem_cons_succ, List.setIfInBounds_toArray, List.set_cons_zero, List.set_cons_succ])
  refine wpAnyH_ready (rs := [6]) (by kernel_rfl) (by simp) ?_
  refine AllReadyH.cons rfl (fun K hK => ?_) AllReadyH.nil
  go_simp
  refine ((fun w' (hw : Below W.heap.size W w') => cw2 w' (HT2.out.below (HW.out w' hw))) _ HB7.out).mono ?_
  rintro e w8 ⟨rfl, hb⟩
  have HB8 : Hid (Below W.heap.size W w8) := HB7.out.trans (hb.mono HB7.out.size)
  refine hK.out _ _ (HXc.out _ HB8.out) (fun hHeld8 => ?_)
  clear hK K hb
  (try simp only [Act.put, List.getElem_toArray, List.getElem_cons_zero, List.getElem_cons_succ, List.setIfInBounds_toArray, List.set_cons_zero, List.set_cons_succ])
  refine wpAnyH_take (i := 7) (v := ?_) rfl (by kernel_rfl) (by kernel_rfl) (by kernel_rfl) (fun _ _ _ h => h) (Or.inl ⟨by rfl, ?_⟩) (by assumption) ?_
  rotate_left
  · (intro w hSw; (try dsimp only at hSw); go_simp) <;> with_reducible rfl
  (simp only [Act.put, List.getElem_toArray, List.getElem_cons_zero, List.getElem_cons_succ, List.setIfInBounds_toArray, List.set_cons_zero, List.set_cons_succ])
  refine wpAnyH_take (i := 8) (v := ?_) rfl (by kernel_rfl) (by kernel_rfl) (by kernel_rfl) (fun _ _ _ h => h) (Or.inl ⟨by rfl, ?_⟩) (by assumption) ?_
  rotate_left
  · (intro w hSw; (try dsimp only at hSw); go_simp) <;> with_reducible rfl
  (simp only [Act.put, List.getElem_toArray, List.getElem_cons_zero, List.getElem_cons_succ, List.setIfInBounds_toArray, List.set_cons_zero, List.set_cons_succ])
  refine wpAnyH_take (i := 9) (v := ?_) rfl (by kernel_rfl) (by kernel_rfl) (by kernel_rfl) (fun _ _ _ h => h) (Or.inl ⟨by rfl, ?_⟩) (by assumption) ?_
  rotate_left
  · (intro w hSw; (try dsimp only at hSw); go_simp) <;> with_reducible rfl
  (simp only [Act.put, List.getElem_toArray, List.getElem_cons_zero, List.getElem_cons_succ, List.setIfInBounds_toArray, List.set_cons_zero, List.set_cons_succ])
  refine wpAnyH_take (i := 11) (v := ?_) rfl (by kernel_rfl) (by kernel_rfl) (by kernel_rfl) (fun _ _ _ h => h) (Or.inl ⟨by rfl, ?_⟩) (by assumption) ?_
  rotate_left
  · (intro w hSw; (try dsimp only at hSw); go_simp) <;> with_reducible rfl
  (simp only [Act.put, List.getElem_toArray, List.getElem_cons_zero, List.getElem_cons_succ, List.setIfInBounds_toArray, List.set_cons_zero, List.set_cons_succ])
  refine wpAnyH_ready (rs := [10]) (by kernel_rfl) (by simp) ?_
  refine AllReadyH.cons rfl (fun K hK => ?_) AllReadyH.nil
  go_simp
  refine ((fun w' (hw : Below W.heap.size W w') => ce1 w' (HT1.out.below (HW.out w' hw))) _ HB8.out).mono ?_
  rintro e w9 ⟨rfl, hb⟩
  have HB9 : Hid (Below W.heap.size W w9) := HB8.out.trans (hb.mono HB8.out.size)
  refine hK.out _ _ (HXc.out _ HB9.out) (fun hHeld9 => ?_)
  clear hK K hb
  (try simp only [Act.put, List.getElem_toArray, List.getElem_cons_zero, List.getElem_cons_succ, List.setIfInBounds_toArray, List.set_cons_zero, List.set_cons_succ])
  refine wpAnyH_ready (rs := [12]) (by kernel_rfl) (by simp) ?_
  refine AllReadyH.cons rfl (fun K hK => ?_) AllReadyH.nil
  go_simp
  refine ((fun w' (hw : Below W.heap.size W w') => ce2 w' (HT2.out.below (HW.out w' hw))) _ HB9.out).mono ?_
  rintro e w10 ⟨rfl, hb⟩
  have HB10 : Hid (Below W.heap.size W w10) := HB9.out.trans (hb.mono HB9.out.size)
  refine hK.out _ _ (HXc.out _ HB10.out) (fun hHeld10 => ?_)
  clear hK K hb
  (try simp only [Act.put, List.getElem_toArray, List.getElem_cons_zero, List.getElem_cons_succ, List.setIfInBounds_toArray, List.set_cons_zero, List.set_cons_succ])
  refine wpAnyH_take (i := 13) (v := ?_) rfl (by kernel_rfl) (by kernel_rfl) (by kernel_rfl) (fun _ _ _ h => h) (Or.inl ⟨by rfl, ?_⟩) (by assumption) ?_
  rotate_left
  · (intro w hSw; (try dsimp only at hSw); go_simp) <;> with_reducible rfl
  (simp only [Act.put, List.getElem_toArray, List.getElem_cons_zero, List.getElem_cons_succ, List.setIfInBounds_toArray, List.set_cons_zero, List.set_cons_succ])
  refine wpAnyH_take (i := 14) (v := ?_) rfl (by kernel_rfl) (by kernel_rfl) (by kernel_rfl) (fun _ _ _ h => h) (Or.inl ⟨by rfl, ?_⟩) (by assumption) ?_
  rotate_left
  · (intro w hSw; (try dsimp only at hSw); go_simp) <;> with_reducible rfl
  (simp only [Act.put, List.getElem_toArray, List.getElem_cons_zero, List.getElem_cons_succ, List.setIfInBounds_toArray, List.set_cons_zero, List.set_cons_succ])
  refine wpAnyH_take (i := 15) (v := ?_) rfl (by kernel_rfl) (by kernel_rfl) (by kernel_rfl) (fun _ _ _ h => h) (Or.inl ⟨by rfl, ?_⟩) (by assumption) ?_
  rotate_left
  · (intro w hSw; (try dsimp only at hSw); go_simp) <;> with_reducible rfl
  (simp only [Act.put, List.getElem_toArray, List.getElem_cons_zero, List.getElem_cons_succ, List.setIfInBounds_toArray, List.set_cons_zero, List.set_cons_succ])
  refine wpAnyH_take (i := 16) (v := ?_) rfl (by kernel_rfl) (by kernel_rfl) (by kernel_rfl) (fun _ _ _ h => h) (Or.inl ⟨by rfl, ?_⟩) (by assumption) ?_
  rotate_left
  · (intro w hSw; (try dsimp only at hSw); go_simp) <;> with_reducible rfl
  (simp only [Act.put, List.getElem_toArray, List.getElem_cons_zero, List.getElem_cons_succ, List.setIfInBounds_toArray, List.set_cons_zero, List.set_cons_succ])
  refine wpAnyH_take (i := 18) (v := ?_) rfl (by kernel_rfl) (by kernel_rfl) (by kernel_rfl) (fun _ _ _ h => h) (Or.inl ⟨by rfl, ?_⟩) (by assumption) ?_
  rotate_left
  · (intro w hSw; (try dsimp only at hSw); go_simp) <;> with_reducible rfl
  (simp only [Act.put, List.getElem_toArray, List.getElem_cons_zero, List.getElem_cons_succ, List.setIfInBounds_toArray, List.set_cons_zero, List.set_cons_succ])
  refine wpAnyH_ready (rs := [17]) (by kernel_rfl) (by simp) ?_
  refine AllReadyH.cons rfl (fun K hK => ?_) AllReadyH.nil
  go_simp
  refine ((fun w' (hw : Below W.heap.size W w') => ct1 w' (HT1.out.below (HW.out w' hw))) _ HB10.out).mono ?_
  rintro e w11 ⟨rfl, hb⟩
  have HB11 : Hid (Below W.heap.size W w11) := HB10.out.trans (hb.mono HB10.out.size)
  refine hK.out _ _ (HXc.out _ HB11.out) (fun hHeld11 => ?_)
  clear hK K hb
  (try simp only [Act.put, List.getElem_toArray, List.getElem_cons_zero, List.getElem_cons_succ, List.setIfInBounds_toArray, List.set_cons_zero, List.set_cons_succ])
  refine wpAnyH_ready (rs := [19]) (by kernel_rfl) (by simp) ?_
  refine AllReadyH.cons rfl (fun K hK => ?_) AllReadyH.nil
  go_simp
  refine ((fun w' (hw : Below W.heap.size W w') => ct2 w' (HT2.out.below (HW.out w' hw))) _ HB11.out).mono ?_
  rintro e w12 ⟨rfl, hb⟩
  have HB12 : Hid (Below W.heap.size W w12) := HB11.out.trans (hb.mono HB11.out.size)
  refine hK.out _ _ (HXc.out _ HB12.out) (fun hHeld12 => ?_)
  clear hK K hb
  (try simp only [Act.put, List.getElem_toArray, List.getElem_cons_zero, List.getElem_cons_succ, List.setIfInBounds_toArray, List.set_cons_zero, List.set_cons_succ])
  refine wpAnyH_take (i := 20) (v := ?_) rfl (by kernel_rfl) (by kernel_rfl) (by kernel_rfl) (fun _ _ _ h => h) (Or.inl ⟨by rfl, ?_⟩) (by assumption) ?_
  rotate_left
  · (intro w hSw; (try dsimp only at hSw); go_simp) <;> with_reducible rfl
  (simp only [Act.put, List.getElem_toArray, List.getElem_cons_zero, List.getElem_cons_succ, List.setIfInBounds_toArray, List.set_cons_zero, List.set_cons_succ])
  refine wpAnyH_take (i := 21) (v := ?_) rfl (by kernel_rfl) (by kernel_rfl) (by kernel_rfl) (fun _ _ _ h => h) (Or.inl ⟨by rfl, ?_⟩) (by assumption) ?_
  rotate_left
  · (intro w hSw; (try dsimp only at hSw); go_simp) <;> with_reducible rfl
  (simp only [Act.put, List.getElem_toArray, List.getElem_cons_zero, List.getElem_cons_succ, List.setIfInBounds_toArray, List.set_cons_zero, List.set_cons_succ])
  refine wpAnyH_take (i := 22) (v := ?_) rfl (by kernel_rfl) (by kernel_rfl) (by kernel_rfl) (fun _ _ _ h => h) (Or.inl ⟨by rfl, ?_⟩) (by assumption) ?_
  rotate_left
  · (intro w hSw; (try dsimp only at hSw); go_simp) <;> with_reducible rfl
  (simp only [Act.put, List.getElem_toArray, List.getElem_cons_zero, List.getElem_cons_succ, List.setIfInBounds_toArray, List.set_cons_zero, List.set_cons_succ])
  refine wpAnyH_take (i := 23) (v := ?_) rfl (by kernel_rfl) (by kernel_rfl) (by kernel_rfl) (fun _ _ _ h => h) (Or.inl ⟨by rfl, ?_⟩) (by assumption) ?_
  rotate_left
  · (intro w hSw; (try dsimp only at hSw); go_simp) <;> with_reducible rfl
  (simp only [Act.put, List.getElem_toArray, List.getElem_cons_zero, List.getElem_cons_succ, List.setIfInBounds_toArray, List.set_cons_zero, List.set_cons_succ])
  refine wpAnyH_done (by kernel_rfl) ?_ _
  go_wp2_with fail
  go_ret
  exact ⟨rfl, HW.out _ HB12.out⟩
set_option maxRecDepth 100000 in
set_option maxHeartbeats 2000000 in
theorem alaw_tt (HP : Pr) (a b c : Ty) (v1 v2 v3 : Value) (w : World) (h1 : TyV w a v1) (h2 : TyV w b v2) (h3 : TyV w c v3) (hab : sameT a b = true) (hbc : sameT b c = true) : Calls Try.prog 5 #[v1, v2, v3] w fun e w' => e = .returned (.bool true) ∧ Below w.heap.size w w' := by
  have hP := hide HP
  have HT1 := hide h1
  have HT2 := hide h2
  have HT3 := hide h3
  obtain ⟨k1, n1, na1, nn1, nc1, pa1, pn1, pc1, m1, rfl⟩ := h1.form
  obtain ⟨k2, n2, na2, nn2, nc2, pa2, pn2, pc2, m2, rfl⟩ := h2.form
  obtain ⟨k3, n3, na3, nn3, nc3, pa3, pn3, pc3, m3, rfl⟩ := h3.form
  clear h1 h2 h3 HP
  have c12 : ∀ w', TyV w' a (.agg #[.int .i64 k1, .string n1, .slice na1 nn1 nc1, .slice pa1 pn1 pc1, .bool m1]) → TyV w' b (.agg #[.int .i64 k2, .string n2, .slice na2 nn2 nc2, .slice pa2 pn2 pc2, .bool m2]) → Calls Try.prog 12 #[.agg #[.int .i64 k1, .string n1, .slice na1 nn1 nc1, .slice pa1 pn1 pc1, .bool m1], .agg #[.int .i64 k2, .string n2, .slice na2 nn2 nc2, .slice pa2 pn2 pc2, .bool m2]] w' fun e w'' => e = .returned (.bool true) ∧ Below w'.heap.size w' w'' := fun w' h1 h2 => by
    have h := hP.out.same a b _ _ w' h1 h2
    rw [show (mayN 4 a && mayN 4 b && alikeT a b) = true from hab] at h
    exact h
  have c21 : ∀ w', TyV w' b (.agg #[.int .i64 k2, .string n2, .slice na2 nn2 nc2, .slice pa2 pn2 pc2, .bool m2]) → TyV w' a (.agg #[.int .i64 k1, .string n1, .slice na1 nn1 nc1, .slice pa1 pn1 pc1, .bool m1]) → Calls Try.prog 12 #[.agg #[.int .i64 k2, .string n2, .slice na2 nn2 nc2, .slice pa2 pn2 pc2, .bool m2], .agg #[.int .i64 k1, .string n1, .slice na1 nn1 nc1, .slice pa1 pn1 pc1, .bool m1]] w' fun e w'' => e = .returned (.bool true) ∧ Below w'.heap.size w' w'' := fun w' h1 h2 => by
    have h := hP.out.same b a _ _ w' h1 h2
    rw [show (mayN 4 b && mayN 4 a && alikeT b a) = true from (sameT_symm b a).trans hab] at h
    exact h
  obtain ⟨ma, hma⟩ : ∃ ma, ma = mayN 4 a := ⟨_, rfl⟩
  have c11 : ∀ w', TyV w' a (.agg #[.int .i64 k1, .string n1, .slice na1 nn1 nc1, .slice pa1 pn1 pc1, .bool m1]) → TyV w' a (.agg #[.int .i64 k1, .string n1, .slice na1 nn1 nc1, .slice pa1 pn1 pc1, .bool m1]) → Calls Try.prog 12 #[.agg #[.int .i64 k1, .string n1, .slice na1 nn1 nc1, .slice pa1 pn1 pc1, .bool m1], .agg #[.int .i64 k1, .string n1, .slice na1 nn1 nc1, .slice pa1 pn1 pc1, .bool m1]] w' fun e w'' => e = .returned (.bool ma) ∧ Below w'.heap.size w' w'' := fun w' h1 h2 => by
    have h := hP.out.same a a _ _ w' h1 h2
    rw [show (mayN 4 a && mayN 4 a && alikeT a a) = ma from (sameT_refl a).trans hma.symm] at h
    exact h
  have cm : ∀ w', TyV w' a (.agg #[.int .i64 k1, .string n1, .slice na1 nn1 nc1, .slice pa1 pn1 pc1, .bool m1]) → Calls Try.prog 6 #[.agg #[.int .i64 k1, .string n1, .slice na1 nn1 nc1, .slice pa1 pn1 pc1, .bool m1]] w' fun e w'' => e = .returned (.bool ma) ∧ Below w'.heap.size w' w'' := fun w' h1 => by
    have h := hP.out.may a _ w' h1
    rw [← hma] at h
    exact h
  have ci : ∀ w', Calls Try.prog 12 #[.agg #[.int .i64 1, .string ⟨#[]⟩, .slice none 0 0, .slice none 0 0, .bool false], .agg #[.int .i64 1, .string ⟨#[]⟩, .slice none 0 0, .slice none 0 0, .bool false]] w' fun e w'' => e = .returned (.bool true) ∧ Below w'.heap.size w' w'' := fun w' => by
    have h := hP.out.same intT intT _ _ w' (intV w') (intV w')
    rw [show (mayN 4 intT && mayN 4 intT && alikeT intT intT) = true from int_same] at h
    exact h
  have c23 : ∀ w', TyV w' b (.agg #[.int .i64 k2, .string n2, .slice na2 nn2 nc2, .slice pa2 pn2 pc2, .bool m2]) → TyV w' c (.agg #[.int .i64 k3, .string n3, .slice na3 nn3 nc3, .slice pa3 pn3 pc3, .bool m3]) → Calls Try.prog 12 #[.agg #[.int .i64 k2, .string n2, .slice na2 nn2 nc2, .slice pa2 pn2 pc2, .bool m2], .agg #[.int .i64 k3, .string n3, .slice na3 nn3 nc3, .slice pa3 pn3 pc3, .bool m3]] w' fun e w'' => e = .returned (.bool true) ∧ Below w'.heap.size w' w'' := fun w' h1 h2 => by
    have h := hP.out.same b c _ _ w' h1 h2
    rw [show (mayN 4 b && mayN 4 c && alikeT b c) = true from hbc] at h
    exact h
  have c13 : ∀ w', TyV w' a (.agg #[.int .i64 k1, .string n1, .slice na1 nn1 nc1, .slice pa1 pn1 pc1, .bool m1]) → TyV w' c (.agg #[.int .i64 k3, .string n3, .slice na3 nn3 nc3, .slice pa3 pn3 pc3, .bool m3]) → Calls Try.prog 12 #[.agg #[.int .i64 k1, .string n1, .slice na1 nn1 nc1, .slice pa1 pn1 pc1, .bool m1], .agg #[.int .i64 k3, .string n3, .slice na3 nn3 nc3, .slice pa3 pn3 pc3, .bool m3]] w' fun e w'' => e = .returned (.bool true) ∧ Below w'.heap.size w' w'' := fun w' h1 h2 => by
    have h := hP.out.same a c _ _ w' h1 h2
    rw [show (mayN 4 a && mayN 4 c && alikeT a c) = true from sameT_trans hab hbc] at h
    exact h
  have hmm : mayN 4 a = true ∧ mayN 4 b = true ∧ alikeT a b = true := by
    have := hab
    unfold sameT at this
    simp only [Bool.and_eq_true] at this
    exact ⟨this.1.1, this.1.2, this.2⟩
  have cw1 := fun w' (h : TyV w' a (.agg #[.int .i64 k1, .string n1, .slice na1 nn1 nc1, .slice pa1 pn1 pc1, .bool m1])) => hP.out.words_t a _ w' hmm.1 h
  have cw2 := fun w' (h : TyV w' b (.agg #[.int .i64 k2, .string n2, .slice na2 nn2 nc2, .slice pa2 pn2 pc2, .bool m2])) => hP.out.words_t b _ w' hmm.2.1 h
  have ce1 := fun w' (h : TyV w' a (.agg #[.int .i64 k1, .string n1, .slice na1 nn1 nc1, .slice pa1 pn1 pc1, .bool m1])) => hP.out.even_t a _ w' hmm.1 h
  have ce2 := fun w' (h : TyV w' b (.agg #[.int .i64 k2, .string n2, .slice na2 nn2 nc2, .slice pa2 pn2 pc2, .bool m2])) => hP.out.even_t b _ w' hmm.2.1 h
  have ct1 := fun w' (h : TyV w' a (.agg #[.int .i64 k1, .string n1, .slice na1 nn1 nc1, .slice pa1 pn1 pc1, .bool m1])) => hP.out.text_t a _ w' hmm.1 h
  have ct2 := fun w' (h : TyV w' b (.agg #[.int .i64 k2, .string n2, .slice na2 nn2 nc2, .slice pa2 pn2 pc2, .bool m2])) => hP.out.text_t b _ w' hmm.2.1 h
  rw [← size_alike a b hmm.2.2] at cw2
  rw [← even_alike a b hmm.2.2] at ce2
  rw [← text_alike a 4 4 b hmm.1 hmm.2.1 hmm.2.2] at ct2
  generalize sizeT a = sz at *
  generalize evenT a = ev at *
  generalize strOf (textT a) = tx at *
  have HMA := hide hma
  clear hma hab hbc hmm
  go_enter Try.func5, Try.ntmps5
  go_wp2_with fail
  have hB0 : Below w.heap.size w (((w.alloc (.cells #[.int .i64 k1, .string n1, .slice na1 nn1 nc1, .slice pa1 pn1 pc1, .bool m1] 25)).alloc (.cells #[.int .i64 k2, .string n2, .slice na2 nn2 nc2, .slice pa2 pn2 pc2, .bool m2] 25)).alloc (.cells #[.int .i64 k3, .string n3, .slice na3 nn3 nc3, .slice pa3 pn3 pc3, .bool m3] 25)) := (((Below.refl _ _).alloc (Nat.le_refl _) _).alloc (by simp) _).alloc (by simp; omega) _
  have hx00 : ∀ o, (((w.alloc (.cells #[.int .i64 k1, .string n1, .slice na1 nn1 nc1, .slice pa1 pn1 pc1, .bool m1] 25)).alloc (.cells #[.int .i64 k2, .string n2, .slice na2 nn2 nc2, .slice pa2 pn2 pc2, .bool m2] 25)).alloc (.cells #[.int .i64 k3, .string n3, .slice na3 nn3 nc3, .slice pa3 pn3 pc3, .bool m3] 25)).cell? ⟨w.heap.size, o, none⟩ = (#[Value.int .i64 k1, .string n1, .slice na1 nn1 nc1, .slice pa1 pn1 pc1, .bool m1])[o]? := fun o => (World.cell?_alloc_past _ _ _ (by simp; omega)).trans ((World.cell?_alloc_past _ _ _ (by simp)).trans (World.cell?_alloc_at _ _ _ _ rfl))
  have hy00 : ∀ o, (((w.alloc (.cells #[.int .i64 k1, .string n1, .slice na1 nn1 nc1, .slice pa1 pn1 pc1, .bool m1] 25)).alloc (.cells #[.int .i64 k2, .string n2, .slice na2 nn2 nc2, .slice pa2 pn2 pc2, .bool m2] 25)).alloc (.cells #[.int .i64 k3, .string n3, .slice na3 nn3 nc3, .slice pa3 pn3 pc3, .bool m3] 25)).cell? ⟨w.heap.size + 1, o, none⟩ = (#[Value.int .i64 k2, .string n2, .slice na2 nn2 nc2, .slice pa2 pn2 pc2, .bool m2])[o]? := fun o => (World.cell?_alloc_past _ _ _ (by simp)).trans (World.cell?_alloc_at _ _ _ _ (by simp))
  have hv00 : ∀ o, (((w.alloc (.cells #[.int .i64 k1, .string n1, .slice na1 nn1 nc1, .slice pa1 pn1 pc1, .bool m1] 25)).alloc (.cells #[.int .i64 k2, .string n2, .slice na2 nn2 nc2, .slice pa2 pn2 pc2, .bool m2] 25)).alloc (.cells #[.int .i64 k3, .string n3, .slice na3 nn3 nc3, .slice pa3 pn3 pc3, .bool m3] 25)).cell? ⟨w.heap.size + 1 + 1, o, none⟩ = (#[Value.int .i64 k3, .string n3, .slice na3 nn3 nc3, .slice pa3 pn3 pc3, .bool m3])[o]? := fun o => World.cell?_alloc_at _ _ _ _ (by simp)
  have hz0 : (((w.alloc (.cells #[.int .i64 k1, .string n1, .slice na1 nn1 nc1, .slice pa1 pn1 pc1, .bool m1] 25)).alloc (.cells #[.int .i64 k2, .string n2, .slice na2 nn2 nc2, .slice pa2 pn2 pc2, .bool m2] 25)).alloc (.cells #[.int .i64 k3, .string n3, .slice na3 nn3 nc3, .slice pa3 pn3 pc3, .bool m3] 25)).heap.size = w.heap.size + 1 + 1 + 1 := by simp
  generalize ((w.alloc (.cells #[.int .i64 k1, .string n1, .slice na1 nn1 nc1, .slice pa1 pn1 pc1, .bool m1] 25)).alloc (.cells #[.int .i64 k2, .string n2, .slice na2 nn2 nc2, .slice pa2 pn2 pc2, .bool m2] 25)).alloc (.cells #[.int .i64 k3, .string n3, .slice na3 nn3 nc3, .slice pa3 pn3 pc3, .bool m3] 25) = W at *
  have HW : Hid (∀ w', Below W.heap.size W w' → Below w.heap.size w w') := fun w' hw => hB0.trans (hw.mono (by omega))
  have HXc : Hid (∀ w', Below W.heap.size W w' → (fun w' => (∀ o, w'.cell? ⟨w.heap.size, o, none⟩ = (#[Value.int .i64 k1, .string n1, .slice na1 nn1 nc1, .slice pa1 pn1 pc1, .bool m1])[o]?) ∧ (∀ o, w'.cell? ⟨w.heap.size + 1, o, none⟩ = (#[Value.int .i64 k2, .string n2, .slice na2 nn2 nc2, .slice pa2 pn2 pc2, .bool m2])[o]?) ∧ (∀ o, w'.cell? ⟨w.heap.size + 1 + 1, o, none⟩ = (#[Value.int .i64 k3, .string n3, .slice na3 nn3 nc3, .slice pa3 pn3 pc3, .bool m3])[o]?)) w') := fun w' hw => ⟨fun o => (hw.cell (p := ⟨w.heap.size, o, none⟩) (by show w.heap.size < _; omega)).trans (hx00 o), fun o => (hw.cell (p := ⟨w.heap.size + 1, o, none⟩) (by show w.heap.size + 1 < _; omega)).trans (hy00 o), fun o => (hw.cell (p := ⟨w.heap.size + 1 + 1, o, none⟩) (by show w.heap.size + 1 + 1 < _; omega)).trans (hv00 o)⟩
  have HB0 : Hid (Below W.heap.size W W) := Below.refl _ _
  obtain ⟨hx0, hy0, hv0⟩ := HXc.out W HB0.out
  clear hx00 hy00 hv00 hz0 hB0
  go_at_call 12
  refine ((fun w' (hw : Below W.heap.size W w') => c12 w' (HT1.out.below (HW.out w' hw)) (HT2.out.below (HW.out w' hw))) _ HB0.out).mono ?_
  rintro e w1 ⟨rfl, hb⟩
  have HB1 : Hid (Below W.heap.size W w1) := HB0.out.trans (hb.mono HB0.out.size)
  clear hb hx0 hy0 hv0
  go_wp2_with fail
  go_at_call 12
  refine (ci _).mono ?_
  rintro e w2 ⟨rfl, hb⟩
  have HB2' : Hid (Below W.heap.size W w2) := HB1.out.trans (hb.mono HB1.out.size)
  clear hb
  go_wp2_with fail
  have HB2 : Hid (Below W.heap.size W w2.drew) := HB2'.out.drew
  refine wp_region_held_drew (S := fun w' => (∀ o, w'.cell? ⟨w.heap.size, o, none⟩ = (#[Value.int .i64 k1, .string n1, .slice na1 nn1 nc1, .slice pa1 pn1 pc1, .bool m1])[o]?) ∧ (∀ o, w'.cell? ⟨w.heap.size + 1, o, none⟩ = (#[Value.int .i64 k2, .string n2, .slice na2 nn2 nc2, .slice pa2 pn2 pc2, .bool m2])[o]?) ∧ (∀ o, w'.cell? ⟨w.heap.size + 1 + 1, o, none⟩ = (#[Value.int .i64 k3, .string n3, .slice na3 nn3 nc3, .slice pa3 pn3 pc3, .bool m3])[o]?)) (by kernel_rfl) (HXc.out _ HB2.out) (fun hHeld => ?_)
  refine wpAnyH_take (i := 0) (v := ?_) rfl (by kernel_rfl) (by kernel_rfl) (by kernel_rfl) (fun _ _ _ h => h) (Or.inl ⟨by rfl, ?_⟩) (by assumption) ?_
  rotate_left
  · (intro w hSw; (try dsimp only at hSw); go_simp) <;> with_reducible rfl
  (simp only [Act.put, List.getElem_toArray, List.getElem_cons_zero, List.getElem_cons_succ, List.setIfInBounds_toArray, List.set_cons_zero, List.set_cons_succ])
  refine wpAnyH_take (i := 1) (v := ?_) rfl (by kernel_rfl) (by kernel_rfl) (by kernel_rfl) (fun _ _ _ h => h) (Or.inl ⟨by rfl, ?_⟩) (by assumption) ?_
  rotate_left
  · (intro w hSw; (try dsimp only at hSw); go_simp) <;> with_reducible rfl
  (simp only [Act.put, List.getElem_toArray, List.getElem_cons_zero, List.getElem_cons_succ, List.setIfInBounds_toArray, List.set_cons_zero, List.set_cons_succ])
  refine wpAnyH_take (i := 2) (v := ?_) rfl (by kernel_rfl) (by kernel_rfl) (by kernel_rfl) (fun _ _ _ h => h) (Or.inl ⟨by rfl, ?_⟩) (by assumption) ?_
  rotate_left
  · (intro w hSw; (try dsimp only at hSw); go_simp) <;> with_reducible rfl
  (simp only [Act.put, List.getElem_toArray, List.getElem_cons_zero, List.getElem_cons_succ, List.setIfInBounds_toArray, List.set_cons_zero, List.set_cons_succ])
  refine wpAnyH_ready (rs := [3]) (by kernel_rfl) (by simp) ?_
  refine AllReadyH.cons rfl (fun K hK => ?_) AllReadyH.nil
  go_simp
  refine ((fun w' (hw : Below W.heap.size W w') => c21 w' (HT2.out.below (HW.out w' hw)) (HT1.out.below (HW.out w' hw))) _ HB2.out).mono ?_
  rintro e w3 ⟨rfl, hb⟩
  have HB3 : Hid (Below W.heap.size W w3) := HB2.out.trans (hb.mono HB2.out.size)
  refine hK.out _ _ (HXc.out _ HB3.out) (fun hHeld3 => ?_)
  clear hK K hb
  (try simp only [Act.put, List.getElem_toArray, List.getElem_cons_zero, List.getElem_cons_succ, List.setIfInBounds_toArray, List.set_cons_zero, List.set_cons_succ])
  refine wpAnyH_take (i := 4) (v := ?_) rfl (by kernel_rfl) (by kernel_rfl) (by kernel_rfl) (fun _ _ _ h => h) (Or.inl ⟨by rfl, ?_⟩) (by assumption) ?_
  rotate_left
  · (intro w hSw; (try dsimp only at hSw); go_simp) <;> with_reducible rfl
  (simp only [Act.put, List.getElem_toArray, List.getElem_cons_zero, List.getElem_cons_succ, List.setIfInBounds_toArray, List.set_cons_zero, List.set_cons_succ])
  refine wpAnyH_take (i := 5) (v := ?_) rfl (by kernel_rfl) (by kernel_rfl) (by kernel_rfl) (fun _ _ _ h => h) (Or.inl ⟨by rfl, ?_⟩) (by assumption) ?_
  rotate_left
  · (intro w hSw; (try dsimp only at hSw); go_simp) <;> with_reducible rfl
  (simp only [Act.put, List.getElem_toArray, List.getElem_cons_zero, List.getElem_cons_succ, List.setIfInBounds_toArray, List.set_cons_zero, List.set_cons_succ])
  refine wpAnyH_take (i := 6) (v := ?_) rfl (by kernel_rfl) (by kernel_rfl) (by kernel_rfl) (fun _ _ _ h => h) (Or.inl ⟨by rfl, ?_⟩) (by assumption) ?_
  rotate_left
  · (intro w hSw; (try dsimp only at hSw); go_simp) <;> with_reducible rfl
  (simp only [Act.put, List.getElem_toArray, List.getElem_cons_zero, List.getElem_cons_succ, List.setIfInBounds_toArray, List.set_cons_zero, List.set_cons_succ])
  refine wpAnyH_take (i := 7) (v := ?_) rfl (by kernel_rfl) (by kernel_rfl) (by kernel_rfl) (fun _ _ _ h => h) (Or.inl ⟨by rfl, ?_⟩) (by assumption) ?_
  rotate_left
  · (intro w hSw; (try dsimp only at hSw); go_simp) <;> with_reducible rfl
  (simp only [Act.put, List.getElem_toArray, List.getElem_cons_zero, List.getElem_cons_succ, List.setIfInBounds_toArray, List.set_cons_zero, List.set_cons_succ])
  refine wpAnyH_take (i := 9) (v := ?_) rfl (by kernel_rfl) (by kernel_rfl) (by kernel_rfl) (fun _ _ _ h => h) (Or.inl ⟨by rfl, ?_⟩) (by assumption) ?_
  rotate_left
  · (intro w hSw; (try dsimp only at hSw); go_simp) <;> with_reducible rfl
  (simp only [Act.put, List.getElem_toArray, List.getElem_cons_zero, List.getElem_cons_succ, List.setIfInBounds_toArray, List.set_cons_zero, List.set_cons_succ])
  refine wpAnyH_ready (rs := [8]) (by kernel_rfl) (by simp) ?_
  refine AllReadyH.cons rfl (fun K hK => ?_) AllReadyH.nil
  go_simp
  refine ((fun w' (hw : Below W.heap.size W w') => c11 w' (HT1.out.below (HW.out w' hw)) (HT1.out.below (HW.out w' hw))) _ HB3.out).mono ?_
  rintro e w4 ⟨rfl, hb⟩
  have HB4 : Hid (Below W.heap.size W w4) := HB3.out.trans (hb.mono HB3.out.size)
  refine hK.out _ _ (HXc.out _ HB4.out) (fun hHeld4 => ?_)
  clear hK K hb
  (try simp only [Act.put, List.getElem_toArray, List.getElem_cons_zero, List.getElem_cons_succ, List.setIfInBounds_toArray, List.set_cons_zero, List.set_cons_succ])
  refine wpAnyH_ready (rs := [10]) (by kernel_rfl) (by simp) ?_
  refine AllReadyH.cons rfl (fun K hK => ?_) AllReadyH.nil
  go_simp
  refine ((fun w' (hw : Below W.heap.size W w') => cm w' (HT1.out.below (HW.out w' hw))) _ HB4.out).mono ?_
  rintro e w5 ⟨rfl, hb⟩
  have HB5 : Hid (Below W.heap.size W w5) := HB4.out.trans (hb.mono HB4.out.size)
  refine hK.out _ _ (HXc.out _ HB5.out) (fun hHeld5 => ?_)
  clear hK K hb
  (try simp only [Act.put, List.getElem_toArray, List.getElem_cons_zero, List.getElem_cons_succ, List.setIfInBounds_toArray, List.set_cons_zero, List.set_cons_succ])
  refine wpAnyH_take (i := 11) (v := ?_) rfl (by kernel_rfl) (by kernel_rfl) (by kernel_rfl) (fun _ _ _ h => h) (Or.inl ⟨by rfl, ?_⟩) (by assumption) ?_
  rotate_left
  · (intro w hSw; (try dsimp only at hSw); go_simp) <;> with_reducible rfl
  (simp only [Act.put, List.getElem_toArray, List.getElem_cons_zero, List.getElem_cons_succ, List.setIfInBounds_toArray, List.set_cons_zero, List.set_cons_succ])
  refine wpAnyH_take (i := 12) (v := ?_) rfl (by kernel_rfl) (by kernel_rfl) (by kernel_rfl) (fun _ _ _ h => h) (Or.inl ⟨by rfl, ?_⟩) (by assumption) ?_
  rotate_left
  · (intro w hSw; (try dsimp only at hSw); go_simp) <;> with_reducible rfl
  (simp only [Act.put, List.getElem_toArray, List.getElem_cons_zero, List.getElem_cons_succ, List.setIfInBounds_toArray, List.set_cons_zero, List.set_cons_succ])
  refine wpAnyH_done (by kernel_rfl) ?_ _
  obtain ⟨hx5, hy5, hv5⟩ := HXc.out w5 HB5.out
  go_wp2_with fail
  go_at_call 12
  refine ((fun w' (hw : Below W.heap.size W w') => c23 w' (HT2.out.below (HW.out w' hw)) (HT3.out.below (HW.out w' hw))) _ HB5.out).mono ?_
  rintro e w6 ⟨rfl, hb⟩
  have HB6 : Hid (Below W.heap.size W w6) := HB5.out.trans (hb.mono HB5.out.size)
  obtain ⟨hx6, hy6, hv6⟩ := HXc.out w6 HB6.out
  clear hb hx5 hy5 hv5
  go_wp2_with fail
  go_at_call 12
  refine ((fun w' (hw : Below W.heap.size W w') => c13 w' (HT1.out.below (HW.out w' hw)) (HT3.out.below (HW.out w' hw))) _ HB6.out).mono ?_
  rintro e w7 ⟨rfl, hb⟩
  have HB7 : Hid (Below W.heap.size W w7) := HB6.out.trans (hb.mono HB6.out.size)
  clear hb hx6 hy6 hv6
  go_wp2_with fail
  have HB7d : Hid (Below W.heap.size W w7.drew) := HB7.out.drew
  clear HB7
  have HB7 := HB7d
  clear HB7d
  refine wp_region_held_drew (S := fun w' => (∀ o, w'.cell? ⟨w.heap.size, o, none⟩ = (#[Value.int .i64 k1, .string n1, .slice na1 nn1 nc1, .slice pa1 pn1 pc1, .bool m1])[o]?) ∧ (∀ o, w'.cell? ⟨w.heap.size + 1, o, none⟩ = (#[Value.int .i64 k2, .string n2, .slice na2 nn2 nc2, .slice pa2 pn2 pc2, .bool m2])[o]?) ∧ (∀ o, w'.cell? ⟨w.heap.size + 1 + 1, o, none⟩ = (#[Value.int .i64 k3, .string n3, .slice na3 nn3 nc3, .slice pa3 pn3 pc3, .bool m3])[o]?)) (by kernel_rfl) (HXc.out _ HB7.out) (fun hHeldB => ?_)
  refine wpAnyH_take (i := 0) (v := ?_) rfl (by kernel_rfl) (by kernel_rfl) (by kernel_rfl) (fun _ _ _ h => h) (Or.inl ⟨by rfl, ?_⟩) (by assumption) ?_
  rotate_left
  · (intro w hSw; (try dsimp only at hSw); go_simp) <;> with_reducible rfl
  (simp only [Act.put, List.getElem_toArray, List.getElem_cons_zero, List.getElem_cons_succ, List.setIfInBounds_toArray, List.set_cons_zero, List.set_cons_succ])
  refine wpAnyH_take (i := 1) (v := ?_) rfl (by kernel_rfl) (by kernel_rfl) (by kernel_rfl) (fun _ _ _ h => h) (Or.inl ⟨by rfl, ?_⟩) (by assumption) ?_
  rotate_left
  · (intro w hSw; (try dsimp only at hSw); go_simp) <;> with_reducible rfl
  (simp only [Act.put, List.getElem_toArray, List.getElem_cons_zero, List.getElem_cons_succ, List.setIfInBounds_toArray, List.set_cons_zero, List.set_cons_succ])
  refine wpAnyH_take (i := 2) (v := ?_) rfl (by kernel_rfl) (by kernel_rfl) (by kernel_rfl) (fun _ _ _ h => h) (Or.inl ⟨by rfl, ?_⟩) (by assumption) ?_
  rotate_left
  · (intro w hSw; (try dsimp only at hSw); go_simp) <;> with_reducible rfl
  (simp only [Act.put, List.getElem_toArray, List.getElem_cons_zero, List.getElem_cons_succ, List.setIfInBounds_toArray, List.set_cons_zero, List.set_cons_succ])
  refine wpAnyH_take (i := 3) (v := ?_) rfl (by kernel_rfl) (by kernel_rfl) (by kernel_rfl) (fun _ _ _ h => h) (Or.inl ⟨by rfl, ?_⟩) (by assumption) ?_
  rotate_left
  · (intro w hSw; (try dsimp only at hSw); go_simp) <;> with_reducible rfl
  (simp only [Act.put, List.getElem_toArray, List.getElem_cons_zero, List.getElem_cons_succ, List.setIfInBounds_toArray, List.set_cons_zero, List.set_cons_succ])
  refine wpAnyH_take (i := 5) (v := ?_) rfl (by kernel_rfl) (by kernel_rfl) (by kernel_rfl) (fun _ _ _ h => h) (Or.inl ⟨by rfl, ?_⟩) (by assumption) ?_
  rotate_left
  · (intro w hSw; (try dsimp only at hSw); go_simp) <;> with_reducible rfl
  (simp only [Act.put, List.getElem_toArray, List.getElem_cons_zero, List.getElem_cons_succ, List.setIfInBounds_toArray, List.set_cons_zero, List.set_cons_succ])
  refine wpAnyH_ready (rs := [4]) (by kernel_rfl) (by simp) ?_
  refine AllReadyH.cons rfl (fun K hK => ?_) AllReadyH.nil
  go_simp
  refine ((fun w' (hw : Below W.heap.size W w') => cw1 w' (HT1.out.below (HW.out w' hw))) _ HB7.out).mono ?_
  rintro e w8 ⟨rfl, hb⟩
  have HB8 : Hid (Below W.heap.size W w8) := HB7.out.trans (hb.mono HB7.out.size)
  refine hK.out _ _ (HXc.out _ HB8.out) (fun hHeld8 => ?_)
  clear hK K hb
  (try simp only [Act.put, List.getElem_toArray, List.getElem_cons_zero, List.getElem_cons_succ, List.setIfInBounds_toArray, List.set_cons_zero, List.set_cons_succ])
  refine wpAnyH_ready (rs := [6]) (by kernel_rfl) (by simp) ?_
  refine AllReadyH.cons rfl (fun K hK => ?_) AllReadyH.nil
  go_simp
  refine ((fun w' (hw : Below W.heap.size W w') => cw2 w' (HT2.out.below (HW.out w' hw))) _ HB8.out).mono ?_
  rintro e w9 ⟨rfl, hb⟩
  have HB9 : Hid (Below W.heap.size W w9) := HB8.out.trans (hb.mono HB8.out.size)
  refine hK.out _ _ (HXc.out _ HB9.out) (fun hHeld9 => ?_)
  clear hK K hb
  (try simp only [Act.put, List.getElem_toArray, List.getElem_cons_zero, List.getElem_cons_succ, List.setIfInBounds_toArray, List.set_cons_zero, List.set_cons_succ])
  refine wpAnyH_take (i := 7) (v := ?_) rfl (by kernel_rfl) (by kernel_rfl) (by kernel_rfl) (fun _ _ _ h => h) (Or.inl ⟨by rfl, ?_⟩) (by assumption) ?_
  rotate_left
  · (intro w hSw; (try dsimp only at hSw); go_simp) <;> with_reducible rfl
  (simp only [Act.put, List.getElem_toArray, List.getElem_cons_zero, List.getElem_cons_succ, List.setIfInBounds_toArray, List.set_cons_zero, List.set_cons_succ])
  refine wpAnyH_take (i := 8) (v := ?_) rfl (by kernel_rfl) (by kernel_rfl) (by kernel_rfl) (fun _ _ _ h => h) (Or.inl ⟨by rfl, ?_⟩) (by assumption) ?_
  rotate_left
  · (intro w hSw; (try dsimp only at hSw); go_simp) <;> with_reducible rfl
  (simp only [Act.put, List.getElem_toArray, List.getElem_cons_zero, List.getElem_cons_succ, List.setIfInBounds_toArray, List.set_cons_zero, List.set_cons_succ])
  refine wpAnyH_take (i := 9) (v := ?_) rfl (by kernel_rfl) (by kernel_rfl) (by kernel_rfl) (fun _ _ _ h => h) (Or.inl ⟨by rfl, ?_⟩) (by assumption) ?_
  rotate_left
  · (intro w hSw; (try dsimp only at hSw); go_simp) <;> with_reducible rfl
  (simp only [Act.put, List.getElem_toArray, List.getElem_cons_zero, List.getElem_cons_succ, List.setIfInBounds_toArray, List.set_cons_zero, List.set_cons_succ])
  refine wpAnyH_take (i := 11) (v := ?_) rfl (by kernel_rfl) (by kernel_rfl) (by kernel_rfl) (fun _ _ _ h => h) (Or.inl ⟨by rfl, ?_⟩) (by assumption) ?_
  rotate_left
  · (intro w hSw; (try dsimp only at hSw); go_simp) <;> with_reducible rfl
  (simp only [Act.put, List.getElem_toArray, List.getElem_cons_zero, List.getElem_cons_succ, List.setIfInBounds_toArray, List.set_cons_zero, List.set_cons_succ])
  refine wpAnyH_ready (rs := [10]) (by kernel_rfl) (by simp) ?_
  refine AllReadyH.cons rfl (fun K hK => ?_) AllReadyH.nil
  go_simp
  refine ((fun w' (hw : Below W.heap.size W w') => ce1 w' (HT1.out.below (HW.out w' hw))) _ HB9.out).mono ?_
  rintro e w10 ⟨rfl, hb⟩
  have HB10 : Hid (Below W.heap.size W w10) := HB9.out.trans (hb.mono HB9.out.size)
  refine hK.out _ _ (HXc.out _ HB10.out) (fun hHeld10 => ?_)
  clear hK K hb
  (try simp only [Act.put, List.getElem_toArray, List.getElem_cons_zero, List.getElem_cons_succ, List.setIfInBounds_toArray, List.set_cons_zero, List.set_cons_succ])
  refine wpAnyH_ready (rs := [12]) (by kernel_rfl) (by simp) ?_
  refine AllReadyH.cons rfl (fun K hK => ?_) AllReadyH.nil
  go_simp
  refine ((fun w' (hw : Below W.heap.size W w') => ce2 w' (HT2.out.below (HW.out w' hw))) _ HB10.out).mono ?_
  rintro e w11 ⟨rfl, hb⟩
  have HB11 : Hid (Below W.heap.size W w11) := HB10.out.trans (hb.mono HB10.out.size)
  refine hK.out _ _ (HXc.out _ HB11.out) (fun hHeld11 => ?_)
  clear hK K hb
  (try simp only [Act.put, List.getElem_toArray, List.getElem_cons_zero, List.getElem_cons_succ, List.setIfInBounds_toArray, List.set_cons_zero, List.set_cons_succ])
  refine wpAnyH_take (i := 13) (v := ?_) rfl (by kernel_rfl) (by kernel_rfl) (by kernel_rfl) (fun _ _ _ h => h) (Or.inl ⟨by rfl, ?_⟩) (by assumption) ?_
  rotate_left
  · (intro w hSw; (try dsimp only at hSw); go_simp) <;> with_reducible rfl
  (simp only [Act.put, List.getElem_toArray, List.getElem_cons_zero, List.getElem_cons_succ, List.setIfInBounds_toArray, List.set_cons_zero, List.set_cons_succ])
  refine wpAnyH_take (i := 14) (v := ?_) rfl (by kernel_rfl) (by kernel_rfl) (by kernel_rfl) (fun _ _ _ h => h) (Or.inl ⟨by rfl, ?_⟩) (by assumption) ?_
  rotate_left
  · (intro w hSw; (try dsimp only at hSw); go_simp) <;> with_reducible rfl
  (simp only [Act.put, List.getElem_toArray, List.getElem_cons_zero, List.getElem_cons_succ, List.setIfInBounds_toArray, List.set_cons_zero, List.set_cons_succ])
  refine wpAnyH_take (i := 15) (v := ?_) rfl (by kernel_rfl) (by kernel_rfl) (by kernel_rfl) (fun _ _ _ h => h) (Or.inl ⟨by rfl, ?_⟩) (by assumption) ?_
  rotate_left
  · (intro w hSw; (try dsimp only at hSw); go_simp) <;> with_reducible rfl
  (simp only [Act.put, List.getElem_toArray, List.getElem_cons_zero, List.getElem_cons_succ, List.setIfInBounds_toArray, List.set_cons_zero, List.set_cons_succ])
  refine wpAnyH_take (i := 16) (v := ?_) rfl (by kernel_rfl) (by kernel_rfl) (by kernel_rfl) (fun _ _ _ h => h) (Or.inl ⟨by rfl, ?_⟩) (by assumption) ?_
  rotate_left
  · (intro w hSw; (try dsimp only at hSw); go_simp) <;> with_reducible rfl
  (simp only [Act.put, List.getElem_toArray, List.getElem_cons_zero, List.getElem_cons_succ, List.setIfInBounds_toArray, List.set_cons_zero, List.set_cons_succ])
  refine wpAnyH_take (i := 18) (v := ?_) rfl (by kernel_rfl) (by kernel_rfl) (by kernel_rfl) (fun _ _ _ h => h) (Or.inl ⟨by rfl, ?_⟩) (by assumption) ?_
  rotate_left
  · (intro w hSw; (try dsimp only at hSw); go_simp) <;> with_reducible rfl
  (simp only [Act.put, List.getElem_toArray, List.getElem_cons_zero, List.getElem_cons_succ, List.setIfInBounds_toArray, List.set_cons_zero, List.set_cons_succ])
  refine wpAnyH_ready (rs := [17]) (by kernel_rfl) (by simp) ?_
  refine AllReadyH.cons rfl (fun K hK => ?_) AllReadyH.nil
  go_simp
  refine ((fun w' (hw : Below W.heap.size W w') => ct1 w' (HT1.out.below (HW.out w' hw))) _ HB11.out).mono ?_
  rintro e w12 ⟨rfl, hb⟩
  have HB12 : Hid (Below W.heap.size W w12) := HB11.out.trans (hb.mono HB11.out.size)
  refine hK.out _ _ (HXc.out _ HB12.out) (fun hHeld12 => ?_)
  clear hK K hb
  (try simp only [Act.put, List.getElem_toArray, List.getElem_cons_zero, List.getElem_cons_succ, List.setIfInBounds_toArray, List.set_cons_zero, List.set_cons_succ])
  refine wpAnyH_ready (rs := [19]) (by kernel_rfl) (by simp) ?_
  refine AllReadyH.cons rfl (fun K hK => ?_) AllReadyH.nil
  go_simp
  refine ((fun w' (hw : Below W.heap.size W w') => ct2 w' (HT2.out.below (HW.out w' hw))) _ HB12.out).mono ?_
  rintro e w13 ⟨rfl, hb⟩
  have HB13 : Hid (Below W.heap.size W w13) := HB12.out.trans (hb.mono HB12.out.size)
  refine hK.out _ _ (HXc.out _ HB13.out) (fun hHeld13 => ?_)
  clear hK K hb
  (try simp only [Act.put, List.getElem_toArray, List.getElem_cons_zero, List.getElem_cons_succ, List.setIfInBounds_toArray, List.set_cons_zero, List.set_cons_succ])
  refine wpAnyH_take (i := 20) (v := ?_) rfl (by kernel_rfl) (by kernel_rfl) (by kernel_rfl) (fun _ _ _ h => h) (Or.inl ⟨by rfl, ?_⟩) (by assumption) ?_
  rotate_left
  · (intro w hSw; (try dsimp only at hSw); go_simp) <;> with_reducible rfl
  (simp only [Act.put, List.getElem_toArray, List.getElem_cons_zero, List.getElem_cons_succ, List.setIfInBounds_toArray, List.set_cons_zero, List.set_cons_succ])
  refine wpAnyH_take (i := 21) (v := ?_) rfl (by kernel_rfl) (by kernel_rfl) (by kernel_rfl) (fun _ _ _ h => h) (Or.inl ⟨by rfl, ?_⟩) (by assumption) ?_
  rotate_left
  · (intro w hSw; (try dsimp only at hSw); go_simp) <;> with_reducible rfl
  (simp only [Act.put, List.getElem_toArray, List.getElem_cons_zero, List.getElem_cons_succ, List.setIfInBounds_toArray, List.set_cons_zero, List.set_cons_succ])
  refine wpAnyH_take (i := 22) (v := ?_) rfl (by kernel_rfl) (by kernel_rfl) (by kernel_rfl) (fun _ _ _ h => h) (Or.inl ⟨by rfl, ?_⟩) (by assumption) ?_
  rotate_left
  · (intro w hSw; (try dsimp only at hSw); go_simp) <;> with_reducible rfl
  (simp only [Act.put, List.getElem_toArray, List.getElem_cons_zero, List.getElem_cons_succ, List.setIfInBounds_toArray, List.set_cons_zero, List.set_cons_succ])
  refine wpAnyH_take (i := 23) (v := ?_) rfl (by kernel_rfl) (by kernel_rfl) (by kernel_rfl) (fun _ _ _ h => h) (Or.inl ⟨by rfl, ?_⟩) (by assumption) ?_
  rotate_left
  · (intro w hSw; (try dsimp only at hSw); go_simp) <;> with_reducible rfl
  (simp only [Act.put, List.getElem_toArray, List.getElem_cons_zero, List.getElem_cons_succ, List.setIfInBounds_toArray, List.set_cons_zero, List.set_cons_succ])
  refine wpAnyH_done (by kernel_rfl) ?_ _
  go_wp2_with fail
  go_ret
  exact ⟨rfl, HW.out _ HB13.out⟩
theorem alaw_any (HP : Pr) (a b c : Ty) (v1 v2 v3 : Value) (w : World) (h1 : TyV w a v1) (h2 : TyV w b v2) (h3 : TyV w c v3) : Calls Try.prog 5 #[v1, v2, v3] w fun e w' => e = .returned (.bool true) ∧ Below w.heap.size w w' := by
  cases hab : sameT a b with
  | false => exact alaw_f HP a b c v1 v2 v3 w h1 h2 h3 hab
  | true =>
    cases hbc : sameT b c with
    | false => exact alaw_tf HP a b c v1 v2 v3 w h1 h2 h3 hab hbc
    | true => exact alaw_tt HP a b c v1 v2 v3 w h1 h2 h3 hab hbc
end Go.Proofs.Ytakijacfadpmoaa.T
