/- The contract of the reference's Show: by kinds. -/
import Derived.Test.YthcfianhdkolhaaDoorRfL
import Derived.Test.YthcfianhdkolhaaDoorRfK
namespace Go.Proofs.YthcfianhdkolhaaDoor.T
open Go.RowKit Go.Proofs.YthcfianhdkolhaaDoor.S
set_option linter.unusedVariables false
set_option linter.unusedSimpArgs false
set_option maxRecDepth 100000 in
set_option maxHeartbeats 4000000 in
theorem show_k32 {w0 : World} (text : List UInt8) (num : Int) (x y : Nd) (ht : text.length ≤ 16) (hx : ShN w0 x) (ex : shT x ≠ []) (bdx : (jx (shT x)).length ≤ 9200000000000) (hy : ShN w0 y) (ey : shT y ≠ []) (bdy : (jx (shT y)).length ≤ 9200000000000) (hop : isOp num) : ShN w0 (.mk 32 text num [x, y]) := by
  intro w v hb hv
  obtain ⟨ka, kc, rfl, t1, n1, n2, l1, l2, hR⟩ := hv.part
  have htx : (str text).size ≤ 16 := ht
  clear hv
  obtain ⟨ga, oa, ka, xa, na, aa, ma, ca, hkaa, hga, qa0, qa1, qa2, qa3, hnda⟩ := hR.kid0
  have Ha := hide hnda
  have Ha0 := hide qa0
  have Ha1 := hide qa1
  have Ha2 := hide qa2
  have Ha3 := hide qa3
  clear qa0 qa1 qa2 qa3 hnda hga
  subst hkaa
  obtain ⟨kd, xd, nd, ad, md, cd, qd0, qd1, qd2, qd3, hndd⟩ := hR.kid1
  have Hd := hide hndd
  have Hd0 := hide qd0
  have Hd1 := hide qd1
  have Hd2 := hide qd2
  have Hd3 := hide qd3
  clear qd0 qd1 qd2 qd3 hndd
  have hob := op_bind hop
  have hbi : ∀ w', Calls Tryd.prog 28 #[.agg #[.int .i64 32, .string (str text), .int .i64 num, .slice (some ⟨ga, oa, none⟩) 2 kc]] w' fun e w'' => e = .returned (.int .i64 (opBind num)) ∧ Below w'.heap.size w' w'' := fun w' => (bind_any 32 text num _ 2 kc [x, y] w').mono (fun e w'' h => ⟨by rw [h.1]; simp [bindN], h.2⟩)
  have hsg := signOf_any num
  have hos : (str (opSign num)).size ≤ 16 := by
    show (opSign num).length ≤ 16
    unfold isOp at hop
    rcases hop with rfl | rfl | rfl | rfl | rfl | rfl | rfl | rfl | rfl | rfl <;> decide
  have HSg : Hid (opSign num = (str (opSign num)).data.toList) := by show _ = _; simp [str]
  have hcA : ∀ w', Below w0.heap.size w0 w' → Calls Tryd.prog 27 #[.agg #[.int .i64 ka, .string xa, .int .i64 na, .slice aa ma ca], .int .i64 (max (opBind num) 1)] w' fun e w'' => e = .returned (.string (str (jx (atT (bindN x) (max (opBind num) 1) (shT x))))) ∧ Below w'.heap.size w' w'' := fun w' h => at_any x hx ex (max (opBind num) 1) w' _ h Ha.out (by omega)
  have bA : (jx (atT (bindN x) (max (opBind num) 1) (shT x))).length ≤ 9200000000004 := by rw [jx_at _ _ _ ex]; split <;> (try simp only [List.length_append, List.length_cons, List.length_nil]) <;> omega
  have hcB : ∀ w', Below w0.heap.size w0 w' → Calls Tryd.prog 27 #[.agg #[.int .i64 kd, .string xd, .int .i64 nd, .slice ad md cd], .int .i64 (opBind num + 1)] w' fun e w'' => e = .returned (.string (str (jx (atT (bindN y) (opBind num + 1) (shT y))))) ∧ Below w'.heap.size w' w'' := fun w' h => at_any y hy ey (opBind num + 1) w' _ h Hd.out (by omega)
  have bB : (jx (atT (bindN y) (opBind num + 1) (shT y))).length ≤ 9200000000004 := by rw [jx_at _ _ _ ey]; split <;> (try simp only [List.length_append, List.length_cons, List.length_nil]) <;> omega
  have hB0 : Below w.heap.size w (w.alloc (.cells #[.int .i64 32, .string (str text), .int .i64 num, .slice (some ⟨ga, oa, none⟩) 2 kc] 24)) := (Below.refl _ _).alloc (Nat.le_refl _) _
  have hz0 : (w.alloc (.cells #[.int .i64 32, .string (str text), .int .i64 num, .slice (some ⟨ga, oa, none⟩) 2 kc] 24)).heap.size = w.heap.size + 1 := by simp
  have hN0 := heap_new w #[.int .i64 32, .string (str text), .int .i64 num, .slice (some ⟨ga, oa, none⟩) 2 kc] 24
  have hbW := hb.trans (hB0.mono hb.size)
  have hsA : (str (jx (atT (bindN x) (max (opBind num) 1) (shT x)))).size ≤ 9300000000000 := by show (jx (atT (bindN x) (max (opBind num) 1) (shT x))).length ≤ _; omega
  generalize hgA : str (jx (atT (bindN x) (max (opBind num) 1) (shT x))) = sA at *
  have HGA := hide hgA
  clear hgA
  have hsB : (str (jx (atT (bindN y) (opBind num + 1) (shT y)))).size ≤ 9300000000000 := by show (jx (atT (bindN y) (opBind num + 1) (shT y))).length ≤ _; omega
  generalize hgB : str (jx (atT (bindN y) (opBind num + 1) (shT y))) = sB at *
  have HGB := hide hgB
  clear hgB
  have HE : Hid (sA ++ (⟨#[32]⟩ : ByteArray) ++ str (opSign num) ++ (⟨#[32]⟩ : ByteArray) ++ sB = str (jx (shT (.mk 32 text num [x, y])))) := by
    show _ = _
    rw [sh_op, jx_app (at_ne ex) (by simp), jx_cons (at_ne ey), ← HGA.out, ← HGB.out]
    apply ByteArray.ext
    apply Array.toList_inj.1
    simp [str, raw_sg]
  clear hb hR hx hy ht hop HSg
  generalize str (opSign num) = os at *
  generalize opBind num = ob at *
  have hwr : IntKind.i64.wrap (ob + 1) = ob + 1 := by rw [IntKind.wrap_i64]; omega
  go_enter Tryd.func10, Tryd.ntmps10
  go_wp2_with fail
  generalize w.alloc (.cells #[.int .i64 32, .string (str text), .int .i64 num, .slice (some ⟨ga, oa, none⟩) 2 kc] 24) = W at *
  have HW : Hid (∀ w', Below W.heap.size W w' → Below w.heap.size w w' ∧ Below w0.heap.size w0 w') := fun w' hw => ⟨hB0.trans (hw.mono (by omega)), hbW.trans (hw.mono hbW.size)⟩
  have HNW : Hid (∀ w', Below W.heap.size W w' → ∀ oo, w'.cell? ⟨w.heap.size, oo, none⟩ = (#[Value.int .i64 32, .string (str text), .int .i64 num, .slice (some ⟨ga, oa, none⟩) 2 kc])[oo]?) := fun w' hw => cells_at ((hw.block w.heap.size (by omega)).trans hN0)
  clear hB0 hz0 hN0 hbW
  have HSd : Hid (∀ w', Below W.heap.size W w' → (fun w' => (∀ oo, w'.cell? ⟨w.heap.size, oo, none⟩ = (#[Value.int .i64 32, .string (str text), .int .i64 num, .slice (some ⟨ga, oa, none⟩) 2 kc])[oo]?) ∧ w'.cell? ⟨ga, oa, none⟩ = some (.int .i64 ka) ∧ w'.cell? ⟨ga, oa + 1, none⟩ = some (.string xa) ∧ w'.cell? ⟨ga, oa + 2, none⟩ = some (.int .i64 na) ∧ w'.cell? ⟨ga, oa + 3, none⟩ = some (.slice aa ma ca) ∧ w'.cell? ⟨ga, oa + 4, none⟩ = some (.int .i64 kd) ∧ w'.cell? ⟨ga, oa + 4 + 1, none⟩ = some (.string xd) ∧ w'.cell? ⟨ga, oa + 4 + 2, none⟩ = some (.int .i64 nd) ∧ w'.cell? ⟨ga, oa + 4 + 3, none⟩ = some (.slice ad md cd)) w') := fun w' hw => ⟨HNW.out w' hw, below_cell (HW.out w' hw).2 Ha0.out, below_cell (HW.out w' hw).2 Ha1.out, below_cell (HW.out w' hw).2 Ha2.out, below_cell (HW.out w' hw).2 Ha3.out, below_cell (HW.out w' hw).2 Hd0.out, below_cell (HW.out w' hw).2 Hd1.out, below_cell (HW.out w' hw).2 Hd2.out, below_cell (HW.out w' hw).2 Hd3.out⟩
  go_at_call 28
  refine (hbi _).mono ?_
  rintro e wb ⟨rfl, hbb⟩
  have HBb := hide hbb
  have hNb := HNW.out wb hbb
  clear hbb hbi
  go_wp2_with fail
  refine wp_region_held_drew (S := (fun w' => (∀ oo, w'.cell? ⟨w.heap.size, oo, none⟩ = (#[Value.int .i64 32, .string (str text), .int .i64 num, .slice (some ⟨ga, oa, none⟩) 2 kc])[oo]?) ∧ w'.cell? ⟨ga, oa, none⟩ = some (.int .i64 ka) ∧ w'.cell? ⟨ga, oa + 1, none⟩ = some (.string xa) ∧ w'.cell? ⟨ga, oa + 2, none⟩ = some (.int .i64 na) ∧ w'.cell? ⟨ga, oa + 3, none⟩ = some (.slice aa ma ca) ∧ w'.cell? ⟨ga, oa + 4, none⟩ = some (.int .i64 kd) ∧ w'.cell? ⟨ga, oa + 4 + 1, none⟩ = some (.string xd) ∧ w'.cell? ⟨ga, oa + 4 + 2, none⟩ = some (.int .i64 nd) ∧ w'.cell? ⟨ga, oa + 4 + 3, none⟩ = some (.slice ad md cd))) (by kernel_rfl) (HSd.out _ (HBb.out.drew)) (fun hHeld => ?_)
  have HB0 : Hid (Below W.heap.size W wb.drew) := (HBb.out.drew)
  refine wpAnyH_take (i := 0) (v := ?_) rfl (by kernel_rfl) (by kernel_rfl) (by kernel_rfl) (fun _ _ _ h => h) (Or.inl ⟨by rfl, ?_⟩) (by assumption) ?_
  rotate_left
  · (intro w hSw; (try dsimp only at hSw); go_simp) <;> with_reducible rfl
  (simp only [Act.put, List.getElem_toArray, List.getElem_cons_zero, List.getElem_cons_succ, List.setIfInBounds_toArray, List.set_cons_zero, List.set_cons_succ])
  refine wpAnyH_take (i := 1) (v := ?_) rfl (by kernel_rfl) (by kernel_rfl) (by kernel_rfl) (fun _ _ _ h => h) (Or.inl ⟨by rfl, ?_⟩) (by assumption) ?_
  rotate_left
  · (intro w hSw; (try dsimp only at hSw); go_simp) <;> with_reducible rfl
  (simp only [Act.put, List.getElem_toArray, List.getElem_cons_zero, List.getElem_cons_succ, List.setIfInBounds_toArray, List.set_cons_zero, List.set_cons_succ])
  refine wpAnyH_take (i := 2) (v := ?_) rfl (by kernel_rfl) (by kernel_rfl) (by kernel_rfl) (fun _ _ _ h => h) (Or.inl ⟨by rfl, ?_⟩) (by assumption) ?_
  rotate_left
  · (intro w hSw; (try dsimp only at hSw); go_simp) <;> with_reducible rfl
  (simp only [Act.put, List.getElem_toArray, List.getElem_cons_zero, List.getElem_cons_succ, List.setIfInBounds_toArray, List.set_cons_zero, List.set_cons_succ])
  refine wpAnyH_take (i := 3) (v := ?_) rfl (by kernel_rfl) (by kernel_rfl) (by kernel_rfl) (fun _ _ _ h => h) (Or.inl ⟨by rfl, ?_⟩) (by assumption) ?_
  rotate_left
  · (intro w hSw; (try dsimp only at hSw); go_simp) <;> with_reducible rfl
  (simp only [Act.put, List.getElem_toArray, List.getElem_cons_zero, List.getElem_cons_succ, List.setIfInBounds_toArray, List.set_cons_zero, List.set_cons_succ])
  refine wpAnyH_take (i := 4) (v := ?_) rfl (by kernel_rfl) (by kernel_rfl) (by kernel_rfl) (fun _ _ _ h => h) (Or.inl ⟨by rfl, ?_⟩) (by assumption) ?_
  rotate_left
  · (intro w hSw; (try dsimp only at hSw); go_simp) <;> with_reducible rfl
  (simp only [Act.put, List.getElem_toArray, List.getElem_cons_zero, List.getElem_cons_succ, List.setIfInBounds_toArray, List.set_cons_zero, List.set_cons_succ])
  refine wpAnyH_take (i := 5) (v := ?_) rfl (by kernel_rfl) (by kernel_rfl) (by kernel_rfl) (fun _ _ _ h => h) (Or.inl ⟨by rfl, ?_⟩) (by assumption) ?_
  rotate_left
  · (intro w hSw; (try dsimp only at hSw); go_simp) <;> with_reducible rfl
  (simp only [Act.put, List.getElem_toArray, List.getElem_cons_zero, List.getElem_cons_succ, List.setIfInBounds_toArray, List.set_cons_zero, List.set_cons_succ])
  refine wpAnyH_take (i := 8) (v := ?_) rfl (by kernel_rfl) (by kernel_rfl) (by kernel_rfl) (fun _ _ _ h => h) (Or.inl ⟨by rfl, ?_⟩) (by assumption) ?_
  rotate_left
  · (intro w hSw; (try dsimp only at hSw); go_simp) <;> with_reducible rfl
  (simp only [Act.put, List.getElem_toArray, List.getElem_cons_zero, List.getElem_cons_succ, List.setIfInBounds_toArray, List.set_cons_zero, List.set_cons_succ])
  refine wpAnyH_take (i := 9) (v := ?_) rfl (by kernel_rfl) (by kernel_rfl) (by kernel_rfl) (fun _ _ _ h => h) (Or.inl ⟨by rfl, ?_⟩) (by assumption) ?_
  rotate_left
  · (intro w hSw; (try dsimp only at hSw); go_simp) <;> with_reducible rfl
  (simp only [Act.put, List.getElem_toArray, List.getElem_cons_zero, List.getElem_cons_succ, List.setIfInBounds_toArray, List.set_cons_zero, List.set_cons_succ])
  refine wpAnyH_take (i := 13) (v := ?_) rfl (by kernel_rfl) (by kernel_rfl) (by kernel_rfl) (fun _ _ _ h => h) (Or.inl ⟨by rfl, ?_⟩) (by assumption) ?_
  rotate_left
  · (intro w hSw; (try dsimp only at hSw); go_simp) <;> with_reducible rfl
  (simp only [Act.put, List.getElem_toArray, List.getElem_cons_zero, List.getElem_cons_succ, List.setIfInBounds_toArray, List.set_cons_zero, List.set_cons_succ])
  refine wpAnyH_take (i := 14) (v := ?_) rfl (by kernel_rfl) (by kernel_rfl) (by kernel_rfl) (fun _ _ _ h => h) (Or.inl ⟨by rfl, ?_⟩) (by assumption) ?_
  rotate_left
  · (intro w hSw; (try dsimp only at hSw); go_simp) <;> with_reducible rfl
  (simp only [Act.put, List.getElem_toArray, List.getElem_cons_zero, List.getElem_cons_succ, List.setIfInBounds_toArray, List.set_cons_zero, List.set_cons_succ])
  refine wpAnyH_take (i := 15) (v := ?_) rfl (by kernel_rfl) (by kernel_rfl) (by kernel_rfl) (fun _ _ _ h => h) (Or.inl ⟨by rfl, ?_⟩) (by assumption) ?_
  rotate_left
  · (intro w hSw; (try dsimp only at hSw); go_simp) <;> with_reducible rfl
  (simp only [Act.put, List.getElem_toArray, List.getElem_cons_zero, List.getElem_cons_succ, List.setIfInBounds_toArray, List.set_cons_zero, List.set_cons_succ])
  refine wpAnyH_take (i := 16) (v := ?_) rfl (by kernel_rfl) (by kernel_rfl) (by kernel_rfl) (fun _ _ _ h => h) (Or.inl ⟨by rfl, ?_⟩) (by assumption) ?_
  rotate_left
  · (intro w hSw; (try dsimp only at hSw); go_simp) <;> with_reducible rfl
  (simp only [Act.put, List.getElem_toArray, List.getElem_cons_zero, List.getElem_cons_succ, List.setIfInBounds_toArray, List.set_cons_zero, List.set_cons_succ])
  refine wpAnyH_take (i := 17) (v := ?_) rfl (by kernel_rfl) (by kernel_rfl) (by kernel_rfl) (fun _ _ _ h => h) (Or.inl ⟨by rfl, ?_⟩) (by assumption) ?_
  rotate_left
  · (intro w hSw; (try dsimp only at hSw); go_simp) <;> with_reducible rfl
  (simp only [Act.put, List.getElem_toArray, List.getElem_cons_zero, List.getElem_cons_succ, List.setIfInBounds_toArray, List.set_cons_zero, List.set_cons_succ])
  refine wpAnyH_take (i := 18) (v := ?_) rfl (by kernel_rfl) (by kernel_rfl) (by kernel_rfl) (fun _ _ _ h => h) (Or.inl ⟨by rfl, ?_⟩) (by assumption) ?_
  rotate_left
  · (intro w hSw; (try dsimp only at hSw); go_simp) <;> with_reducible rfl
  (simp only [Act.put, List.getElem_toArray, List.getElem_cons_zero, List.getElem_cons_succ, List.setIfInBounds_toArray, List.set_cons_zero, List.set_cons_succ])
  refine wpAnyH_ready (rs := [6]) (by kernel_rfl) (by simp) ?_
  refine AllReadyH.cons rfl (fun K hK => ?_) AllReadyH.nil
  go_simp
  refine (hcA _ (HW.out _ HB0.out).2).mono ?_
  rintro e w1 ⟨rfl, hb1⟩
  have HB1 : Hid (Below W.heap.size W w1) := HB0.out.trans (hb1.mono HB0.out.size)
  clear hb1
  refine hK.out _ _ (HSd.out _ HB1.out) (fun hHeld1 => ?_)
  clear hK K
  (try (simp only [Act.put, List.getElem_toArray, List.getElem_cons_zero, List.getElem_cons_succ, List.setIfInBounds_toArray, List.set_cons_zero, List.set_cons_succ]))
  refine wpAnyH_take (i := 7) (v := ?_) rfl (by kernel_rfl) (by kernel_rfl) (by kernel_rfl) (fun _ _ _ h => h) (Or.inl ⟨by rfl, ?_⟩) (by assumption) ?_
  rotate_left
  · (intro w hSw; (try dsimp only at hSw); go_simp; rw [if_neg (by omega)]) <;> with_reducible rfl
  (simp only [Act.put, List.getElem_toArray, List.getElem_cons_zero, List.getElem_cons_succ, List.setIfInBounds_toArray, List.set_cons_zero, List.set_cons_succ])
  refine wpAnyH_ready (rs := [10]) (by kernel_rfl) (by simp) ?_
  refine AllReadyH.cons rfl (fun K hK => ?_) AllReadyH.nil
  go_simp
  refine (hsg _).mono ?_
  rintro e w2 ⟨rfl, hb2⟩
  have HB2 : Hid (Below W.heap.size W w2) := HB1.out.trans (hb2.mono HB1.out.size)
  clear hb2
  refine hK.out _ _ (HSd.out _ HB2.out) (fun hHeld2 => ?_)
  clear hK K
  (try (simp only [Act.put, List.getElem_toArray, List.getElem_cons_zero, List.getElem_cons_succ, List.setIfInBounds_toArray, List.set_cons_zero, List.set_cons_succ]))
  refine wpAnyH_take (i := 11) (v := ?_) rfl (by kernel_rfl) (by kernel_rfl) (by kernel_rfl) (fun _ _ _ h => h) (Or.inl ⟨by rfl, ?_⟩) (by assumption) ?_
  rotate_left
  · (intro w hSw; (try dsimp only at hSw); go_simp; rw [if_neg (by omega)]) <;> with_reducible rfl
  (simp only [Act.put, List.getElem_toArray, List.getElem_cons_zero, List.getElem_cons_succ, List.setIfInBounds_toArray, List.set_cons_zero, List.set_cons_succ])
  refine wpAnyH_take (i := 12) (v := ?_) rfl (by kernel_rfl) (by kernel_rfl) (by kernel_rfl) (fun _ _ _ h => h) (Or.inl ⟨by rfl, ?_⟩) (by assumption) ?_
  rotate_left
  · (intro w hSw; (try dsimp only at hSw); go_simp; rw [if_neg (by omega)]) <;> with_reducible rfl
  (simp only [Act.put, List.getElem_toArray, List.getElem_cons_zero, List.getElem_cons_succ, List.setIfInBounds_toArray, List.set_cons_zero, List.set_cons_succ])
  refine wpAnyH_ready (rs := [19]) (by kernel_rfl) (by simp) ?_
  refine AllReadyH.cons rfl (fun K hK => ?_) AllReadyH.nil
  go_simp
  refine (hcB _ (HW.out _ HB2.out).2).mono ?_
  rintro e w3 ⟨rfl, hb3⟩
  have HB3 : Hid (Below W.heap.size W w3) := HB2.out.trans (hb3.mono HB2.out.size)
  clear hb3
  refine hK.out _ _ (HSd.out _ HB3.out) (fun hHeld3 => ?_)
  clear hK K
  (try (simp only [Act.put, List.getElem_toArray, List.getElem_cons_zero, List.getElem_cons_succ, List.setIfInBounds_toArray, List.set_cons_zero, List.set_cons_succ]))
  refine wpAnyH_take (i := 20) (v := ?_) rfl (by kernel_rfl) (by kernel_rfl) (by kernel_rfl) (fun _ _ _ h => h) (Or.inl ⟨by rfl, ?_⟩) (by assumption) ?_
  rotate_left
  · (intro w hSw; (try dsimp only at hSw); go_simp; rw [if_neg (by omega)]) <;> with_reducible rfl
  (simp only [Act.put, List.getElem_toArray, List.getElem_cons_zero, List.getElem_cons_succ, List.setIfInBounds_toArray, List.set_cons_zero, List.set_cons_succ])
  refine wpAnyH_take (i := 21) (v := ?_) rfl (by kernel_rfl) (by kernel_rfl) (by kernel_rfl) (fun _ _ _ h => h) (Or.inl ⟨by rfl, ?_⟩) (by assumption) ?_
  rotate_left
  · (intro w hSw; (try dsimp only at hSw); go_simp) <;> with_reducible rfl
  (simp only [Act.put, List.getElem_toArray, List.getElem_cons_zero, List.getElem_cons_succ, List.setIfInBounds_toArray, List.set_cons_zero, List.set_cons_succ])
  refine wpAnyH_done (by kernel_rfl) ?_ _
  go_wp2_with fail
  go_ret
  exact ⟨by rw [← HE.out]; rfl, (HW.out _ HB3.out).1⟩
set_option maxRecDepth 100000 in
set_option maxHeartbeats 4000000 in
theorem show_k2 {w0 : World} (text : List UInt8) (num : Int) (l : List Nd) (ht : text.length ≤ 16) (hl : ∀ y, y ∈ l → ShN w0 y) (el : ∀ y, y ∈ l → shT y ≠ []) (hl7 : l.length ≤ 700) (bj : (Lib.join (l.map fun x => jx (shT x)) [32]).length ≤ 9200000000000) (hne : l ≠ []) : ShN w0 (.mk 2 text num l) := by
  intro w v hb hv
  obtain ⟨ka, kc, rfl, t1, n1, n2, l1, l2, hR⟩ := hv.part
  have htx : (str text).size ≤ 16 := ht
  clear hv
  have hmm : (l.map shT).map jx = l.map fun x => jx (shT x) := by rw [List.map_map]; rfl
  have hnn : ∀ t, t ∈ l.map shT → t ≠ [] := fun t ht => by obtain ⟨x, hx, rfl⟩ := List.mem_map.1 ht; exact el x hx
  have HSd2 : Hid (∀ w', Below w0.heap.size w0 w' → Calls Tryd.prog 24 #[.slice ka l.length kc] w' fun e w'' => (∃ v, e = .returned v ∧ w''.ownsRow w'.heap.size 9 1 v l.length (strs (l.map fun x => jx (shT x)))) ∧ Below w'.heap.size w' w'') := fun w' h => shown_any l hl w' h ka kc hR hl7
  have HJn : Hid (∀ w' ob v, w'.ownsRow ob 9 1 v l.length (strs (l.map fun x => jx (shT x))) → Calls Tryd.prog 23 #[v, .string ⟨#[32]⟩] w' fun e w'' => e = .returned (.string (str (Lib.join (l.map fun x => jx (shT x)) [32]))) ∧ w'' = w') := fun w' ob v h => joined_any (l.map fun x => jx (shT x)) ob v [32] w' (by rw [List.length_map]; exact h) (by rw [List.length_map]; omega) (by omega) (by simp)
  have hfn : (l.map shT).flatten ≠ [] := by
    cases l with
    | nil => exact absurd rfl hne
    | cons y r => simp [el y (by simp)]
  have hB0 : Below w.heap.size w (w.alloc (.cells #[.int .i64 2, .string (str text), .int .i64 num, .slice ka l.length kc] 24)) := (Below.refl _ _).alloc (Nat.le_refl _) _
  have hz0 : (w.alloc (.cells #[.int .i64 2, .string (str text), .int .i64 num, .slice ka l.length kc] 24)).heap.size = w.heap.size + 1 := by simp
  have hN0 := heap_new w #[.int .i64 2, .string (str text), .int .i64 num, .slice ka l.length kc] 24
  have hbW := hb.trans (hB0.mono hb.size)
  have hsj : (str (Lib.join (l.map fun x => jx (shT x)) [32])).size ≤ 9300000000000 := by show (Lib.join (l.map fun x => jx (shT x)) [32]).length ≤ _; omega
  generalize hgj : str (Lib.join (l.map fun x => jx (shT x)) [32]) = sj at *
  have HGj := hide hgj
  clear hgj
  have HE : Hid ((⟨#[115, 116, 114, 117, 99, 116, 32]⟩ : ByteArray) ++ str text ++ (⟨#[32, 123, 32]⟩ : ByteArray) ++ sj ++ (⟨#[32, 125]⟩ : ByteArray) = str (jx (shT (.mk 2 text num l)))) := by
    show _ = _
    rw [sh_d2, jx_app (by simp) (by simp), jx_app (by simp) hfn, jx_flat _ hnn, hmm, jx_cons (by simp), jx_cons (by simp), jx_one, jx_one]
    rw [← HGj.out]
    apply ByteArray.ext
    apply Array.toList_inj.1
    simp [str, raw_wd, raw_sg]
  clear hb hR hl el ht hmm hnn hne hfn
  go_enter Tryd.func10, Tryd.ntmps10
  go_wp2_with fail
  generalize w.alloc (.cells #[.int .i64 2, .string (str text), .int .i64 num, .slice ka l.length kc] 24) = W at *
  have HW : Hid (∀ w', Below W.heap.size W w' → Below w.heap.size w w' ∧ Below w0.heap.size w0 w') := fun w' hw => ⟨hB0.trans (hw.mono (by omega)), hbW.trans (hw.mono hbW.size)⟩
  have HNW : Hid (∀ w', Below W.heap.size W w' → ∀ oo, w'.cell? ⟨w.heap.size, oo, none⟩ = (#[Value.int .i64 2, .string (str text), .int .i64 num, .slice ka l.length kc])[oo]?) := fun w' hw => cells_at ((hw.block w.heap.size (by omega)).trans hN0)
  clear hB0 hz0 hN0 hbW
  have HSd : Hid (∀ w', Below W.heap.size W w' → (fun w' => (∀ oo, w'.cell? ⟨w.heap.size, oo, none⟩ = (#[Value.int .i64 2, .string (str text), .int .i64 num, .slice ka l.length kc])[oo]?)) w') := fun w' hw => HNW.out w' hw
  refine wp_region_held_drew (S := (fun w' => (∀ oo, w'.cell? ⟨w.heap.size, oo, none⟩ = (#[Value.int .i64 2, .string (str text), .int .i64 num, .slice ka l.length kc])[oo]?))) (by kernel_rfl) (HSd.out _ ((Below.refl _ _).drew)) (fun hHeld => ?_)
  have HB0 : Hid (Below W.heap.size W W.drew) := (Below.refl _ _).drew
  refine wpAnyH_take (i := 0) (v := ?_) rfl (by kernel_rfl) (by kernel_rfl) (by kernel_rfl) (fun _ _ _ h => h) (Or.inl ⟨by rfl, ?_⟩) (by assumption) ?_
  rotate_left
  · (intro w hSw; (try dsimp only at hSw); go_simp) <;> with_reducible rfl
  (simp only [Act.put, List.getElem_toArray, List.getElem_cons_zero, List.getElem_cons_succ, List.setIfInBounds_toArray, List.set_cons_zero, List.set_cons_succ])
  refine wpAnyH_take (i := 1) (v := ?_) rfl (by kernel_rfl) (by kernel_rfl) (by kernel_rfl) (fun _ _ _ h => h) (Or.inl ⟨by rfl, ?_⟩) (by assumption) ?_
  rotate_left
  · (intro w hSw; (try dsimp only at hSw); go_simp) <;> with_reducible rfl
  (simp only [Act.put, List.getElem_toArray, List.getElem_cons_zero, List.getElem_cons_succ, List.setIfInBounds_toArray, List.set_cons_zero, List.set_cons_succ])
  refine wpAnyH_take (i := 2) (v := ?_) rfl (by kernel_rfl) (by kernel_rfl) (by kernel_rfl) (fun _ _ _ h => h) (Or.inl ⟨by rfl, ?_⟩) (by assumption) ?_
  rotate_left
  · (intro w hSw; (try dsimp only at hSw); go_simp; rw [if_neg (by omega)]) <;> with_reducible rfl
  (simp only [Act.put, List.getElem_toArray, List.getElem_cons_zero, List.getElem_cons_succ, List.setIfInBounds_toArray, List.set_cons_zero, List.set_cons_succ])
  refine wpAnyH_take (i := 3) (v := ?_) rfl (by kernel_rfl) (by kernel_rfl) (by kernel_rfl) (fun _ _ _ h => h) (Or.inl ⟨by rfl, ?_⟩) (by assumption) ?_
  rotate_left
  · (intro w hSw; (try dsimp only at hSw); go_simp; rw [if_neg (by omega)]) <;> with_reducible rfl
  (simp only [Act.put, List.getElem_toArray, List.getElem_cons_zero, List.getElem_cons_succ, List.setIfInBounds_toArray, List.set_cons_zero, List.set_cons_succ])
  refine wpAnyH_take (i := 4) (v := ?_) rfl (by kernel_rfl) (by kernel_rfl) (by kernel_rfl) (fun _ _ _ h => h) (Or.inl ⟨by rfl, ?_⟩) (by assumption) ?_
  rotate_left
  · (intro w hSw; (try dsimp only at hSw); go_simp) <;> with_reducible rfl
  (simp only [Act.put, List.getElem_toArray, List.getElem_cons_zero, List.getElem_cons_succ, List.setIfInBounds_toArray, List.set_cons_zero, List.set_cons_succ])
  refine wpAnyH_take (i := 5) (v := ?_) rfl (by kernel_rfl) (by kernel_rfl) (by kernel_rfl) (fun _ _ _ h => h) (Or.inl ⟨by rfl, ?_⟩) (by assumption) ?_
  rotate_left
  · (intro w hSw; (try dsimp only at hSw); go_simp) <;> with_reducible rfl
  (simp only [Act.put, List.getElem_toArray, List.getElem_cons_zero, List.getElem_cons_succ, List.setIfInBounds_toArray, List.set_cons_zero, List.set_cons_succ])
  refine wpAnyH_ready (rs := [6]) (by kernel_rfl) (by simp) ?_
  refine AllReadyH.cons rfl (fun K hK => ?_) AllReadyH.nil
  go_simp
  refine (HSd2.out _ (HW.out _ HB0.out).2).mono ?_
  rintro e w1 ⟨⟨vr, rfl, hor⟩, hb1⟩
  have HB1 : Hid (Below W.heap.size W w1) := HB0.out.trans (hb1.mono HB0.out.size)
  clear hb1
  refine hK.out _ _ (HSd.out _ HB1.out) (fun hHeld1 => ?_)
  clear hK K
  (try (simp only [Act.put, List.getElem_toArray, List.getElem_cons_zero, List.getElem_cons_succ, List.setIfInBounds_toArray, List.set_cons_zero, List.set_cons_succ]))
  refine wpAnyH_ready (rs := [7]) (by kernel_rfl) (by simp) ?_
  refine AllReadyH.cons rfl (fun K hK => ?_) AllReadyH.nil
  go_simp
  refine (HJn.out _ _ _ hor).mono ?_
  rintro e w2 ⟨rfl, hw2⟩
  subst hw2
  have HB2 := HB1
  refine hK.out _ _ (HSd.out _ HB2.out) (fun hHeld2 => ?_)
  clear hK K
  (try (simp only [Act.put, List.getElem_toArray, List.getElem_cons_zero, List.getElem_cons_succ, List.setIfInBounds_toArray, List.set_cons_zero, List.set_cons_succ]))
  refine wpAnyH_take (i := 8) (v := ?_) rfl (by kernel_rfl) (by kernel_rfl) (by kernel_rfl) (fun _ _ _ h => h) (Or.inl ⟨by rfl, ?_⟩) (by assumption) ?_
  rotate_left
  · (intro w hSw; (try dsimp only at hSw); go_simp; rw [if_neg (by omega)]) <;> with_reducible rfl
  (simp only [Act.put, List.getElem_toArray, List.getElem_cons_zero, List.getElem_cons_succ, List.setIfInBounds_toArray, List.set_cons_zero, List.set_cons_succ])
  refine wpAnyH_take (i := 9) (v := ?_) rfl (by kernel_rfl) (by kernel_rfl) (by kernel_rfl) (fun _ _ _ h => h) (Or.inl ⟨by rfl, ?_⟩) (by assumption) ?_
  rotate_left
  · (intro w hSw; (try dsimp only at hSw); go_simp; rw [if_neg (by omega)]) <;> with_reducible rfl
  (simp only [Act.put, List.getElem_toArray, List.getElem_cons_zero, List.getElem_cons_succ, List.setIfInBounds_toArray, List.set_cons_zero, List.set_cons_succ])
  refine wpAnyH_take (i := 10) (v := ?_) rfl (by kernel_rfl) (by kernel_rfl) (by kernel_rfl) (fun _ _ _ h => h) (Or.inl ⟨by rfl, ?_⟩) (by assumption) ?_
  rotate_left
  · (intro w hSw; (try dsimp only at hSw); go_simp) <;> with_reducible rfl
  (simp only [Act.put, List.getElem_toArray, List.getElem_cons_zero, List.getElem_cons_succ, List.setIfInBounds_toArray, List.set_cons_zero, List.set_cons_succ])
  refine wpAnyH_done (by kernel_rfl) ?_ _
  go_wp2_with fail
  go_ret
  exact ⟨by rw [← HE.out]; rfl, (HW.out _ HB2.out).1⟩
set_option maxRecDepth 100000 in
set_option maxHeartbeats 4000000 in
theorem show_k27 {w0 : World} (text : List UInt8) (num : Int) (l : List Nd) (ht : text.length ≤ 16) (hl : ∀ y, y ∈ l → ShN w0 y) (el : ∀ y, y ∈ l → shT y ≠ []) (hl7 : l.length ≤ 700) (bj : (Lib.join (l.map fun x => jx (shT x)) [32, 44, 32]).length ≤ 9200000000000) : ShN w0 (.mk 27 text num l) := by
  intro w v hb hv
  obtain ⟨ka, kc, rfl, t1, n1, n2, l1, l2, hR⟩ := hv.part
  have htx : (str text).size ≤ 16 := ht
  clear hv
  by_cases hl0 : l = []
  · subst hl0
    have HB : Hid (Below w.heap.size w (w.alloc (.cells #[.int .i64 27, .string (str text), .int .i64 num, .slice ka 0 kc] 24))) := (Below.refl _ _).alloc (Nat.le_refl _) _
    have HE : Hid (str text ++ (⟨#[32, 123, 32, 125]⟩ : ByteArray) = str (jx (shT (.mk 27 text num [])))) := by
      show _ = _
      rw [sh_e27]
      apply ByteArray.ext
      apply Array.toList_inj.1
      simp [str, joinT, jx_cons, jx_one, raw_wd, raw_sg]
    clear hb hR hl el ht bj
    simp only [List.length_nil]
    go_enter Tryd.func10, Tryd.ntmps10
    go_wp2_with fail
    go_ret
    exact ⟨by rw [← HE.out]; rfl, HB.out⟩
  have hlp : 0 < l.length := List.length_pos_iff.2 hl0
  have hww : IntKind.i64.wrap ((l.length : Int) - 1) = (l.length : Int) - 1 := by rw [IntKind.wrap_i64]; omega
  have hlt : ¬ (l.length : Int) - 1 < 0 := by omega
  have hlt2 : ¬ (l.length : Int) < 1 := by omega
  have hmm : (l.map shT).map jx = l.map fun x => jx (shT x) := by rw [List.map_map]; rfl
  have hnn : ∀ t, t ∈ l.map shT → t ≠ [] := fun t ht => by obtain ⟨x, hx, rfl⟩ := List.mem_map.1 ht; exact el x hx
  have HSd2 : Hid (∀ w', Below w0.heap.size w0 w' → Calls Tryd.prog 24 #[.slice ka l.length kc] w' fun e w'' => (∃ v, e = .returned v ∧ w''.ownsRow w'.heap.size 9 1 v l.length (strs (l.map fun x => jx (shT x)))) ∧ Below w'.heap.size w' w'') := fun w' h => shown_any l hl w' h ka kc hR hl7
  have HJn : Hid (∀ w' ob v, w'.ownsRow ob 9 1 v l.length (strs (l.map fun x => jx (shT x))) → Calls Tryd.prog 23 #[v, .string ⟨#[32, 44, 32]⟩] w' fun e w'' => e = .returned (.string (str (Lib.join (l.map fun x => jx (shT x)) [32, 44, 32]))) ∧ w'' = w') := fun w' ob v h => joined_any (l.map fun x => jx (shT x)) ob v [32, 44, 32] w' (by rw [List.length_map]; exact h) (by rw [List.length_map]; omega) (by omega) (by simp)
  have hjn : joinT (l.map shT) ≠ [] := joinT_ne _ hnn (by simpa using hl0)
  have hB0 : Below w.heap.size w (w.alloc (.cells #[.int .i64 27, .string (str text), .int .i64 num, .slice ka l.length kc] 24)) := (Below.refl _ _).alloc (Nat.le_refl _) _
  have hz0 : (w.alloc (.cells #[.int .i64 27, .string (str text), .int .i64 num, .slice ka l.length kc] 24)).heap.size = w.heap.size + 1 := by simp
  have hN0 := heap_new w #[.int .i64 27, .string (str text), .int .i64 num, .slice ka l.length kc] 24
  have hbW := hb.trans (hB0.mono hb.size)
  have hsj : (str (Lib.join (l.map fun x => jx (shT x)) [32, 44, 32])).size ≤ 9300000000000 := by show (Lib.join (l.map fun x => jx (shT x)) [32, 44, 32]).length ≤ _; omega
  generalize hgj : str (Lib.join (l.map fun x => jx (shT x)) [32, 44, 32]) = sj at *
  have HGj := hide hgj
  clear hgj
  have HE : Hid (str text ++ (⟨#[32, 123, 32]⟩ : ByteArray) ++ sj ++ (⟨#[32, 125]⟩ : ByteArray) = str (jx (shT (.mk 27 text num l)))) := by
    show _ = _
    rw [sh_e27, jx_app (by simp) (by simp), jx_app (by simp) hjn, jx_join _ hnn, hmm, jx_cons (by simp), jx_one, jx_one]
    rw [← HGj.out]
    apply ByteArray.ext
    apply Array.toList_inj.1
    simp [str, raw_wd, raw_sg]
  clear hb hR hl el ht hmm hnn hjn hl0
  go_enter Tryd.func10, Tryd.ntmps10
  go_wp2_with fail
  generalize w.alloc (.cells #[.int .i64 27, .string (str text), .int .i64 num, .slice ka l.length kc] 24) = W at *
  have HW : Hid (∀ w', Below W.heap.size W w' → Below w.heap.size w w' ∧ Below w0.heap.size w0 w') := fun w' hw => ⟨hB0.trans (hw.mono (by omega)), hbW.trans (hw.mono hbW.size)⟩
  have HNW : Hid (∀ w', Below W.heap.size W w' → ∀ oo, w'.cell? ⟨w.heap.size, oo, none⟩ = (#[Value.int .i64 27, .string (str text), .int .i64 num, .slice ka l.length kc])[oo]?) := fun w' hw => cells_at ((hw.block w.heap.size (by omega)).trans hN0)
  clear hB0 hz0 hN0 hbW
  have HSd : Hid (∀ w', Below W.heap.size W w' → (fun w' => (∀ oo, w'.cell? ⟨w.heap.size, oo, none⟩ = (#[Value.int .i64 27, .string (str text), .int .i64 num, .slice ka l.length kc])[oo]?)) w') := fun w' hw => HNW.out w' hw
  refine wp_region_held_drew (S := (fun w' => (∀ oo, w'.cell? ⟨w.heap.size, oo, none⟩ = (#[Value.int .i64 27, .string (str text), .int .i64 num, .slice ka l.length kc])[oo]?))) (by kernel_rfl) (HSd.out _ ((Below.refl _ _).drew)) (fun hHeld => ?_)
  have HB0 : Hid (Below W.heap.size W W.drew) := (Below.refl _ _).drew
  refine wpAnyH_take (i := 0) (v := ?_) rfl (by kernel_rfl) (by kernel_rfl) (by kernel_rfl) (fun _ _ _ h => h) (Or.inl ⟨by rfl, ?_⟩) (by assumption) ?_
  rotate_left
  · (intro w hSw; (try dsimp only at hSw); go_simp) <;> with_reducible rfl
  (simp only [Act.put, List.getElem_toArray, List.getElem_cons_zero, List.getElem_cons_succ, List.setIfInBounds_toArray, List.set_cons_zero, List.set_cons_succ])
  refine wpAnyH_take (i := 1) (v := ?_) rfl (by kernel_rfl) (by kernel_rfl) (by kernel_rfl) (fun _ _ _ h => h) (Or.inl ⟨by rfl, ?_⟩) (by assumption) ?_
  rotate_left
  · (intro w hSw; (try dsimp only at hSw); go_simp) <;> with_reducible rfl
  (simp only [Act.put, List.getElem_toArray, List.getElem_cons_zero, List.getElem_cons_succ, List.setIfInBounds_toArray, List.set_cons_zero, List.set_cons_succ])
  refine wpAnyH_take (i := 2) (v := ?_) rfl (by kernel_rfl) (by kernel_rfl) (by kernel_rfl) (fun _ _ _ h => h) (Or.inl ⟨by rfl, ?_⟩) (by assumption) ?_
  rotate_left
  · (intro w hSw; (try dsimp only at hSw); go_simp; rw [if_neg (by omega)]) <;> with_reducible rfl
  (simp only [Act.put, List.getElem_toArray, List.getElem_cons_zero, List.getElem_cons_succ, List.setIfInBounds_toArray, List.set_cons_zero, List.set_cons_succ])
  refine wpAnyH_take (i := 3) (v := ?_) rfl (by kernel_rfl) (by kernel_rfl) (by kernel_rfl) (fun _ _ _ h => h) (Or.inl ⟨by rfl, ?_⟩) (by assumption) ?_
  rotate_left
  · (intro w hSw; (try dsimp only at hSw); go_simp) <;> with_reducible rfl
  (simp only [Act.put, List.getElem_toArray, List.getElem_cons_zero, List.getElem_cons_succ, List.setIfInBounds_toArray, List.set_cons_zero, List.set_cons_succ])
  refine wpAnyH_take (i := 4) (v := ?_) rfl (by kernel_rfl) (by kernel_rfl) (by kernel_rfl) (fun _ _ _ h => h) (Or.inl ⟨by rfl, ?_⟩) (by assumption) ?_
  rotate_left
  · (intro w hSw; (try dsimp only at hSw); go_simp) <;> with_reducible rfl
  (simp only [Act.put, List.getElem_toArray, List.getElem_cons_zero, List.getElem_cons_succ, List.setIfInBounds_toArray, List.set_cons_zero, List.set_cons_succ])
  refine wpAnyH_ready (rs := [5]) (by kernel_rfl) (by simp) ?_
  refine AllReadyH.cons rfl (fun K hK => ?_) AllReadyH.nil
  go_simp
  refine (HSd2.out _ (HW.out _ HB0.out).2).mono ?_
  rintro e w1 ⟨⟨vr, rfl, hor⟩, hb1⟩
  have HB1 : Hid (Below W.heap.size W w1) := HB0.out.trans (hb1.mono HB0.out.size)
  clear hb1
  refine hK.out _ _ (HSd.out _ HB1.out) (fun hHeld1 => ?_)
  clear hK K
  (try (simp only [Act.put, List.getElem_toArray, List.getElem_cons_zero, List.getElem_cons_succ, List.setIfInBounds_toArray, List.set_cons_zero, List.set_cons_succ]))
  refine wpAnyH_ready (rs := [6]) (by kernel_rfl) (by simp) ?_
  refine AllReadyH.cons rfl (fun K hK => ?_) AllReadyH.nil
  go_simp
  refine (HJn.out _ _ _ hor).mono ?_
  rintro e w2 ⟨rfl, hw2⟩
  subst hw2
  have HB2 := HB1
  refine hK.out _ _ (HSd.out _ HB2.out) (fun hHeld2 => ?_)
  clear hK K
  (try (simp only [Act.put, List.getElem_toArray, List.getElem_cons_zero, List.getElem_cons_succ, List.setIfInBounds_toArray, List.set_cons_zero, List.set_cons_succ]))
  refine wpAnyH_take (i := 7) (v := ?_) rfl (by kernel_rfl) (by kernel_rfl) (by kernel_rfl) (fun _ _ _ h => h) (Or.inl ⟨by rfl, ?_⟩) (by assumption) ?_
  rotate_left
  · (intro w hSw; (try dsimp only at hSw); go_simp; rw [if_neg (by omega)]) <;> with_reducible rfl
  (simp only [Act.put, List.getElem_toArray, List.getElem_cons_zero, List.getElem_cons_succ, List.setIfInBounds_toArray, List.set_cons_zero, List.set_cons_succ])
  refine wpAnyH_take (i := 8) (v := ?_) rfl (by kernel_rfl) (by kernel_rfl) (by kernel_rfl) (fun _ _ _ h => h) (Or.inl ⟨by rfl, ?_⟩) (by assumption) ?_
  rotate_left
  · (intro w hSw; (try dsimp only at hSw); go_simp; rw [if_neg (by omega)]) <;> with_reducible rfl
  (simp only [Act.put, List.getElem_toArray, List.getElem_cons_zero, List.getElem_cons_succ, List.setIfInBounds_toArray, List.set_cons_zero, List.set_cons_succ])
  refine wpAnyH_take (i := 9) (v := ?_) rfl (by kernel_rfl) (by kernel_rfl) (by kernel_rfl) (fun _ _ _ h => h) (Or.inl ⟨by rfl, ?_⟩) (by assumption) ?_
  rotate_left
  · (intro w hSw; (try dsimp only at hSw); go_simp) <;> with_reducible rfl
  (simp only [Act.put, List.getElem_toArray, List.getElem_cons_zero, List.getElem_cons_succ, List.setIfInBounds_toArray, List.set_cons_zero, List.set_cons_succ])
  refine wpAnyH_done (by kernel_rfl) ?_ _
  go_wp2_with fail
  go_ret
  exact ⟨by rw [← HE.out]; rfl, (HW.out _ HB2.out).1⟩
end Go.Proofs.YthcfianhdkolhaaDoor.T
