/- The contract of the reference's Show: by kinds. -/
import Derived.Test.YthcfianhdkolhaaDoorRfL
import Derived.Test.YthcfianhdkolhaaDoorRfK
namespace Go.Proofs.YthcfianhdkolhaaDoor.T
open Go.RowKit Go.Proofs.YthcfianhdkolhaaDoor.S
set_option linter.unusedVariables false
set_option linter.unusedSimpArgs false
set_option maxRecDepth 100000 in
set_option maxHeartbeats 4000000 in
theorem show_k14 {w0 : World} (text : List UInt8) (num : Int) (x y : Nd) (ht : text.length ≤ 16) (hx : ShN w0 x) (ex : shT x ≠ []) (bdx : (jx (shT x)).length ≤ 9200000000000) (hy : ShN w0 y) (ey : shT y ≠ []) (bdy : (jx (shT y)).length ≤ 9200000000000) : ShN w0 (.mk 14 text num [x, y]) := by
  intro w v hb hv
  obtain ⟨ka, kc, rfl, t1, n1, n2, l1, l2, hR⟩ := hv.part
  have htx : (str text).size ≤ 16 := ht
  clear hv
  obtain ⟨ga, oa, ka, xa, na, aa, ma, ca, hkaa, hga, qa0, qa1, qa2, qa3, hnda⟩ := hR.kid0
  have Ha := hide hnda
  have Ha0 := hide qa0
  have Ha1 := hide qa1
  have Ha2 := hide qa2
  have Ha3 := hide qa3
  clear qa0 qa1 qa2 qa3 hnda hga
  subst hkaa
  obtain ⟨kd, xd, nd, ad, md, cd, qd0, qd1, qd2, qd3, hndd⟩ := hR.kid1
  have Hd := hide hndd
  have Hd0 := hide qd0
  have Hd1 := hide qd1
  have Hd2 := hide qd2
  have Hd3 := hide qd3
  clear qd0 qd1 qd2 qd3 hndd
  have hca : ∀ w', Below w0.heap.size w0 w' → Calls Tryd.prog 10 #[.agg #[.int .i64 ka, .string xa, .int .i64 na, .slice aa ma ca]] w' fun e w'' => e = .returned (.string (str (jx (shT x)))) ∧ Below w'.heap.size w' w'' := fun w' h => hx w' _ h Ha.out
  have hcd : ∀ w', Below w0.heap.size w0 w' → Calls Tryd.prog 10 #[.agg #[.int .i64 kd, .string xd, .int .i64 nd, .slice ad md cd]] w' fun e w'' => e = .returned (.string (str (jx (shT y)))) ∧ Below w'.heap.size w' w'' := fun w' h => hy w' _ h Hd.out
  have hB0 : Below w.heap.size w (w.alloc (.cells #[.int .i64 14, .string (str text), .int .i64 num, .slice (some ⟨ga, oa, none⟩) 2 kc] 24)) := (Below.refl _ _).alloc (Nat.le_refl _) _
  have hz0 : (w.alloc (.cells #[.int .i64 14, .string (str text), .int .i64 num, .slice (some ⟨ga, oa, none⟩) 2 kc] 24)).heap.size = w.heap.size + 1 := by simp
  have hN0 := heap_new w #[.int .i64 14, .string (str text), .int .i64 num, .slice (some ⟨ga, oa, none⟩) 2 kc] 24
  have hbW := hb.trans (hB0.mono hb.size)
  have hsx : (str (jx (shT x))).size ≤ 9300000000000 := by show (jx (shT x)).length ≤ _; omega
  generalize hgx : str (jx (shT x)) = sx at *
  have HGx := hide hgx
  clear hgx
  have hsy : (str (jx (shT y))).size ≤ 9300000000000 := by show (jx (shT y)).length ≤ _; omega
  generalize hgy : str (jx (shT y)) = sy at *
  have HGy := hide hgy
  clear hgy
  have HE : Hid (sx ++ (⟨#[32]⟩ : ByteArray) ++ str text ++ (⟨#[32, 61, 32]⟩ : ByteArray) ++ sy ++ (⟨#[32, 59]⟩ : ByteArray) = str (jx (shT (.mk 14 text num [x, y])))) := by
    show _ = _
    rw [sh_s14, jx_app (by simp) (by simp), jx_app (by simp) ey, jx_app (by simp) (by simp), jx_app ex (by simp), jx_one, jx_one, jx_one]
    rw [← HGx.out, ← HGy.out]
    apply ByteArray.ext
    apply Array.toList_inj.1
    simp [str, raw_wd, raw_sg]
  clear hb hR hx hy ht
  go_enter Tryd.func10, Tryd.ntmps10
  go_wp2_with fail
  generalize w.alloc (.cells #[.int .i64 14, .string (str text), .int .i64 num, .slice (some ⟨ga, oa, none⟩) 2 kc] 24) = W at *
  have HW : Hid (∀ w', Below W.heap.size W w' → Below w.heap.size w w' ∧ Below w0.heap.size w0 w') := fun w' hw => ⟨hB0.trans (hw.mono (by omega)), hbW.trans (hw.mono hbW.size)⟩
  have HNW : Hid (∀ w', Below W.heap.size W w' → ∀ oo, w'.cell? ⟨w.heap.size, oo, none⟩ = (#[Value.int .i64 14, .string (str text), .int .i64 num, .slice (some ⟨ga, oa, none⟩) 2 kc])[oo]?) := fun w' hw => cells_at ((hw.block w.heap.size (by omega)).trans hN0)
  clear hB0 hz0 hN0 hbW
  have HSd : Hid (∀ w', Below W.heap.size W w' → (fun w' => (∀ oo, w'.cell? ⟨w.heap.size, oo, none⟩ = (#[Value.int .i64 14, .string (str text), .int .i64 num, .slice (some ⟨ga, oa, none⟩) 2 kc])[oo]?) ∧ w'.cell? ⟨ga, oa, none⟩ = some (.int .i64 ka) ∧ w'.cell? ⟨ga, oa + 1, none⟩ = some (.string xa) ∧ w'.cell? ⟨ga, oa + 2, none⟩ = some (.int .i64 na) ∧ w'.cell? ⟨ga, oa + 3, none⟩ = some (.slice aa ma ca) ∧ w'.cell? ⟨ga, oa + 4, none⟩ = some (.int .i64 kd) ∧ w'.cell? ⟨ga, oa + 4 + 1, none⟩ = some (.string xd) ∧ w'.cell? ⟨ga, oa + 4 + 2, none⟩ = some (.int .i64 nd) ∧ w'.cell? ⟨ga, oa + 4 + 3, none⟩ = some (.slice ad md cd)) w') := fun w' hw => ⟨HNW.out w' hw, below_cell (HW.out w' hw).2 Ha0.out, below_cell (HW.out w' hw).2 Ha1.out, below_cell (HW.out w' hw).2 Ha2.out, below_cell (HW.out w' hw).2 Ha3.out, below_cell (HW.out w' hw).2 Hd0.out, below_cell (HW.out w' hw).2 Hd1.out, below_cell (HW.out w' hw).2 Hd2.out, below_cell (HW.out w' hw).2 Hd3.out⟩
  refine wp_region_held_drew (S := (fun w' => (∀ oo, w'.cell? ⟨w.heap.size, oo, none⟩ = (#[Value.int .i64 14, .string (str text), .int .i64 num, .slice (some ⟨ga, oa, none⟩) 2 kc])[oo]?) ∧ w'.cell? ⟨ga, oa, none⟩ = some (.int .i64 ka) ∧ w'.cell? ⟨ga, oa + 1, none⟩ = some (.string xa) ∧ w'.cell? ⟨ga, oa + 2, none⟩ = some (.int .i64 na) ∧ w'.cell? ⟨ga, oa + 3, none⟩ = some (.slice aa ma ca) ∧ w'.cell? ⟨ga, oa + 4, none⟩ = some (.int .i64 kd) ∧ w'.cell? ⟨ga, oa + 4 + 1, none⟩ = some (.string xd) ∧ w'.cell? ⟨ga, oa + 4 + 2, none⟩ = some (.int .i64 nd) ∧ w'.cell? ⟨ga, oa + 4 + 3, none⟩ = some (.slice ad md cd))) (by kernel_rfl) (HSd.out _ ((Below.refl _ _).drew)) (fun hHeld => ?_)
  have HB0 : Hid (Below W.heap.size W W.drew) := (Below.refl _ _).drew
  refine wpAnyH_take (i := 0) (v := ?_) rfl (by kernel_rfl) (by kernel_rfl) (by kernel_rfl) (fun _ _ _ h => h) (Or.inl ⟨by rfl, ?_⟩) (by assumption) ?_
  rotate_left
  · (intro w hSw; (try dsimp only at hSw); go_simp) <;> with_reducible rfl
  (simp only [Act.put, List.getElem_toArray, List.getElem_cons_zero, List.getElem_cons_succ, List.setIfInBounds_toArray, List.set_cons_zero, List.set_cons_succ])
  refine wpAnyH_take (i := 1) (v := ?_) rfl (by kernel_rfl) (by kernel_rfl) (by kernel_rfl) (fun _ _ _ h => h) (Or.inl ⟨by rfl, ?_⟩) (by assumption) ?_
  rotate_left
  · (intro w hSw; (try dsimp only at hSw); go_simp) <;> with_reducible rfl
  (simp only [Act.put, List.getElem_toArray, List.getElem_cons_zero, List.getElem_cons_succ, List.setIfInBounds_toArray, List.set_cons_zero, List.set_cons_succ])
  refine wpAnyH_take (i := 2) (v := ?_) rfl (by kernel_rfl) (by kernel_rfl) (by kernel_rfl) (fun _ _ _ h => h) (Or.inl ⟨by rfl, ?_⟩) (by assumption) ?_
  rotate_left
  · (intro w hSw; (try dsimp only at hSw); go_simp) <;> with_reducible rfl
  (simp only [Act.put, List.getElem_toArray, List.getElem_cons_zero, List.getElem_cons_succ, List.setIfInBounds_toArray, List.set_cons_zero, List.set_cons_succ])
  refine wpAnyH_take (i := 3) (v := ?_) rfl (by kernel_rfl) (by kernel_rfl) (by kernel_rfl) (fun _ _ _ h => h) (Or.inl ⟨by rfl, ?_⟩) (by assumption) ?_
  rotate_left
  · (intro w hSw; (try dsimp only at hSw); go_simp) <;> with_reducible rfl
  (simp only [Act.put, List.getElem_toArray, List.getElem_cons_zero, List.getElem_cons_succ, List.setIfInBounds_toArray, List.set_cons_zero, List.set_cons_succ])
  refine wpAnyH_take (i := 6) (v := ?_) rfl (by kernel_rfl) (by kernel_rfl) (by kernel_rfl) (fun _ _ _ h => h) (Or.inl ⟨by rfl, ?_⟩) (by assumption) ?_
  rotate_left
  · (intro w hSw; (try dsimp only at hSw); go_simp) <;> with_reducible rfl
  (simp only [Act.put, List.getElem_toArray, List.getElem_cons_zero, List.getElem_cons_succ, List.setIfInBounds_toArray, List.set_cons_zero, List.set_cons_succ])
  refine wpAnyH_take (i := 7) (v := ?_) rfl (by kernel_rfl) (by kernel_rfl) (by kernel_rfl) (fun _ _ _ h => h) (Or.inl ⟨by rfl, ?_⟩) (by assumption) ?_
  rotate_left
  · (intro w hSw; (try dsimp only at hSw); go_simp) <;> with_reducible rfl
  (simp only [Act.put, List.getElem_toArray, List.getElem_cons_zero, List.getElem_cons_succ, List.setIfInBounds_toArray, List.set_cons_zero, List.set_cons_succ])
  refine wpAnyH_take (i := 10) (v := ?_) rfl (by kernel_rfl) (by kernel_rfl) (by kernel_rfl) (fun _ _ _ h => h) (Or.inl ⟨by rfl, ?_⟩) (by assumption) ?_
  rotate_left
  · (intro w hSw; (try dsimp only at hSw); go_simp) <;> with_reducible rfl
  (simp only [Act.put, List.getElem_toArray, List.getElem_cons_zero, List.getElem_cons_succ, List.setIfInBounds_toArray, List.set_cons_zero, List.set_cons_succ])
  refine wpAnyH_take (i := 11) (v := ?_) rfl (by kernel_rfl) (by kernel_rfl) (by kernel_rfl) (fun _ _ _ h => h) (Or.inl ⟨by rfl, ?_⟩) (by assumption) ?_
  rotate_left
  · (intro w hSw; (try dsimp only at hSw); go_simp) <;> with_reducible rfl
  (simp only [Act.put, List.getElem_toArray, List.getElem_cons_zero, List.getElem_cons_succ, List.setIfInBounds_toArray, List.set_cons_zero, List.set_cons_succ])
  refine wpAnyH_take (i := 12) (v := ?_) rfl (by kernel_rfl) (by kernel_rfl) (by kernel_rfl) (fun _ _ _ h => h) (Or.inl ⟨by rfl, ?_⟩) (by assumption) ?_
  rotate_left
  · (intro w hSw; (try dsimp only at hSw); go_simp) <;> with_reducible rfl
  (simp only [Act.put, List.getElem_toArray, List.getElem_cons_zero, List.getElem_cons_succ, List.setIfInBounds_toArray, List.set_cons_zero, List.set_cons_succ])
  refine wpAnyH_take (i := 13) (v := ?_) rfl (by kernel_rfl) (by kernel_rfl) (by kernel_rfl) (fun _ _ _ h => h) (Or.inl ⟨by rfl, ?_⟩) (by assumption) ?_
  rotate_left
  · (intro w hSw; (try dsimp only at hSw); go_simp) <;> with_reducible rfl
  (simp only [Act.put, List.getElem_toArray, List.getElem_cons_zero, List.getElem_cons_succ, List.setIfInBounds_toArray, List.set_cons_zero, List.set_cons_succ])
  refine wpAnyH_ready (rs := [4]) (by kernel_rfl) (by simp) ?_
  refine AllReadyH.cons rfl (fun K hK => ?_) AllReadyH.nil
  go_simp
  refine (hca _ (HW.out _ HB0.out).2).mono ?_
  rintro e w1 ⟨rfl, hb1⟩
  have HB1 : Hid (Below W.heap.size W w1) := HB0.out.trans (hb1.mono HB0.out.size)
  clear hb1
  refine hK.out _ _ (HSd.out _ HB1.out) (fun hHeld1 => ?_)
  clear hK K
  (try (simp only [Act.put, List.getElem_toArray, List.getElem_cons_zero, List.getElem_cons_succ, List.setIfInBounds_toArray, List.set_cons_zero, List.set_cons_succ]))
  refine wpAnyH_take (i := 5) (v := ?_) rfl (by kernel_rfl) (by kernel_rfl) (by kernel_rfl) (fun _ _ _ h => h) (Or.inl ⟨by rfl, ?_⟩) (by assumption) ?_
  rotate_left
  · (intro w hSw; (try dsimp only at hSw); go_simp; rw [if_neg (by omega)]) <;> with_reducible rfl
  (simp only [Act.put, List.getElem_toArray, List.getElem_cons_zero, List.getElem_cons_succ, List.setIfInBounds_toArray, List.set_cons_zero, List.set_cons_succ])
  refine wpAnyH_take (i := 8) (v := ?_) rfl (by kernel_rfl) (by kernel_rfl) (by kernel_rfl) (fun _ _ _ h => h) (Or.inl ⟨by rfl, ?_⟩) (by assumption) ?_
  rotate_left
  · (intro w hSw; (try dsimp only at hSw); go_simp; rw [if_neg (by omega)]) <;> with_reducible rfl
  (simp only [Act.put, List.getElem_toArray, List.getElem_cons_zero, List.getElem_cons_succ, List.setIfInBounds_toArray, List.set_cons_zero, List.set_cons_succ])
  refine wpAnyH_take (i := 9) (v := ?_) rfl (by kernel_rfl) (by kernel_rfl) (by kernel_rfl) (fun _ _ _ h => h) (Or.inl ⟨by rfl, ?_⟩) (by assumption) ?_
  rotate_left
  · (intro w hSw; (try dsimp only at hSw); go_simp; rw [if_neg (by omega)]) <;> with_reducible rfl
  (simp only [Act.put, List.getElem_toArray, List.getElem_cons_zero, List.getElem_cons_succ, List.setIfInBounds_toArray, List.set_cons_zero, List.set_cons_succ])
  refine wpAnyH_ready (rs := [14]) (by kernel_rfl) (by simp) ?_
  refine AllReadyH.cons rfl (fun K hK => ?_) AllReadyH.nil
  go_simp
  refine (hcd _ (HW.out _ HB1.out).2).mono ?_
  rintro e w2 ⟨rfl, hb2⟩
  have HB2 : Hid (Below W.heap.size W w2) := HB1.out.trans (hb2.mono HB1.out.size)
  clear hb2
  refine hK.out _ _ (HSd.out _ HB2.out) (fun hHeld2 => ?_)
  clear hK K
  (try (simp only [Act.put, List.getElem_toArray, List.getElem_cons_zero, List.getElem_cons_succ, List.setIfInBounds_toArray, List.set_cons_zero, List.set_cons_succ]))
  refine wpAnyH_take (i := 15) (v := ?_) rfl (by kernel_rfl) (by kernel_rfl) (by kernel_rfl) (fun _ _ _ h => h) (Or.inl ⟨by rfl, ?_⟩) (by assumption) ?_
  rotate_left
  · (intro w hSw; (try dsimp only at hSw); go_simp; rw [if_neg (by omega)]) <;> with_reducible rfl
  (simp only [Act.put, List.getElem_toArray, List.getElem_cons_zero, List.getElem_cons_succ, List.setIfInBounds_toArray, List.set_cons_zero, List.set_cons_succ])
  refine wpAnyH_take (i := 16) (v := ?_) rfl (by kernel_rfl) (by kernel_rfl) (by kernel_rfl) (fun _ _ _ h => h) (Or.inl ⟨by rfl, ?_⟩) (by assumption) ?_
  rotate_left
  · (intro w hSw; (try dsimp only at hSw); go_simp; rw [if_neg (by omega)]) <;> with_reducible rfl
  (simp only [Act.put, List.getElem_toArray, List.getElem_cons_zero, List.getElem_cons_succ, List.setIfInBounds_toArray, List.set_cons_zero, List.set_cons_succ])
  refine wpAnyH_take (i := 17) (v := ?_) rfl (by kernel_rfl) (by kernel_rfl) (by kernel_rfl) (fun _ _ _ h => h) (Or.inl ⟨by rfl, ?_⟩) (by assumption) ?_
  rotate_left
  · (intro w hSw; (try dsimp only at hSw); go_simp) <;> with_reducible rfl
  (simp only [Act.put, List.getElem_toArray, List.getElem_cons_zero, List.getElem_cons_succ, List.setIfInBounds_toArray, List.set_cons_zero, List.set_cons_succ])
  refine wpAnyH_done (by kernel_rfl) ?_ _
  go_wp2_with fail
  go_ret
  exact ⟨by rw [← HE.out]; rfl, (HW.out _ HB2.out).1⟩
set_option maxRecDepth 100000 in
set_option maxHeartbeats 4000000 in
theorem show_k15 {w0 : World} (text : List UInt8) (num : Int) (x y : Nd) (ht : text.length ≤ 16) (hx : ShN w0 x) (ex : shT x ≠ []) (bdx : (jx (shT x)).length ≤ 9200000000000) (hy : ShN w0 y) (ey : shT y ≠ []) (bdy : (jx (shT y)).length ≤ 9200000000000) : ShN w0 (.mk 15 text num [x, y]) := by
  intro w v hb hv
  obtain ⟨ka, kc, rfl, t1, n1, n2, l1, l2, hR⟩ := hv.part
  have htx : (str text).size ≤ 16 := ht
  clear hv
  obtain ⟨ga, oa, ka, xa, na, aa, ma, ca, hkaa, hga, qa0, qa1, qa2, qa3, hnda⟩ := hR.kid0
  have Ha := hide hnda
  have Ha0 := hide qa0
  have Ha1 := hide qa1
  have Ha2 := hide qa2
  have Ha3 := hide qa3
  clear qa0 qa1 qa2 qa3 hnda hga
  subst hkaa
  obtain ⟨kd, xd, nd, ad, md, cd, qd0, qd1, qd2, qd3, hndd⟩ := hR.kid1
  have Hd := hide hndd
  have Hd0 := hide qd0
  have Hd1 := hide qd1
  have Hd2 := hide qd2
  have Hd3 := hide qd3
  clear qd0 qd1 qd2 qd3 hndd
  have hca : ∀ w', Below w0.heap.size w0 w' → Calls Tryd.prog 10 #[.agg #[.int .i64 ka, .string xa, .int .i64 na, .slice aa ma ca]] w' fun e w'' => e = .returned (.string (str (jx (shT x)))) ∧ Below w'.heap.size w' w'' := fun w' h => hx w' _ h Ha.out
  have hcd : ∀ w', Below w0.heap.size w0 w' → Calls Tryd.prog 10 #[.agg #[.int .i64 kd, .string xd, .int .i64 nd, .slice ad md cd]] w' fun e w'' => e = .returned (.string (str (jx (shT y)))) ∧ Below w'.heap.size w' w'' := fun w' h => hy w' _ h Hd.out
  have hB0 : Below w.heap.size w (w.alloc (.cells #[.int .i64 15, .string (str text), .int .i64 num, .slice (some ⟨ga, oa, none⟩) 2 kc] 24)) := (Below.refl _ _).alloc (Nat.le_refl _) _
  have hz0 : (w.alloc (.cells #[.int .i64 15, .string (str text), .int .i64 num, .slice (some ⟨ga, oa, none⟩) 2 kc] 24)).heap.size = w.heap.size + 1 := by simp
  have hN0 := heap_new w #[.int .i64 15, .string (str text), .int .i64 num, .slice (some ⟨ga, oa, none⟩) 2 kc] 24
  have hbW := hb.trans (hB0.mono hb.size)
  have hsx : (str (jx (shT x))).size ≤ 9300000000000 := by show (jx (shT x)).length ≤ _; omega
  generalize hgx : str (jx (shT x)) = sx at *
  have HGx := hide hgx
  clear hgx
  have hsy : (str (jx (shT y))).size ≤ 9300000000000 := by show (jx (shT y)).length ≤ _; omega
  generalize hgy : str (jx (shT y)) = sy at *
  have HGy := hide hgy
  clear hgy
  have HE : Hid (sx ++ (⟨#[32, 61, 32]⟩ : ByteArray) ++ sy ++ (⟨#[32, 59]⟩ : ByteArray) = str (jx (shT (.mk 15 text num [x, y])))) := by
    show _ = _
    rw [sh_s15, jx_app (by simp) (by simp), jx_app (by simp) ey, jx_app ex (by simp), jx_one, jx_one]
    rw [← HGx.out, ← HGy.out]
    apply ByteArray.ext
    apply Array.toList_inj.1
    simp [str, raw_wd, raw_sg]
  clear hb hR hx hy ht
  go_enter Tryd.func10, Tryd.ntmps10
  go_wp2_with fail
  generalize w.alloc (.cells #[.int .i64 15, .string (str text), .int .i64 num, .slice (some ⟨ga, oa, none⟩) 2 kc] 24) = W at *
  have HW : Hid (∀ w', Below W.heap.size W w' → Below w.heap.size w w' ∧ Below w0.heap.size w0 w') := fun w' hw => ⟨hB0.trans (hw.mono (by omega)), hbW.trans (hw.mono hbW.size)⟩
  have HNW : Hid (∀ w', Below W.heap.size W w' → ∀ oo, w'.cell? ⟨w.heap.size, oo, none⟩ = (#[Value.int .i64 15, .string (str text), .int .i64 num, .slice (some ⟨ga, oa, none⟩) 2 kc])[oo]?) := fun w' hw => cells_at ((hw.block w.heap.size (by omega)).trans hN0)
  clear hB0 hz0 hN0 hbW
  have HSd : Hid (∀ w', Below W.heap.size W w' → (fun w' => (∀ oo, w'.cell? ⟨w.heap.size, oo, none⟩ = (#[Value.int .i64 15, .string (str text), .int .i64 num, .slice (some ⟨ga, oa, none⟩) 2 kc])[oo]?) ∧ w'.cell? ⟨ga, oa, none⟩ = some (.int .i64 ka) ∧ w'.cell? ⟨ga, oa + 1, none⟩ = some (.string xa) ∧ w'.cell? ⟨ga, oa + 2, none⟩ = some (.int .i64 na) ∧ w'.cell? ⟨ga, oa + 3, none⟩ = some (.slice aa ma ca) ∧ w'.cell? ⟨ga, oa + 4, none⟩ = some (.int .i64 kd) ∧ w'.cell? ⟨ga, oa + 4 + 1, none⟩ = some (.string xd) ∧ w'.cell? ⟨ga, oa + 4 + 2, none⟩ = some (.int .i64 nd) ∧ w'.cell? ⟨ga, oa + 4 + 3, none⟩ = some (.slice ad md cd)) w') := fun w' hw => ⟨HNW.out w' hw, below_cell (HW.out w' hw).2 Ha0.out, below_cell (HW.out w' hw).2 Ha1.out, below_cell (HW.out w' hw).2 Ha2.out, below_cell (HW.out w' hw).2 Ha3.out, below_cell (HW.out w' hw).2 Hd0.out, below_cell (HW.out w' hw).2 Hd1.out, below_cell (HW.out w' hw).2 Hd2.out, below_cell (HW.out w' hw).2 Hd3.out⟩
  refine wp_region_held_drew (S := (fun w' => (∀ oo, w'.cell? ⟨w.heap.size, oo, none⟩ = (#[Value.int .i64 15, .string (str text), .int .i64 num, .slice (some ⟨ga, oa, none⟩) 2 kc])[oo]?) ∧ w'.cell? ⟨ga, oa, none⟩ = some (.int .i64 ka) ∧ w'.cell? ⟨ga, oa + 1, none⟩ = some (.string xa) ∧ w'.cell? ⟨ga, oa + 2, none⟩ = some (.int .i64 na) ∧ w'.cell? ⟨ga, oa + 3, none⟩ = some (.slice aa ma ca) ∧ w'.cell? ⟨ga, oa + 4, none⟩ = some (.int .i64 kd) ∧ w'.cell? ⟨ga, oa + 4 + 1, none⟩ = some (.string xd) ∧ w'.cell? ⟨ga, oa + 4 + 2, none⟩ = some (.int .i64 nd) ∧ w'.cell? ⟨ga, oa + 4 + 3, none⟩ = some (.slice ad md cd))) (by kernel_rfl) (HSd.out _ ((Below.refl _ _).drew)) (fun hHeld => ?_)
  have HB0 : Hid (Below W.heap.size W W.drew) := (Below.refl _ _).drew
  refine wpAnyH_take (i := 0) (v := ?_) rfl (by kernel_rfl) (by kernel_rfl) (by kernel_rfl) (fun _ _ _ h => h) (Or.inl ⟨by rfl, ?_⟩) (by assumption) ?_
  rotate_left
  · (intro w hSw; (try dsimp only at hSw); go_simp) <;> with_reducible rfl
  (simp only [Act.put, List.getElem_toArray, List.getElem_cons_zero, List.getElem_cons_succ, List.setIfInBounds_toArray, List.set_cons_zero, List.set_cons_succ])
  refine wpAnyH_take (i := 1) (v := ?_) rfl (by kernel_rfl) (by kernel_rfl) (by kernel_rfl) (fun _ _ _ h => h) (Or.inl ⟨by rfl, ?_⟩) (by assumption) ?_
  rotate_left
  · (intro w hSw; (try dsimp only at hSw); go_simp) <;> with_reducible rfl
  (simp only [Act.put, List.getElem_toArray, List.getElem_cons_zero, List.getElem_cons_succ, List.setIfInBounds_toArray, List.set_cons_zero, List.set_cons_succ])
  refine wpAnyH_take (i := 2) (v := ?_) rfl (by kernel_rfl) (by kernel_rfl) (by kernel_rfl) (fun _ _ _ h => h) (Or.inl ⟨by rfl, ?_⟩) (by assumption) ?_
  rotate_left
  · (intro w hSw; (try dsimp only at hSw); go_simp) <;> with_reducible rfl
  (simp only [Act.put, List.getElem_toArray, List.getElem_cons_zero, List.getElem_cons_succ, List.setIfInBounds_toArray, List.set_cons_zero, List.set_cons_succ])
  refine wpAnyH_take (i := 3) (v := ?_) rfl (by kernel_rfl) (by kernel_rfl) (by kernel_rfl) (fun _ _ _ h => h) (Or.inl ⟨by rfl, ?_⟩) (by assumption) ?_
  rotate_left
  · (intro w hSw; (try dsimp only at hSw); go_simp) <;> with_reducible rfl
  (simp only [Act.put, List.getElem_toArray, List.getElem_cons_zero, List.getElem_cons_succ, List.setIfInBounds_toArray, List.set_cons_zero, List.set_cons_succ])
  refine wpAnyH_take (i := 6) (v := ?_) rfl (by kernel_rfl) (by kernel_rfl) (by kernel_rfl) (fun _ _ _ h => h) (Or.inl ⟨by rfl, ?_⟩) (by assumption) ?_
  rotate_left
  · (intro w hSw; (try dsimp only at hSw); go_simp) <;> with_reducible rfl
  (simp only [Act.put, List.getElem_toArray, List.getElem_cons_zero, List.getElem_cons_succ, List.setIfInBounds_toArray, List.set_cons_zero, List.set_cons_succ])
  refine wpAnyH_take (i := 7) (v := ?_) rfl (by kernel_rfl) (by kernel_rfl) (by kernel_rfl) (fun _ _ _ h => h) (Or.inl ⟨by rfl, ?_⟩) (by assumption) ?_
  rotate_left
  · (intro w hSw; (try dsimp only at hSw); go_simp) <;> with_reducible rfl
  (simp only [Act.put, List.getElem_toArray, List.getElem_cons_zero, List.getElem_cons_succ, List.setIfInBounds_toArray, List.set_cons_zero, List.set_cons_succ])
  refine wpAnyH_take (i := 8) (v := ?_) rfl (by kernel_rfl) (by kernel_rfl) (by kernel_rfl) (fun _ _ _ h => h) (Or.inl ⟨by rfl, ?_⟩) (by assumption) ?_
  rotate_left
  · (intro w hSw; (try dsimp only at hSw); go_simp) <;> with_reducible rfl
  (simp only [Act.put, List.getElem_toArray, List.getElem_cons_zero, List.getElem_cons_succ, List.setIfInBounds_toArray, List.set_cons_zero, List.set_cons_succ])
  refine wpAnyH_take (i := 9) (v := ?_) rfl (by kernel_rfl) (by kernel_rfl) (by kernel_rfl) (fun _ _ _ h => h) (Or.inl ⟨by rfl, ?_⟩) (by assumption) ?_
  rotate_left
  · (intro w hSw; (try dsimp only at hSw); go_simp) <;> with_reducible rfl
  (simp only [Act.put, List.getElem_toArray, List.getElem_cons_zero, List.getElem_cons_succ, List.setIfInBounds_toArray, List.set_cons_zero, List.set_cons_succ])
  refine wpAnyH_ready (rs := [4]) (by kernel_rfl) (by simp) ?_
  refine AllReadyH.cons rfl (fun K hK => ?_) AllReadyH.nil
  go_simp
  refine (hca _ (HW.out _ HB0.out).2).mono ?_
  rintro e w1 ⟨rfl, hb1⟩
  have HB1 : Hid (Below W.heap.size W w1) := HB0.out.trans (hb1.mono HB0.out.size)
  clear hb1
  refine hK.out _ _ (HSd.out _ HB1.out) (fun hHeld1 => ?_)
  clear hK K
  (try (simp only [Act.put, List.getElem_toArray, List.getElem_cons_zero, List.getElem_cons_succ, List.setIfInBounds_toArray, List.set_cons_zero, List.set_cons_succ]))
  refine wpAnyH_take (i := 5) (v := ?_) rfl (by kernel_rfl) (by kernel_rfl) (by kernel_rfl) (fun _ _ _ h => h) (Or.inl ⟨by rfl, ?_⟩) (by assumption) ?_
  rotate_left
  · (intro w hSw; (try dsimp only at hSw); go_simp; rw [if_neg (by omega)]) <;> with_reducible rfl
  (simp only [Act.put, List.getElem_toArray, List.getElem_cons_zero, List.getElem_cons_succ, List.setIfInBounds_toArray, List.set_cons_zero, List.set_cons_succ])
  refine wpAnyH_ready (rs := [10]) (by kernel_rfl) (by simp) ?_
  refine AllReadyH.cons rfl (fun K hK => ?_) AllReadyH.nil
  go_simp
  refine (hcd _ (HW.out _ HB1.out).2).mono ?_
  rintro e w2 ⟨rfl, hb2⟩
  have HB2 : Hid (Below W.heap.size W w2) := HB1.out.trans (hb2.mono HB1.out.size)
  clear hb2
  refine hK.out _ _ (HSd.out _ HB2.out) (fun hHeld2 => ?_)
  clear hK K
  (try (simp only [Act.put, List.getElem_toArray, List.getElem_cons_zero, List.getElem_cons_succ, List.setIfInBounds_toArray, List.set_cons_zero, List.set_cons_succ]))
  refine wpAnyH_take (i := 11) (v := ?_) rfl (by kernel_rfl) (by kernel_rfl) (by kernel_rfl) (fun _ _ _ h => h) (Or.inl ⟨by rfl, ?_⟩) (by assumption) ?_
  rotate_left
  · (intro w hSw; (try dsimp only at hSw); go_simp; rw [if_neg (by omega)]) <;> with_reducible rfl
  (simp only [Act.put, List.getElem_toArray, List.getElem_cons_zero, List.getElem_cons_succ, List.setIfInBounds_toArray, List.set_cons_zero, List.set_cons_succ])
  refine wpAnyH_take (i := 12) (v := ?_) rfl (by kernel_rfl) (by kernel_rfl) (by kernel_rfl) (fun _ _ _ h => h) (Or.inl ⟨by rfl, ?_⟩) (by assumption) ?_
  rotate_left
  · (intro w hSw; (try dsimp only at hSw); go_simp; rw [if_neg (by omega)]) <;> with_reducible rfl
  (simp only [Act.put, List.getElem_toArray, List.getElem_cons_zero, List.getElem_cons_succ, List.setIfInBounds_toArray, List.set_cons_zero, List.set_cons_succ])
  refine wpAnyH_take (i := 13) (v := ?_) rfl (by kernel_rfl) (by kernel_rfl) (by kernel_rfl) (fun _ _ _ h => h) (Or.inl ⟨by rfl, ?_⟩) (by assumption) ?_
  rotate_left
  · (intro w hSw; (try dsimp only at hSw); go_simp) <;> with_reducible rfl
  (simp only [Act.put, List.getElem_toArray, List.getElem_cons_zero, List.getElem_cons_succ, List.setIfInBounds_toArray, List.set_cons_zero, List.set_cons_succ])
  refine wpAnyH_done (by kernel_rfl) ?_ _
  go_wp2_with fail
  go_ret
  exact ⟨by rw [← HE.out]; rfl, (HW.out _ HB2.out).1⟩
set_option maxRecDepth 100000 in
set_option maxHeartbeats 4000000 in
theorem show_k6_0 {w0 : World} (text : List UInt8) (x y : Nd) (ht : text.length ≤ 16) (hx : ShN w0 x) (ex : shT x ≠ []) (bdx : (jx (shT x)).length ≤ 9200000000000) (hy : ShN w0 y) (ey : shT y ≠ []) (bdy : (jx (shT y)).length ≤ 9200000000000) : ShN w0 (.mk 6 text 0 [x, y]) := by
  intro w v hb hv
  obtain ⟨ka, kc, rfl, t1, n1, n2, l1, l2, hR⟩ := hv.part
  have htx : (str text).size ≤ 16 := ht
  clear hv
  obtain ⟨ga, oa, ka, xa, na, aa, ma, ca, hkaa, hga, qa0, qa1, qa2, qa3, hnda⟩ := hR.kid0
  have Ha := hide hnda
  have Ha0 := hide qa0
  have Ha1 := hide qa1
  have Ha2 := hide qa2
  have Ha3 := hide qa3
  clear qa0 qa1 qa2 qa3 hnda hga
  subst hkaa
  obtain ⟨kd, xd, nd, ad, md, cd, qd0, qd1, qd2, qd3, hndd⟩ := hR.kid1
  have Hd := hide hndd
  have Hd0 := hide qd0
  have Hd1 := hide qd1
  have Hd2 := hide qd2
  have Hd3 := hide qd3
  clear qd0 qd1 qd2 qd3 hndd
  have hca : ∀ w', Below w0.heap.size w0 w' → Calls Tryd.prog 10 #[.agg #[.int .i64 ka, .string xa, .int .i64 na, .slice aa ma ca]] w' fun e w'' => e = .returned (.string (str (jx (shT x)))) ∧ Below w'.heap.size w' w'' := fun w' h => hx w' _ h Ha.out
  have hcd : ∀ w', Below w0.heap.size w0 w' → Calls Tryd.prog 10 #[.agg #[.int .i64 kd, .string xd, .int .i64 nd, .slice ad md cd]] w' fun e w'' => e = .returned (.string (str (jx (shT y)))) ∧ Below w'.heap.size w' w'' := fun w' h => hy w' _ h Hd.out
  have hB0 : Below w.heap.size w (w.alloc (.cells #[.int .i64 6, .string (str text), .int .i64 0, .slice (some ⟨ga, oa, none⟩) 2 kc] 24)) := (Below.refl _ _).alloc (Nat.le_refl _) _
  have hz0 : (w.alloc (.cells #[.int .i64 6, .string (str text), .int .i64 0, .slice (some ⟨ga, oa, none⟩) 2 kc] 24)).heap.size = w.heap.size + 1 := by simp
  have hN0 := heap_new w #[.int .i64 6, .string (str text), .int .i64 0, .slice (some ⟨ga, oa, none⟩) 2 kc] 24
  have hbW := hb.trans (hB0.mono hb.size)
  have hsx : (str (jx (shT x))).size ≤ 9300000000000 := by show (jx (shT x)).length ≤ _; omega
  generalize hgx : str (jx (shT x)) = sx at *
  have HGx := hide hgx
  clear hgx
  have hsy : (str (jx (shT y))).size ≤ 9300000000000 := by show (jx (shT y)).length ≤ _; omega
  generalize hgy : str (jx (shT y)) = sy at *
  have HGy := hide hgy
  clear hgy
  have HE : Hid ((⟨#[]⟩ : ByteArray) ++ sx ++ (⟨#[32]⟩ : ByteArray) ++ str text ++ (⟨#[32, 61, 32]⟩ : ByteArray) ++ sy ++ (⟨#[32, 59]⟩ : ByteArray) = str (jx (shT (.mk 6 text 0 [x, y])))) := by
    show _ = _
    rw [sh_d6 _ _ _ _ (by decide) (by decide), if_neg (by decide), List.nil_append, jx_app (by simp) (by simp), jx_app (by simp) ey, jx_app (by simp) (by simp), jx_app ex (by simp), jx_one, jx_one, jx_one]
    rw [← HGx.out, ← HGy.out]
    apply ByteArray.ext
    apply Array.toList_inj.1
    simp [str, raw_wd, raw_sg]
  clear hb hR hx hy ht
  go_enter Tryd.func10, Tryd.ntmps10
  go_wp2_with fail
  generalize w.alloc (.cells #[.int .i64 6, .string (str text), .int .i64 0, .slice (some ⟨ga, oa, none⟩) 2 kc] 24) = W at *
  have HW : Hid (∀ w', Below W.heap.size W w' → Below w.heap.size w w' ∧ Below w0.heap.size w0 w') := fun w' hw => ⟨hB0.trans (hw.mono (by omega)), hbW.trans (hw.mono hbW.size)⟩
  have HNW : Hid (∀ w', Below W.heap.size W w' → ∀ oo, w'.cell? ⟨w.heap.size, oo, none⟩ = (#[Value.int .i64 6, .string (str text), .int .i64 0, .slice (some ⟨ga, oa, none⟩) 2 kc])[oo]?) := fun w' hw => cells_at ((hw.block w.heap.size (by omega)).trans hN0)
  clear hB0 hz0 hN0 hbW
  have HSd : Hid (∀ w', Below W.heap.size W w' → (fun w' => (∀ oo, w'.cell? ⟨w.heap.size, oo, none⟩ = (#[Value.int .i64 6, .string (str text), .int .i64 0, .slice (some ⟨ga, oa, none⟩) 2 kc])[oo]?) ∧ w'.cell? ⟨ga, oa, none⟩ = some (.int .i64 ka) ∧ w'.cell? ⟨ga, oa + 1, none⟩ = some (.string xa) ∧ w'.cell? ⟨ga, oa + 2, none⟩ = some (.int .i64 na) ∧ w'.cell? ⟨ga, oa + 3, none⟩ = some (.slice aa ma ca) ∧ w'.cell? ⟨ga, oa + 4, none⟩ = some (.int .i64 kd) ∧ w'.cell? ⟨ga, oa + 4 + 1, none⟩ = some (.string xd) ∧ w'.cell? ⟨ga, oa + 4 + 2, none⟩ = some (.int .i64 nd) ∧ w'.cell? ⟨ga, oa + 4 + 3, none⟩ = some (.slice ad md cd)) w') := fun w' hw => ⟨HNW.out w' hw, below_cell (HW.out w' hw).2 Ha0.out, below_cell (HW.out w' hw).2 Ha1.out, below_cell (HW.out w' hw).2 Ha2.out, below_cell (HW.out w' hw).2 Ha3.out, below_cell (HW.out w' hw).2 Hd0.out, below_cell (HW.out w' hw).2 Hd1.out, below_cell (HW.out w' hw).2 Hd2.out, below_cell (HW.out w' hw).2 Hd3.out⟩
  refine wp_region_held_drew (S := (fun w' => (∀ oo, w'.cell? ⟨w.heap.size, oo, none⟩ = (#[Value.int .i64 6, .string (str text), .int .i64 0, .slice (some ⟨ga, oa, none⟩) 2 kc])[oo]?) ∧ w'.cell? ⟨ga, oa, none⟩ = some (.int .i64 ka) ∧ w'.cell? ⟨ga, oa + 1, none⟩ = some (.string xa) ∧ w'.cell? ⟨ga, oa + 2, none⟩ = some (.int .i64 na) ∧ w'.cell? ⟨ga, oa + 3, none⟩ = some (.slice aa ma ca) ∧ w'.cell? ⟨ga, oa + 4, none⟩ = some (.int .i64 kd) ∧ w'.cell? ⟨ga, oa + 4 + 1, none⟩ = some (.string xd) ∧ w'.cell? ⟨ga, oa + 4 + 2, none⟩ = some (.int .i64 nd) ∧ w'.cell? ⟨ga, oa + 4 + 3, none⟩ = some (.slice ad md cd))) (by kernel_rfl) (HSd.out _ ((Below.refl _ _).drew)) (fun hHeld => ?_)
  have HB0 : Hid (Below W.heap.size W W.drew) := (Below.refl _ _).drew
  refine wpAnyH_take (i := 0) (v := ?_) rfl (by kernel_rfl) (by kernel_rfl) (by kernel_rfl) (fun _ _ _ h => h) (Or.inl ⟨by rfl, ?_⟩) (by assumption) ?_
  rotate_left
  · (intro w hSw; (try dsimp only at hSw); go_simp) <;> with_reducible rfl
  (simp only [Act.put, List.getElem_toArray, List.getElem_cons_zero, List.getElem_cons_succ, List.setIfInBounds_toArray, List.set_cons_zero, List.set_cons_succ])
  refine wpAnyH_take (i := 1) (v := ?_) rfl (by kernel_rfl) (by kernel_rfl) (by kernel_rfl) (fun _ _ _ h => h) (Or.inl ⟨by rfl, ?_⟩) (by assumption) ?_
  rotate_left
  · (intro w hSw; (try dsimp only at hSw); go_simp) <;> with_reducible rfl
  (simp only [Act.put, List.getElem_toArray, List.getElem_cons_zero, List.getElem_cons_succ, List.setIfInBounds_toArray, List.set_cons_zero, List.set_cons_succ])
  refine wpAnyH_take (i := 2) (v := ?_) rfl (by kernel_rfl) (by kernel_rfl) (by kernel_rfl) (fun _ _ _ h => h) (Or.inl ⟨by rfl, ?_⟩) (by assumption) ?_
  rotate_left
  · (intro w hSw; (try dsimp only at hSw); go_simp) <;> with_reducible rfl
  (simp only [Act.put, List.getElem_toArray, List.getElem_cons_zero, List.getElem_cons_succ, List.setIfInBounds_toArray, List.set_cons_zero, List.set_cons_succ])
  refine wpAnyH_take (i := 3) (v := ?_) rfl (by kernel_rfl) (by kernel_rfl) (by kernel_rfl) (fun _ _ _ h => h) (Or.inl ⟨by rfl, ?_⟩) (by assumption) ?_
  rotate_left
  · (intro w hSw; (try dsimp only at hSw); go_simp) <;> with_reducible rfl
  (simp only [Act.put, List.getElem_toArray, List.getElem_cons_zero, List.getElem_cons_succ, List.setIfInBounds_toArray, List.set_cons_zero, List.set_cons_succ])
  refine wpAnyH_take (i := 4) (v := ?_) rfl (by kernel_rfl) (by kernel_rfl) (by kernel_rfl) (fun _ _ _ h => h) (Or.inl ⟨by rfl, ?_⟩) (by assumption) ?_
  rotate_left
  · (intro w hSw; (try dsimp only at hSw); go_simp) <;> with_reducible rfl
  (simp only [Act.put, List.getElem_toArray, List.getElem_cons_zero, List.getElem_cons_succ, List.setIfInBounds_toArray, List.set_cons_zero, List.set_cons_succ])
  refine wpAnyH_take (i := 8) (v := ?_) rfl (by kernel_rfl) (by kernel_rfl) (by kernel_rfl) (fun _ _ _ h => h) (Or.inl ⟨by rfl, ?_⟩) (by assumption) ?_
  rotate_left
  · (intro w hSw; (try dsimp only at hSw); go_simp) <;> with_reducible rfl
  (simp only [Act.put, List.getElem_toArray, List.getElem_cons_zero, List.getElem_cons_succ, List.setIfInBounds_toArray, List.set_cons_zero, List.set_cons_succ])
  refine wpAnyH_take (i := 9) (v := ?_) rfl (by kernel_rfl) (by kernel_rfl) (by kernel_rfl) (fun _ _ _ h => h) (Or.inl ⟨by rfl, ?_⟩) (by assumption) ?_
  rotate_left
  · (intro w hSw; (try dsimp only at hSw); go_simp) <;> with_reducible rfl
  (simp only [Act.put, List.getElem_toArray, List.getElem_cons_zero, List.getElem_cons_succ, List.setIfInBounds_toArray, List.set_cons_zero, List.set_cons_succ])
  refine wpAnyH_take (i := 12) (v := ?_) rfl (by kernel_rfl) (by kernel_rfl) (by kernel_rfl) (fun _ _ _ h => h) (Or.inl ⟨by rfl, ?_⟩) (by assumption) ?_
  rotate_left
  · (intro w hSw; (try dsimp only at hSw); go_simp) <;> with_reducible rfl
  (simp only [Act.put, List.getElem_toArray, List.getElem_cons_zero, List.getElem_cons_succ, List.setIfInBounds_toArray, List.set_cons_zero, List.set_cons_succ])
  refine wpAnyH_take (i := 13) (v := ?_) rfl (by kernel_rfl) (by kernel_rfl) (by kernel_rfl) (fun _ _ _ h => h) (Or.inl ⟨by rfl, ?_⟩) (by assumption) ?_
  rotate_left
  · (intro w hSw; (try dsimp only at hSw); go_simp) <;> with_reducible rfl
  (simp only [Act.put, List.getElem_toArray, List.getElem_cons_zero, List.getElem_cons_succ, List.setIfInBounds_toArray, List.set_cons_zero, List.set_cons_succ])
  refine wpAnyH_take (i := 14) (v := ?_) rfl (by kernel_rfl) (by kernel_rfl) (by kernel_rfl) (fun _ _ _ h => h) (Or.inl ⟨by rfl, ?_⟩) (by assumption) ?_
  rotate_left
  · (intro w hSw; (try dsimp only at hSw); go_simp) <;> with_reducible rfl
  (simp only [Act.put, List.getElem_toArray, List.getElem_cons_zero, List.getElem_cons_succ, List.setIfInBounds_toArray, List.set_cons_zero, List.set_cons_succ])
  refine wpAnyH_take (i := 15) (v := ?_) rfl (by kernel_rfl) (by kernel_rfl) (by kernel_rfl) (fun _ _ _ h => h) (Or.inl ⟨by rfl, ?_⟩) (by assumption) ?_
  rotate_left
  · (intro w hSw; (try dsimp only at hSw); go_simp) <;> with_reducible rfl
  (simp only [Act.put, List.getElem_toArray, List.getElem_cons_zero, List.getElem_cons_succ, List.setIfInBounds_toArray, List.set_cons_zero, List.set_cons_succ])
  refine wpAnyH_ready (rs := [5]) (by kernel_rfl) (by simp) ?_
  refine AllReadyH.cons rfl (fun K hK => ?_) AllReadyH.nil
  go_simp
  refine (hca _ (HW.out _ HB0.out).2).mono ?_
  rintro e w1 ⟨rfl, hb1⟩
  have HB1 : Hid (Below W.heap.size W w1) := HB0.out.trans (hb1.mono HB0.out.size)
  clear hb1
  refine hK.out _ _ (HSd.out _ HB1.out) (fun hHeld1 => ?_)
  clear hK K
  (try (simp only [Act.put, List.getElem_toArray, List.getElem_cons_zero, List.getElem_cons_succ, List.setIfInBounds_toArray, List.set_cons_zero, List.set_cons_succ]))
  refine wpAnyH_take (i := 6) (v := ?_) rfl (by kernel_rfl) (by kernel_rfl) (by kernel_rfl) (fun _ _ _ h => h) (Or.inl ⟨by rfl, ?_⟩) (by assumption) ?_
  rotate_left
  · (intro w hSw; (try dsimp only at hSw); go_simp; rw [if_neg (by omega)]) <;> with_reducible rfl
  (simp only [Act.put, List.getElem_toArray, List.getElem_cons_zero, List.getElem_cons_succ, List.setIfInBounds_toArray, List.set_cons_zero, List.set_cons_succ])
  refine wpAnyH_take (i := 7) (v := ?_) rfl (by kernel_rfl) (by kernel_rfl) (by kernel_rfl) (fun _ _ _ h => h) (Or.inl ⟨by rfl, ?_⟩) (by assumption) ?_
  rotate_left
  · (intro w hSw; (try dsimp only at hSw); go_simp; rw [if_neg (by omega)]) <;> with_reducible rfl
  (simp only [Act.put, List.getElem_toArray, List.getElem_cons_zero, List.getElem_cons_succ, List.setIfInBounds_toArray, List.set_cons_zero, List.set_cons_succ])
  refine wpAnyH_take (i := 10) (v := ?_) rfl (by kernel_rfl) (by kernel_rfl) (by kernel_rfl) (fun _ _ _ h => h) (Or.inl ⟨by rfl, ?_⟩) (by assumption) ?_
  rotate_left
  · (intro w hSw; (try dsimp only at hSw); go_simp; rw [if_neg (by omega)]) <;> with_reducible rfl
  (simp only [Act.put, List.getElem_toArray, List.getElem_cons_zero, List.getElem_cons_succ, List.setIfInBounds_toArray, List.set_cons_zero, List.set_cons_succ])
  refine wpAnyH_take (i := 11) (v := ?_) rfl (by kernel_rfl) (by kernel_rfl) (by kernel_rfl) (fun _ _ _ h => h) (Or.inl ⟨by rfl, ?_⟩) (by assumption) ?_
  rotate_left
  · (intro w hSw; (try dsimp only at hSw); go_simp; rw [if_neg (by omega)]) <;> with_reducible rfl
  (simp only [Act.put, List.getElem_toArray, List.getElem_cons_zero, List.getElem_cons_succ, List.setIfInBounds_toArray, List.set_cons_zero, List.set_cons_succ])
  refine wpAnyH_ready (rs := [16]) (by kernel_rfl) (by simp) ?_
  refine AllReadyH.cons rfl (fun K hK => ?_) AllReadyH.nil
  go_simp
  refine (hcd _ (HW.out _ HB1.out).2).mono ?_
  rintro e w2 ⟨rfl, hb2⟩
  have HB2 : Hid (Below W.heap.size W w2) := HB1.out.trans (hb2.mono HB1.out.size)
  clear hb2
  refine hK.out _ _ (HSd.out _ HB2.out) (fun hHeld2 => ?_)
  clear hK K
  (try (simp only [Act.put, List.getElem_toArray, List.getElem_cons_zero, List.getElem_cons_succ, List.setIfInBounds_toArray, List.set_cons_zero, List.set_cons_succ]))
  refine wpAnyH_take (i := 17) (v := ?_) rfl (by kernel_rfl) (by kernel_rfl) (by kernel_rfl) (fun _ _ _ h => h) (Or.inl ⟨by rfl, ?_⟩) (by assumption) ?_
  rotate_left
  · (intro w hSw; (try dsimp only at hSw); go_simp; rw [if_neg (by omega)]) <;> with_reducible rfl
  (simp only [Act.put, List.getElem_toArray, List.getElem_cons_zero, List.getElem_cons_succ, List.setIfInBounds_toArray, List.set_cons_zero, List.set_cons_succ])
  refine wpAnyH_take (i := 18) (v := ?_) rfl (by kernel_rfl) (by kernel_rfl) (by kernel_rfl) (fun _ _ _ h => h) (Or.inl ⟨by rfl, ?_⟩) (by assumption) ?_
  rotate_left
  · (intro w hSw; (try dsimp only at hSw); go_simp; rw [if_neg (by omega)]) <;> with_reducible rfl
  (simp only [Act.put, List.getElem_toArray, List.getElem_cons_zero, List.getElem_cons_succ, List.setIfInBounds_toArray, List.set_cons_zero, List.set_cons_succ])
  refine wpAnyH_take (i := 19) (v := ?_) rfl (by kernel_rfl) (by kernel_rfl) (by kernel_rfl) (fun _ _ _ h => h) (Or.inl ⟨by rfl, ?_⟩) (by assumption) ?_
  rotate_left
  · (intro w hSw; (try dsimp only at hSw); go_simp) <;> with_reducible rfl
  (simp only [Act.put, List.getElem_toArray, List.getElem_cons_zero, List.getElem_cons_succ, List.setIfInBounds_toArray, List.set_cons_zero, List.set_cons_succ])
  refine wpAnyH_done (by kernel_rfl) ?_ _
  go_wp2_with fail
  go_ret
  exact ⟨by rw [← HE.out]; rfl, (HW.out _ HB2.out).1⟩
set_option maxRecDepth 100000 in
set_option maxHeartbeats 4000000 in
theorem show_k6_1 {w0 : World} (text : List UInt8) (x y : Nd) (ht : text.length ≤ 16) (hx : ShN w0 x) (ex : shT x ≠ []) (bdx : (jx (shT x)).length ≤ 9200000000000) (hy : ShN w0 y) (ey : shT y ≠ []) (bdy : (jx (shT y)).length ≤ 9200000000000) : ShN w0 (.mk 6 text 1 [x, y]) := by
  intro w v hb hv
  obtain ⟨ka, kc, rfl, t1, n1, n2, l1, l2, hR⟩ := hv.part
  have htx : (str text).size ≤ 16 := ht
  clear hv
  obtain ⟨ga, oa, ka, xa, na, aa, ma, ca, hkaa, hga, qa0, qa1, qa2, qa3, hnda⟩ := hR.kid0
  have Ha := hide hnda
  have Ha0 := hide qa0
  have Ha1 := hide qa1
  have Ha2 := hide qa2
  have Ha3 := hide qa3
  clear qa0 qa1 qa2 qa3 hnda hga
  subst hkaa
  obtain ⟨kd, xd, nd, ad, md, cd, qd0, qd1, qd2, qd3, hndd⟩ := hR.kid1
  have Hd := hide hndd
  have Hd0 := hide qd0
  have Hd1 := hide qd1
  have Hd2 := hide qd2
  have Hd3 := hide qd3
  clear qd0 qd1 qd2 qd3 hndd
  have hca : ∀ w', Below w0.heap.size w0 w' → Calls Tryd.prog 10 #[.agg #[.int .i64 ka, .string xa, .int .i64 na, .slice aa ma ca]] w' fun e w'' => e = .returned (.string (str (jx (shT x)))) ∧ Below w'.heap.size w' w'' := fun w' h => hx w' _ h Ha.out
  have hcd : ∀ w', Below w0.heap.size w0 w' → Calls Tryd.prog 10 #[.agg #[.int .i64 kd, .string xd, .int .i64 nd, .slice ad md cd]] w' fun e w'' => e = .returned (.string (str (jx (shT y)))) ∧ Below w'.heap.size w' w'' := fun w' h => hy w' _ h Hd.out
  have hB0 : Below w.heap.size w (w.alloc (.cells #[.int .i64 6, .string (str text), .int .i64 1, .slice (some ⟨ga, oa, none⟩) 2 kc] 24)) := (Below.refl _ _).alloc (Nat.le_refl _) _
  have hz0 : (w.alloc (.cells #[.int .i64 6, .string (str text), .int .i64 1, .slice (some ⟨ga, oa, none⟩) 2 kc] 24)).heap.size = w.heap.size + 1 := by simp
  have hN0 := heap_new w #[.int .i64 6, .string (str text), .int .i64 1, .slice (some ⟨ga, oa, none⟩) 2 kc] 24
  have hbW := hb.trans (hB0.mono hb.size)
  have hsx : (str (jx (shT x))).size ≤ 9300000000000 := by show (jx (shT x)).length ≤ _; omega
  generalize hgx : str (jx (shT x)) = sx at *
  have HGx := hide hgx
  clear hgx
  have hsy : (str (jx (shT y))).size ≤ 9300000000000 := by show (jx (shT y)).length ≤ _; omega
  generalize hgy : str (jx (shT y)) = sy at *
  have HGy := hide hgy
  clear hgy
  have HE : Hid ((⟨#[115, 116, 97, 116, 105, 99, 32]⟩ : ByteArray) ++ sx ++ (⟨#[32]⟩ : ByteArray) ++ str text ++ (⟨#[32, 61, 32]⟩ : ByteArray) ++ sy ++ (⟨#[32, 59]⟩ : ByteArray) = str (jx (shT (.mk 6 text 1 [x, y])))) := by
    show _ = _
    rw [sh_d6 _ _ _ _ (by decide) (by decide), if_pos rfl, jx_app (by simp) (by simp), jx_app (by simp) ey, jx_app (by simp) (by simp), jx_app (by simp) (by simp), jx_app ex (by simp), jx_one, jx_one, jx_one, jx_one]
    rw [← HGx.out, ← HGy.out]
    apply ByteArray.ext
    apply Array.toList_inj.1
    simp [str, raw_wd, raw_sg]
  clear hb hR hx hy ht
  go_enter Tryd.func10, Tryd.ntmps10
  go_wp2_with fail
  generalize w.alloc (.cells #[.int .i64 6, .string (str text), .int .i64 1, .slice (some ⟨ga, oa, none⟩) 2 kc] 24) = W at *
  have HW : Hid (∀ w', Below W.heap.size W w' → Below w.heap.size w w' ∧ Below w0.heap.size w0 w') := fun w' hw => ⟨hB0.trans (hw.mono (by omega)), hbW.trans (hw.mono hbW.size)⟩
  have HNW : Hid (∀ w', Below W.heap.size W w' → ∀ oo, w'.cell? ⟨w.heap.size, oo, none⟩ = (#[Value.int .i64 6, .string (str text), .int .i64 1, .slice (some ⟨ga, oa, none⟩) 2 kc])[oo]?) := fun w' hw => cells_at ((hw.block w.heap.size (by omega)).trans hN0)
  clear hB0 hz0 hN0 hbW
  have HSd : Hid (∀ w', Below W.heap.size W w' → (fun w' => (∀ oo, w'.cell? ⟨w.heap.size, oo, none⟩ = (#[Value.int .i64 6, .string (str text), .int .i64 1, .slice (some ⟨ga, oa, none⟩) 2 kc])[oo]?) ∧ w'.cell? ⟨ga, oa, none⟩ = some (.int .i64 ka) ∧ w'.cell? ⟨ga, oa + 1, none⟩ = some (.string xa) ∧ w'.cell? ⟨ga, oa + 2, none⟩ = some (.int .i64 na) ∧ w'.cell? ⟨ga, oa + 3, none⟩ = some (.slice aa ma ca) ∧ w'.cell? ⟨ga, oa + 4, none⟩ = some (.int .i64 kd) ∧ w'.cell? ⟨ga, oa + 4 + 1, none⟩ = some (.string xd) ∧ w'.cell? ⟨ga, oa + 4 + 2, none⟩ = some (.int .i64 nd) ∧ w'.cell? ⟨ga, oa + 4 + 3, none⟩ = some (.slice ad md cd)) w') := fun w' hw => ⟨HNW.out w' hw, below_cell (HW.out w' hw).2 Ha0.out, below_cell (HW.out w' hw).2 Ha1.out, below_cell (HW.out w' hw).2 Ha2.out, below_cell (HW.out w' hw).2 Ha3.out, below_cell (HW.out w' hw).2 Hd0.out, below_cell (HW.out w' hw).2 Hd1.out, below_cell (HW.out w' hw).2 Hd2.out, below_cell (HW.out w' hw).2 Hd3.out⟩
  refine wp_region_held_drew (S := (fun w' => (∀ oo, w'.cell? ⟨w.heap.size, oo, none⟩ = (#[Value.int .i64 6, .string (str text), .int .i64 1, .slice (some ⟨ga, oa, none⟩) 2 kc])[oo]?) ∧ w'.cell? ⟨ga, oa, none⟩ = some (.int .i64 ka) ∧ w'.cell? ⟨ga, oa + 1, none⟩ = some (.string xa) ∧ w'.cell? ⟨ga, oa + 2, none⟩ = some (.int .i64 na) ∧ w'.cell? ⟨ga, oa + 3, none⟩ = some (.slice aa ma ca) ∧ w'.cell? ⟨ga, oa + 4, none⟩ = some (.int .i64 kd) ∧ w'.cell? ⟨ga, oa + 4 + 1, none⟩ = some (.string xd) ∧ w'.cell? ⟨ga, oa + 4 + 2, none⟩ = some (.int .i64 nd) ∧ w'.cell? ⟨ga, oa + 4 + 3, none⟩ = some (.slice ad md cd))) (by kernel_rfl) (HSd.out _ ((Below.refl _ _).drew)) (fun hHeld => ?_)
  have HB0 : Hid (Below W.heap.size W W.drew) := (Below.refl _ _).drew
  refine wpAnyH_take (i := 0) (v := ?_) rfl (by kernel_rfl) (by kernel_rfl) (by kernel_rfl) (fun _ _ _ h => h) (Or.inl ⟨by rfl, ?_⟩) (by assumption) ?_
  rotate_left
  · (intro w hSw; (try dsimp only at hSw); go_simp) <;> with_reducible rfl
  (simp only [Act.put, List.getElem_toArray, List.getElem_cons_zero, List.getElem_cons_succ, List.setIfInBounds_toArray, List.set_cons_zero, List.set_cons_succ])
  refine wpAnyH_take (i := 1) (v := ?_) rfl (by kernel_rfl) (by kernel_rfl) (by kernel_rfl) (fun _ _ _ h => h) (Or.inl ⟨by rfl, ?_⟩) (by assumption) ?_
  rotate_left
  · (intro w hSw; (try dsimp only at hSw); go_simp) <;> with_reducible rfl
  (simp only [Act.put, List.getElem_toArray, List.getElem_cons_zero, List.getElem_cons_succ, List.setIfInBounds_toArray, List.set_cons_zero, List.set_cons_succ])
  refine wpAnyH_take (i := 2) (v := ?_) rfl (by kernel_rfl) (by kernel_rfl) (by kernel_rfl) (fun _ _ _ h => h) (Or.inl ⟨by rfl, ?_⟩) (by assumption) ?_
  rotate_left
  · (intro w hSw; (try dsimp only at hSw); go_simp) <;> with_reducible rfl
  (simp only [Act.put, List.getElem_toArray, List.getElem_cons_zero, List.getElem_cons_succ, List.setIfInBounds_toArray, List.set_cons_zero, List.set_cons_succ])
  refine wpAnyH_take (i := 3) (v := ?_) rfl (by kernel_rfl) (by kernel_rfl) (by kernel_rfl) (fun _ _ _ h => h) (Or.inl ⟨by rfl, ?_⟩) (by assumption) ?_
  rotate_left
  · (intro w hSw; (try dsimp only at hSw); go_simp) <;> with_reducible rfl
  (simp only [Act.put, List.getElem_toArray, List.getElem_cons_zero, List.getElem_cons_succ, List.setIfInBounds_toArray, List.set_cons_zero, List.set_cons_succ])
  refine wpAnyH_take (i := 4) (v := ?_) rfl (by kernel_rfl) (by kernel_rfl) (by kernel_rfl) (fun _ _ _ h => h) (Or.inl ⟨by rfl, ?_⟩) (by assumption) ?_
  rotate_left
  · (intro w hSw; (try dsimp only at hSw); go_simp) <;> with_reducible rfl
  (simp only [Act.put, List.getElem_toArray, List.getElem_cons_zero, List.getElem_cons_succ, List.setIfInBounds_toArray, List.set_cons_zero, List.set_cons_succ])
  refine wpAnyH_take (i := 8) (v := ?_) rfl (by kernel_rfl) (by kernel_rfl) (by kernel_rfl) (fun _ _ _ h => h) (Or.inl ⟨by rfl, ?_⟩) (by assumption) ?_
  rotate_left
  · (intro w hSw; (try dsimp only at hSw); go_simp) <;> with_reducible rfl
  (simp only [Act.put, List.getElem_toArray, List.getElem_cons_zero, List.getElem_cons_succ, List.setIfInBounds_toArray, List.set_cons_zero, List.set_cons_succ])
  refine wpAnyH_take (i := 9) (v := ?_) rfl (by kernel_rfl) (by kernel_rfl) (by kernel_rfl) (fun _ _ _ h => h) (Or.inl ⟨by rfl, ?_⟩) (by assumption) ?_
  rotate_left
  · (intro w hSw; (try dsimp only at hSw); go_simp) <;> with_reducible rfl
  (simp only [Act.put, List.getElem_toArray, List.getElem_cons_zero, List.getElem_cons_succ, List.setIfInBounds_toArray, List.set_cons_zero, List.set_cons_succ])
  refine wpAnyH_take (i := 12) (v := ?_) rfl (by kernel_rfl) (by kernel_rfl) (by kernel_rfl) (fun _ _ _ h => h) (Or.inl ⟨by rfl, ?_⟩) (by assumption) ?_
  rotate_left
  · (intro w hSw; (try dsimp only at hSw); go_simp) <;> with_reducible rfl
  (simp only [Act.put, List.getElem_toArray, List.getElem_cons_zero, List.getElem_cons_succ, List.setIfInBounds_toArray, List.set_cons_zero, List.set_cons_succ])
  refine wpAnyH_take (i := 13) (v := ?_) rfl (by kernel_rfl) (by kernel_rfl) (by kernel_rfl) (fun _ _ _ h => h) (Or.inl ⟨by rfl, ?_⟩) (by assumption) ?_
  rotate_left
  · (intro w hSw; (try dsimp only at hSw); go_simp) <;> with_reducible rfl
  (simp only [Act.put, List.getElem_toArray, List.getElem_cons_zero, List.getElem_cons_succ, List.setIfInBounds_toArray, List.set_cons_zero, List.set_cons_succ])
  refine wpAnyH_take (i := 14) (v := ?_) rfl (by kernel_rfl) (by kernel_rfl) (by kernel_rfl) (fun _ _ _ h => h) (Or.inl ⟨by rfl, ?_⟩) (by assumption) ?_
  rotate_left
  · (intro w hSw; (try dsimp only at hSw); go_simp) <;> with_reducible rfl
  (simp only [Act.put, List.getElem_toArray, List.getElem_cons_zero, List.getElem_cons_succ, List.setIfInBounds_toArray, List.set_cons_zero, List.set_cons_succ])
  refine wpAnyH_take (i := 15) (v := ?_) rfl (by kernel_rfl) (by kernel_rfl) (by kernel_rfl) (fun _ _ _ h => h) (Or.inl ⟨by rfl, ?_⟩) (by assumption) ?_
  rotate_left
  · (intro w hSw; (try dsimp only at hSw); go_simp) <;> with_reducible rfl
  (simp only [Act.put, List.getElem_toArray, List.getElem_cons_zero, List.getElem_cons_succ, List.setIfInBounds_toArray, List.set_cons_zero, List.set_cons_succ])
  refine wpAnyH_ready (rs := [5]) (by kernel_rfl) (by simp) ?_
  refine AllReadyH.cons rfl (fun K hK => ?_) AllReadyH.nil
  go_simp
  refine (hca _ (HW.out _ HB0.out).2).mono ?_
  rintro e w1 ⟨rfl, hb1⟩
  have HB1 : Hid (Below W.heap.size W w1) := HB0.out.trans (hb1.mono HB0.out.size)
  clear hb1
  refine hK.out _ _ (HSd.out _ HB1.out) (fun hHeld1 => ?_)
  clear hK K
  (try (simp only [Act.put, List.getElem_toArray, List.getElem_cons_zero, List.getElem_cons_succ, List.setIfInBounds_toArray, List.set_cons_zero, List.set_cons_succ]))
  refine wpAnyH_take (i := 6) (v := ?_) rfl (by kernel_rfl) (by kernel_rfl) (by kernel_rfl) (fun _ _ _ h => h) (Or.inl ⟨by rfl, ?_⟩) (by assumption) ?_
  rotate_left
  · (intro w hSw; (try dsimp only at hSw); go_simp; rw [if_neg (by omega)]) <;> with_reducible rfl
  (simp only [Act.put, List.getElem_toArray, List.getElem_cons_zero, List.getElem_cons_succ, List.setIfInBounds_toArray, List.set_cons_zero, List.set_cons_succ])
  refine wpAnyH_take (i := 7) (v := ?_) rfl (by kernel_rfl) (by kernel_rfl) (by kernel_rfl) (fun _ _ _ h => h) (Or.inl ⟨by rfl, ?_⟩) (by assumption) ?_
  rotate_left
  · (intro w hSw; (try dsimp only at hSw); go_simp; rw [if_neg (by omega)]) <;> with_reducible rfl
  (simp only [Act.put, List.getElem_toArray, List.getElem_cons_zero, List.getElem_cons_succ, List.setIfInBounds_toArray, List.set_cons_zero, List.set_cons_succ])
  refine wpAnyH_take (i := 10) (v := ?_) rfl (by kernel_rfl) (by kernel_rfl) (by kernel_rfl) (fun _ _ _ h => h) (Or.inl ⟨by rfl, ?_⟩) (by assumption) ?_
  rotate_left
  · (intro w hSw; (try dsimp only at hSw); go_simp; rw [if_neg (by omega)]) <;> with_reducible rfl
  (simp only [Act.put, List.getElem_toArray, List.getElem_cons_zero, List.getElem_cons_succ, List.setIfInBounds_toArray, List.set_cons_zero, List.set_cons_succ])
  refine wpAnyH_take (i := 11) (v := ?_) rfl (by kernel_rfl) (by kernel_rfl) (by kernel_rfl) (fun _ _ _ h => h) (Or.inl ⟨by rfl, ?_⟩) (by assumption) ?_
  rotate_left
  · (intro w hSw; (try dsimp only at hSw); go_simp; rw [if_neg (by omega)]) <;> with_reducible rfl
  (simp only [Act.put, List.getElem_toArray, List.getElem_cons_zero, List.getElem_cons_succ, List.setIfInBounds_toArray, List.set_cons_zero, List.set_cons_succ])
  refine wpAnyH_ready (rs := [16]) (by kernel_rfl) (by simp) ?_
  refine AllReadyH.cons rfl (fun K hK => ?_) AllReadyH.nil
  go_simp
  refine (hcd _ (HW.out _ HB1.out).2).mono ?_
  rintro e w2 ⟨rfl, hb2⟩
  have HB2 : Hid (Below W.heap.size W w2) := HB1.out.trans (hb2.mono HB1.out.size)
  clear hb2
  refine hK.out _ _ (HSd.out _ HB2.out) (fun hHeld2 => ?_)
  clear hK K
  (try (simp only [Act.put, List.getElem_toArray, List.getElem_cons_zero, List.getElem_cons_succ, List.setIfInBounds_toArray, List.set_cons_zero, List.set_cons_succ]))
  refine wpAnyH_take (i := 17) (v := ?_) rfl (by kernel_rfl) (by kernel_rfl) (by kernel_rfl) (fun _ _ _ h => h) (Or.inl ⟨by rfl, ?_⟩) (by assumption) ?_
  rotate_left
  · (intro w hSw; (try dsimp only at hSw); go_simp; rw [if_neg (by omega)]) <;> with_reducible rfl
  (simp only [Act.put, List.getElem_toArray, List.getElem_cons_zero, List.getElem_cons_succ, List.setIfInBounds_toArray, List.set_cons_zero, List.set_cons_succ])
  refine wpAnyH_take (i := 18) (v := ?_) rfl (by kernel_rfl) (by kernel_rfl) (by kernel_rfl) (fun _ _ _ h => h) (Or.inl ⟨by rfl, ?_⟩) (by assumption) ?_
  rotate_left
  · (intro w hSw; (try dsimp only at hSw); go_simp; rw [if_neg (by omega)]) <;> with_reducible rfl
  (simp only [Act.put, List.getElem_toArray, List.getElem_cons_zero, List.getElem_cons_succ, List.setIfInBounds_toArray, List.set_cons_zero, List.set_cons_succ])
  refine wpAnyH_take (i := 19) (v := ?_) rfl (by kernel_rfl) (by kernel_rfl) (by kernel_rfl) (fun _ _ _ h => h) (Or.inl ⟨by rfl, ?_⟩) (by assumption) ?_
  rotate_left
  · (intro w hSw; (try dsimp only at hSw); go_simp) <;> with_reducible rfl
  (simp only [Act.put, List.getElem_toArray, List.getElem_cons_zero, List.getElem_cons_succ, List.setIfInBounds_toArray, List.set_cons_zero, List.set_cons_succ])
  refine wpAnyH_done (by kernel_rfl) ?_ _
  go_wp2_with fail
  go_ret
  exact ⟨by rw [← HE.out]; rfl, (HW.out _ HB2.out).1⟩
end Go.Proofs.YthcfianhdkolhaaDoor.T
