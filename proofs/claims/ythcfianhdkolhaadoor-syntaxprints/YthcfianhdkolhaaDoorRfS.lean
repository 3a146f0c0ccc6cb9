/- The contract of the reference's Show: by kinds. -/
import Derived.Test.YthcfianhdkolhaaDoorRfL
import Derived.Test.YthcfianhdkolhaaDoorRfK
namespace Go.Proofs.YthcfianhdkolhaaDoor.T
open Go.RowKit Go.Proofs.YthcfianhdkolhaaDoor.S
set_option linter.unusedVariables false
set_option linter.unusedSimpArgs false
set_option maxRecDepth 100000 in
set_option maxHeartbeats 4000000 in
theorem show_k24 {w0 : World} (text : List UInt8) (num : Int) (x : Nd) (ht : text.length ≤ 16) (hx : ShN w0 x) (ex : shT x ≠ []) (bdx : (jx (shT x)).length ≤ 9200000000000) : ShN w0 (.mk 24 text num [x]) := by
  intro w v hb hv
  obtain ⟨ka, kc, rfl, t1, n1, n2, l1, l2, hR⟩ := hv.part
  have htx : (str text).size ≤ 16 := ht
  clear hv
  obtain ⟨ga, oa, ka, xa, na, aa, ma, ca, hkaa, hga, qa0, qa1, qa2, qa3, hnda⟩ := hR.kid0
  have Ha := hide hnda
  have Ha0 := hide qa0
  have Ha1 := hide qa1
  have Ha2 := hide qa2
  have Ha3 := hide qa3
  clear qa0 qa1 qa2 qa3 hnda hga
  subst hkaa
  have hcA : ∀ w', Below w0.heap.size w0 w' → Calls Tryd.prog 27 #[.agg #[.int .i64 ka, .string xa, .int .i64 na, .slice aa ma ca], .int .i64 4] w' fun e w'' => e = .returned (.string (str (jx (atT (bindN x) 4 (shT x))))) ∧ Below w'.heap.size w' w'' := fun w' h => at_any x hx ex 4 w' _ h Ha.out (by omega)
  have bA : (jx (atT (bindN x) 4 (shT x))).length ≤ 9200000000004 := by rw [jx_at _ _ _ ex]; split <;> (try simp only [List.length_append, List.length_cons, List.length_nil]) <;> omega
  have hB0 : Below w.heap.size w (w.alloc (.cells #[.int .i64 24, .string (str text), .int .i64 num, .slice (some ⟨ga, oa, none⟩) 1 kc] 24)) := (Below.refl _ _).alloc (Nat.le_refl _) _
  have hz0 : (w.alloc (.cells #[.int .i64 24, .string (str text), .int .i64 num, .slice (some ⟨ga, oa, none⟩) 1 kc] 24)).heap.size = w.heap.size + 1 := by simp
  have hN0 := heap_new w #[.int .i64 24, .string (str text), .int .i64 num, .slice (some ⟨ga, oa, none⟩) 1 kc] 24
  have hbW := hb.trans (hB0.mono hb.size)
  have hsA : (str (jx (atT (bindN x) 4 (shT x)))).size ≤ 9300000000000 := by show (jx (atT (bindN x) 4 (shT x))).length ≤ _; omega
  generalize hgA : str (jx (atT (bindN x) 4 (shT x))) = sA at *
  have HGA := hide hgA
  clear hgA
  have HE : Hid (sA ++ (⟨#[32, 46, 32]⟩ : ByteArray) ++ str text = str (jx (shT (.mk 24 text num [x])))) := by
    show _ = _
    rw [sh_e24, jx_app (at_ne ex) (by simp), jx_cons (by simp), jx_one]
    rw [← HGA.out]
    apply ByteArray.ext
    apply Array.toList_inj.1
    simp [str, raw_wd, raw_sg]
  clear hb hR hx ht
  go_enter Tryd.func10, Tryd.ntmps10
  go_wp2_with fail
  generalize w.alloc (.cells #[.int .i64 24, .string (str text), .int .i64 num, .slice (some ⟨ga, oa, none⟩) 1 kc] 24) = W at *
  have HW : Hid (∀ w', Below W.heap.size W w' → Below w.heap.size w w' ∧ Below w0.heap.size w0 w') := fun w' hw => ⟨hB0.trans (hw.mono (by omega)), hbW.trans (hw.mono hbW.size)⟩
  have HNW : Hid (∀ w', Below W.heap.size W w' → ∀ oo, w'.cell? ⟨w.heap.size, oo, none⟩ = (#[Value.int .i64 24, .string (str text), .int .i64 num, .slice (some ⟨ga, oa, none⟩) 1 kc])[oo]?) := fun w' hw => cells_at ((hw.block w.heap.size (by omega)).trans hN0)
  clear hB0 hz0 hN0 hbW
  have HSd : Hid (∀ w', Below W.heap.size W w' → (fun w' => (∀ oo, w'.cell? ⟨w.heap.size, oo, none⟩ = (#[Value.int .i64 24, .string (str text), .int .i64 num, .slice (some ⟨ga, oa, none⟩) 1 kc])[oo]?) ∧ w'.cell? ⟨ga, oa, none⟩ = some (.int .i64 ka) ∧ w'.cell? ⟨ga, oa + 1, none⟩ = some (.string xa) ∧ w'.cell? ⟨ga, oa + 2, none⟩ = some (.int .i64 na) ∧ w'.cell? ⟨ga, oa + 3, none⟩ = some (.slice aa ma ca)) w') := fun w' hw => ⟨HNW.out w' hw, below_cell (HW.out w' hw).2 Ha0.out, below_cell (HW.out w' hw).2 Ha1.out, below_cell (HW.out w' hw).2 Ha2.out, below_cell (HW.out w' hw).2 Ha3.out⟩
  refine wp_region_held_drew (S := (fun w' => (∀ oo, w'.cell? ⟨w.heap.size, oo, none⟩ = (#[Value.int .i64 24, .string (str text), .int .i64 num, .slice (some ⟨ga, oa, none⟩) 1 kc])[oo]?) ∧ w'.cell? ⟨ga, oa, none⟩ = some (.int .i64 ka) ∧ w'.cell? ⟨ga, oa + 1, none⟩ = some (.string xa) ∧ w'.cell? ⟨ga, oa + 2, none⟩ = some (.int .i64 na) ∧ w'.cell? ⟨ga, oa + 3, none⟩ = some (.slice aa ma ca))) (by kernel_rfl) (HSd.out _ ((Below.refl _ _).drew)) (fun hHeld => ?_)
  have HB0 : Hid (Below W.heap.size W W.drew) := (Below.refl _ _).drew
  refine wpAnyH_take (i := 0) (v := ?_) rfl (by kernel_rfl) (by kernel_rfl) (by kernel_rfl) (fun _ _ _ h => h) (Or.inl ⟨by rfl, ?_⟩) (by assumption) ?_
  rotate_left
  · (intro w hSw; (try dsimp only at hSw); go_simp) <;> with_reducible rfl
  (simp only [Act.put, List.getElem_toArray, List.getElem_cons_zero, List.getElem_cons_succ, List.setIfInBounds_toArray, List.set_cons_zero, List.set_cons_succ])
  refine wpAnyH_take (i := 1) (v := ?_) rfl (by kernel_rfl) (by kernel_rfl) (by kernel_rfl) (fun _ _ _ h => h) (Or.inl ⟨by rfl, ?_⟩) (by assumption) ?_
  rotate_left
  · (intro w hSw; (try dsimp only at hSw); go_simp) <;> with_reducible rfl
  (simp only [Act.put, List.getElem_toArray, List.getElem_cons_zero, List.getElem_cons_succ, List.setIfInBounds_toArray, List.set_cons_zero, List.set_cons_succ])
  refine wpAnyH_take (i := 2) (v := ?_) rfl (by kernel_rfl) (by kernel_rfl) (by kernel_rfl) (fun _ _ _ h => h) (Or.inl ⟨by rfl, ?_⟩) (by assumption) ?_
  rotate_left
  · (intro w hSw; (try dsimp only at hSw); go_simp) <;> with_reducible rfl
  (simp only [Act.put, List.getElem_toArray, List.getElem_cons_zero, List.getElem_cons_succ, List.setIfInBounds_toArray, List.set_cons_zero, List.set_cons_succ])
  refine wpAnyH_take (i := 3) (v := ?_) rfl (by kernel_rfl) (by kernel_rfl) (by kernel_rfl) (fun _ _ _ h => h) (Or.inl ⟨by rfl, ?_⟩) (by assumption) ?_
  rotate_left
  · (intro w hSw; (try dsimp only at hSw); go_simp) <;> with_reducible rfl
  (simp only [Act.put, List.getElem_toArray, List.getElem_cons_zero, List.getElem_cons_succ, List.setIfInBounds_toArray, List.set_cons_zero, List.set_cons_succ])
  refine wpAnyH_take (i := 6) (v := ?_) rfl (by kernel_rfl) (by kernel_rfl) (by kernel_rfl) (fun _ _ _ h => h) (Or.inl ⟨by rfl, ?_⟩) (by assumption) ?_
  rotate_left
  · (intro w hSw; (try dsimp only at hSw); go_simp) <;> with_reducible rfl
  (simp only [Act.put, List.getElem_toArray, List.getElem_cons_zero, List.getElem_cons_succ, List.setIfInBounds_toArray, List.set_cons_zero, List.set_cons_succ])
  refine wpAnyH_take (i := 7) (v := ?_) rfl (by kernel_rfl) (by kernel_rfl) (by kernel_rfl) (fun _ _ _ h => h) (Or.inl ⟨by rfl, ?_⟩) (by assumption) ?_
  rotate_left
  · (intro w hSw; (try dsimp only at hSw); go_simp) <;> with_reducible rfl
  (simp only [Act.put, List.getElem_toArray, List.getElem_cons_zero, List.getElem_cons_succ, List.setIfInBounds_toArray, List.set_cons_zero, List.set_cons_succ])
  refine wpAnyH_ready (rs := [4]) (by kernel_rfl) (by simp) ?_
  refine AllReadyH.cons rfl (fun K hK => ?_) AllReadyH.nil
  go_simp
  refine (hcA _ (HW.out _ HB0.out).2).mono ?_
  rintro e w1 ⟨rfl, hb1⟩
  have HB1 : Hid (Below W.heap.size W w1) := HB0.out.trans (hb1.mono HB0.out.size)
  clear hb1
  refine hK.out _ _ (HSd.out _ HB1.out) (fun hHeld1 => ?_)
  clear hK K
  (try (simp only [Act.put, List.getElem_toArray, List.getElem_cons_zero, List.getElem_cons_succ, List.setIfInBounds_toArray, List.set_cons_zero, List.set_cons_succ]))
  refine wpAnyH_take (i := 5) (v := ?_) rfl (by kernel_rfl) (by kernel_rfl) (by kernel_rfl) (fun _ _ _ h => h) (Or.inl ⟨by rfl, ?_⟩) (by assumption) ?_
  rotate_left
  · (intro w hSw; (try dsimp only at hSw); go_simp; rw [if_neg (by omega)]) <;> with_reducible rfl
  (simp only [Act.put, List.getElem_toArray, List.getElem_cons_zero, List.getElem_cons_succ, List.setIfInBounds_toArray, List.set_cons_zero, List.set_cons_succ])
  refine wpAnyH_take (i := 8) (v := ?_) rfl (by kernel_rfl) (by kernel_rfl) (by kernel_rfl) (fun _ _ _ h => h) (Or.inl ⟨by rfl, ?_⟩) (by assumption) ?_
  rotate_left
  · (intro w hSw; (try dsimp only at hSw); go_simp; rw [if_neg (by omega)]) <;> with_reducible rfl
  (simp only [Act.put, List.getElem_toArray, List.getElem_cons_zero, List.getElem_cons_succ, List.setIfInBounds_toArray, List.set_cons_zero, List.set_cons_succ])
  refine wpAnyH_take (i := 9) (v := ?_) rfl (by kernel_rfl) (by kernel_rfl) (by kernel_rfl) (fun _ _ _ h => h) (Or.inl ⟨by rfl, ?_⟩) (by assumption) ?_
  rotate_left
  · (intro w hSw; (try dsimp only at hSw); go_simp) <;> with_reducible rfl
  (simp only [Act.put, List.getElem_toArray, List.getElem_cons_zero, List.getElem_cons_succ, List.setIfInBounds_toArray, List.set_cons_zero, List.set_cons_succ])
  refine wpAnyH_done (by kernel_rfl) ?_ _
  go_wp2_with fail
  go_ret
  exact ⟨by rw [← HE.out]; rfl, (HW.out _ HB1.out).1⟩
set_option maxRecDepth 100000 in
set_option maxHeartbeats 4000000 in
theorem show_k25 {w0 : World} (text : List UInt8) (num : Int) (x : Nd) (l : List Nd) (ht : text.length ≤ 16) (hx : ShN w0 x) (ex : shT x ≠ []) (bdx : (jx (shT x)).length ≤ 9200000000000) (hl : ∀ y, y ∈ l → ShN w0 y) (el : ∀ y, y ∈ l → shT y ≠ []) (hl7 : l.length ≤ 700) (br : (jx (rowT (l.map shT) false)).length ≤ 9200000000000) : ShN w0 (.mk 25 text num (x :: l)) := by
  intro w v hb hv
  obtain ⟨ka, kc, rfl, t1, n1, n2, l1, l2, hR⟩ := hv.part
  have htx : (str text).size ≤ 16 := ht
  clear hv
  obtain ⟨ga, oa, ka, xa, na, aa, ma, ca, hkaa, hga, qa0, qa1, qa2, qa3, hnda⟩ := hR.kid0
  have Ha := hide hnda
  have Ha0 := hide qa0
  have Ha1 := hide qa1
  have Ha2 := hide qa2
  have Ha3 := hide qa3
  clear qa0 qa1 qa2 qa3 hnda hga
  subst hkaa
  have hcA : ∀ w', Below w0.heap.size w0 w' → Calls Tryd.prog 27 #[.agg #[.int .i64 ka, .string xa, .int .i64 na, .slice aa ma ca], .int .i64 4] w' fun e w'' => e = .returned (.string (str (jx (atT (bindN x) 4 (shT x))))) ∧ Below w'.heap.size w' w'' := fun w' h => at_any x hx ex 4 w' _ h Ha.out (by omega)
  have bA : (jx (atT (bindN x) 4 (shT x))).length ≤ 9200000000004 := by rw [jx_at _ _ _ ex]; split <;> (try simp only [List.length_append, List.length_cons, List.length_nil]) <;> omega
  have HRt := hide hR.tail
  simp only [List.length_cons] at l1 ⊢
  by_cases hk1 : kc = 1
  · subst hk1
    obtain rfl : l = [] := List.eq_nil_of_length_eq_zero (by omega)
    simp only [List.length_nil, Nat.zero_add] at l1 ⊢
    have hcr : ∀ w', Below w0.heap.size w0 w' → Calls Tryd.prog 25 #[.slice (some ⟨ga, oa, none⟩) 0 0, .bool false] w' fun e w'' => e = .returned (.string (str (jx (rowT (([] : List Nd).map shT) false)))) ∧ Below w'.heap.size w' w'' := fun w' h => row_none [] false (fun y hy => by simp at hy) (fun y hy => by simp at hy) w' h _ _ (fun h => absurd rfl h) (by simp) (by omega)
    have hB0 : Below w.heap.size w (w.alloc (.cells #[.int .i64 25, .string (str text), .int .i64 num, .slice (some ⟨ga, oa, none⟩) 1 1] 24)) := (Below.refl _ _).alloc (Nat.le_refl _) _
    have hz0 : (w.alloc (.cells #[.int .i64 25, .string (str text), .int .i64 num, .slice (some ⟨ga, oa, none⟩) 1 1] 24)).heap.size = w.heap.size + 1 := by simp
    have hN0 := heap_new w #[.int .i64 25, .string (str text), .int .i64 num, .slice (some ⟨ga, oa, none⟩) 1 1] 24
    have hbW := hb.trans (hB0.mono hb.size)
    have hsA : (str (jx (atT (bindN x) 4 (shT x)))).size ≤ 9300000000000 := by show (jx (atT (bindN x) 4 (shT x))).length ≤ _; omega
    generalize hgA : str (jx (atT (bindN x) 4 (shT x))) = sA at *
    have HGA := hide hgA
    clear hgA
    have hsr : (str (jx (rowT (([] : List Nd).map shT) false))).size ≤ 9300000000000 := by show (jx (rowT (([] : List Nd).map shT) false)).length ≤ _; omega
    generalize hgr : str (jx (rowT (([] : List Nd).map shT) false)) = sr at *
    have HGr := hide hgr
    clear hgr
    have HE : Hid (sA ++ (⟨#[32]⟩ : ByteArray) ++ sr = str (jx (shT (.mk 25 text num (x :: ([] : List Nd)))))) := by
      show _ = _
      rw [sh_e25, jx_app (at_ne ex) (row_ne _ _)]
      rw [← HGA.out, ← HGr.out]
      apply ByteArray.ext
      apply Array.toList_inj.1
      simp [str, raw_wd, raw_sg]
    clear hb hR hx hl el ht
    go_enter Tryd.func10, Tryd.ntmps10
    go_wp2_with fail
    generalize w.alloc (.cells #[.int .i64 25, .string (str text), .int .i64 num, .slice (some ⟨ga, oa, none⟩) 1 1] 24) = W at *
    have HW : Hid (∀ w', Below W.heap.size W w' → Below w.heap.size w w' ∧ Below w0.heap.size w0 w') := fun w' hw => ⟨hB0.trans (hw.mono (by omega)), hbW.trans (hw.mono hbW.size)⟩
    have HNW : Hid (∀ w', Below W.heap.size W w' → ∀ oo, w'.cell? ⟨w.heap.size, oo, none⟩ = (#[Value.int .i64 25, .string (str text), .int .i64 num, .slice (some ⟨ga, oa, none⟩) 1 1])[oo]?) := fun w' hw => cells_at ((hw.block w.heap.size (by omega)).trans hN0)
    clear hB0 hz0 hN0 hbW
    have HSd : Hid (∀ w', Below W.heap.size W w' → (fun w' => (∀ oo, w'.cell? ⟨w.heap.size, oo, none⟩ = (#[Value.int .i64 25, .string (str text), .int .i64 num, .slice (some ⟨ga, oa, none⟩) 1 1])[oo]?) ∧ w'.cell? ⟨ga, oa, none⟩ = some (.int .i64 ka) ∧ w'.cell? ⟨ga, oa + 1, none⟩ = some (.string xa) ∧ w'.cell? ⟨ga, oa + 2, none⟩ = some (.int .i64 na) ∧ w'.cell? ⟨ga, oa + 3, none⟩ = some (.slice aa ma ca)) w') := fun w' hw => ⟨HNW.out w' hw, below_cell (HW.out w' hw).2 Ha0.out, below_cell (HW.out w' hw).2 Ha1.out, below_cell (HW.out w' hw).2 Ha2.out, below_cell (HW.out w' hw).2 Ha3.out⟩
    refine wp_region_held_drew (S := (fun w' => (∀ oo, w'.cell? ⟨w.heap.size, oo, none⟩ = (#[Value.int .i64 25, .string (str text), .int .i64 num, .slice (some ⟨ga, oa, none⟩) 1 1])[oo]?) ∧ w'.cell? ⟨ga, oa, none⟩ = some (.int .i64 ka) ∧ w'.cell? ⟨ga, oa + 1, none⟩ = some (.string xa) ∧ w'.cell? ⟨ga, oa + 2, none⟩ = some (.int .i64 na) ∧ w'.cell? ⟨ga, oa + 3, none⟩ = some (.slice aa ma ca))) (by kernel_rfl) (HSd.out _ ((Below.refl _ _).drew)) (fun hHeld => ?_)
    have HB0 : Hid (Below W.heap.size W W.drew) := (Below.refl _ _).drew
    refine wpAnyH_take (i := 0) (v := ?_) rfl (by kernel_rfl) (by kernel_rfl) (by kernel_rfl) (fun _ _ _ h => h) (Or.inl ⟨by rfl, ?_⟩) (by assumption) ?_
    rotate_left
    · (intro w hSw; (try dsimp only at hSw); go_simp) <;> with_reducible rfl
    (simp only [Act.put, List.getElem_toArray, List.getElem_cons_zero, List.getElem_cons_succ, List.setIfInBounds_toArray, List.set_cons_zero, List.set_cons_succ])
    refine wpAnyH_take (i := 1) (v := ?_) rfl (by kernel_rfl) (by kernel_rfl) (by kernel_rfl) (fun _ _ _ h => h) (Or.inl ⟨by rfl, ?_⟩) (by assumption) ?_
    rotate_left
    · (intro w hSw; (try dsimp only at hSw); go_simp) <;> with_reducible rfl
    (simp only [Act.put, List.getElem_toArray, List.getElem_cons_zero, List.getElem_cons_succ, List.setIfInBounds_toArray, List.set_cons_zero, List.set_cons_succ])
    refine wpAnyH_take (i := 2) (v := ?_) rfl (by kernel_rfl) (by kernel_rfl) (by kernel_rfl) (fun _ _ _ h => h) (Or.inl ⟨by rfl, ?_⟩) (by assumption) ?_
    rotate_left
    · (intro w hSw; (try dsimp only at hSw); go_simp) <;> with_reducible rfl
    (simp only [Act.put, List.getElem_toArray, List.getElem_cons_zero, List.getElem_cons_succ, List.setIfInBounds_toArray, List.set_cons_zero, List.set_cons_succ])
    refine wpAnyH_take (i := 3) (v := ?_) rfl (by kernel_rfl) (by kernel_rfl) (by kernel_rfl) (fun _ _ _ h => h) (Or.inl ⟨by rfl, ?_⟩) (by assumption) ?_
    rotate_left
    · (intro w hSw; (try dsimp only at hSw); go_simp) <;> with_reducible rfl
    (simp only [Act.put, List.getElem_toArray, List.getElem_cons_zero, List.getElem_cons_succ, List.setIfInBounds_toArray, List.set_cons_zero, List.set_cons_succ])
    refine wpAnyH_take (i := 6) (v := ?_) rfl (by kernel_rfl) (by kernel_rfl) (by kernel_rfl) (fun _ _ _ h => h) (Or.inl ⟨by rfl, ?_⟩) (by assumption) ?_
    rotate_left
    · (intro w hSw; (try dsimp only at hSw); go_simp) <;> with_reducible rfl
    (simp only [Act.put, List.getElem_toArray, List.getElem_cons_zero, List.getElem_cons_succ, List.setIfInBounds_toArray, List.set_cons_zero, List.set_cons_succ])
    refine wpAnyH_take (i := 7) (v := ?_) rfl (by kernel_rfl) (by kernel_rfl) (by kernel_rfl) (fun _ _ _ h => h) (Or.inl ⟨by rfl, ?_⟩) (by assumption) ?_
    rotate_left
    · (intro w hSw; (try dsimp only at hSw); go_simp) <;> with_reducible rfl
    (simp only [Act.put, List.getElem_toArray, List.getElem_cons_zero, List.getElem_cons_succ, List.setIfInBounds_toArray, List.set_cons_zero, List.set_cons_succ])
    refine wpAnyH_take (i := 8) (v := ?_) rfl (by kernel_rfl) (by kernel_rfl) (by kernel_rfl) (fun _ _ _ h => h) (Or.inl ⟨by rfl, ?_⟩) (by assumption) ?_
    rotate_left
    · (intro w hSw; (try dsimp only at hSw); go_simp) <;> with_reducible rfl
    (simp only [Act.put, List.getElem_toArray, List.getElem_cons_zero, List.getElem_cons_succ, List.setIfInBounds_toArray, List.set_cons_zero, List.set_cons_succ])
    refine wpAnyH_ready (rs := [4]) (by kernel_rfl) (by simp) ?_
    refine AllReadyH.cons rfl (fun K hK => ?_) AllReadyH.nil
    go_simp
    refine (hcA _ (HW.out _ HB0.out).2).mono ?_
    rintro e w1 ⟨rfl, hb1⟩
    have HB1 : Hid (Below W.heap.size W w1) := HB0.out.trans (hb1.mono HB0.out.size)
    clear hb1
    refine hK.out _ _ (HSd.out _ HB1.out) (fun hHeld1 => ?_)
    clear hK K
    (try (simp only [Act.put, List.getElem_toArray, List.getElem_cons_zero, List.getElem_cons_succ, List.setIfInBounds_toArray, List.set_cons_zero, List.set_cons_succ]))
    refine wpAnyH_take (i := 5) (v := ?_) rfl (by kernel_rfl) (by kernel_rfl) (by kernel_rfl) (fun _ _ _ h => h) (Or.inl ⟨by rfl, ?_⟩) (by assumption) ?_
    rotate_left
    · (intro w hSw; (try dsimp only at hSw); go_simp; rw [if_neg (by omega)]) <;> with_reducible rfl
    (simp only [Act.put, List.getElem_toArray, List.getElem_cons_zero, List.getElem_cons_succ, List.setIfInBounds_toArray, List.set_cons_zero, List.set_cons_succ])
    refine wpAnyH_ready (rs := [9]) (by kernel_rfl) (by simp) ?_
    refine AllReadyH.cons rfl (fun K hK => ?_) AllReadyH.nil
    go_simp
    refine (hcr _ (HW.out _ HB1.out).2).mono ?_
    rintro e w2 ⟨rfl, hb2⟩
    have HB2 : Hid (Below W.heap.size W w2) := HB1.out.trans (hb2.mono HB1.out.size)
    clear hb2
    refine hK.out _ _ (HSd.out _ HB2.out) (fun hHeld2 => ?_)
    clear hK K
    (try (simp only [Act.put, List.getElem_toArray, List.getElem_cons_zero, List.getElem_cons_succ, List.setIfInBounds_toArray, List.set_cons_zero, List.set_cons_succ]))
    refine wpAnyH_take (i := 10) (v := ?_) rfl (by kernel_rfl) (by kernel_rfl) (by kernel_rfl) (fun _ _ _ h => h) (Or.inl ⟨by rfl, ?_⟩) (by assumption) ?_
    rotate_left
    · (intro w hSw; (try dsimp only at hSw); go_simp; rw [if_neg (by omega)]) <;> with_reducible rfl
    (simp only [Act.put, List.getElem_toArray, List.getElem_cons_zero, List.getElem_cons_succ, List.setIfInBounds_toArray, List.set_cons_zero, List.set_cons_succ])
    refine wpAnyH_take (i := 11) (v := ?_) rfl (by kernel_rfl) (by kernel_rfl) (by kernel_rfl) (fun _ _ _ h => h) (Or.inl ⟨by rfl, ?_⟩) (by assumption) ?_
    rotate_left
    · (intro w hSw; (try dsimp only at hSw); go_simp) <;> with_reducible rfl
    (simp only [Act.put, List.getElem_toArray, List.getElem_cons_zero, List.getElem_cons_succ, List.setIfInBounds_toArray, List.set_cons_zero, List.set_cons_succ])
    refine wpAnyH_done (by kernel_rfl) ?_ _
    go_wp2_with fail
    go_ret
    exact ⟨by rw [← HE.out]; rfl, (HW.out _ HB2.out).1⟩
  have hsl : (1 : Int) ≤ l.length + 1 ∧ (l.length : Int) + 1 ≤ kc := by omega
  have hsl2 : (0 : Int) ≤ 1 ∧ (1 : Int) ≤ l.length + 1 := by omega
  have hcr : ∀ w', Below w0.heap.size w0 w' → Calls Tryd.prog 25 #[.slice (some ⟨ga, oa + 4, none⟩) l.length (kc - 1), .bool false] w' fun e w'' => e = .returned (.string (str (jx (rowT (l.map shT) false)))) ∧ Below w'.heap.size w' w'' := fun w' h => row_none l false el hl w' h _ _ HRt.out hl7 (by omega)
  have hk2 : (kc : Int) ≠ 1 := by omega
  have hB0 : Below w.heap.size w (w.alloc (.cells #[.int .i64 25, .string (str text), .int .i64 num, .slice (some ⟨ga, oa, none⟩) (l.length + 1) kc] 24)) := (Below.refl _ _).alloc (Nat.le_refl _) _
  have hz0 : (w.alloc (.cells #[.int .i64 25, .string (str text), .int .i64 num, .slice (some ⟨ga, oa, none⟩) (l.length + 1) kc] 24)).heap.size = w.heap.size + 1 := by simp
  have hN0 := heap_new w #[.int .i64 25, .string (str text), .int .i64 num, .slice (some ⟨ga, oa, none⟩) (l.length + 1) kc] 24
  have hbW := hb.trans (hB0.mono hb.size)
  have hsA : (str (jx (atT (bindN x) 4 (shT x)))).size ≤ 9300000000000 := by show (jx (atT (bindN x) 4 (shT x))).length ≤ _; omega
  generalize hgA : str (jx (atT (bindN x) 4 (shT x))) = sA at *
  have HGA := hide hgA
  clear hgA
  have hsr : (str (jx (rowT (l.map shT) false))).size ≤ 9300000000000 := by show (jx (rowT (l.map shT) false)).length ≤ _; omega
  generalize hgr : str (jx (rowT (l.map shT) false)) = sr at *
  have HGr := hide hgr
  clear hgr
  have HE : Hid (sA ++ (⟨#[32]⟩ : ByteArray) ++ sr = str (jx (shT (.mk 25 text num (x :: l))))) := by
    show _ = _
    rw [sh_e25, jx_app (at_ne ex) (row_ne _ _)]
    rw [← HGA.out, ← HGr.out]
    apply ByteArray.ext
    apply Array.toList_inj.1
    simp [str, raw_wd, raw_sg]
  clear hb hR hx hl el ht
  go_enter Tryd.func10, Tryd.ntmps10
  go_wp2_with fail
  generalize w.alloc (.cells #[.int .i64 25, .string (str text), .int .i64 num, .slice (some ⟨ga, oa, none⟩) (l.length + 1) kc] 24) = W at *
  have HW : Hid (∀ w', Below W.heap.size W w' → Below w.heap.size w w' ∧ Below w0.heap.size w0 w') := fun w' hw => ⟨hB0.trans (hw.mono (by omega)), hbW.trans (hw.mono hbW.size)⟩
  have HNW : Hid (∀ w', Below W.heap.size W w' → ∀ oo, w'.cell? ⟨w.heap.size, oo, none⟩ = (#[Value.int .i64 25, .string (str text), .int .i64 num, .slice (some ⟨ga, oa, none⟩) (l.length + 1) kc])[oo]?) := fun w' hw => cells_at ((hw.block w.heap.size (by omega)).trans hN0)
  clear hB0 hz0 hN0 hbW
  have HSd : Hid (∀ w', Below W.heap.size W w' → (fun w' => (∀ oo, w'.cell? ⟨w.heap.size, oo, none⟩ = (#[Value.int .i64 25, .string (str text), .int .i64 num, .slice (some ⟨ga, oa, none⟩) (l.length + 1) kc])[oo]?) ∧ w'.cell? ⟨ga, oa, none⟩ = some (.int .i64 ka) ∧ w'.cell? ⟨ga, oa + 1, none⟩ = some (.string xa) ∧ w'.cell? ⟨ga, oa + 2, none⟩ = some (.int .i64 na) ∧ w'.cell? ⟨ga, oa + 3, none⟩ = some (.slice aa ma ca)) w') := fun w' hw => ⟨HNW.out w' hw, below_cell (HW.out w' hw).2 Ha0.out, below_cell (HW.out w' hw).2 Ha1.out, below_cell (HW.out w' hw).2 Ha2.out, below_cell (HW.out w' hw).2 Ha3.out⟩
  refine wp_region_held_drew (S := (fun w' => (∀ oo, w'.cell? ⟨w.heap.size, oo, none⟩ = (#[Value.int .i64 25, .string (str text), .int .i64 num, .slice (some ⟨ga, oa, none⟩) (l.length + 1) kc])[oo]?) ∧ w'.cell? ⟨ga, oa, none⟩ = some (.int .i64 ka) ∧ w'.cell? ⟨ga, oa + 1, none⟩ = some (.string xa) ∧ w'.cell? ⟨ga, oa + 2, none⟩ = some (.int .i64 na) ∧ w'.cell? ⟨ga, oa + 3, none⟩ = some (.slice aa ma ca))) (by kernel_rfl) (HSd.out _ ((Below.refl _ _).drew)) (fun hHeld => ?_)
  have HB0 : Hid (Below W.heap.size W W.drew) := (Below.refl _ _).drew
  refine wpAnyH_take (i := 0) (v := ?_) rfl (by kernel_rfl) (by kernel_rfl) (by kernel_rfl) (fun _ _ _ h => h) (Or.inl ⟨by rfl, ?_⟩) (by assumption) ?_
  rotate_left
  · (intro w hSw; (try dsimp only at hSw); go_simp) <;> with_reducible rfl
  (simp only [Act.put, List.getElem_toArray, List.getElem_cons_zero, List.getElem_cons_succ, List.setIfInBounds_toArray, List.set_cons_zero, List.set_cons_succ])
  refine wpAnyH_take (i := 1) (v := ?_) rfl (by kernel_rfl) (by kernel_rfl) (by kernel_rfl) (fun _ _ _ h => h) (Or.inl ⟨by rfl, ?_⟩) (by assumption) ?_
  rotate_left
  · (intro w hSw; (try dsimp only at hSw); go_simp) <;> with_reducible rfl
  (simp only [Act.put, List.getElem_toArray, List.getElem_cons_zero, List.getElem_cons_succ, List.setIfInBounds_toArray, List.set_cons_zero, List.set_cons_succ])
  refine wpAnyH_take (i := 2) (v := ?_) rfl (by kernel_rfl) (by kernel_rfl) (by kernel_rfl) (fun _ _ _ h => h) (Or.inl ⟨by rfl, ?_⟩) (by assumption) ?_
  rotate_left
  · (intro w hSw; (try dsimp only at hSw); go_simp) <;> with_reducible rfl
  (simp only [Act.put, List.getElem_toArray, List.getElem_cons_zero, List.getElem_cons_succ, List.setIfInBounds_toArray, List.set_cons_zero, List.set_cons_succ])
  refine wpAnyH_take (i := 3) (v := ?_) rfl (by kernel_rfl) (by kernel_rfl) (by kernel_rfl) (fun _ _ _ h => h) (Or.inl ⟨by rfl, ?_⟩) (by assumption) ?_
  rotate_left
  · (intro w hSw; (try dsimp only at hSw); go_simp) <;> with_reducible rfl
  (simp only [Act.put, List.getElem_toArray, List.getElem_cons_zero, List.getElem_cons_succ, List.setIfInBounds_toArray, List.set_cons_zero, List.set_cons_succ])
  refine wpAnyH_take (i := 6) (v := ?_) rfl (by kernel_rfl) (by kernel_rfl) (by kernel_rfl) (fun _ _ _ h => h) (Or.inl ⟨by rfl, ?_⟩) (by assumption) ?_
  rotate_left
  · (intro w hSw; (try dsimp only at hSw); go_simp) <;> with_reducible rfl
  (simp only [Act.put, List.getElem_toArray, List.getElem_cons_zero, List.getElem_cons_succ, List.setIfInBounds_toArray, List.set_cons_zero, List.set_cons_succ])
  refine wpAnyH_take (i := 7) (v := ?_) rfl (by kernel_rfl) (by kernel_rfl) (by kernel_rfl) (fun _ _ _ h => h) (Or.inl ⟨by rfl, ?_⟩) (by assumption) ?_
  rotate_left
  · (intro w hSw; (try dsimp only at hSw); go_simp) <;> with_reducible rfl
  (simp only [Act.put, List.getElem_toArray, List.getElem_cons_zero, List.getElem_cons_succ, List.setIfInBounds_toArray, List.set_cons_zero, List.set_cons_succ])
  refine wpAnyH_take (i := 8) (v := ?_) rfl (by kernel_rfl) (by kernel_rfl) (by kernel_rfl) (fun _ _ _ h => h) (Or.inl ⟨by rfl, ?_⟩) (by assumption) ?_
  rotate_left
  · (intro w hSw; (try dsimp only at hSw); go_simp) <;> with_reducible rfl
  (simp only [Act.put, List.getElem_toArray, List.getElem_cons_zero, List.getElem_cons_succ, List.setIfInBounds_toArray, List.set_cons_zero, List.set_cons_succ])
  refine wpAnyH_ready (rs := [4]) (by kernel_rfl) (by simp) ?_
  refine AllReadyH.cons rfl (fun K hK => ?_) AllReadyH.nil
  go_simp
  refine (hcA _ (HW.out _ HB0.out).2).mono ?_
  rintro e w1 ⟨rfl, hb1⟩
  have HB1 : Hid (Below W.heap.size W w1) := HB0.out.trans (hb1.mono HB0.out.size)
  clear hb1
  refine hK.out _ _ (HSd.out _ HB1.out) (fun hHeld1 => ?_)
  clear hK K
  (try (simp only [Act.put, List.getElem_toArray, List.getElem_cons_zero, List.getElem_cons_succ, List.setIfInBounds_toArray, List.set_cons_zero, List.set_cons_succ]))
  refine wpAnyH_take (i := 5) (v := ?_) rfl (by kernel_rfl) (by kernel_rfl) (by kernel_rfl) (fun _ _ _ h => h) (Or.inl ⟨by rfl, ?_⟩) (by assumption) ?_
  rotate_left
  · (intro w hSw; (try dsimp only at hSw); go_simp; rw [if_neg (by omega)]) <;> with_reducible rfl
  (simp only [Act.put, List.getElem_toArray, List.getElem_cons_zero, List.getElem_cons_succ, List.setIfInBounds_toArray, List.set_cons_zero, List.set_cons_succ])
  refine wpAnyH_ready (rs := [9]) (by kernel_rfl) (by simp) ?_
  refine AllReadyH.cons rfl (fun K hK => ?_) AllReadyH.nil
  go_simp
  refine (hcr _ (HW.out _ HB1.out).2).mono ?_
  rintro e w2 ⟨rfl, hb2⟩
  have HB2 : Hid (Below W.heap.size W w2) := HB1.out.trans (hb2.mono HB1.out.size)
  clear hb2
  refine hK.out _ _ (HSd.out _ HB2.out) (fun hHeld2 => ?_)
  clear hK K
  (try (simp only [Act.put, List.getElem_toArray, List.getElem_cons_zero, List.getElem_cons_succ, List.setIfInBounds_toArray, List.set_cons_zero, List.set_cons_succ]))
  refine wpAnyH_take (i := 10) (v := ?_) rfl (by kernel_rfl) (by kernel_rfl) (by kernel_rfl) (fun _ _ _ h => h) (Or.inl ⟨by rfl, ?_⟩) (by assumption) ?_
  rotate_left
  · (intro w hSw; (try dsimp only at hSw); go_simp; rw [if_neg (by omega)]) <;> with_reducible rfl
  (simp only [Act.put, List.getElem_toArray, List.getElem_cons_zero, List.getElem_cons_succ, List.setIfInBounds_toArray, List.set_cons_zero, List.set_cons_succ])
  refine wpAnyH_take (i := 11) (v := ?_) rfl (by kernel_rfl) (by kernel_rfl) (by kernel_rfl) (fun _ _ _ h => h) (Or.inl ⟨by rfl, ?_⟩) (by assumption) ?_
  rotate_left
  · (intro w hSw; (try dsimp only at hSw); go_simp) <;> with_reducible rfl
  (simp only [Act.put, List.getElem_toArray, List.getElem_cons_zero, List.getElem_cons_succ, List.setIfInBounds_toArray, List.set_cons_zero, List.set_cons_succ])
  refine wpAnyH_done (by kernel_rfl) ?_ _
  go_wp2_with fail
  go_ret
  exact ⟨by rw [← HE.out]; rfl, (HW.out _ HB2.out).1⟩
end Go.Proofs.YthcfianhdkolhaaDoor.T
