/- The contract of the reference's Show: by kinds. -/
import Derived.Test.YthcfianhdkolhaaDoorRfL
import Derived.Test.YthcfianhdkolhaaDoorRfK
namespace Go.Proofs.YthcfianhdkolhaaDoor.T
open Go.RowKit Go.Proofs.YthcfianhdkolhaaDoor.S
set_option linter.unusedVariables false
set_option linter.unusedSimpArgs false
set_option maxRecDepth 100000 in
set_option maxHeartbeats 4000000 in
theorem show_k4 {w0 : World} (text : List UInt8) (num : Int) (l : List Nd) (x : Nd) (ht : text.length ≤ 16) (hx : ShN w0 x) (ex : shT x ≠ []) (bdx : (jx (shT x)).length ≤ 9200000000000) (hl : ∀ y, y ∈ l → ShN w0 y) (el : ∀ y, y ∈ l → shT y ≠ []) (hl7 : l.length ≤ 700) (br : (jx (rowT (l.map shT) (decide (num = 1)))).length ≤ 9200000000000) : ShN w0 (.mk 4 text num (l ++ [x])) := by
  intro w v hb hv
  obtain ⟨ka, kc, rfl, t1, n1, n2, l1, l2, hR⟩ := hv.part
  have htx : (str text).size ≤ 16 := ht
  clear hv
  have HRl : Hid (RowO w0 ka l) := by have := hR.take l.length; simpa [Hid] using this
  obtain ⟨ga, oa, ka, xa, na, aa, ma, ca, hkaa, hga, qa0, qa1, qa2, qa3, hnda⟩ := hR.kid l.length (by simp)
  have Ha : Hid (NdO w0 x (.agg #[.int .i64 ka, .string xa, .int .i64 na, .slice aa ma ca])) := by simpa [Hid] using hnda
  have Ha0 := hide qa0
  have Ha1 := hide qa1
  have Ha2 := hide qa2
  have Ha3 := hide qa3
  clear qa0 qa1 qa2 qa3 hnda hga
  subst hkaa
  simp only [List.length_append, List.length_cons, List.length_nil, Nat.zero_add] at l1 ⊢
  have hca : ∀ w', Below w0.heap.size w0 w' → Calls Tryd.prog 10 #[.agg #[.int .i64 ka, .string xa, .int .i64 na, .slice aa ma ca]] w' fun e w'' => e = .returned (.string (str (jx (shT x)))) ∧ Below w'.heap.size w' w'' := fun w' h => hx w' _ h Ha.out
  have hcr : ∀ w', Below w0.heap.size w0 w' → Calls Tryd.prog 25 #[.slice (some ⟨ga, oa, none⟩) l.length kc, .bool (num == 1)] w' fun e w'' => e = .returned (.string (str (jx (rowT (l.map shT) (decide (num = 1)))))) ∧ Below w'.heap.size w' w'' := fun w' h => row_none l (decide (num = 1)) el hl w' h _ _ HRl.out hl7 (by omega)
  have hB0 : Below w.heap.size w (w.alloc (.cells #[.int .i64 4, .string (str text), .int .i64 num, .slice (some ⟨ga, oa, none⟩) (l.length + 1) kc] 24)) := (Below.refl _ _).alloc (Nat.le_refl _) _
  have hz0 : (w.alloc (.cells #[.int .i64 4, .string (str text), .int .i64 num, .slice (some ⟨ga, oa, none⟩) (l.length + 1) kc] 24)).heap.size = w.heap.size + 1 := by simp
  have hN0 := heap_new w #[.int .i64 4, .string (str text), .int .i64 num, .slice (some ⟨ga, oa, none⟩) (l.length + 1) kc] 24
  have hbW := hb.trans (hB0.mono hb.size)
  have hsx : (str (jx (shT x))).size ≤ 9300000000000 := by show (jx (shT x)).length ≤ _; omega
  generalize hgx : str (jx (shT x)) = sx at *
  have HGx := hide hgx
  clear hgx
  have hsr : (str (jx (rowT (l.map shT) (decide (num = 1))))).size ≤ 9300000000000 := by show (jx (rowT (l.map shT) (decide (num = 1)))).length ≤ _; omega
  generalize hgr : str (jx (rowT (l.map shT) (decide (num = 1)))) = sr at *
  have HGr := hide hgr
  clear hgr
  have HE : Hid ((⟨#[101, 120, 116, 101, 114, 110, 32]⟩ : ByteArray) ++ sx ++ (⟨#[32]⟩ : ByteArray) ++ str text ++ (⟨#[32]⟩ : ByteArray) ++ sr ++ (⟨#[32, 59]⟩ : ByteArray) = str (jx (shT (.mk 4 text num (l ++ [x]))))) := by
    show _ = _
    rw [sh_d4, jx_app (by simp) (by simp), jx_app (by simp) (by simp), jx_app (by simp) (row_ne _ _), jx_app ex (by simp), jx_one, jx_one, jx_one]
    rw [← HGx.out, ← HGr.out]
    apply ByteArray.ext
    apply Array.toList_inj.1
    simp [str, raw_wd, raw_sg]
  have hww : IntKind.i64.wrap (((l.length + 1 : Nat) : Int) - 1) = (l.length : Int) := by rw [IntKind.wrap_i64]; omega
  have hww2 : IntKind.i64.wrap ((l.length : Int) + 1 - 1) = (l.length : Int) := by rw [IntKind.wrap_i64]; omega
  have hsl : (0 : Int) ≤ l.length ∧ (l.length : Int) ≤ kc := by omega
  have hix : (0 : Int) ≤ l.length ∧ (l.length : Int) < l.length + 1 := by omega
  clear hb hR hx hl el ht
  go_enter Tryd.func10, Tryd.ntmps10
  go_wp2_with fail
  generalize w.alloc (.cells #[.int .i64 4, .string (str text), .int .i64 num, .slice (some ⟨ga, oa, none⟩) (l.length + 1) kc] 24) = W at *
  have HW : Hid (∀ w', Below W.heap.size W w' → Below w.heap.size w w' ∧ Below w0.heap.size w0 w') := fun w' hw => ⟨hB0.trans (hw.mono (by omega)), hbW.trans (hw.mono hbW.size)⟩
  have HNW : Hid (∀ w', Below W.heap.size W w' → ∀ oo, w'.cell? ⟨w.heap.size, oo, none⟩ = (#[Value.int .i64 4, .string (str text), .int .i64 num, .slice (some ⟨ga, oa, none⟩) (l.length + 1) kc])[oo]?) := fun w' hw => cells_at ((hw.block w.heap.size (by omega)).trans hN0)
  clear hB0 hz0 hN0 hbW
  have HSd : Hid (∀ w', Below W.heap.size W w' → (fun w' => (∀ oo, w'.cell? ⟨w.heap.size, oo, none⟩ = (#[Value.int .i64 4, .string (str text), .int .i64 num, .slice (some ⟨ga, oa, none⟩) (l.length + 1) kc])[oo]?) ∧ w'.cell? ⟨ga, oa + l.length * 4, none⟩ = some (.int .i64 ka) ∧ w'.cell? ⟨ga, oa + l.length * 4 + 1, none⟩ = some (.string xa) ∧ w'.cell? ⟨ga, oa + l.length * 4 + 2, none⟩ = some (.int .i64 na) ∧ w'.cell? ⟨ga, oa + l.length * 4 + 3, none⟩ = some (.slice aa ma ca)) w') := fun w' hw => ⟨HNW.out w' hw, below_cell (HW.out w' hw).2 Ha0.out, below_cell (HW.out w' hw).2 Ha1.out, below_cell (HW.out w' hw).2 Ha2.out, below_cell (HW.out w' hw).2 Ha3.out⟩
  refine wp_region_held_drew (S := (fun w' => (∀ oo, w'.cell? ⟨w.heap.size, oo, none⟩ = (#[Value.int .i64 4, .string (str text), .int .i64 num, .slice (some ⟨ga, oa, none⟩) (l.length + 1) kc])[oo]?) ∧ w'.cell? ⟨ga, oa + l.length * 4, none⟩ = some (.int .i64 ka) ∧ w'.cell? ⟨ga, oa + l.length * 4 + 1, none⟩ = some (.string xa) ∧ w'.cell? ⟨ga, oa + l.length * 4 + 2, none⟩ = some (.int .i64 na) ∧ w'.cell? ⟨ga, oa + l.length * 4 + 3, none⟩ = some (.slice aa ma ca))) (by kernel_rfl) (HSd.out _ ((Below.refl _ _).drew)) (fun hHeld => ?_)
  have HB0 : Hid (Below W.heap.size W W.drew) := (Below.refl _ _).drew
  refine wpAnyH_take (i := 0) (v := ?_) rfl (by kernel_rfl) (by kernel_rfl) (by kernel_rfl) (fun _ _ _ h => h) (Or.inl ⟨by rfl, ?_⟩) (by assumption) ?_
  rotate_left
  · (intro w hSw; (try dsimp only at hSw); go_simp) <;> with_reducible rfl
  (simp only [Act.put, List.getElem_toArray, List.getElem_cons_zero, List.getElem_cons_succ, List.setIfInBounds_toArray, List.set_cons_zero, List.set_cons_succ])
  refine wpAnyH_take (i := 1) (v := ?_) rfl (by kernel_rfl) (by kernel_rfl) (by kernel_rfl) (fun _ _ _ h => h) (Or.inl ⟨by rfl, ?_⟩) (by assumption) ?_
  rotate_left
  · (intro w hSw; (try dsimp only at hSw); go_simp) <;> with_reducible rfl
  (simp only [Act.put, List.getElem_toArray, List.getElem_cons_zero, List.getElem_cons_succ, List.setIfInBounds_toArray, List.set_cons_zero, List.set_cons_succ])
  refine wpAnyH_take (i := 2) (v := ?_) rfl (by kernel_rfl) (by kernel_rfl) (by kernel_rfl) (fun _ _ _ h => h) (Or.inl ⟨by rfl, ?_⟩) (by assumption) ?_
  rotate_left
  · (intro w hSw; (try dsimp only at hSw); go_simp) <;> with_reducible rfl
  (simp only [Act.put, List.getElem_toArray, List.getElem_cons_zero, List.getElem_cons_succ, List.setIfInBounds_toArray, List.set_cons_zero, List.set_cons_succ])
  refine wpAnyH_take (i := 3) (v := ?_) rfl (by kernel_rfl) (by kernel_rfl) (by kernel_rfl) (fun _ _ _ h => h) (Or.inl ⟨by rfl, ?_⟩) (by assumption) ?_
  rotate_left
  · (intro w hSw; (try dsimp only at hSw); go_simp) <;> with_reducible rfl
  (simp only [Act.put, List.getElem_toArray, List.getElem_cons_zero, List.getElem_cons_succ, List.setIfInBounds_toArray, List.set_cons_zero, List.set_cons_succ])
  refine wpAnyH_take (i := 4) (v := ?_) rfl (by kernel_rfl) (by kernel_rfl) (by kernel_rfl) (fun _ _ _ h => h) (Or.inl ⟨by rfl, ?_⟩) (by assumption) ?_
  rotate_left
  · (intro w hSw; (try dsimp only at hSw); go_simp) <;> with_reducible rfl
  (simp only [Act.put, List.getElem_toArray, List.getElem_cons_zero, List.getElem_cons_succ, List.setIfInBounds_toArray, List.set_cons_zero, List.set_cons_succ])
  refine wpAnyH_take (i := 8) (v := ?_) rfl (by kernel_rfl) (by kernel_rfl) (by kernel_rfl) (fun _ _ _ h => h) (Or.inl ⟨by rfl, ?_⟩) (by assumption) ?_
  rotate_left
  · (intro w hSw; (try dsimp only at hSw); go_simp) <;> with_reducible rfl
  (simp only [Act.put, List.getElem_toArray, List.getElem_cons_zero, List.getElem_cons_succ, List.setIfInBounds_toArray, List.set_cons_zero, List.set_cons_succ])
  refine wpAnyH_take (i := 9) (v := ?_) rfl (by kernel_rfl) (by kernel_rfl) (by kernel_rfl) (fun _ _ _ h => h) (Or.inl ⟨by rfl, ?_⟩) (by assumption) ?_
  rotate_left
  · (intro w hSw; (try dsimp only at hSw); go_simp) <;> with_reducible rfl
  (simp only [Act.put, List.getElem_toArray, List.getElem_cons_zero, List.getElem_cons_succ, List.setIfInBounds_toArray, List.set_cons_zero, List.set_cons_succ])
  refine wpAnyH_take (i := 12) (v := ?_) rfl (by kernel_rfl) (by kernel_rfl) (by kernel_rfl) (fun _ _ _ h => h) (Or.inl ⟨by rfl, ?_⟩) (by assumption) ?_
  rotate_left
  · (intro w hSw; (try dsimp only at hSw); go_simp) <;> with_reducible rfl
  (simp only [Act.put, List.getElem_toArray, List.getElem_cons_zero, List.getElem_cons_succ, List.setIfInBounds_toArray, List.set_cons_zero, List.set_cons_succ])
  refine wpAnyH_take (i := 13) (v := ?_) rfl (by kernel_rfl) (by kernel_rfl) (by kernel_rfl) (fun _ _ _ h => h) (Or.inl ⟨by rfl, ?_⟩) (by assumption) ?_
  rotate_left
  · (intro w hSw; (try dsimp only at hSw); go_simp) <;> with_reducible rfl
  (simp only [Act.put, List.getElem_toArray, List.getElem_cons_zero, List.getElem_cons_succ, List.setIfInBounds_toArray, List.set_cons_zero, List.set_cons_succ])
  refine wpAnyH_take (i := 14) (v := ?_) rfl (by kernel_rfl) (by kernel_rfl) (by kernel_rfl) (fun _ _ _ h => h) (Or.inl ⟨by rfl, ?_⟩) (by assumption) ?_
  rotate_left
  · (intro w hSw; (try dsimp only at hSw); go_simp) <;> with_reducible rfl
  (simp only [Act.put, List.getElem_toArray, List.getElem_cons_zero, List.getElem_cons_succ, List.setIfInBounds_toArray, List.set_cons_zero, List.set_cons_succ])
  refine wpAnyH_take (i := 15) (v := ?_) rfl (by kernel_rfl) (by kernel_rfl) (by kernel_rfl) (fun _ _ _ h => h) (Or.inl ⟨by rfl, ?_⟩) (by assumption) ?_
  rotate_left
  · (intro w hSw; (try dsimp only at hSw); go_simp) <;> with_reducible rfl
  (simp only [Act.put, List.getElem_toArray, List.getElem_cons_zero, List.getElem_cons_succ, List.setIfInBounds_toArray, List.set_cons_zero, List.set_cons_succ])
  refine wpAnyH_take (i := 16) (v := ?_) rfl (by kernel_rfl) (by kernel_rfl) (by kernel_rfl) (fun _ _ _ h => h) (Or.inl ⟨by rfl, ?_⟩) (by assumption) ?_
  rotate_left
  · (intro w hSw; (try dsimp only at hSw); go_simp) <;> with_reducible rfl
  (simp only [Act.put, List.getElem_toArray, List.getElem_cons_zero, List.getElem_cons_succ, List.setIfInBounds_toArray, List.set_cons_zero, List.set_cons_succ])
  refine wpAnyH_take (i := 17) (v := ?_) rfl (by kernel_rfl) (by kernel_rfl) (by kernel_rfl) (fun _ _ _ h => h) (Or.inl ⟨by rfl, ?_⟩) (by assumption) ?_
  rotate_left
  · (intro w hSw; (try dsimp only at hSw); go_simp) <;> with_reducible rfl
  (simp only [Act.put, List.getElem_toArray, List.getElem_cons_zero, List.getElem_cons_succ, List.setIfInBounds_toArray, List.set_cons_zero, List.set_cons_succ])
  refine wpAnyH_take (i := 18) (v := ?_) rfl (by kernel_rfl) (by kernel_rfl) (by kernel_rfl) (fun _ _ _ h => h) (Or.inl ⟨by rfl, ?_⟩) (by assumption) ?_
  rotate_left
  · (intro w hSw; (try dsimp only at hSw); go_simp) <;> with_reducible rfl
  (simp only [Act.put, List.getElem_toArray, List.getElem_cons_zero, List.getElem_cons_succ, List.setIfInBounds_toArray, List.set_cons_zero, List.set_cons_succ])
  refine wpAnyH_ready (rs := [5]) (by kernel_rfl) (by simp) ?_
  refine AllReadyH.cons rfl (fun K hK => ?_) AllReadyH.nil
  go_simp
  refine (hca _ (HW.out _ HB0.out).2).mono ?_
  rintro e w1 ⟨rfl, hb1⟩
  have HB1 : Hid (Below W.heap.size W w1) := HB0.out.trans (hb1.mono HB0.out.size)
  clear hb1
  refine hK.out _ _ (HSd.out _ HB1.out) (fun hHeld1 => ?_)
  clear hK K
  (try (simp only [Act.put, List.getElem_toArray, List.getElem_cons_zero, List.getElem_cons_succ, List.setIfInBounds_toArray, List.set_cons_zero, List.set_cons_succ]))
  refine wpAnyH_take (i := 6) (v := ?_) rfl (by kernel_rfl) (by kernel_rfl) (by kernel_rfl) (fun _ _ _ h => h) (Or.inl ⟨by rfl, ?_⟩) (by assumption) ?_
  rotate_left
  · (intro w hSw; (try dsimp only at hSw); go_simp; rw [if_neg (by omega)]) <;> with_reducible rfl
  (simp only [Act.put, List.getElem_toArray, List.getElem_cons_zero, List.getElem_cons_succ, List.setIfInBounds_toArray, List.set_cons_zero, List.set_cons_succ])
  refine wpAnyH_take (i := 7) (v := ?_) rfl (by kernel_rfl) (by kernel_rfl) (by kernel_rfl) (fun _ _ _ h => h) (Or.inl ⟨by rfl, ?_⟩) (by assumption) ?_
  rotate_left
  · (intro w hSw; (try dsimp only at hSw); go_simp; rw [if_neg (by omega)]) <;> with_reducible rfl
  (simp only [Act.put, List.getElem_toArray, List.getElem_cons_zero, List.getElem_cons_succ, List.setIfInBounds_toArray, List.set_cons_zero, List.set_cons_succ])
  refine wpAnyH_take (i := 10) (v := ?_) rfl (by kernel_rfl) (by kernel_rfl) (by kernel_rfl) (fun _ _ _ h => h) (Or.inl ⟨by rfl, ?_⟩) (by assumption) ?_
  rotate_left
  · (intro w hSw; (try dsimp only at hSw); go_simp; rw [if_neg (by omega)]) <;> with_reducible rfl
  (simp only [Act.put, List.getElem_toArray, List.getElem_cons_zero, List.getElem_cons_succ, List.setIfInBounds_toArray, List.set_cons_zero, List.set_cons_succ])
  refine wpAnyH_take (i := 11) (v := ?_) rfl (by kernel_rfl) (by kernel_rfl) (by kernel_rfl) (fun _ _ _ h => h) (Or.inl ⟨by rfl, ?_⟩) (by assumption) ?_
  rotate_left
  · (intro w hSw; (try dsimp only at hSw); go_simp; rw [if_neg (by omega)]) <;> with_reducible rfl
  (simp only [Act.put, List.getElem_toArray, List.getElem_cons_zero, List.getElem_cons_succ, List.setIfInBounds_toArray, List.set_cons_zero, List.set_cons_succ])
  refine wpAnyH_ready (rs := [19]) (by kernel_rfl) (by simp) ?_
  refine AllReadyH.cons rfl (fun K hK => ?_) AllReadyH.nil
  go_simp
  refine (hcr _ (HW.out _ HB1.out).2).mono ?_
  rintro e w2 ⟨rfl, hb2⟩
  have HB2 : Hid (Below W.heap.size W w2) := HB1.out.trans (hb2.mono HB1.out.size)
  clear hb2
  refine hK.out _ _ (HSd.out _ HB2.out) (fun hHeld2 => ?_)
  clear hK K
  (try (simp only [Act.put, List.getElem_toArray, List.getElem_cons_zero, List.getElem_cons_succ, List.setIfInBounds_toArray, List.set_cons_zero, List.set_cons_succ]))
  refine wpAnyH_take (i := 20) (v := ?_) rfl (by kernel_rfl) (by kernel_rfl) (by kernel_rfl) (fun _ _ _ h => h) (Or.inl ⟨by rfl, ?_⟩) (by assumption) ?_
  rotate_left
  · (intro w hSw; (try dsimp only at hSw); go_simp; rw [if_neg (by omega)]) <;> with_reducible rfl
  (simp only [Act.put, List.getElem_toArray, List.getElem_cons_zero, List.getElem_cons_succ, List.setIfInBounds_toArray, List.set_cons_zero, List.set_cons_succ])
  refine wpAnyH_take (i := 21) (v := ?_) rfl (by kernel_rfl) (by kernel_rfl) (by kernel_rfl) (fun _ _ _ h => h) (Or.inl ⟨by rfl, ?_⟩) (by assumption) ?_
  rotate_left
  · (intro w hSw; (try dsimp only at hSw); go_simp; rw [if_neg (by omega)]) <;> with_reducible rfl
  (simp only [Act.put, List.getElem_toArray, List.getElem_cons_zero, List.getElem_cons_succ, List.setIfInBounds_toArray, List.set_cons_zero, List.set_cons_succ])
  refine wpAnyH_take (i := 22) (v := ?_) rfl (by kernel_rfl) (by kernel_rfl) (by kernel_rfl) (fun _ _ _ h => h) (Or.inl ⟨by rfl, ?_⟩) (by assumption) ?_
  rotate_left
  · (intro w hSw; (try dsimp only at hSw); go_simp) <;> with_reducible rfl
  (simp only [Act.put, List.getElem_toArray, List.getElem_cons_zero, List.getElem_cons_succ, List.setIfInBounds_toArray, List.set_cons_zero, List.set_cons_succ])
  refine wpAnyH_done (by kernel_rfl) ?_ _
  go_wp2_with fail
  go_ret
  exact ⟨by rw [← HE.out]; rfl, (HW.out _ HB2.out).1⟩
set_option maxRecDepth 100000 in
set_option maxHeartbeats 4000000 in
theorem show_k12 {w0 : World} (text : List UInt8) (num : Int) (l : List Nd) (x : Nd) (ht : text.length ≤ 16) (hx : ShN w0 x) (ex : shT x ≠ []) (bdx : (jx (shT x)).length ≤ 9200000000000) (hl : ∀ y, y ∈ l → ShN w0 y) (el : ∀ y, y ∈ l → shT y ≠ []) (hl7 : l.length ≤ 700) (br : (jx (rowT (l.map shT) (decide (num = 1)))).length ≤ 9200000000000) : ShN w0 (.mk 12 text num (l ++ [x])) := by
  intro w v hb hv
  obtain ⟨ka, kc, rfl, t1, n1, n2, l1, l2, hR⟩ := hv.part
  have htx : (str text).size ≤ 16 := ht
  clear hv
  have HRl : Hid (RowO w0 ka l) := by have := hR.take l.length; simpa [Hid] using this
  obtain ⟨ga, oa, ka, xa, na, aa, ma, ca, hkaa, hga, qa0, qa1, qa2, qa3, hnda⟩ := hR.kid l.length (by simp)
  have Ha : Hid (NdO w0 x (.agg #[.int .i64 ka, .string xa, .int .i64 na, .slice aa ma ca])) := by simpa [Hid] using hnda
  have Ha0 := hide qa0
  have Ha1 := hide qa1
  have Ha2 := hide qa2
  have Ha3 := hide qa3
  clear qa0 qa1 qa2 qa3 hnda hga
  subst hkaa
  simp only [List.length_append, List.length_cons, List.length_nil, Nat.zero_add] at l1 ⊢
  have hca : ∀ w', Below w0.heap.size w0 w' → Calls Tryd.prog 10 #[.agg #[.int .i64 ka, .string xa, .int .i64 na, .slice aa ma ca]] w' fun e w'' => e = .returned (.string (str (jx (shT x)))) ∧ Below w'.heap.size w' w'' := fun w' h => hx w' _ h Ha.out
  have hcr : ∀ w', Below w0.heap.size w0 w' → Calls Tryd.prog 25 #[.slice (some ⟨ga, oa, none⟩) l.length kc, .bool (num == 1)] w' fun e w'' => e = .returned (.string (str (jx (rowT (l.map shT) (decide (num = 1)))))) ∧ Below w'.heap.size w' w'' := fun w' h => row_none l (decide (num = 1)) el hl w' h _ _ HRl.out hl7 (by omega)
  have hB0 : Below w.heap.size w (w.alloc (.cells #[.int .i64 12, .string (str text), .int .i64 num, .slice (some ⟨ga, oa, none⟩) (l.length + 1) kc] 24)) := (Below.refl _ _).alloc (Nat.le_refl _) _
  have hz0 : (w.alloc (.cells #[.int .i64 12, .string (str text), .int .i64 num, .slice (some ⟨ga, oa, none⟩) (l.length + 1) kc] 24)).heap.size = w.heap.size + 1 := by simp
  have hN0 := heap_new w #[.int .i64 12, .string (str text), .int .i64 num, .slice (some ⟨ga, oa, none⟩) (l.length + 1) kc] 24
  have hbW := hb.trans (hB0.mono hb.size)
  have hsx : (str (jx (shT x))).size ≤ 9300000000000 := by show (jx (shT x)).length ≤ _; omega
  generalize hgx : str (jx (shT x)) = sx at *
  have HGx := hide hgx
  clear hgx
  have hsr : (str (jx (rowT (l.map shT) (decide (num = 1))))).size ≤ 9300000000000 := by show (jx (rowT (l.map shT) (decide (num = 1)))).length ≤ _; omega
  generalize hgr : str (jx (rowT (l.map shT) (decide (num = 1)))) = sr at *
  have HGr := hide hgr
  clear hgr
  have HE : Hid ((⟨#[102, 110, 32]⟩ : ByteArray) ++ sr ++ (⟨#[32]⟩ : ByteArray) ++ sx = str (jx (shT (.mk 12 text num (l ++ [x]))))) := by
    show _ = _
    rw [sh_ty12, jx_app (by simp) ex, jx_app (by simp) (row_ne _ _), jx_one]
    rw [← HGx.out, ← HGr.out]
    apply ByteArray.ext
    apply Array.toList_inj.1
    simp [str, raw_wd, raw_sg]
  have hww : IntKind.i64.wrap (((l.length + 1 : Nat) : Int) - 1) = (l.length : Int) := by rw [IntKind.wrap_i64]; omega
  have hww2 : IntKind.i64.wrap ((l.length : Int) + 1 - 1) = (l.length : Int) := by rw [IntKind.wrap_i64]; omega
  have hsl : (0 : Int) ≤ l.length ∧ (l.length : Int) ≤ kc := by omega
  have hix : (0 : Int) ≤ l.length ∧ (l.length : Int) < l.length + 1 := by omega
  clear hb hR hx hl el ht
  go_enter Tryd.func10, Tryd.ntmps10
  go_wp2_with fail
  generalize w.alloc (.cells #[.int .i64 12, .string (str text), .int .i64 num, .slice (some ⟨ga, oa, none⟩) (l.length + 1) kc] 24) = W at *
  have HW : Hid (∀ w', Below W.heap.size W w' → Below w.heap.size w w' ∧ Below w0.heap.size w0 w') := fun w' hw => ⟨hB0.trans (hw.mono (by omega)), hbW.trans (hw.mono hbW.size)⟩
  have HNW : Hid (∀ w', Below W.heap.size W w' → ∀ oo, w'.cell? ⟨w.heap.size, oo, none⟩ = (#[Value.int .i64 12, .string (str text), .int .i64 num, .slice (some ⟨ga, oa, none⟩) (l.length + 1) kc])[oo]?) := fun w' hw => cells_at ((hw.block w.heap.size (by omega)).trans hN0)
  clear hB0 hz0 hN0 hbW
  have HSd : Hid (∀ w', Below W.heap.size W w' → (fun w' => (∀ oo, w'.cell? ⟨w.heap.size, oo, none⟩ = (#[Value.int .i64 12, .string (str text), .int .i64 num, .slice (some ⟨ga, oa, none⟩) (l.length + 1) kc])[oo]?) ∧ w'.cell? ⟨ga, oa + l.length * 4, none⟩ = some (.int .i64 ka) ∧ w'.cell? ⟨ga, oa + l.length * 4 + 1, none⟩ = some (.string xa) ∧ w'.cell? ⟨ga, oa + l.length * 4 + 2, none⟩ = some (.int .i64 na) ∧ w'.cell? ⟨ga, oa + l.length * 4 + 3, none⟩ = some (.slice aa ma ca)) w') := fun w' hw => ⟨HNW.out w' hw, below_cell (HW.out w' hw).2 Ha0.out, below_cell (HW.out w' hw).2 Ha1.out, below_cell (HW.out w' hw).2 Ha2.out, below_cell (HW.out w' hw).2 Ha3.out⟩
  refine wp_region_held_drew (S := (fun w' => (∀ oo, w'.cell? ⟨w.heap.size, oo, none⟩ = (#[Value.int .i64 12, .string (str text), .int .i64 num, .slice (some ⟨ga, oa, none⟩) (l.length + 1) kc])[oo]?) ∧ w'.cell? ⟨ga, oa + l.length * 4, none⟩ = some (.int .i64 ka) ∧ w'.cell? ⟨ga, oa + l.length * 4 + 1, none⟩ = some (.string xa) ∧ w'.cell? ⟨ga, oa + l.length * 4 + 2, none⟩ = some (.int .i64 na) ∧ w'.cell? ⟨ga, oa + l.length * 4 + 3, none⟩ = some (.slice aa ma ca))) (by kernel_rfl) (HSd.out _ ((Below.refl _ _).drew)) (fun hHeld => ?_)
  have HB0 : Hid (Below W.heap.size W W.drew) := (Below.refl _ _).drew
  refine wpAnyH_take (i := 0) (v := ?_) rfl (by kernel_rfl) (by kernel_rfl) (by kernel_rfl) (fun _ _ _ h => h) (Or.inl ⟨by rfl, ?_⟩) (by assumption) ?_
  rotate_left
  · (intro w hSw; (try dsimp only at hSw); go_simp) <;> with_reducible rfl
  (simp only [Act.put, List.getElem_toArray, List.getElem_cons_zero, List.getElem_cons_succ, List.setIfInBounds_toArray, List.set_cons_zero, List.set_cons_succ])
  refine wpAnyH_take (i := 1) (v := ?_) rfl (by kernel_rfl) (by kernel_rfl) (by kernel_rfl) (fun _ _ _ h => h) (Or.inl ⟨by rfl, ?_⟩) (by assumption) ?_
  rotate_left
  · (intro w hSw; (try dsimp only at hSw); go_simp) <;> with_reducible rfl
  (simp only [Act.put, List.getElem_toArray, List.getElem_cons_zero, List.getElem_cons_succ, List.setIfInBounds_toArray, List.set_cons_zero, List.set_cons_succ])
  refine wpAnyH_take (i := 2) (v := ?_) rfl (by kernel_rfl) (by kernel_rfl) (by kernel_rfl) (fun _ _ _ h => h) (Or.inl ⟨by rfl, ?_⟩) (by assumption) ?_
  rotate_left
  · (intro w hSw; (try dsimp only at hSw); go_simp) <;> with_reducible rfl
  (simp only [Act.put, List.getElem_toArray, List.getElem_cons_zero, List.getElem_cons_succ, List.setIfInBounds_toArray, List.set_cons_zero, List.set_cons_succ])
  refine wpAnyH_take (i := 3) (v := ?_) rfl (by kernel_rfl) (by kernel_rfl) (by kernel_rfl) (fun _ _ _ h => h) (Or.inl ⟨by rfl, ?_⟩) (by assumption) ?_
  rotate_left
  · (intro w hSw; (try dsimp only at hSw); go_simp) <;> with_reducible rfl
  (simp only [Act.put, List.getElem_toArray, List.getElem_cons_zero, List.getElem_cons_succ, List.setIfInBounds_toArray, List.set_cons_zero, List.set_cons_succ])
  refine wpAnyH_take (i := 4) (v := ?_) rfl (by kernel_rfl) (by kernel_rfl) (by kernel_rfl) (fun _ _ _ h => h) (Or.inl ⟨by rfl, ?_⟩) (by assumption) ?_
  rotate_left
  · (intro w hSw; (try dsimp only at hSw); go_simp) <;> with_reducible rfl
  (simp only [Act.put, List.getElem_toArray, List.getElem_cons_zero, List.getElem_cons_succ, List.setIfInBounds_toArray, List.set_cons_zero, List.set_cons_succ])
  refine wpAnyH_take (i := 5) (v := ?_) rfl (by kernel_rfl) (by kernel_rfl) (by kernel_rfl) (fun _ _ _ h => h) (Or.inl ⟨by rfl, ?_⟩) (by assumption) ?_
  rotate_left
  · (intro w hSw; (try dsimp only at hSw); go_simp) <;> with_reducible rfl
  (simp only [Act.put, List.getElem_toArray, List.getElem_cons_zero, List.getElem_cons_succ, List.setIfInBounds_toArray, List.set_cons_zero, List.set_cons_succ])
  refine wpAnyH_take (i := 6) (v := ?_) rfl (by kernel_rfl) (by kernel_rfl) (by kernel_rfl) (fun _ _ _ h => h) (Or.inl ⟨by rfl, ?_⟩) (by assumption) ?_
  rotate_left
  · (intro w hSw; (try dsimp only at hSw); go_simp) <;> with_reducible rfl
  (simp only [Act.put, List.getElem_toArray, List.getElem_cons_zero, List.getElem_cons_succ, List.setIfInBounds_toArray, List.set_cons_zero, List.set_cons_succ])
  refine wpAnyH_take (i := 10) (v := ?_) rfl (by kernel_rfl) (by kernel_rfl) (by kernel_rfl) (fun _ _ _ h => h) (Or.inl ⟨by rfl, ?_⟩) (by assumption) ?_
  rotate_left
  · (intro w hSw; (try dsimp only at hSw); go_simp) <;> with_reducible rfl
  (simp only [Act.put, List.getElem_toArray, List.getElem_cons_zero, List.getElem_cons_succ, List.setIfInBounds_toArray, List.set_cons_zero, List.set_cons_succ])
  refine wpAnyH_take (i := 11) (v := ?_) rfl (by kernel_rfl) (by kernel_rfl) (by kernel_rfl) (fun _ _ _ h => h) (Or.inl ⟨by rfl, ?_⟩) (by assumption) ?_
  rotate_left
  · (intro w hSw; (try dsimp only at hSw); go_simp) <;> with_reducible rfl
  (simp only [Act.put, List.getElem_toArray, List.getElem_cons_zero, List.getElem_cons_succ, List.setIfInBounds_toArray, List.set_cons_zero, List.set_cons_succ])
  refine wpAnyH_take (i := 12) (v := ?_) rfl (by kernel_rfl) (by kernel_rfl) (by kernel_rfl) (fun _ _ _ h => h) (Or.inl ⟨by rfl, ?_⟩) (by assumption) ?_
  rotate_left
  · (intro w hSw; (try dsimp only at hSw); go_simp) <;> with_reducible rfl
  (simp only [Act.put, List.getElem_toArray, List.getElem_cons_zero, List.getElem_cons_succ, List.setIfInBounds_toArray, List.set_cons_zero, List.set_cons_succ])
  refine wpAnyH_take (i := 13) (v := ?_) rfl (by kernel_rfl) (by kernel_rfl) (by kernel_rfl) (fun _ _ _ h => h) (Or.inl ⟨by rfl, ?_⟩) (by assumption) ?_
  rotate_left
  · (intro w hSw; (try dsimp only at hSw); go_simp) <;> with_reducible rfl
  (simp only [Act.put, List.getElem_toArray, List.getElem_cons_zero, List.getElem_cons_succ, List.setIfInBounds_toArray, List.set_cons_zero, List.set_cons_succ])
  refine wpAnyH_take (i := 14) (v := ?_) rfl (by kernel_rfl) (by kernel_rfl) (by kernel_rfl) (fun _ _ _ h => h) (Or.inl ⟨by rfl, ?_⟩) (by assumption) ?_
  rotate_left
  · (intro w hSw; (try dsimp only at hSw); go_simp) <;> with_reducible rfl
  (simp only [Act.put, List.getElem_toArray, List.getElem_cons_zero, List.getElem_cons_succ, List.setIfInBounds_toArray, List.set_cons_zero, List.set_cons_succ])
  refine wpAnyH_ready (rs := [7]) (by kernel_rfl) (by simp) ?_
  refine AllReadyH.cons rfl (fun K hK => ?_) AllReadyH.nil
  go_simp
  refine (hcr _ (HW.out _ HB0.out).2).mono ?_
  rintro e w1 ⟨rfl, hb1⟩
  have HB1 : Hid (Below W.heap.size W w1) := HB0.out.trans (hb1.mono HB0.out.size)
  clear hb1
  refine hK.out _ _ (HSd.out _ HB1.out) (fun hHeld1 => ?_)
  clear hK K
  (try (simp only [Act.put, List.getElem_toArray, List.getElem_cons_zero, List.getElem_cons_succ, List.setIfInBounds_toArray, List.set_cons_zero, List.set_cons_succ]))
  refine wpAnyH_take (i := 8) (v := ?_) rfl (by kernel_rfl) (by kernel_rfl) (by kernel_rfl) (fun _ _ _ h => h) (Or.inl ⟨by rfl, ?_⟩) (by assumption) ?_
  rotate_left
  · (intro w hSw; (try dsimp only at hSw); go_simp; rw [if_neg (by omega)]) <;> with_reducible rfl
  (simp only [Act.put, List.getElem_toArray, List.getElem_cons_zero, List.getElem_cons_succ, List.setIfInBounds_toArray, List.set_cons_zero, List.set_cons_succ])
  refine wpAnyH_take (i := 9) (v := ?_) rfl (by kernel_rfl) (by kernel_rfl) (by kernel_rfl) (fun _ _ _ h => h) (Or.inl ⟨by rfl, ?_⟩) (by assumption) ?_
  rotate_left
  · (intro w hSw; (try dsimp only at hSw); go_simp; rw [if_neg (by omega)]) <;> with_reducible rfl
  (simp only [Act.put, List.getElem_toArray, List.getElem_cons_zero, List.getElem_cons_succ, List.setIfInBounds_toArray, List.set_cons_zero, List.set_cons_succ])
  refine wpAnyH_ready (rs := [15]) (by kernel_rfl) (by simp) ?_
  refine AllReadyH.cons rfl (fun K hK => ?_) AllReadyH.nil
  go_simp
  refine (hca _ (HW.out _ HB1.out).2).mono ?_
  rintro e w2 ⟨rfl, hb2⟩
  have HB2 : Hid (Below W.heap.size W w2) := HB1.out.trans (hb2.mono HB1.out.size)
  clear hb2
  refine hK.out _ _ (HSd.out _ HB2.out) (fun hHeld2 => ?_)
  clear hK K
  (try (simp only [Act.put, List.getElem_toArray, List.getElem_cons_zero, List.getElem_cons_succ, List.setIfInBounds_toArray, List.set_cons_zero, List.set_cons_succ]))
  refine wpAnyH_take (i := 16) (v := ?_) rfl (by kernel_rfl) (by kernel_rfl) (by kernel_rfl) (fun _ _ _ h => h) (Or.inl ⟨by rfl, ?_⟩) (by assumption) ?_
  rotate_left
  · (intro w hSw; (try dsimp only at hSw); go_simp; rw [if_neg (by omega)]) <;> with_reducible rfl
  (simp only [Act.put, List.getElem_toArray, List.getElem_cons_zero, List.getElem_cons_succ, List.setIfInBounds_toArray, List.set_cons_zero, List.set_cons_succ])
  refine wpAnyH_take (i := 17) (v := ?_) rfl (by kernel_rfl) (by kernel_rfl) (by kernel_rfl) (fun _ _ _ h => h) (Or.inl ⟨by rfl, ?_⟩) (by assumption) ?_
  rotate_left
  · (intro w hSw; (try dsimp only at hSw); go_simp) <;> with_reducible rfl
  (simp only [Act.put, List.getElem_toArray, List.getElem_cons_zero, List.getElem_cons_succ, List.setIfInBounds_toArray, List.set_cons_zero, List.set_cons_succ])
  refine wpAnyH_done (by kernel_rfl) ?_ _
  go_wp2_with fail
  go_ret
  exact ⟨by rw [← HE.out]; rfl, (HW.out _ HB2.out).1⟩
end Go.Proofs.YthcfianhdkolhaaDoor.T
