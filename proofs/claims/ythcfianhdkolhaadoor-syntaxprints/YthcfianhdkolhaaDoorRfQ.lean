/- The contract of the reference's Show: by kinds. -/
import Derived.Test.YthcfianhdkolhaaDoorRfL
import Derived.Test.YthcfianhdkolhaaDoorRfK
namespace Go.Proofs.YthcfianhdkolhaaDoor.T
open Go.RowKit Go.Proofs.YthcfianhdkolhaaDoor.S
set_option linter.unusedVariables false
set_option linter.unusedSimpArgs false
set_option maxRecDepth 100000 in
set_option maxHeartbeats 4000000 in
theorem show_k7_0 {w0 : World} (text : List UInt8) (l : List Nd) (x c : Nd) (ht : text.length ≤ 16) (hx : ShN w0 x) (ex : shT x ≠ []) (bdx : (jx (shT x)).length ≤ 9200000000000) (hc : ShN w0 c) (ec : shT c ≠ []) (bdc : (jx (shT c)).length ≤ 9200000000000) (hl : ∀ y, y ∈ l → ShN w0 y) (el : ∀ y, y ∈ l → shT y ≠ []) (hl7 : l.length ≤ 700) (br : (jx (rowT (l.map shT) false)).length ≤ 9200000000000) : ShN w0 (.mk 7 text 0 (l ++ [x] ++ [c])) := by
  intro w v hb hv
  obtain ⟨ka, kc, rfl, t1, n1, n2, l1, l2, hR⟩ := hv.part
  have htx : (str text).size ≤ 16 := ht
  clear hv
  have HRl : Hid (RowO w0 ka l) := by have := hR.take l.length; simpa [Hid] using this
  obtain ⟨ga, oa, ka, xa, na, aa, ma, ca, hkaa, hga, qa0, qa1, qa2, qa3, hnda⟩ := hR.kid l.length (by simp)
  have Ha : Hid (NdO w0 x (.agg #[.int .i64 ka, .string xa, .int .i64 na, .slice aa ma ca])) := by simpa [Hid] using hnda
  have Ha0 := hide qa0
  have Ha1 := hide qa1
  have Ha2 := hide qa2
  have Ha3 := hide qa3
  clear qa0 qa1 qa2 qa3 hnda hga
  subst hkaa
  obtain ⟨gd, od, kd, xd, nd, ad, md, cd, hkad, hgd, qd0, qd1, qd2, qd3, hndd⟩ := hR.kid (l.length + 1) (by simp)
  have Hd : Hid (NdO w0 c (.agg #[.int .i64 kd, .string xd, .int .i64 nd, .slice ad md cd])) := by simpa [Hid] using hndd
  have Hd0 := hide qd0
  have Hd1 := hide qd1
  have Hd2 := hide qd2
  have Hd3 := hide qd3
  clear qd0 qd1 qd2 qd3 hndd hgd
  obtain ⟨rfl, rfl⟩ : ga = gd ∧ oa = od := by simpa using hkad
  have hle : (l ++ [x] ++ [c]).length = l.length + 2 := by simp
  rw [hle] at l1 ⊢
  clear hle
  have hca : ∀ w', Below w0.heap.size w0 w' → Calls Tryd.prog 10 #[.agg #[.int .i64 ka, .string xa, .int .i64 na, .slice aa ma ca]] w' fun e w'' => e = .returned (.string (str (jx (shT x)))) ∧ Below w'.heap.size w' w'' := fun w' h => hx w' _ h Ha.out
  have hcd : ∀ w', Below w0.heap.size w0 w' → Calls Tryd.prog 10 #[.agg #[.int .i64 kd, .string xd, .int .i64 nd, .slice ad md cd]] w' fun e w'' => e = .returned (.string (str (jx (shT c)))) ∧ Below w'.heap.size w' w'' := fun w' h => hc w' _ h Hd.out
  have hcr : ∀ w', Below w0.heap.size w0 w' → Calls Tryd.prog 25 #[.slice (some ⟨ga, oa, none⟩) l.length kc, .bool false] w' fun e w'' => e = .returned (.string (str (jx (rowT (l.map shT) false)))) ∧ Below w'.heap.size w' w'' := fun w' h => row_none l false el hl w' h _ _ HRl.out hl7 (by omega)
  have hB0 : Below w.heap.size w (w.alloc (.cells #[.int .i64 7, .string (str text), .int .i64 0, .slice (some ⟨ga, oa, none⟩) (l.length + 2) kc] 24)) := (Below.refl _ _).alloc (Nat.le_refl _) _
  have hz0 : (w.alloc (.cells #[.int .i64 7, .string (str text), .int .i64 0, .slice (some ⟨ga, oa, none⟩) (l.length + 2) kc] 24)).heap.size = w.heap.size + 1 := by simp
  have hN0 := heap_new w #[.int .i64 7, .string (str text), .int .i64 0, .slice (some ⟨ga, oa, none⟩) (l.length + 2) kc] 24
  have hbW := hb.trans (hB0.mono hb.size)
  have hsx : (str (jx (shT x))).size ≤ 9300000000000 := by show (jx (shT x)).length ≤ _; omega
  generalize hgx : str (jx (shT x)) = sx at *
  have HGx := hide hgx
  clear hgx
  have hsc : (str (jx (shT c))).size ≤ 9300000000000 := by show (jx (shT c)).length ≤ _; omega
  generalize hgc : str (jx (shT c)) = sc at *
  have HGc := hide hgc
  clear hgc
  have hsr : (str (jx (rowT (l.map shT) false))).size ≤ 9300000000000 := by show (jx (rowT (l.map shT) false)).length ≤ _; omega
  generalize hgr : str (jx (rowT (l.map shT) false)) = sr at *
  have HGr := hide hgr
  clear hgr
  have HE : Hid ((⟨#[]⟩ : ByteArray) ++ sx ++ (⟨#[32]⟩ : ByteArray) ++ str text ++ (⟨#[32]⟩ : ByteArray) ++ sr ++ (⟨#[32]⟩ : ByteArray) ++ sc = str (jx (shT (.mk 7 text 0 (l ++ [x] ++ [c]))))) := by
    show _ = _
    rw [sh_d7, if_neg (by decide), List.nil_append, show decide ((2 : Int) ≤ 0) = false from rfl, jx_app (by simp) ec, jx_app (by simp) (row_ne _ _), jx_app ex (by simp), jx_one]
    rw [← HGx.out, ← HGc.out, ← HGr.out]
    apply ByteArray.ext
    apply Array.toList_inj.1
    simp [str, raw_wd, raw_sg]
  have hww : IntKind.i64.wrap (((l.length + 2 : Nat) : Int) - 1) = (l.length : Int) + 1 := by rw [IntKind.wrap_i64]; omega
  have hww2 : IntKind.i64.wrap ((l.length : Int) + 2 - 1) = (l.length : Int) + 1 := by rw [IntKind.wrap_i64]; omega
  have hww3 : IntKind.i64.wrap ((l.length : Int) + 1 - 1) = (l.length : Int) := by rw [IntKind.wrap_i64]; omega
  have hww4 : IntKind.i64.wrap (l.length : Int) = (l.length : Int) := by rw [IntKind.wrap_i64]; omega
  have hww5 : IntKind.i64.wrap ((l.length : Int) + 2 - 2) = (l.length : Int) := by rw [IntKind.wrap_i64]; omega
  have hsl : (0 : Int) ≤ l.length ∧ (l.length : Int) ≤ kc := by omega
  have hix : (0 : Int) ≤ l.length ∧ (l.length : Int) < l.length + 2 := by omega
  have hix2 : (0 : Int) ≤ (l.length : Int) + 1 ∧ (l.length : Int) + 1 < l.length + 2 := by omega
  have hnn : ((l.length : Int) + 1).toNat = l.length + 1 := by omega
  clear hb hR hx hc hl el ht
  go_enter Tryd.func10, Tryd.ntmps10
  go_wp2_with fail
  generalize w.alloc (.cells #[.int .i64 7, .string (str text), .int .i64 0, .slice (some ⟨ga, oa, none⟩) (l.length + 2) kc] 24) = W at *
  have HW : Hid (∀ w', Below W.heap.size W w' → Below w.heap.size w w' ∧ Below w0.heap.size w0 w') := fun w' hw => ⟨hB0.trans (hw.mono (by omega)), hbW.trans (hw.mono hbW.size)⟩
  have HNW : Hid (∀ w', Below W.heap.size W w' → ∀ oo, w'.cell? ⟨w.heap.size, oo, none⟩ = (#[Value.int .i64 7, .string (str text), .int .i64 0, .slice (some ⟨ga, oa, none⟩) (l.length + 2) kc])[oo]?) := fun w' hw => cells_at ((hw.block w.heap.size (by omega)).trans hN0)
  clear hB0 hz0 hN0 hbW
  have HSd : Hid (∀ w', Below W.heap.size W w' → (fun w' => (∀ oo, w'.cell? ⟨w.heap.size, oo, none⟩ = (#[Value.int .i64 7, .string (str text), .int .i64 0, .slice (some ⟨ga, oa, none⟩) (l.length + 2) kc])[oo]?) ∧ w'.cell? ⟨ga, oa + l.length * 4, none⟩ = some (.int .i64 ka) ∧ w'.cell? ⟨ga, oa + l.length * 4 + 1, none⟩ = some (.string xa) ∧ w'.cell? ⟨ga, oa + l.length * 4 + 2, none⟩ = some (.int .i64 na) ∧ w'.cell? ⟨ga, oa + l.length * 4 + 3, none⟩ = some (.slice aa ma ca) ∧ w'.cell? ⟨ga, oa + (l.length + 1) * 4, none⟩ = some (.int .i64 kd) ∧ w'.cell? ⟨ga, oa + (l.length + 1) * 4 + 1, none⟩ = some (.string xd) ∧ w'.cell? ⟨ga, oa + (l.length + 1) * 4 + 2, none⟩ = some (.int .i64 nd) ∧ w'.cell? ⟨ga, oa + (l.length + 1) * 4 + 3, none⟩ = some (.slice ad md cd)) w') := fun w' hw => ⟨HNW.out w' hw, below_cell (HW.out w' hw).2 Ha0.out, below_cell (HW.out w' hw).2 Ha1.out, below_cell (HW.out w' hw).2 Ha2.out, below_cell (HW.out w' hw).2 Ha3.out, below_cell (HW.out w' hw).2 Hd0.out, below_cell (HW.out w' hw).2 Hd1.out, below_cell (HW.out w' hw).2 Hd2.out, below_cell (HW.out w' hw).2 Hd3.out⟩
  refine wp_region_held_drew (S := (fun w' => (∀ oo, w'.cell? ⟨w.heap.size, oo, none⟩ = (#[Value.int .i64 7, .string (str text), .int .i64 0, .slice (some ⟨ga, oa, none⟩) (l.length + 2) kc])[oo]?) ∧ w'.cell? ⟨ga, oa + l.length * 4, none⟩ = some (.int .i64 ka) ∧ w'.cell? ⟨ga, oa + l.length * 4 + 1, none⟩ = some (.string xa) ∧ w'.cell? ⟨ga, oa + l.length * 4 + 2, none⟩ = some (.int .i64 na) ∧ w'.cell? ⟨ga, oa + l.length * 4 + 3, none⟩ = some (.slice aa ma ca) ∧ w'.cell? ⟨ga, oa + (l.length + 1) * 4, none⟩ = some (.int .i64 kd) ∧ w'.cell? ⟨ga, oa + (l.length + 1) * 4 + 1, none⟩ = some (.string xd) ∧ w'.cell? ⟨ga, oa + (l.length + 1) * 4 + 2, none⟩ = some (.int .i64 nd) ∧ w'.cell? ⟨ga, oa + (l.length + 1) * 4 + 3, none⟩ = some (.slice ad md cd))) (by kernel_rfl) (HSd.out _ ((Below.refl _ _).drew)) (fun hHeld => ?_)
  have HB0 : Hid (Below W.heap.size W W.drew) := (Below.refl _ _).drew
  refine wpAnyH_take (i := 0) (v := ?_) rfl (by kernel_rfl) (by kernel_rfl) (by kernel_rfl) (fun _ _ _ h => h) (Or.inl ⟨by rfl, ?_⟩) (by assumption) ?_
  rotate_left
  · (intro w hSw; (try dsimp only at hSw); go_simp) <;> with_reducible rfl
  (simp only [Act.put, List.getElem_toArray, List.getElem_cons_zero, List.getElem_cons_succ, List.setIfInBounds_toArray, List.set_cons_zero, List.set_cons_succ])
  refine wpAnyH_take (i := 1) (v := ?_) rfl (by kernel_rfl) (by kernel_rfl) (by kernel_rfl) (fun _ _ _ h => h) (Or.inl ⟨by rfl, ?_⟩) (by assumption) ?_
  rotate_left
  · (intro w hSw; (try dsimp only at hSw); go_simp) <;> with_reducible rfl
  (simp only [Act.put, List.getElem_toArray, List.getElem_cons_zero, List.getElem_cons_succ, List.setIfInBounds_toArray, List.set_cons_zero, List.set_cons_succ])
  refine wpAnyH_take (i := 2) (v := ?_) rfl (by kernel_rfl) (by kernel_rfl) (by kernel_rfl) (fun _ _ _ h => h) (Or.inl ⟨by rfl, ?_⟩) (by assumption) ?_
  rotate_left
  · (intro w hSw; (try dsimp only at hSw); go_simp) <;> with_reducible rfl
  (simp only [Act.put, List.getElem_toArray, List.getElem_cons_zero, List.getElem_cons_succ, List.setIfInBounds_toArray, List.set_cons_zero, List.set_cons_succ])
  refine wpAnyH_take (i := 3) (v := ?_) rfl (by kernel_rfl) (by kernel_rfl) (by kernel_rfl) (fun _ _ _ h => h) (Or.inl ⟨by rfl, ?_⟩) (by assumption) ?_
  rotate_left
  · (intro w hSw; (try dsimp only at hSw); go_simp) <;> with_reducible rfl
  (simp only [Act.put, List.getElem_toArray, List.getElem_cons_zero, List.getElem_cons_succ, List.setIfInBounds_toArray, List.set_cons_zero, List.set_cons_succ])
  refine wpAnyH_take (i := 4) (v := ?_) rfl (by kernel_rfl) (by kernel_rfl) (by kernel_rfl) (fun _ _ _ h => h) (Or.inl ⟨by rfl, ?_⟩) (by assumption) ?_
  rotate_left
  · (intro w hSw; (try dsimp only at hSw); go_simp) <;> with_reducible rfl
  (simp only [Act.put, List.getElem_toArray, List.getElem_cons_zero, List.getElem_cons_succ, List.setIfInBounds_toArray, List.set_cons_zero, List.set_cons_succ])
  refine wpAnyH_take (i := 5) (v := ?_) rfl (by kernel_rfl) (by kernel_rfl) (by kernel_rfl) (fun _ _ _ h => h) (Or.inl ⟨by rfl, ?_⟩) (by assumption) ?_
  rotate_left
  · (intro w hSw; (try dsimp only at hSw); go_simp) <;> with_reducible rfl
  (simp only [Act.put, List.getElem_toArray, List.getElem_cons_zero, List.getElem_cons_succ, List.setIfInBounds_toArray, List.set_cons_zero, List.set_cons_succ])
  refine wpAnyH_take (i := 6) (v := ?_) rfl (by kernel_rfl) (by kernel_rfl) (by kernel_rfl) (fun _ _ _ h => h) (Or.inl ⟨by rfl, ?_⟩) (by assumption) ?_
  rotate_left
  · (intro w hSw; (try dsimp only at hSw); go_simp) <;> with_reducible rfl
  (simp only [Act.put, List.getElem_toArray, List.getElem_cons_zero, List.getElem_cons_succ, List.setIfInBounds_toArray, List.set_cons_zero, List.set_cons_succ])
  refine wpAnyH_take (i := 10) (v := ?_) rfl (by kernel_rfl) (by kernel_rfl) (by kernel_rfl) (fun _ _ _ h => h) (Or.inl ⟨by rfl, ?_⟩) (by assumption) ?_
  rotate_left
  · (intro w hSw; (try dsimp only at hSw); go_simp) <;> with_reducible rfl
  (simp only [Act.put, List.getElem_toArray, List.getElem_cons_zero, List.getElem_cons_succ, List.setIfInBounds_toArray, List.set_cons_zero, List.set_cons_succ])
  refine wpAnyH_take (i := 11) (v := ?_) rfl (by kernel_rfl) (by kernel_rfl) (by kernel_rfl) (fun _ _ _ h => h) (Or.inl ⟨by rfl, ?_⟩) (by assumption) ?_
  rotate_left
  · (intro w hSw; (try dsimp only at hSw); go_simp) <;> with_reducible rfl
  (simp only [Act.put, List.getElem_toArray, List.getElem_cons_zero, List.getElem_cons_succ, List.setIfInBounds_toArray, List.set_cons_zero, List.set_cons_succ])
  refine wpAnyH_take (i := 14) (v := ?_) rfl (by kernel_rfl) (by kernel_rfl) (by kernel_rfl) (fun _ _ _ h => h) (Or.inl ⟨by rfl, ?_⟩) (by assumption) ?_
  rotate_left
  · (intro w hSw; (try dsimp only at hSw); go_simp) <;> with_reducible rfl
  (simp only [Act.put, List.getElem_toArray, List.getElem_cons_zero, List.getElem_cons_succ, List.setIfInBounds_toArray, List.set_cons_zero, List.set_cons_succ])
  refine wpAnyH_take (i := 15) (v := ?_) rfl (by kernel_rfl) (by kernel_rfl) (by kernel_rfl) (fun _ _ _ h => h) (Or.inl ⟨by rfl, ?_⟩) (by assumption) ?_
  rotate_left
  · (intro w hSw; (try dsimp only at hSw); go_simp) <;> with_reducible rfl
  (simp only [Act.put, List.getElem_toArray, List.getElem_cons_zero, List.getElem_cons_succ, List.setIfInBounds_toArray, List.set_cons_zero, List.set_cons_succ])
  refine wpAnyH_take (i := 16) (v := ?_) rfl (by kernel_rfl) (by kernel_rfl) (by kernel_rfl) (fun _ _ _ h => h) (Or.inl ⟨by rfl, ?_⟩) (by assumption) ?_
  rotate_left
  · (intro w hSw; (try dsimp only at hSw); go_simp) <;> with_reducible rfl
  (simp only [Act.put, List.getElem_toArray, List.getElem_cons_zero, List.getElem_cons_succ, List.setIfInBounds_toArray, List.set_cons_zero, List.set_cons_succ])
  refine wpAnyH_take (i := 17) (v := ?_) rfl (by kernel_rfl) (by kernel_rfl) (by kernel_rfl) (fun _ _ _ h => h) (Or.inl ⟨by rfl, ?_⟩) (by assumption) ?_
  rotate_left
  · (intro w hSw; (try dsimp only at hSw); go_simp) <;> with_reducible rfl
  (simp only [Act.put, List.getElem_toArray, List.getElem_cons_zero, List.getElem_cons_succ, List.setIfInBounds_toArray, List.set_cons_zero, List.set_cons_succ])
  refine wpAnyH_take (i := 18) (v := ?_) rfl (by kernel_rfl) (by kernel_rfl) (by kernel_rfl) (fun _ _ _ h => h) (Or.inl ⟨by rfl, ?_⟩) (by assumption) ?_
  rotate_left
  · (intro w hSw; (try dsimp only at hSw); go_simp) <;> with_reducible rfl
  (simp only [Act.put, List.getElem_toArray, List.getElem_cons_zero, List.getElem_cons_succ, List.setIfInBounds_toArray, List.set_cons_zero, List.set_cons_succ])
  refine wpAnyH_take (i := 19) (v := ?_) rfl (by kernel_rfl) (by kernel_rfl) (by kernel_rfl) (fun _ _ _ h => h) (Or.inl ⟨by rfl, ?_⟩) (by assumption) ?_
  rotate_left
  · (intro w hSw; (try dsimp only at hSw); go_simp) <;> with_reducible rfl
  (simp only [Act.put, List.getElem_toArray, List.getElem_cons_zero, List.getElem_cons_succ, List.setIfInBounds_toArray, List.set_cons_zero, List.set_cons_succ])
  refine wpAnyH_take (i := 20) (v := ?_) rfl (by kernel_rfl) (by kernel_rfl) (by kernel_rfl) (fun _ _ _ h => h) (Or.inl ⟨by rfl, ?_⟩) (by assumption) ?_
  rotate_left
  · (intro w hSw; (try dsimp only at hSw); go_simp) <;> with_reducible rfl
  (simp only [Act.put, List.getElem_toArray, List.getElem_cons_zero, List.getElem_cons_succ, List.setIfInBounds_toArray, List.set_cons_zero, List.set_cons_succ])
  refine wpAnyH_take (i := 21) (v := ?_) rfl (by kernel_rfl) (by kernel_rfl) (by kernel_rfl) (fun _ _ _ h => h) (Or.inl ⟨by rfl, ?_⟩) (by assumption) ?_
  rotate_left
  · (intro w hSw; (try dsimp only at hSw); go_simp) <;> with_reducible rfl
  (simp only [Act.put, List.getElem_toArray, List.getElem_cons_zero, List.getElem_cons_succ, List.setIfInBounds_toArray, List.set_cons_zero, List.set_cons_succ])
  refine wpAnyH_take (i := 25) (v := ?_) rfl (by kernel_rfl) (by kernel_rfl) (by kernel_rfl) (fun _ _ _ h => h) (Or.inl ⟨by rfl, ?_⟩) (by assumption) ?_
  rotate_left
  · (intro w hSw; (try dsimp only at hSw); go_simp) <;> with_reducible rfl
  (simp only [Act.put, List.getElem_toArray, List.getElem_cons_zero, List.getElem_cons_succ, List.setIfInBounds_toArray, List.set_cons_zero, List.set_cons_succ])
  refine wpAnyH_take (i := 26) (v := ?_) rfl (by kernel_rfl) (by kernel_rfl) (by kernel_rfl) (fun _ _ _ h => h) (Or.inl ⟨by rfl, ?_⟩) (by assumption) ?_
  rotate_left
  · (intro w hSw; (try dsimp only at hSw); go_simp) <;> with_reducible rfl
  (simp only [Act.put, List.getElem_toArray, List.getElem_cons_zero, List.getElem_cons_succ, List.setIfInBounds_toArray, List.set_cons_zero, List.set_cons_succ])
  refine wpAnyH_take (i := 27) (v := ?_) rfl (by kernel_rfl) (by kernel_rfl) (by kernel_rfl) (fun _ _ _ h => h) (Or.inl ⟨by rfl, ?_⟩) (by assumption) ?_
  rotate_left
  · (intro w hSw; (try dsimp only at hSw); go_simp) <;> with_reducible rfl
  (simp only [Act.put, List.getElem_toArray, List.getElem_cons_zero, List.getElem_cons_succ, List.setIfInBounds_toArray, List.set_cons_zero, List.set_cons_succ])
  refine wpAnyH_take (i := 28) (v := ?_) rfl (by kernel_rfl) (by kernel_rfl) (by kernel_rfl) (fun _ _ _ h => h) (Or.inl ⟨by rfl, ?_⟩) (by assumption) ?_
  rotate_left
  · (intro w hSw; (try dsimp only at hSw); go_simp) <;> with_reducible rfl
  (simp only [Act.put, List.getElem_toArray, List.getElem_cons_zero, List.getElem_cons_succ, List.setIfInBounds_toArray, List.set_cons_zero, List.set_cons_succ])
  refine wpAnyH_take (i := 29) (v := ?_) rfl (by kernel_rfl) (by kernel_rfl) (by kernel_rfl) (fun _ _ _ h => h) (Or.inl ⟨by rfl, ?_⟩) (by assumption) ?_
  rotate_left
  · (intro w hSw; (try dsimp only at hSw); go_simp) <;> with_reducible rfl
  (simp only [Act.put, List.getElem_toArray, List.getElem_cons_zero, List.getElem_cons_succ, List.setIfInBounds_toArray, List.set_cons_zero, List.set_cons_succ])
  refine wpAnyH_ready (rs := [7]) (by kernel_rfl) (by simp) ?_
  refine AllReadyH.cons rfl (fun K hK => ?_) AllReadyH.nil
  go_simp
  refine (hca _ (HW.out _ HB0.out).2).mono ?_
  rintro e w1 ⟨rfl, hb1⟩
  have HB1 : Hid (Below W.heap.size W w1) := HB0.out.trans (hb1.mono HB0.out.size)
  clear hb1
  refine hK.out _ _ (HSd.out _ HB1.out) (fun hHeld1 => ?_)
  clear hK K
  (try (simp only [Act.put, List.getElem_toArray, List.getElem_cons_zero, List.getElem_cons_succ, List.setIfInBounds_toArray, List.set_cons_zero, List.set_cons_succ]))
  refine wpAnyH_take (i := 8) (v := ?_) rfl (by kernel_rfl) (by kernel_rfl) (by kernel_rfl) (fun _ _ _ h => h) (Or.inl ⟨by rfl, ?_⟩) (by assumption) ?_
  rotate_left
  · (intro w hSw; (try dsimp only at hSw); go_simp; rw [if_neg (by omega)]) <;> with_reducible rfl
  (simp only [Act.put, List.getElem_toArray, List.getElem_cons_zero, List.getElem_cons_succ, List.setIfInBounds_toArray, List.set_cons_zero, List.set_cons_succ])
  refine wpAnyH_take (i := 9) (v := ?_) rfl (by kernel_rfl) (by kernel_rfl) (by kernel_rfl) (fun _ _ _ h => h) (Or.inl ⟨by rfl, ?_⟩) (by assumption) ?_
  rotate_left
  · (intro w hSw; (try dsimp only at hSw); go_simp; rw [if_neg (by omega)]) <;> with_reducible rfl
  (simp only [Act.put, List.getElem_toArray, List.getElem_cons_zero, List.getElem_cons_succ, List.setIfInBounds_toArray, List.set_cons_zero, List.set_cons_succ])
  refine wpAnyH_take (i := 12) (v := ?_) rfl (by kernel_rfl) (by kernel_rfl) (by kernel_rfl) (fun _ _ _ h => h) (Or.inl ⟨by rfl, ?_⟩) (by assumption) ?_
  rotate_left
  · (intro w hSw; (try dsimp only at hSw); go_simp; rw [if_neg (by omega)]) <;> with_reducible rfl
  (simp only [Act.put, List.getElem_toArray, List.getElem_cons_zero, List.getElem_cons_succ, List.setIfInBounds_toArray, List.set_cons_zero, List.set_cons_succ])
  refine wpAnyH_take (i := 13) (v := ?_) rfl (by kernel_rfl) (by kernel_rfl) (by kernel_rfl) (fun _ _ _ h => h) (Or.inl ⟨by rfl, ?_⟩) (by assumption) ?_
  rotate_left
  · (intro w hSw; (try dsimp only at hSw); go_simp; rw [if_neg (by omega)]) <;> with_reducible rfl
  (simp only [Act.put, List.getElem_toArray, List.getElem_cons_zero, List.getElem_cons_succ, List.setIfInBounds_toArray, List.set_cons_zero, List.set_cons_succ])
  refine wpAnyH_ready (rs := [22]) (by kernel_rfl) (by simp) ?_
  refine AllReadyH.cons rfl (fun K hK => ?_) AllReadyH.nil
  go_simp
  refine (hcr _ (HW.out _ HB1.out).2).mono ?_
  rintro e w2 ⟨rfl, hb2⟩
  have HB2 : Hid (Below W.heap.size W w2) := HB1.out.trans (hb2.mono HB1.out.size)
  clear hb2
  refine hK.out _ _ (HSd.out _ HB2.out) (fun hHeld2 => ?_)
  clear hK K
  (try (simp only [Act.put, List.getElem_toArray, List.getElem_cons_zero, List.getElem_cons_succ, List.setIfInBounds_toArray, List.set_cons_zero, List.set_cons_succ]))
  refine wpAnyH_take (i := 23) (v := ?_) rfl (by kernel_rfl) (by kernel_rfl) (by kernel_rfl) (fun _ _ _ h => h) (Or.inl ⟨by rfl, ?_⟩) (by assumption) ?_
  rotate_left
  · (intro w hSw; (try dsimp only at hSw); go_simp; rw [if_neg (by omega)]) <;> with_reducible rfl
  (simp only [Act.put, List.getElem_toArray, List.getElem_cons_zero, List.getElem_cons_succ, List.setIfInBounds_toArray, List.set_cons_zero, List.set_cons_succ])
  refine wpAnyH_take (i := 24) (v := ?_) rfl (by kernel_rfl) (by kernel_rfl) (by kernel_rfl) (fun _ _ _ h => h) (Or.inl ⟨by rfl, ?_⟩) (by assumption) ?_
  rotate_left
  · (intro w hSw; (try dsimp only at hSw); go_simp; rw [if_neg (by omega)]) <;> with_reducible rfl
  (simp only [Act.put, List.getElem_toArray, List.getElem_cons_zero, List.getElem_cons_succ, List.setIfInBounds_toArray, List.set_cons_zero, List.set_cons_succ])
  refine wpAnyH_ready (rs := [30]) (by kernel_rfl) (by simp) ?_
  refine AllReadyH.cons rfl (fun K hK => ?_) AllReadyH.nil
  go_simp
  refine (hcd _ (HW.out _ HB2.out).2).mono ?_
  rintro e w3 ⟨rfl, hb3⟩
  have HB3 : Hid (Below W.heap.size W w3) := HB2.out.trans (hb3.mono HB2.out.size)
  clear hb3
  refine hK.out _ _ (HSd.out _ HB3.out) (fun hHeld3 => ?_)
  clear hK K
  (try (simp only [Act.put, List.getElem_toArray, List.getElem_cons_zero, List.getElem_cons_succ, List.setIfInBounds_toArray, List.set_cons_zero, List.set_cons_succ]))
  refine wpAnyH_take (i := 31) (v := ?_) rfl (by kernel_rfl) (by kernel_rfl) (by kernel_rfl) (fun _ _ _ h => h) (Or.inl ⟨by rfl, ?_⟩) (by assumption) ?_
  rotate_left
  · (intro w hSw; (try dsimp only at hSw); go_simp; rw [if_neg (by omega)]) <;> with_reducible rfl
  (simp only [Act.put, List.getElem_toArray, List.getElem_cons_zero, List.getElem_cons_succ, List.setIfInBounds_toArray, List.set_cons_zero, List.set_cons_succ])
  refine wpAnyH_take (i := 32) (v := ?_) rfl (by kernel_rfl) (by kernel_rfl) (by kernel_rfl) (fun _ _ _ h => h) (Or.inl ⟨by rfl, ?_⟩) (by assumption) ?_
  rotate_left
  · (intro w hSw; (try dsimp only at hSw); go_simp) <;> with_reducible rfl
  (simp only [Act.put, List.getElem_toArray, List.getElem_cons_zero, List.getElem_cons_succ, List.setIfInBounds_toArray, List.set_cons_zero, List.set_cons_succ])
  refine wpAnyH_done (by kernel_rfl) ?_ _
  go_wp2_with fail
  go_ret
  exact ⟨by rw [show l ++ [x, c] = l ++ [x] ++ [c] by simp, ← HE.out]; rfl, (HW.out _ HB3.out).1⟩
set_option maxRecDepth 100000 in
set_option maxHeartbeats 4000000 in
theorem show_k7_1 {w0 : World} (text : List UInt8) (l : List Nd) (x c : Nd) (ht : text.length ≤ 16) (hx : ShN w0 x) (ex : shT x ≠ []) (bdx : (jx (shT x)).length ≤ 9200000000000) (hc : ShN w0 c) (ec : shT c ≠ []) (bdc : (jx (shT c)).length ≤ 9200000000000) (hl : ∀ y, y ∈ l → ShN w0 y) (el : ∀ y, y ∈ l → shT y ≠ []) (hl7 : l.length ≤ 700) (br : (jx (rowT (l.map shT) false)).length ≤ 9200000000000) : ShN w0 (.mk 7 text 1 (l ++ [x] ++ [c])) := by
  intro w v hb hv
  obtain ⟨ka, kc, rfl, t1, n1, n2, l1, l2, hR⟩ := hv.part
  have htx : (str text).size ≤ 16 := ht
  clear hv
  have HRl : Hid (RowO w0 ka l) := by have := hR.take l.length; simpa [Hid] using this
  obtain ⟨ga, oa, ka, xa, na, aa, ma, ca, hkaa, hga, qa0, qa1, qa2, qa3, hnda⟩ := hR.kid l.length (by simp)
  have Ha : Hid (NdO w0 x (.agg #[.int .i64 ka, .string xa, .int .i64 na, .slice aa ma ca])) := by simpa [Hid] using hnda
  have Ha0 := hide qa0
  have Ha1 := hide qa1
  have Ha2 := hide qa2
  have Ha3 := hide qa3
  clear qa0 qa1 qa2 qa3 hnda hga
  subst hkaa
  obtain ⟨gd, od, kd, xd, nd, ad, md, cd, hkad, hgd, qd0, qd1, qd2, qd3, hndd⟩ := hR.kid (l.length + 1) (by simp)
  have Hd : Hid (NdO w0 c (.agg #[.int .i64 kd, .string xd, .int .i64 nd, .slice ad md cd])) := by simpa [Hid] using hndd
  have Hd0 := hide qd0
  have Hd1 := hide qd1
  have Hd2 := hide qd2
  have Hd3 := hide qd3
  clear qd0 qd1 qd2 qd3 hndd hgd
  obtain ⟨rfl, rfl⟩ : ga = gd ∧ oa = od := by simpa using hkad
  have hle : (l ++ [x] ++ [c]).length = l.length + 2 := by simp
  rw [hle] at l1 ⊢
  clear hle
  have hca : ∀ w', Below w0.heap.size w0 w' → Calls Tryd.prog 10 #[.agg #[.int .i64 ka, .string xa, .int .i64 na, .slice aa ma ca]] w' fun e w'' => e = .returned (.string (str (jx (shT x)))) ∧ Below w'.heap.size w' w'' := fun w' h => hx w' _ h Ha.out
  have hcd : ∀ w', Below w0.heap.size w0 w' → Calls Tryd.prog 10 #[.agg #[.int .i64 kd, .string xd, .int .i64 nd, .slice ad md cd]] w' fun e w'' => e = .returned (.string (str (jx (shT c)))) ∧ Below w'.heap.size w' w'' := fun w' h => hc w' _ h Hd.out
  have hcr : ∀ w', Below w0.heap.size w0 w' → Calls Tryd.prog 25 #[.slice (some ⟨ga, oa, none⟩) l.length kc, .bool false] w' fun e w'' => e = .returned (.string (str (jx (rowT (l.map shT) false)))) ∧ Below w'.heap.size w' w'' := fun w' h => row_none l false el hl w' h _ _ HRl.out hl7 (by omega)
  have hB0 : Below w.heap.size w (w.alloc (.cells #[.int .i64 7, .string (str text), .int .i64 1, .slice (some ⟨ga, oa, none⟩) (l.length + 2) kc] 24)) := (Below.refl _ _).alloc (Nat.le_refl _) _
  have hz0 : (w.alloc (.cells #[.int .i64 7, .string (str text), .int .i64 1, .slice (some ⟨ga, oa, none⟩) (l.length + 2) kc] 24)).heap.size = w.heap.size + 1 := by simp
  have hN0 := heap_new w #[.int .i64 7, .string (str text), .int .i64 1, .slice (some ⟨ga, oa, none⟩) (l.length + 2) kc] 24
  have hbW := hb.trans (hB0.mono hb.size)
  have hsx : (str (jx (shT x))).size ≤ 9300000000000 := by show (jx (shT x)).length ≤ _; omega
  generalize hgx : str (jx (shT x)) = sx at *
  have HGx := hide hgx
  clear hgx
  have hsc : (str (jx (shT c))).size ≤ 9300000000000 := by show (jx (shT c)).length ≤ _; omega
  generalize hgc : str (jx (shT c)) = sc at *
  have HGc := hide hgc
  clear hgc
  have hsr : (str (jx (rowT (l.map shT) false))).size ≤ 9300000000000 := by show (jx (rowT (l.map shT) false)).length ≤ _; omega
  generalize hgr : str (jx (rowT (l.map shT) false)) = sr at *
  have HGr := hide hgr
  clear hgr
  have HE : Hid ((⟨#[115, 116, 97, 116, 105, 99, 32]⟩ : ByteArray) ++ sx ++ (⟨#[32]⟩ : ByteArray) ++ str text ++ (⟨#[32]⟩ : ByteArray) ++ sr ++ (⟨#[32]⟩ : ByteArray) ++ sc = str (jx (shT (.mk 7 text 1 (l ++ [x] ++ [c]))))) := by
    show _ = _
    rw [sh_d7, if_pos (by decide), show decide ((2 : Int) ≤ 1) = false from rfl, jx_app (by simp) ec, jx_app (by simp) (by simp), jx_app (by simp) (row_ne _ _), jx_app ex (by simp), jx_one, jx_one]
    rw [← HGx.out, ← HGc.out, ← HGr.out]
    apply ByteArray.ext
    apply Array.toList_inj.1
    simp [str, raw_wd, raw_sg]
  have hww : IntKind.i64.wrap (((l.length + 2 : Nat) : Int) - 1) = (l.length : Int) + 1 := by rw [IntKind.wrap_i64]; omega
  have hww2 : IntKind.i64.wrap ((l.length : Int) + 2 - 1) = (l.length : Int) + 1 := by rw [IntKind.wrap_i64]; omega
  have hww3 : IntKind.i64.wrap ((l.length : Int) + 1 - 1) = (l.length : Int) := by rw [IntKind.wrap_i64]; omega
  have hww4 : IntKind.i64.wrap (l.length : Int) = (l.length : Int) := by rw [IntKind.wrap_i64]; omega
  have hww5 : IntKind.i64.wrap ((l.length : Int) + 2 - 2) = (l.length : Int) := by rw [IntKind.wrap_i64]; omega
  have hsl : (0 : Int) ≤ l.length ∧ (l.length : Int) ≤ kc := by omega
  have hix : (0 : Int) ≤ l.length ∧ (l.length : Int) < l.length + 2 := by omega
  have hix2 : (0 : Int) ≤ (l.length : Int) + 1 ∧ (l.length : Int) + 1 < l.length + 2 := by omega
  have hnn : ((l.length : Int) + 1).toNat = l.length + 1 := by omega
  clear hb hR hx hc hl el ht
  go_enter Tryd.func10, Tryd.ntmps10
  go_wp2_with fail
  generalize w.alloc (.cells #[.int .i64 7, .string (str text), .int .i64 1, .slice (some ⟨ga, oa, none⟩) (l.length + 2) kc] 24) = W at *
  have HW : Hid (∀ w', Below W.heap.size W w' → Below w.heap.size w w' ∧ Below w0.heap.size w0 w') := fun w' hw => ⟨hB0.trans (hw.mono (by omega)), hbW.trans (hw.mono hbW.size)⟩
  have HNW : Hid (∀ w', Below W.heap.size W w' → ∀ oo, w'.cell? ⟨w.heap.size, oo, none⟩ = (#[Value.int .i64 7, .string (str text), .int .i64 1, .slice (some ⟨ga, oa, none⟩) (l.length + 2) kc])[oo]?) := fun w' hw => cells_at ((hw.block w.heap.size (by omega)).trans hN0)
  clear hB0 hz0 hN0 hbW
  have HSd : Hid (∀ w', Below W.heap.size W w' → (fun w' => (∀ oo, w'.cell? ⟨w.heap.size, oo, none⟩ = (#[Value.int .i64 7, .string (str text), .int .i64 1, .slice (some ⟨ga, oa, none⟩) (l.length + 2) kc])[oo]?) ∧ w'.cell? ⟨ga, oa + l.length * 4, none⟩ = some (.int .i64 ka) ∧ w'.cell? ⟨ga, oa + l.length * 4 + 1, none⟩ = some (.string xa) ∧ w'.cell? ⟨ga, oa + l.length * 4 + 2, none⟩ = some (.int .i64 na) ∧ w'.cell? ⟨ga, oa + l.length * 4 + 3, none⟩ = some (.slice aa ma ca) ∧ w'.cell? ⟨ga, oa + (l.length + 1) * 4, none⟩ = some (.int .i64 kd) ∧ w'.cell? ⟨ga, oa + (l.length + 1) * 4 + 1, none⟩ = some (.string xd) ∧ w'.cell? ⟨ga, oa + (l.length + 1) * 4 + 2, none⟩ = some (.int .i64 nd) ∧ w'.cell? ⟨ga, oa + (l.length + 1) * 4 + 3, none⟩ = some (.slice ad md cd)) w') := fun w' hw => ⟨HNW.out w' hw, below_cell (HW.out w' hw).2 Ha0.out, below_cell (HW.out w' hw).2 Ha1.out, below_cell (HW.out w' hw).2 Ha2.out, below_cell (HW.out w' hw).2 Ha3.out, below_cell (HW.out w' hw).2 Hd0.out, below_cell (HW.out w' hw).2 Hd1.out, below_cell (HW.out w' hw).2 Hd2.out, below_cell (HW.out w' hw).2 Hd3.out⟩
  refine wp_region_held_drew (S := (fun w' => (∀ oo, w'.cell? ⟨w.heap.size, oo, none⟩ = (#[Value.int .i64 7, .string (str text), .int .i64 1, .slice (some ⟨ga, oa, none⟩) (l.length + 2) kc])[oo]?) ∧ w'.cell? ⟨ga, oa + l.length * 4, none⟩ = some (.int .i64 ka) ∧ w'.cell? ⟨ga, oa + l.length * 4 + 1, none⟩ = some (.string xa) ∧ w'.cell? ⟨ga, oa + l.length * 4 + 2, none⟩ = some (.int .i64 na) ∧ w'.cell? ⟨ga, oa + l.length * 4 + 3, none⟩ = some (.slice aa ma ca) ∧ w'.cell? ⟨ga, oa + (l.length + 1) * 4, none⟩ = some (.int .i64 kd) ∧ w'.cell? ⟨ga, oa + (l.length + 1) * 4 + 1, none⟩ = some (.string xd) ∧ w'.cell? ⟨ga, oa + (l.length + 1) * 4 + 2, none⟩ = some (.int .i64 nd) ∧ w'.cell? ⟨ga, oa + (l.length + 1) * 4 + 3, none⟩ = some (.slice ad md cd))) (by kernel_rfl) (HSd.out _ ((Below.refl _ _).drew)) (fun hHeld => ?_)
  have HB0 : Hid (Below W.heap.size W W.drew) := (Below.refl _ _).drew
  refine wpAnyH_take (i := 0) (v := ?_) rfl (by kernel_rfl) (by kernel_rfl) (by kernel_rfl) (fun _ _ _ h => h) (Or.inl ⟨by rfl, ?_⟩) (by assumption) ?_
  rotate_left
  · (intro w hSw; (try dsimp only at hSw); go_simp) <;> with_reducible rfl
  (simp only [Act.put, List.getElem_toArray, List.getElem_cons_zero, List.getElem_cons_succ, List.setIfInBounds_toArray, List.set_cons_zero, List.set_cons_succ])
  refine wpAnyH_take (i := 1) (v := ?_) rfl (by kernel_rfl) (by kernel_rfl) (by kernel_rfl) (fun _ _ _ h => h) (Or.inl ⟨by rfl, ?_⟩) (by assumption) ?_
  rotate_left
  · (intro w hSw; (try dsimp only at hSw); go_simp) <;> with_reducible rfl
  (simp only [Act.put, List.getElem_toArray, List.getElem_cons_zero, List.getElem_cons_succ, List.setIfInBounds_toArray, List.set_cons_zero, List.set_cons_succ])
  refine wpAnyH_take (i := 2) (v := ?_) rfl (by kernel_rfl) (by kernel_rfl) (by kernel_rfl) (fun _ _ _ h => h) (Or.inl ⟨by rfl, ?_⟩) (by assumption) ?_
  rotate_left
  · (intro w hSw; (try dsimp only at hSw); go_simp) <;> with_reducible rfl
  (simp only [Act.put, List.getElem_toArray, List.getElem_cons_zero, List.getElem_cons_succ, List.setIfInBounds_toArray, List.set_cons_zero, List.set_cons_succ])
  refine wpAnyH_take (i := 3) (v := ?_) rfl (by kernel_rfl) (by kernel_rfl) (by kernel_rfl) (fun _ _ _ h => h) (Or.inl ⟨by rfl, ?_⟩) (by assumption) ?_
  rotate_left
  · (intro w hSw; (try dsimp only at hSw); go_simp) <;> with_reducible rfl
  (simp only [Act.put, List.getElem_toArray, List.getElem_cons_zero, List.getElem_cons_succ, List.setIfInBounds_toArray, List.set_cons_zero, List.set_cons_succ])
  refine wpAnyH_take (i := 4) (v := ?_) rfl (by kernel_rfl) (by kernel_rfl) (by kernel_rfl) (fun _ _ _ h => h) (Or.inl ⟨by rfl, ?_⟩) (by assumption) ?_
  rotate_left
  · (intro w hSw; (try dsimp only at hSw); go_simp) <;> with_reducible rfl
  (simp only [Act.put, List.getElem_toArray, List.getElem_cons_zero, List.getElem_cons_succ, List.setIfInBounds_toArray, List.set_cons_zero, List.set_cons_succ])
  refine wpAnyH_take (i := 5) (v := ?_) rfl (by kernel_rfl) (by kernel_rfl) (by kernel_rfl) (fun _ _ _ h => h) (Or.inl ⟨by rfl, ?_⟩) (by assumption) ?_
  rotate_left
  · (intro w hSw; (try dsimp only at hSw); go_simp) <;> with_reducible rfl
  (simp only [Act.put, List.getElem_toArray, List.getElem_cons_zero, List.getElem_cons_succ, List.setIfInBounds_toArray, List.set_cons_zero, List.set_cons_succ])
  refine wpAnyH_take (i := 6) (v := ?_) rfl (by kernel_rfl) (by kernel_rfl) (by kernel_rfl) (fun _ _ _ h => h) (Or.inl ⟨by rfl, ?_⟩) (by assumption) ?_
  rotate_left
  · (intro w hSw; (try dsimp only at hSw); go_simp) <;> with_reducible rfl
  (simp only [Act.put, List.getElem_toArray, List.getElem_cons_zero, List.getElem_cons_succ, List.setIfInBounds_toArray, List.set_cons_zero, List.set_cons_succ])
  refine wpAnyH_take (i := 10) (v := ?_) rfl (by kernel_rfl) (by kernel_rfl) (by kernel_rfl) (fun _ _ _ h => h) (Or.inl ⟨by rfl, ?_⟩) (by assumption) ?_
  rotate_left
  · (intro w hSw; (try dsimp only at hSw); go_simp) <;> with_reducible rfl
  (simp only [Act.put, List.getElem_toArray, List.getElem_cons_zero, List.getElem_cons_succ, List.setIfInBounds_toArray, List.set_cons_zero, List.set_cons_succ])
  refine wpAnyH_take (i := 11) (v := ?_) rfl (by kernel_rfl) (by kernel_rfl) (by kernel_rfl) (fun _ _ _ h => h) (Or.inl ⟨by rfl, ?_⟩) (by assumption) ?_
  rotate_left
  · (intro w hSw; (try dsimp only at hSw); go_simp) <;> with_reducible rfl
  (simp only [Act.put, List.getElem_toArray, List.getElem_cons_zero, List.getElem_cons_succ, List.setIfInBounds_toArray, List.set_cons_zero, List.set_cons_succ])
  refine wpAnyH_take (i := 14) (v := ?_) rfl (by kernel_rfl) (by kernel_rfl) (by kernel_rfl) (fun _ _ _ h => h) (Or.inl ⟨by rfl, ?_⟩) (by assumption) ?_
  rotate_left
  · (intro w hSw; (try dsimp only at hSw); go_simp) <;> with_reducible rfl
  (simp only [Act.put, List.getElem_toArray, List.getElem_cons_zero, List.getElem_cons_succ, List.setIfInBounds_toArray, List.set_cons_zero, List.set_cons_succ])
  refine wpAnyH_take (i := 15) (v := ?_) rfl (by kernel_rfl) (by kernel_rfl) (by kernel_rfl) (fun _ _ _ h => h) (Or.inl ⟨by rfl, ?_⟩) (by assumption) ?_
  rotate_left
  · (intro w hSw; (try dsimp only at hSw); go_simp) <;> with_reducible rfl
  (simp only [Act.put, List.getElem_toArray, List.getElem_cons_zero, List.getElem_cons_succ, List.setIfInBounds_toArray, List.set_cons_zero, List.set_cons_succ])
  refine wpAnyH_take (i := 16) (v := ?_) rfl (by kernel_rfl) (by kernel_rfl) (by kernel_rfl) (fun _ _ _ h => h) (Or.inl ⟨by rfl, ?_⟩) (by assumption) ?_
  rotate_left
  · (intro w hSw; (try dsimp only at hSw); go_simp) <;> with_reducible rfl
  (simp only [Act.put, List.getElem_toArray, List.getElem_cons_zero, List.getElem_cons_succ, List.setIfInBounds_toArray, List.set_cons_zero, List.set_cons_succ])
  refine wpAnyH_take (i := 17) (v := ?_) rfl (by kernel_rfl) (by kernel_rfl) (by kernel_rfl) (fun _ _ _ h => h) (Or.inl ⟨by rfl, ?_⟩) (by assumption) ?_
  rotate_left
  · (intro w hSw; (try dsimp only at hSw); go_simp) <;> with_reducible rfl
  (simp only [Act.put, List.getElem_toArray, List.getElem_cons_zero, List.getElem_cons_succ, List.setIfInBounds_toArray, List.set_cons_zero, List.set_cons_succ])
  refine wpAnyH_take (i := 18) (v := ?_) rfl (by kernel_rfl) (by kernel_rfl) (by kernel_rfl) (fun _ _ _ h => h) (Or.inl ⟨by rfl, ?_⟩) (by assumption) ?_
  rotate_left
  · (intro w hSw; (try dsimp only at hSw); go_simp) <;> with_reducible rfl
  (simp only [Act.put, List.getElem_toArray, List.getElem_cons_zero, List.getElem_cons_succ, List.setIfInBounds_toArray, List.set_cons_zero, List.set_cons_succ])
  refine wpAnyH_take (i := 19) (v := ?_) rfl (by kernel_rfl) (by kernel_rfl) (by kernel_rfl) (fun _ _ _ h => h) (Or.inl ⟨by rfl, ?_⟩) (by assumption) ?_
  rotate_left
  · (intro w hSw; (try dsimp only at hSw); go_simp) <;> with_reducible rfl
  (simp only [Act.put, List.getElem_toArray, List.getElem_cons_zero, List.getElem_cons_succ, List.setIfInBounds_toArray, List.set_cons_zero, List.set_cons_succ])
  refine wpAnyH_take (i := 20) (v := ?_) rfl (by kernel_rfl) (by kernel_rfl) (by kernel_rfl) (fun _ _ _ h => h) (Or.inl ⟨by rfl, ?_⟩) (by assumption) ?_
  rotate_left
  · (intro w hSw; (try dsimp only at hSw); go_simp) <;> with_reducible rfl
  (simp only [Act.put, List.getElem_toArray, List.getElem_cons_zero, List.getElem_cons_succ, List.setIfInBounds_toArray, List.set_cons_zero, List.set_cons_succ])
  refine wpAnyH_take (i := 21) (v := ?_) rfl (by kernel_rfl) (by kernel_rfl) (by kernel_rfl) (fun _ _ _ h => h) (Or.inl ⟨by rfl, ?_⟩) (by assumption) ?_
  rotate_left
  · (intro w hSw; (try dsimp only at hSw); go_simp) <;> with_reducible rfl
  (simp only [Act.put, List.getElem_toArray, List.getElem_cons_zero, List.getElem_cons_succ, List.setIfInBounds_toArray, List.set_cons_zero, List.set_cons_succ])
  refine wpAnyH_take (i := 25) (v := ?_) rfl (by kernel_rfl) (by kernel_rfl) (by kernel_rfl) (fun _ _ _ h => h) (Or.inl ⟨by rfl, ?_⟩) (by assumption) ?_
  rotate_left
  · (intro w hSw; (try dsimp only at hSw); go_simp) <;> with_reducible rfl
  (simp only [Act.put, List.getElem_toArray, List.getElem_cons_zero, List.getElem_cons_succ, List.setIfInBounds_toArray, List.set_cons_zero, List.set_cons_succ])
  refine wpAnyH_take (i := 26) (v := ?_) rfl (by kernel_rfl) (by kernel_rfl) (by kernel_rfl) (fun _ _ _ h => h) (Or.inl ⟨by rfl, ?_⟩) (by assumption) ?_
  rotate_left
  · (intro w hSw; (try dsimp only at hSw); go_simp) <;> with_reducible rfl
  (simp only [Act.put, List.getElem_toArray, List.getElem_cons_zero, List.getElem_cons_succ, List.setIfInBounds_toArray, List.set_cons_zero, List.set_cons_succ])
  refine wpAnyH_take (i := 27) (v := ?_) rfl (by kernel_rfl) (by kernel_rfl) (by kernel_rfl) (fun _ _ _ h => h) (Or.inl ⟨by rfl, ?_⟩) (by assumption) ?_
  rotate_left
  · (intro w hSw; (try dsimp only at hSw); go_simp) <;> with_reducible rfl
  (simp only [Act.put, List.getElem_toArray, List.getElem_cons_zero, List.getElem_cons_succ, List.setIfInBounds_toArray, List.set_cons_zero, List.set_cons_succ])
  refine wpAnyH_take (i := 28) (v := ?_) rfl (by kernel_rfl) (by kernel_rfl) (by kernel_rfl) (fun _ _ _ h => h) (Or.inl ⟨by rfl, ?_⟩) (by assumption) ?_
  rotate_left
  · (intro w hSw; (try dsimp only at hSw); go_simp) <;> with_reducible rfl
  (simp only [Act.put, List.getElem_toArray, List.getElem_cons_zero, List.getElem_cons_succ, List.setIfInBounds_toArray, List.set_cons_zero, List.set_cons_succ])
  refine wpAnyH_take (i := 29) (v := ?_) rfl (by kernel_rfl) (by kernel_rfl) (by kernel_rfl) (fun _ _ _ h => h) (Or.inl ⟨by rfl, ?_⟩) (by assumption) ?_
  rotate_left
  · (intro w hSw; (try dsimp only at hSw); go_simp) <;> with_reducible rfl
  (simp only [Act.put, List.getElem_toArray, List.getElem_cons_zero, List.getElem_cons_succ, List.setIfInBounds_toArray, List.set_cons_zero, List.set_cons_succ])
  refine wpAnyH_ready (rs := [7]) (by kernel_rfl) (by simp) ?_
  refine AllReadyH.cons rfl (fun K hK => ?_) AllReadyH.nil
  go_simp
  refine (hca _ (HW.out _ HB0.out).2).mono ?_
  rintro e w1 ⟨rfl, hb1⟩
  have HB1 : Hid (Below W.heap.size W w1) := HB0.out.trans (hb1.mono HB0.out.size)
  clear hb1
  refine hK.out _ _ (HSd.out _ HB1.out) (fun hHeld1 => ?_)
  clear hK K
  (try (simp only [Act.put, List.getElem_toArray, List.getElem_cons_zero, List.getElem_cons_succ, List.setIfInBounds_toArray, List.set_cons_zero, List.set_cons_succ]))
  refine wpAnyH_take (i := 8) (v := ?_) rfl (by kernel_rfl) (by kernel_rfl) (by kernel_rfl) (fun _ _ _ h => h) (Or.inl ⟨by rfl, ?_⟩) (by assumption) ?_
  rotate_left
  · (intro w hSw; (try dsimp only at hSw); go_simp; rw [if_neg (by omega)]) <;> with_reducible rfl
  (simp only [Act.put, List.getElem_toArray, List.getElem_cons_zero, List.getElem_cons_succ, List.setIfInBounds_toArray, List.set_cons_zero, List.set_cons_succ])
  refine wpAnyH_take (i := 9) (v := ?_) rfl (by kernel_rfl) (by kernel_rfl) (by kernel_rfl) (fun _ _ _ h => h) (Or.inl ⟨by rfl, ?_⟩) (by assumption) ?_
  rotate_left
  · (intro w hSw; (try dsimp only at hSw); go_simp; rw [if_neg (by omega)]) <;> with_reducible rfl
  (simp only [Act.put, List.getElem_toArray, List.getElem_cons_zero, List.getElem_cons_succ, List.setIfInBounds_toArray, List.set_cons_zero, List.set_cons_succ])
  refine wpAnyH_take (i := 12) (v := ?_) rfl (by kernel_rfl) (by kernel_rfl) (by kernel_rfl) (fun _ _ _ h => h) (Or.inl ⟨by rfl, ?_⟩) (by assumption) ?_
  rotate_left
  · (intro w hSw; (try dsimp only at hSw); go_simp; rw [if_neg (by omega)]) <;> with_reducible rfl
  (simp only [Act.put, List.getElem_toArray, List.getElem_cons_zero, List.getElem_cons_succ, List.setIfInBounds_toArray, List.set_cons_zero, List.set_cons_succ])
  refine wpAnyH_take (i := 13) (v := ?_) rfl (by kernel_rfl) (by kernel_rfl) (by kernel_rfl) (fun _ _ _ h => h) (Or.inl ⟨by rfl, ?_⟩) (by assumption) ?_
  rotate_left
  · (intro w hSw; (try dsimp only at hSw); go_simp; rw [if_neg (by omega)]) <;> with_reducible rfl
  (simp only [Act.put, List.getElem_toArray, List.getElem_cons_zero, List.getElem_cons_succ, List.setIfInBounds_toArray, List.set_cons_zero, List.set_cons_succ])
  refine wpAnyH_ready (rs := [22]) (by kernel_rfl) (by simp) ?_
  refine AllReadyH.cons rfl (fun K hK => ?_) AllReadyH.nil
  go_simp
  refine (hcr _ (HW.out _ HB1.out).2).mono ?_
  rintro e w2 ⟨rfl, hb2⟩
  have HB2 : Hid (Below W.heap.size W w2) := HB1.out.trans (hb2.mono HB1.out.size)
  clear hb2
  refine hK.out _ _ (HSd.out _ HB2.out) (fun hHeld2 => ?_)
  clear hK K
  (try (simp only [Act.put, List.getElem_toArray, List.getElem_cons_zero, List.getElem_cons_succ, List.setIfInBounds_toArray, List.set_cons_zero, List.set_cons_succ]))
  refine wpAnyH_take (i := 23) (v := ?_) rfl (by kernel_rfl) (by kernel_rfl) (by kernel_rfl) (fun _ _ _ h => h) (Or.inl ⟨by rfl, ?_⟩) (by assumption) ?_
  rotate_left
  · (intro w hSw; (try dsimp only at hSw); go_simp; rw [if_neg (by omega)]) <;> with_reducible rfl
  (simp only [Act.put, List.getElem_toArray, List.getElem_cons_zero, List.getElem_cons_succ, List.setIfInBounds_toArray, List.set_cons_zero, List.set_cons_succ])
  refine wpAnyH_take (i := 24) (v := ?_) rfl (by kernel_rfl) (by kernel_rfl) (by kernel_rfl) (fun _ _ _ h => h) (Or.inl ⟨by rfl, ?_⟩) (by assumption) ?_
  rotate_left
  · (intro w hSw; (try dsimp only at hSw); go_simp; rw [if_neg (by omega)]) <;> with_reducible rfl
  (simp only [Act.put, List.getElem_toArray, List.getElem_cons_zero, List.getElem_cons_succ, List.setIfInBounds_toArray, List.set_cons_zero, List.set_cons_succ])
  refine wpAnyH_ready (rs := [30]) (by kernel_rfl) (by simp) ?_
  refine AllReadyH.cons rfl (fun K hK => ?_) AllReadyH.nil
  go_simp
  refine (hcd _ (HW.out _ HB2.out).2).mono ?_
  rintro e w3 ⟨rfl, hb3⟩
  have HB3 : Hid (Below W.heap.size W w3) := HB2.out.trans (hb3.mono HB2.out.size)
  clear hb3
  refine hK.out _ _ (HSd.out _ HB3.out) (fun hHeld3 => ?_)
  clear hK K
  (try (simp only [Act.put, List.getElem_toArray, List.getElem_cons_zero, List.getElem_cons_succ, List.setIfInBounds_toArray, List.set_cons_zero, List.set_cons_succ]))
  refine wpAnyH_take (i := 31) (v := ?_) rfl (by kernel_rfl) (by kernel_rfl) (by kernel_rfl) (fun _ _ _ h => h) (Or.inl ⟨by rfl, ?_⟩) (by assumption) ?_
  rotate_left
  · (intro w hSw; (try dsimp only at hSw); go_simp; rw [if_neg (by omega)]) <;> with_reducible rfl
  (simp only [Act.put, List.getElem_toArray, List.getElem_cons_zero, List.getElem_cons_succ, List.setIfInBounds_toArray, List.set_cons_zero, List.set_cons_succ])
  refine wpAnyH_take (i := 32) (v := ?_) rfl (by kernel_rfl) (by kernel_rfl) (by kernel_rfl) (fun _ _ _ h => h) (Or.inl ⟨by rfl, ?_⟩) (by assumption) ?_
  rotate_left
  · (intro w hSw; (try dsimp only at hSw); go_simp) <;> with_reducible rfl
  (simp only [Act.put, List.getElem_toArray, List.getElem_cons_zero, List.getElem_cons_succ, List.setIfInBounds_toArray, List.set_cons_zero, List.set_cons_succ])
  refine wpAnyH_done (by kernel_rfl) ?_ _
  go_wp2_with fail
  go_ret
  exact ⟨by rw [show l ++ [x, c] = l ++ [x] ++ [c] by simp, ← HE.out]; rfl, (HW.out _ HB3.out).1⟩
end Go.Proofs.YthcfianhdkolhaaDoor.T
