/- What the program is to answer of objects; the law ObjectPuts, given that. -/
import Derived.Test.YtnjcknlfecednaaGt
namespace Go.Proofs.Ytnjcknlfecednaa.T
open Go.RowKit Go.Proofs.Ytnjcknlfecednaa.M
set_option linter.unusedVariables false
set_option linter.unusedSimpArgs false
/-- What package object is to answer. -/
structure Pr17 : Prop where
  may : ∀ (o : Ob) (v : Value) (w : World), ObV w o v → Calls Try.prog 8 #[v] w fun e w' => e = .returned (.bool (mayO o)) ∧ Below w.heap.size w w'
  putOk : ∀ (o : Ob) (v : Value) (w : World), ObV w o v → mayO o = true → Calls Try.prog 6 #[v] w fun e w' => ∃ u, e = .returned (.tuple #[u, .int .i64 0]) ∧ Bys w' u (putO o) ∧ Below w.heap.size w w'
  putBad : ∀ (o : Ob) (v : Value) (w : World), ObV w o v → mayO o = false → Calls Try.prog 6 #[v] w fun e w' => ∃ u, e = .returned (.tuple #[u, .int .i64 2]) ∧ Bys w' u [] ∧ Below w.heap.size w w'
  get : ∀ (a : Option Addr) (n c : Nat) (raw : List UInt8) (w : World), Bys w (.slice a n c) raw → Calls Try.prog 10 #[.slice a n c] w (PGet w raw)
theorem Bys.keep {w w' : World} {v : Value} {l : List UInt8} (h : Bys w v l) (hb : Below w.heap.size w w') : Bys w' v l := RowV.below (w := w) (w' := w') (fun _ _ h => h) h hb
set_option maxRecDepth 100000 in
set_option maxHeartbeats 4000000 in
theorem puts_true (P : Pr17) (o : Ob) (v : Value) (w : World) (hv : ObV w o v) (hm : mayO o = true) : Calls Try.prog 3 #[v] w fun e w' => e = .returned (.bool true) ∧ Below w.heap.size w w' := by
  have HV0 := hide hv
  obtain ⟨cv, dv, sv, rv, rfl, ⟨ca, cc, rfl, -⟩, ⟨da, dc, rfl, -⟩, ⟨sa, sc, rfl, -⟩, ⟨ra, rc, rfl, -⟩⟩ := hv
  have HV := hide (fun (w' : World) (hb : Below w.heap.size w w') => HV0.out.below hb)
  clear HV0
  generalize o.code.length = nc at *
  generalize o.data.length = nd at *
  generalize o.syms.length = ns at *
  generalize o.rels.length = nr at *
  have HF := hide ((Fr.start w).alloc (q := w.heap.size) rfl #[.slice ca nc cc, .slice da nd dc, .slice sa ns sc, .slice ra nr rc] 27)
  obtain ⟨T, HT⟩ : ∃ T, Hid (strOf (putO o) = T) := ⟨_, rfl⟩
  go_enter Try.func3, Try.ntmps3
  go_wp2_with fail
  go_at_call 6
  refine (P.putOk o _ _ (HV.out _ HF.out.below) hm).mono ?_
  rintro e w1 ⟨u1, rfl, hy1, hb1⟩
  replace HF := hide (HF.out.call hb1)
  have HY1 := hide hy1
  obtain ⟨a1, c1, rfl, -⟩ := hy1
  clear hb1
  have c0 := HF.out.cell 0 rfl
  go_wp2_with fail
  go_at_call 7
  refine (putr_ok o _ _ (HV.out _ HF.out.below) hm).mono ?_
  rintro e w2 ⟨u2, rfl, hy2, hb2⟩
  replace HF := hide (HF.out.call hb2)
  have HY1b := hide (HY1.out.keep hb2)
  have HY2 := hide hy2
  clear hb2 HY1
  obtain ⟨a2, c2, rfl, -⟩ := hy2
  have HK1 : Hid (∀ w', Below w2.heap.size w2 w' → (convert 28 9 (.slice a1 (putO o).length c1)).run Try.prog w' = .ok (.string T) w') := fun w' hb => by rw [← HT.out]; exact (HY1b.out.keep hb).conv.2
  have HK2 : Hid (∀ w', Below w2.heap.size w2 w' → (convert 28 9 (.slice a2 (putO o).length c2)).run Try.prog w' = .ok (.string T) w') := fun w' hb => by rw [← HT.out]; exact (HY2.out.keep hb).conv.2
  generalize (putO o).length = n1 at *
  clear HY1b HY2 HT c0
  generalize hbq : w.heap.size = bq at *
  have HBQ : Hid (w.heap.size = bq) := hbq
  clear hbq
  go_wp2_with fail
  have HX := hide ((Below.refl w2.heap.size w2).drew)
  replace HF := hide HF.out.drew
  refine wp_region_held_drew (S := fun w' => (∀ o, w'.cell? ⟨bq, o, none⟩ = (#[Value.slice ca nc cc, .slice da nd dc, .slice sa ns sc, .slice ra nr rc])[o]?) ∧ (convert 28 9 (.slice a1 n1 c1)).run Try.prog w' = .ok (.string T) w' ∧ (convert 28 9 (.slice a2 n1 c2)).run Try.prog w' = .ok (.string T) w') (by kernel_rfl) ⟨(HF.out.cell 0 rfl), (HK1.out _ HX.out), (HK2.out _ HX.out)⟩ (fun hHeld => ?_)
  refine wpAnyH_take (i := 0) (v := ?_) rfl (by kernel_rfl) (by kernel_rfl) (by kernel_rfl) (fun _ _ _ h => h) (Or.inl ⟨by rfl, ?_⟩) (by assumption) ?_
  rotate_left
  · (intro w hSw; (try dsimp only at hSw); obtain ⟨hSw0, hSw1, hSw2⟩ := hSw; go_simp) <;> with_reducible rfl
  (simp only [Act.put, List.getElem_toArray, List.getElem_cons_zero, List.getElem_cons_succ, List.setIfInBounds_toArray, List.set_cons_zero, List.set_cons_succ])
  refine wpAnyH_take (i := 2) (v := ?_) rfl (by kernel_rfl) (by kernel_rfl) (by kernel_rfl) (fun _ _ _ h => h) (Or.inl ⟨by rfl, ?_⟩) (by assumption) ?_
  rotate_left
  · (intro w hSw; (try dsimp only at hSw); obtain ⟨hSw0, hSw1, hSw2⟩ := hSw; go_simp) <;> with_reducible rfl
  (simp only [Act.put, List.getElem_toArray, List.getElem_cons_zero, List.getElem_cons_succ, List.setIfInBounds_toArray, List.set_cons_zero, List.set_cons_succ])
  refine wpAnyH_ready (rs := [1]) (by kernel_rfl) (by simp) ?_
  refine AllReadyH.cons rfl (fun K hK => ?_) AllReadyH.nil
  go_simp
  refine (P.may o _ _ (HV.out _ HF.out.below)).mono ?_
  rintro e w6 ⟨rfl, hb⟩
  replace HX := hide (HX.out.trans (hb.mono HX.out.size))
  replace HF := hide (HF.out.call hb)
  clear hb
  (try rw [hm])
  refine hK.out _ _ ⟨(HF.out.cell 0 rfl), (HK1.out _ HX.out), (HK2.out _ HX.out)⟩ (fun hHeld1 => ?_)
  clear hK K
  (try (simp only [Act.put, List.getElem_toArray, List.getElem_cons_zero, List.getElem_cons_succ, List.setIfInBounds_toArray, List.set_cons_zero, List.set_cons_succ]))
  refine wpAnyH_ready (rs := [3]) (by kernel_rfl) (by simp) ?_
  refine AllReadyH.cons rfl (fun K hK => ?_) AllReadyH.nil
  go_simp
  refine (mayr_any o _ _ (HV.out _ HF.out.below)).mono ?_
  rintro e w8 ⟨rfl, hb⟩
  replace HX := hide (HX.out.trans (hb.mono HX.out.size))
  replace HF := hide (HF.out.call hb)
  clear hb
  (try rw [hm])
  refine hK.out _ _ ⟨(HF.out.cell 0 rfl), (HK1.out _ HX.out), (HK2.out _ HX.out)⟩ (fun hHeld2 => ?_)
  clear hK K
  (try (simp only [Act.put, List.getElem_toArray, List.getElem_cons_zero, List.getElem_cons_succ, List.setIfInBounds_toArray, List.set_cons_zero, List.set_cons_succ]))
  refine wpAnyH_take (i := 4) (v := ?_) rfl (by kernel_rfl) (by kernel_rfl) (by kernel_rfl) (fun _ _ _ h => h) (Or.inl ⟨by rfl, ?_⟩) (by assumption) ?_
  rotate_left
  · (intro w hSw; (try dsimp only at hSw); obtain ⟨hSw0, hSw1, hSw2⟩ := hSw; go_simp) <;> with_reducible rfl
  (simp only [Act.put, List.getElem_toArray, List.getElem_cons_zero, List.getElem_cons_succ, List.setIfInBounds_toArray, List.set_cons_zero, List.set_cons_succ])
  refine wpAnyH_take (i := 5) (v := ?_) rfl (by kernel_rfl) (by kernel_rfl) (by kernel_rfl) (fun _ _ _ h => h) (Or.inl ⟨by rfl, ?_⟩) (by assumption) ?_
  rotate_left
  · (intro w hSw; (try dsimp only at hSw); obtain ⟨hSw0, hSw1, hSw2⟩ := hSw; go_simp) <;> with_reducible rfl
  (simp only [Act.put, List.getElem_toArray, List.getElem_cons_zero, List.getElem_cons_succ, List.setIfInBounds_toArray, List.set_cons_zero, List.set_cons_succ])
  refine wpAnyH_take (i := 6) (v := ?_) rfl (by kernel_rfl) (by kernel_rfl) (by kernel_rfl) (fun _ _ _ h => h) (Or.inl ⟨by rfl, ?_⟩) (by assumption) ?_
  rotate_left
  · (intro w hSw; (try dsimp only at hSw); obtain ⟨hSw0, hSw1, hSw2⟩ := hSw; go_simp) <;> with_reducible rfl
  (simp only [Act.put, List.getElem_toArray, List.getElem_cons_zero, List.getElem_cons_succ, List.setIfInBounds_toArray, List.set_cons_zero, List.set_cons_succ])
  refine wpAnyH_take (i := 7) (v := ?_) rfl (by kernel_rfl) (by kernel_rfl) (by kernel_rfl) (fun _ _ _ h => h) (Or.inl ⟨by rfl, ?_⟩) (by assumption) ?_
  rotate_left
  · (intro w hSw; (try dsimp only at hSw); obtain ⟨hSw0, hSw1, hSw2⟩ := hSw; go_simp) <;> with_reducible rfl
  (simp only [Act.put, List.getElem_toArray, List.getElem_cons_zero, List.getElem_cons_succ, List.setIfInBounds_toArray, List.set_cons_zero, List.set_cons_succ])
  refine wpAnyH_take (i := 8) (v := ?_) rfl (by kernel_rfl) (by kernel_rfl) (by kernel_rfl) (fun _ _ _ h => h) (Or.inl ⟨by rfl, ?_⟩) (by assumption) ?_
  rotate_left
  · (intro w hSw; (try dsimp only at hSw); obtain ⟨hSw0, hSw1, hSw2⟩ := hSw; go_simp) <;> with_reducible rfl
  (simp only [Act.put, List.getElem_toArray, List.getElem_cons_zero, List.getElem_cons_succ, List.setIfInBounds_toArray, List.set_cons_zero, List.set_cons_succ])
  refine wpAnyH_take (i := 9) (v := ?_) rfl (by kernel_rfl) (by kernel_rfl) (by kernel_rfl) (fun _ _ _ h => h) (Or.inl ⟨by rfl, ?_⟩) (by assumption) ?_
  rotate_left
  · (intro w hSw; (try dsimp only at hSw); obtain ⟨hSw0, hSw1, hSw2⟩ := hSw; go_simp) <;> with_reducible rfl
  (simp only [Act.put, List.getElem_toArray, List.getElem_cons_zero, List.getElem_cons_succ, List.setIfInBounds_toArray, List.set_cons_zero, List.set_cons_succ])
  refine wpAnyH_take (i := 10) (v := ?_) rfl (by kernel_rfl) (by kernel_rfl) (by kernel_rfl) (fun _ _ _ h => h) (Or.inl ⟨by rfl, ?_⟩) (by assumption) ?_
  rotate_left
  · (intro w hSw; (try dsimp only at hSw); obtain ⟨hSw0, hSw1, hSw2⟩ := hSw; go_simp) <;> with_reducible rfl
  (simp only [Act.put, List.getElem_toArray, List.getElem_cons_zero, List.getElem_cons_succ, List.setIfInBounds_toArray, List.set_cons_zero, List.set_cons_succ])
  refine wpAnyH_take (i := 11) (v := ?_) rfl (by kernel_rfl) (by kernel_rfl) (by kernel_rfl) (fun _ _ _ h => h) (Or.inl ⟨by rfl, ?_⟩) (by assumption) ?_
  rotate_left
  · (intro w hSw; (try dsimp only at hSw); obtain ⟨hSw0, hSw1, hSw2⟩ := hSw; go_simp) <;> with_reducible rfl
  (simp only [Act.put, List.getElem_toArray, List.getElem_cons_zero, List.getElem_cons_succ, List.setIfInBounds_toArray, List.set_cons_zero, List.set_cons_succ])
  refine wpAnyH_take (i := 12) (v := ?_) rfl (by kernel_rfl) (by kernel_rfl) (by kernel_rfl) (fun _ _ _ h => h) (Or.inl ⟨by rfl, ?_⟩) (by assumption) ?_
  rotate_left
  · (intro w hSw; (try dsimp only at hSw); obtain ⟨hSw0, hSw1, hSw2⟩ := hSw; go_simp) <;> with_reducible rfl
  (simp only [Act.put, List.getElem_toArray, List.getElem_cons_zero, List.getElem_cons_succ, List.setIfInBounds_toArray, List.set_cons_zero, List.set_cons_succ])
  refine wpAnyH_take (i := 13) (v := ?_) rfl (by kernel_rfl) (by kernel_rfl) (by kernel_rfl) (fun _ _ _ h => h) (Or.inl ⟨by rfl, ?_⟩) (by assumption) ?_
  rotate_left
  · (intro w hSw; (try dsimp only at hSw); obtain ⟨hSw0, hSw1, hSw2⟩ := hSw; go_simp) <;> with_reducible rfl
  (simp only [Act.put, List.getElem_toArray, List.getElem_cons_zero, List.getElem_cons_succ, List.setIfInBounds_toArray, List.set_cons_zero, List.set_cons_succ])
  refine wpAnyH_take (i := 14) (v := ?_) rfl (by kernel_rfl) (by kernel_rfl) (by kernel_rfl) (fun _ _ _ h => h) (Or.inl ⟨by rfl, ?_⟩) (by assumption) ?_
  rotate_left
  · (intro w hSw; (try dsimp only at hSw); obtain ⟨hSw0, hSw1, hSw2⟩ := hSw; go_simp) <;> with_reducible rfl
  (simp only [Act.put, List.getElem_toArray, List.getElem_cons_zero, List.getElem_cons_succ, List.setIfInBounds_toArray, List.set_cons_zero, List.set_cons_succ])
  refine wpAnyH_take (i := 15) (v := ?_) rfl (by kernel_rfl) (by kernel_rfl) (by kernel_rfl) (fun _ _ _ h => h) (Or.inl ⟨by rfl, ?_⟩) (by assumption) ?_
  rotate_left
  · (intro w hSw; (try dsimp only at hSw); obtain ⟨hSw0, hSw1, hSw2⟩ := hSw; go_simp) <;> with_reducible rfl
  (simp only [Act.put, List.getElem_toArray, List.getElem_cons_zero, List.getElem_cons_succ, List.setIfInBounds_toArray, List.set_cons_zero, List.set_cons_succ])
  refine wpAnyH_take (i := 16) (v := ?_) rfl (by kernel_rfl) (by kernel_rfl) (by kernel_rfl) (fun _ _ _ h => h) (Or.inl ⟨by rfl, ?_⟩) (by assumption) ?_
  rotate_left
  · (intro w hSw; (try dsimp only at hSw); obtain ⟨hSw0, hSw1, hSw2⟩ := hSw; go_simp) <;> with_reducible rfl
  (simp only [Act.put, List.getElem_toArray, List.getElem_cons_zero, List.getElem_cons_succ, List.setIfInBounds_toArray, List.set_cons_zero, List.set_cons_succ])
  refine wpAnyH_take (i := 17) (v := ?_) rfl (by kernel_rfl) (by kernel_rfl) (by kernel_rfl) (fun _ _ _ h => h) (Or.inl ⟨by rfl, ?_⟩) (by assumption) ?_
  rotate_left
  · (intro w hSw; (try dsimp only at hSw); obtain ⟨hSw0, hSw1, hSw2⟩ := hSw; go_simp) <;> with_reducible rfl
  (simp only [Act.put, List.getElem_toArray, List.getElem_cons_zero, List.getElem_cons_succ, List.setIfInBounds_toArray, List.set_cons_zero, List.set_cons_succ])
  refine wpAnyH_done (by kernel_rfl) ?_ _
  go_wp2_with fail
  go_ret
  exact ⟨rfl, HF.out.below' HBQ.out.symm⟩
set_option maxRecDepth 100000 in
set_option maxHeartbeats 4000000 in
theorem puts_false (P : Pr17) (o : Ob) (v : Value) (w : World) (hv : ObV w o v) (hm : mayO o = false) : Calls Try.prog 3 #[v] w fun e w' => e = .returned (.bool true) ∧ Below w.heap.size w w' := by
  have HV0 := hide hv
  obtain ⟨cv, dv, sv, rv, rfl, ⟨ca, cc, rfl, -⟩, ⟨da, dc, rfl, -⟩, ⟨sa, sc, rfl, -⟩, ⟨ra, rc, rfl, -⟩⟩ := hv
  have HV := hide (fun (w' : World) (hb : Below w.heap.size w w') => HV0.out.below hb)
  clear HV0
  generalize o.code.length = nc at *
  generalize o.data.length = nd at *
  generalize o.syms.length = ns at *
  generalize o.rels.length = nr at *
  have HF := hide ((Fr.start w).alloc (q := w.heap.size) rfl #[.slice ca nc cc, .slice da nd dc, .slice sa ns sc, .slice ra nr rc] 27)
  obtain ⟨T, HT⟩ : ∃ T, Hid (strOf [] = T) := ⟨_, rfl⟩
  go_enter Try.func3, Try.ntmps3
  go_wp2_with fail
  go_at_call 6
  refine (P.putBad o _ _ (HV.out _ HF.out.below) hm).mono ?_
  rintro e w1 ⟨u1, rfl, hy1, hb1⟩
  replace HF := hide (HF.out.call hb1)
  have HY1 := hide hy1
  obtain ⟨a1, c1, rfl, -⟩ := hy1
  clear hb1
  have c0 := HF.out.cell 0 rfl
  go_wp2_with fail
  go_at_call 7
  refine (putr_bad o _ _ (HV.out _ HF.out.below) hm).mono ?_
  rintro e w2 ⟨rfl, hb2⟩
  have hy2 : Bys w2 (.slice none 0 0) [] := ⟨none, 0, rfl, Nat.le_refl 0, by omega, fun h => absurd h (by simp)⟩
  replace HF := hide (HF.out.call hb2)
  have HY1b := hide (HY1.out.keep hb2)
  have HY2 := hide hy2
  clear hb2 HY1
  have HK1 : Hid (∀ w', Below w2.heap.size w2 w' → (convert 28 9 (.slice a1 0 c1)).run Try.prog w' = .ok (.string T) w') := fun w' hb => by rw [← HT.out]; exact (HY1b.out.keep hb).conv.2
  have HK2 : Hid (∀ w', Below w2.heap.size w2 w' → (convert 28 9 (.slice none 0 0)).run Try.prog w' = .ok (.string T) w') := fun w' hb => by rw [← HT.out]; exact (HY2.out.keep hb).conv.2
  clear HY1b HY2 HT hy2 c0
  generalize hbq : w.heap.size = bq at *
  have HBQ : Hid (w.heap.size = bq) := hbq
  clear hbq
  go_wp2_with fail
  have HX := hide ((Below.refl w2.heap.size w2).drew)
  replace HF := hide HF.out.drew
  refine wp_region_held_drew (S := fun w' => (∀ o, w'.cell? ⟨bq, o, none⟩ = (#[Value.slice ca nc cc, .slice da nd dc, .slice sa ns sc, .slice ra nr rc])[o]?) ∧ (convert 28 9 (.slice a1 0 c1)).run Try.prog w' = .ok (.string T) w' ∧ (convert 28 9 (.slice none 0 0)).run Try.prog w' = .ok (.string T) w') (by kernel_rfl) ⟨(HF.out.cell 0 rfl), (HK1.out _ HX.out), (HK2.out _ HX.out)⟩ (fun hHeld => ?_)
  refine wpAnyH_take (i := 0) (v := ?_) rfl (by kernel_rfl) (by kernel_rfl) (by kernel_rfl) (fun _ _ _ h => h) (Or.inl ⟨by rfl, ?_⟩) (by assumption) ?_
  rotate_left
  · (intro w hSw; (try dsimp only at hSw); obtain ⟨hSw0, hSw1, hSw2⟩ := hSw; go_simp) <;> with_reducible rfl
  (simp only [Act.put, List.getElem_toArray, List.getElem_cons_zero, List.getElem_cons_succ, List.setIfInBounds_toArray, List.set_cons_zero, List.set_cons_succ])
  refine wpAnyH_take (i := 2) (v := ?_) rfl (by kernel_rfl) (by kernel_rfl) (by kernel_rfl) (fun _ _ _ h => h) (Or.inl ⟨by rfl, ?_⟩) (by assumption) ?_
  rotate_left
  · (intro w hSw; (try dsimp only at hSw); obtain ⟨hSw0, hSw1, hSw2⟩ := hSw; go_simp) <;> with_reducible rfl
  (simp only [Act.put, List.getElem_toArray, List.getElem_cons_zero, List.getElem_cons_succ, List.setIfInBounds_toArray, List.set_cons_zero, List.set_cons_succ])
  refine wpAnyH_ready (rs := [1]) (by kernel_rfl) (by simp) ?_
  refine AllReadyH.cons rfl (fun K hK => ?_) AllReadyH.nil
  go_simp
  refine (P.may o _ _ (HV.out _ HF.out.below)).mono ?_
  rintro e w6 ⟨rfl, hb⟩
  replace HX := hide (HX.out.trans (hb.mono HX.out.size))
  replace HF := hide (HF.out.call hb)
  clear hb
  (try rw [hm])
  refine hK.out _ _ ⟨(HF.out.cell 0 rfl), (HK1.out _ HX.out), (HK2.out _ HX.out)⟩ (fun hHeld3 => ?_)
  clear hK K
  (try (simp only [Act.put, List.getElem_toArray, List.getElem_cons_zero, List.getElem_cons_succ, List.setIfInBounds_toArray, List.set_cons_zero, List.set_cons_succ]))
  refine wpAnyH_ready (rs := [3]) (by kernel_rfl) (by simp) ?_
  refine AllReadyH.cons rfl (fun K hK => ?_) AllReadyH.nil
  go_simp
  refine (mayr_any o _ _ (HV.out _ HF.out.below)).mono ?_
  rintro e w8 ⟨rfl, hb⟩
  replace HX := hide (HX.out.trans (hb.mono HX.out.size))
  replace HF := hide (HF.out.call hb)
  clear hb
  (try rw [hm])
  refine hK.out _ _ ⟨(HF.out.cell 0 rfl), (HK1.out _ HX.out), (HK2.out _ HX.out)⟩ (fun hHeld4 => ?_)
  clear hK K
  (try (simp only [Act.put, List.getElem_toArray, List.getElem_cons_zero, List.getElem_cons_succ, List.setIfInBounds_toArray, List.set_cons_zero, List.set_cons_succ]))
  refine wpAnyH_take (i := 4) (v := ?_) rfl (by kernel_rfl) (by kernel_rfl) (by kernel_rfl) (fun _ _ _ h => h) (Or.inl ⟨by rfl, ?_⟩) (by assumption) ?_
  rotate_left
  · (intro w hSw; (try dsimp only at hSw); obtain ⟨hSw0, hSw1, hSw2⟩ := hSw; go_simp) <;> with_reducible rfl
  (simp only [Act.put, List.getElem_toArray, List.getElem_cons_zero, List.getElem_cons_succ, List.setIfInBounds_toArray, List.set_cons_zero, List.set_cons_succ])
  refine wpAnyH_take (i := 5) (v := ?_) rfl (by kernel_rfl) (by kernel_rfl) (by kernel_rfl) (fun _ _ _ h => h) (Or.inl ⟨by rfl, ?_⟩) (by assumption) ?_
  rotate_left
  · (intro w hSw; (try dsimp only at hSw); obtain ⟨hSw0, hSw1, hSw2⟩ := hSw; go_simp) <;> with_reducible rfl
  (simp only [Act.put, List.getElem_toArray, List.getElem_cons_zero, List.getElem_cons_succ, List.setIfInBounds_toArray, List.set_cons_zero, List.set_cons_succ])
  refine wpAnyH_take (i := 6) (v := ?_) rfl (by kernel_rfl) (by kernel_rfl) (by kernel_rfl) (fun _ _ _ h => h) (Or.inl ⟨by rfl, ?_⟩) (by assumption) ?_
  rotate_left
  · (intro w hSw; (try dsimp only at hSw); obtain ⟨hSw0, hSw1, hSw2⟩ := hSw; go_simp) <;> with_reducible rfl
  (simp only [Act.put, List.getElem_toArray, List.getElem_cons_zero, List.getElem_cons_succ, List.setIfInBounds_toArray, List.set_cons_zero, List.set_cons_succ])
  refine wpAnyH_take (i := 7) (v := ?_) rfl (by kernel_rfl) (by kernel_rfl) (by kernel_rfl) (fun _ _ _ h => h) (Or.inl ⟨by rfl, ?_⟩) (by assumption) ?_
  rotate_left
  · (intro w hSw; (try dsimp only at hSw); obtain ⟨hSw0, hSw1, hSw2⟩ := hSw; go_simp) <;> with_reducible rfl
  (simp only [Act.put, List.getElem_toArray, List.getElem_cons_zero, List.getElem_cons_succ, List.setIfInBounds_toArray, List.set_cons_zero, List.set_cons_succ])
  refine wpAnyH_take (i := 8) (v := ?_) rfl (by kernel_rfl) (by kernel_rfl) (by kernel_rfl) (fun _ _ _ h => h) (Or.inl ⟨by rfl, ?_⟩) (by assumption) ?_
  rotate_left
  · (intro w hSw; (try dsimp only at hSw); obtain ⟨hSw0, hSw1, hSw2⟩ := hSw; go_simp) <;> with_reducible rfl
  (simp only [Act.put, List.getElem_toArray, List.getElem_cons_zero, List.getElem_cons_succ, List.setIfInBounds_toArray, List.set_cons_zero, List.set_cons_succ])
  refine wpAnyH_take (i := 9) (v := ?_) rfl (by kernel_rfl) (by kernel_rfl) (by kernel_rfl) (fun _ _ _ h => h) (Or.inl ⟨by rfl, ?_⟩) (by assumption) ?_
  rotate_left
  · (intro w hSw; (try dsimp only at hSw); obtain ⟨hSw0, hSw1, hSw2⟩ := hSw; go_simp) <;> with_reducible rfl
  (simp only [Act.put, List.getElem_toArray, List.getElem_cons_zero, List.getElem_cons_succ, List.setIfInBounds_toArray, List.set_cons_zero, List.set_cons_succ])
  refine wpAnyH_take (i := 10) (v := ?_) rfl (by kernel_rfl) (by kernel_rfl) (by kernel_rfl) (fun _ _ _ h => h) (Or.inl ⟨by rfl, ?_⟩) (by assumption) ?_
  rotate_left
  · (intro w hSw; (try dsimp only at hSw); obtain ⟨hSw0, hSw1, hSw2⟩ := hSw; go_simp) <;> with_reducible rfl
  (simp only [Act.put, List.getElem_toArray, List.getElem_cons_zero, List.getElem_cons_succ, List.setIfInBounds_toArray, List.set_cons_zero, List.set_cons_succ])
  refine wpAnyH_take (i := 11) (v := ?_) rfl (by kernel_rfl) (by kernel_rfl) (by kernel_rfl) (fun _ _ _ h => h) (Or.inl ⟨by rfl, ?_⟩) (by assumption) ?_
  rotate_left
  · (intro w hSw; (try dsimp only at hSw); obtain ⟨hSw0, hSw1, hSw2⟩ := hSw; go_simp) <;> with_reducible rfl
  (simp only [Act.put, List.getElem_toArray, List.getElem_cons_zero, List.getElem_cons_succ, List.setIfInBounds_toArray, List.set_cons_zero, List.set_cons_succ])
  refine wpAnyH_take (i := 12) (v := ?_) rfl (by kernel_rfl) (by kernel_rfl) (by kernel_rfl) (fun _ _ _ h => h) (Or.inl ⟨by rfl, ?_⟩) (by assumption) ?_
  rotate_left
  · (intro w hSw; (try dsimp only at hSw); obtain ⟨hSw0, hSw1, hSw2⟩ := hSw; go_simp) <;> with_reducible rfl
  (simp only [Act.put, List.getElem_toArray, List.getElem_cons_zero, List.getElem_cons_succ, List.setIfInBounds_toArray, List.set_cons_zero, List.set_cons_succ])
  refine wpAnyH_take (i := 13) (v := ?_) rfl (by kernel_rfl) (by kernel_rfl) (by kernel_rfl) (fun _ _ _ h => h) (Or.inl ⟨by rfl, ?_⟩) (by assumption) ?_
  rotate_left
  · (intro w hSw; (try dsimp only at hSw); obtain ⟨hSw0, hSw1, hSw2⟩ := hSw; go_simp) <;> with_reducible rfl
  (simp only [Act.put, List.getElem_toArray, List.getElem_cons_zero, List.getElem_cons_succ, List.setIfInBounds_toArray, List.set_cons_zero, List.set_cons_succ])
  refine wpAnyH_take (i := 14) (v := ?_) rfl (by kernel_rfl) (by kernel_rfl) (by kernel_rfl) (fun _ _ _ h => h) (Or.inl ⟨by rfl, ?_⟩) (by assumption) ?_
  rotate_left
  · (intro w hSw; (try dsimp only at hSw); obtain ⟨hSw0, hSw1, hSw2⟩ := hSw; go_simp) <;> with_reducible rfl
  (simp only [Act.put, List.getElem_toArray, List.getElem_cons_zero, List.getElem_cons_succ, List.setIfInBounds_toArray, List.set_cons_zero, List.set_cons_succ])
  refine wpAnyH_take (i := 15) (v := ?_) rfl (by kernel_rfl) (by kernel_rfl) (by kernel_rfl) (fun _ _ _ h => h) (Or.inl ⟨by rfl, ?_⟩) (by assumption) ?_
  rotate_left
  · (intro w hSw; (try dsimp only at hSw); obtain ⟨hSw0, hSw1, hSw2⟩ := hSw; go_simp) <;> with_reducible rfl
  (simp only [Act.put, List.getElem_toArray, List.getElem_cons_zero, List.getElem_cons_succ, List.setIfInBounds_toArray, List.set_cons_zero, List.set_cons_succ])
  refine wpAnyH_take (i := 16) (v := ?_) rfl (by kernel_rfl) (by kernel_rfl) (by kernel_rfl) (fun _ _ _ h => h) (Or.inl ⟨by rfl, ?_⟩) (by assumption) ?_
  rotate_left
  · (intro w hSw; (try dsimp only at hSw); obtain ⟨hSw0, hSw1, hSw2⟩ := hSw; go_simp) <;> with_reducible rfl
  (simp only [Act.put, List.getElem_toArray, List.getElem_cons_zero, List.getElem_cons_succ, List.setIfInBounds_toArray, List.set_cons_zero, List.set_cons_succ])
  refine wpAnyH_take (i := 17) (v := ?_) rfl (by kernel_rfl) (by kernel_rfl) (by kernel_rfl) (fun _ _ _ h => h) (Or.inl ⟨by rfl, ?_⟩) (by assumption) ?_
  rotate_left
  · (intro w hSw; (try dsimp only at hSw); obtain ⟨hSw0, hSw1, hSw2⟩ := hSw; go_simp) <;> with_reducible rfl
  (simp only [Act.put, List.getElem_toArray, List.getElem_cons_zero, List.getElem_cons_succ, List.setIfInBounds_toArray, List.set_cons_zero, List.set_cons_succ])
  refine wpAnyH_done (by kernel_rfl) ?_ _
  go_wp2_with fail
  go_ret
  exact ⟨rfl, HF.out.below' HBQ.out.symm⟩
theorem puts_law (P : Pr17) (o : Ob) (v : Value) (w : World) (hv : ObV w o v) : Calls Try.prog 3 #[v] w fun e w' => e = .returned (.bool true) ∧ Below w.heap.size w w' := by
  cases h : mayO o with
  | true => exact puts_true P o v w hv h
  | false => exact puts_false P o v w hv h
end Go.Proofs.Ytnjcknlfecednaa.T
