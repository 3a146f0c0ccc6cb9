/- The contract of the reference's Is: by kinds. -/
import Derived.Test.YthcfianhdkolhaaDoorRfE
namespace Go.Proofs.YthcfianhdkolhaaDoor.T
open Go.RowKit Go.Proofs.YthcfianhdkolhaaDoor.S
set_option linter.unusedVariables false
set_option linter.unusedSimpArgs false
set_option maxRecDepth 100000 in
set_option maxHeartbeats 2000000 in
theorem is_rest {w0 : World} (kind : Int) (text : List UInt8) (num : Int) (kids : List Nd) (k15 : ¬ kind = 15) (k20 : ¬ kind = 20) (k21 : ¬ kind = 21) (k22 : ¬ kind = 22) (k32 : ¬ kind = 32) (ih : ∀ x, x ∈ kids → IsR w0 x) (w : World) (v : Value) (hb : Below w0.heap.size w0 w) (hv : NdO w0 (.mk kind text num kids) v) : Calls Tryd.prog 9 #[v, .bool false] w fun e w' => e = .returned (.bool (isN (.mk kind text num kids) false)) ∧ Below w.heap.size w w' := by
  obtain ⟨ka, kc, rfl, t1, n1, n2, l1, l2, hR⟩ := hv.part
  have hB0 : Below w.heap.size w (w.alloc (.cells #[.int .i64 kind, .string (str text), .int .i64 num, .slice ka kids.length kc] 24)) := (Below.refl _ _).alloc (Nat.le_refl _) _
  have HN0 : Hid ((w.alloc (.cells #[.int .i64 kind, .string (str text), .int .i64 num, .slice ka kids.length kc] 24)).heap[w.heap.size]? = some (.cells #[.int .i64 kind, .string (str text), .int .i64 num, .slice ka kids.length kc] 24 (0, 0))) := heap_new _ _ _
  have HR := hide hR
  have HIh := hide ih
  have HB0 := hide hB0
  have hnm := fun w => name_any (str text) w t1
  rw [bytes_str] at hnm
  have hte := txt_empty text
  have hof := of_any kind (w.alloc (.cells #[.int .i64 kind, .string (str text), .int .i64 num, .slice ka kids.length kc] 24))
  clear hv hR ih hB0
  have k15' : (kind == 15) = false := by simpa using k15
  have k20' : (kind == 20) = false := by simpa using k20
  have k21' : (kind == 21) = false := by simpa using k21
  have k22' : (kind == 22) = false := by simpa using k22
  have k32' : (kind == 32) = false := by simpa using k32
  go_enter Tryd.func9, Tryd.ntmps9
  go_wp2_with fail
  go_at_call 17
  refine hof.mono ?_
  rintro e w1 ⟨⟨s, ⟨hsh, rfl⟩ | ⟨hsh, rfl⟩⟩, hb1⟩
  rotate_left
  · have HF : Hid (isN (.mk kind text num kids) false = false) := is_loc (by unfold locN; rw [hsh])
    have HBc : Hid (Below w.heap.size w (w1.alloc (.cells #[.bool false, .int .i64 0, .int .i64 0, .int .i64 0] 41))) := (HB0.out.trans (hb1.mono (by simp))).alloc (Nat.le_trans HB0.out.size (Nat.le_trans hb1.size (Nat.le_refl _))) _
    clear hb1 hof k15 k20 k21 k22 k32 hsh
    unfold shpV
    simp only
    go_wp2_with fail
    go_ret
    exact ⟨by rw [HF.out]; rfl, HBc.out⟩
  have hmx := shp_mx hsh k21 k22
  obtain ⟨tt, mx, least, most⟩ := s
  simp only at hmx
  have HSh := hide hsh
  have HLq : Hid (∀ P : Prop, P → (((least ≤ kids.length ∧ (0 ≤ most → (kids.length : Int) ≤ most)) ∧ txtB tt text = true ∧ 0 ≤ num ∧ num ≤ mx) → locN kind text num kids false = true) ∧ (¬ ((least ≤ kids.length ∧ (0 ≤ most → (kids.length : Int) ≤ most)) ∧ txtB tt text = true ∧ 0 ≤ num ∧ num ≤ mx) → isN (.mk kind text num kids) false = false)) := fun P _ => by
    constructor
    · rintro ⟨h1, h2, h3, h4⟩
      exact (loc_iff hsh).2 ⟨h1, h2, by rw [abs_f]; exact ⟨h3, fun _ => h4, fun e => absurd e k21⟩, fun e => absurd e k32, fun e => absurd e k15, fun e => absurd e k20⟩
    · intro hno
      refine loc_no hsh (fun h => hno ⟨h.1, h.2.1, ?_⟩)
      have := h.2.2.1
      rw [abs_f] at this
      exact ⟨this.1, this.2.1 hmx⟩
  unfold shpV
  simp only
  have HBc : Hid (Below w.heap.size w (w1.alloc (.cells #[.bool tt, .int .i64 mx, .int .i64 least, .int .i64 most] 41))) := (HB0.out.trans (hb1.mono (by simp))).alloc (Nat.le_trans HB0.out.size (Nat.le_trans hb1.size (Nat.le_refl _))) _
  have HNc : Hid ((w1.alloc (.cells #[.bool tt, .int .i64 mx, .int .i64 least, .int .i64 most] 41)).heap[w.heap.size]? = some (.cells #[.int .i64 kind, .string (str text), .int .i64 num, .slice ka kids.length kc] 24 (0, 0))) := (Below.heap_alloc _ _ _ (by have := hb1.size; simp at this; omega)).trans ((hb1.block w.heap.size (by simp)).trans HN0.out)
  have HSc : Hid ((w1.alloc (.cells #[.bool tt, .int .i64 mx, .int .i64 least, .int .i64 most] 41)).heap[w1.heap.size]? = some (.cells #[.bool tt, .int .i64 mx, .int .i64 least, .int .i64 most] 41 (0, 0))) := heap_new _ _ _
  have hn := cells_at HNc.out
  have hs := cells_at HSc.out
  clear hb1 hof
  clear hsh k15 k20 k21 k22 k32
  by_cases c1 : (kids.length : Int) < least
  · have HF : Hid (isN (.mk kind text num kids) false = false) := (HLq.out True trivial).2 (by omega)
    go_wp2_with fail
    go_ret
    exact ⟨by rw [HF.out]; rfl, HBc.out⟩
  by_cases c2 : 0 ≤ most
  · by_cases c6 : most < (kids.length : Int)
    · have HF : Hid (isN (.mk kind text num kids) false = false) := (HLq.out True trivial).2 (by omega)
      go_wp2_with fail
      go_ret
      exact ⟨by rw [HF.out]; rfl, HBc.out⟩
    cases tt with
    | false =>
      by_cases c5 : text = []
      · rw [decide_eq_true c5] at hte
        have HTx : Hid (txtB false text = true) := by show _ = _; simp [txtB, c5]
        clear c5 hnm
        by_cases c3 : num < 0
        · have HF : Hid (isN (.mk kind text num kids) false = false) := (HLq.out True trivial).2 (by omega)
          go_wp2_with fail
          go_ret
          exact ⟨by rw [HF.out]; rfl, HBc.out⟩
        by_cases c4 : mx < num
        · have HF : Hid (isN (.mk kind text num kids) false = false) := (HLq.out True trivial).2 (by omega)
          go_wp2_with fail
          go_ret
          exact ⟨by rw [HF.out]; rfl, HBc.out⟩
        have HLoc : Hid (locN kind text num kids false = true) := (HLq.out True trivial).1 ⟨⟨by omega, by omega⟩, HTx.out, by omega, by omega⟩
        go_wp2_with fail
        generalize hWg : (w1.alloc (.cells #[.bool false, .int .i64 mx, .int .i64 least, .int .i64 most] 41)) = W at *
        clear hWg
        have HW : Hid (∀ w', Below W.heap.size W w' → Below w.heap.size w w' ∧ Below w0.heap.size w0 w') := fun w' hw => ⟨HBc.out.trans (hw.mono HBc.out.size), hb.trans ((HBc.out.trans (hw.mono HBc.out.size)).mono hb.size)⟩
        have HXc : Hid (∀ w', Below W.heap.size W w' → ∀ o, w'.cell? ⟨w.heap.size, o, none⟩ = (#[Value.int .i64 kind, .string (str text), .int .i64 num, .slice ka kids.length kc])[o]?) := fun w' hw => cells_at ((hw.block w.heap.size (Array.getElem?_eq_some_iff.1 HNc.out).1).trans HNc.out)
        clear hn hs
        go_loopw [8] (fun i' wr => ∃ j : Nat, j ≤ kids.length ∧ i' = .int .i64 j ∧ Hid (Below W.heap.size W wr) ∧ Hid (∀ i (hi : i < kids.length), i < j → kidB kind kids.length i kids[i].kind = true ∧ isN kids[i] (freeB kind kids.length i) = true)) (fun i _ => kids.length - (intOf i).toNat)
        case atStart => exact ⟨0, Nat.zero_le _, rfl, Below.refl _ _, fun i hi h0 => by omega⟩
        case round =>
          obtain ⟨j, hj, rfl, HB, HAj⟩ := hrel
          have hx1 := HXc.out wr HB.out
          by_cases hlt : j < kids.length
          · have hlt' : (j : Int) < kids.length := by omega
            have hidx : (0 : Int) ≤ j ∧ (j : Int) < kids.length := by omega
            obtain ⟨g, o, rfl, hg, hcs⟩ := HR.out (fun e => by rw [e] at hlt; simp at hlt)
            obtain ⟨k0, x0, n0, a0, m9, c0, q0, q1, q2, q3, hnd⟩ := hcs j hlt
            have hbz := (HW.out _ HB.out).2
            have e0 := below_cell hbz q0
            have e1 := below_cell hbz q1
            have e2 := below_cell hbz q2
            have e3 := below_cell hbz q3
            have HNd := hide hnd
            have HKk : Hid (kids[j].kind = k0) := by
              show _ = _
              cases hkj : kids[j] with
              | mk a1 a2 a3 a4 =>
                rw [hkj] at hnd
                obtain ⟨_, _, hvv, _⟩ := hnd.part
                simp at hvv
                exact hvv.1.symm
            have HBk : Hid (Below W.heap.size W (wr.alloc (.cells #[.int .i64 k0, .string x0, .int .i64 n0, .slice a0 m9 c0] 24))) := HB.out.alloc HB.out.size _
            have HNk : Hid ((wr.alloc (.cells #[.int .i64 k0, .string x0, .int .i64 n0, .slice a0 m9 c0] 24)).heap[wr.heap.size]? = some (.cells #[.int .i64 k0, .string x0, .int .i64 n0, .slice a0 m9 c0] 24 (0, 0))) := heap_new _ _ _
            have hxk := HXc.out _ HBk.out
            have hwt := want_any kind text num (some ⟨g, o, none⟩) kids.length kc j hlt (by omega) (wr.alloc (.cells #[.int .i64 k0, .string x0, .int .i64 n0, .slice a0 m9 c0] 24))
            have HKd : Hid (∀ c kd, wantN kind kids.length j = (c, kd) → ((kidB kind kids.length j kids[j].kind = true ↔ clsN k0 = c ∧ (0 < kd → k0 = kd) ∧ (kd < 0 → k0 = 21 ∨ k0 = 22)) ∧ freeB kind kids.length j = decide (kd < 0))) := fun c kd h => by
              unfold kidB freeB
              rw [h, HKk.out]
              exact ⟨decide_eq_true_iff, rfl⟩
            generalize hww : wantN kind kids.length j = wk at *
            obtain ⟨c, kd⟩ := wk
            simp only at hwt
            have hkd2 := HKd.out c kd rfl
            have HKb0 := hide hkd2.1
            have hfr0 := hkd2.2
            clear q0 q1 q2 q3 hcs hnd hbz hww HKd hkd2
            go_wp2_with fail
            go_at_call 21
            refine hwt.mono ?_
            rintro e w6 ⟨rfl, hb6⟩
            have HB6 : Hid (Below W.heap.size W w6) := HBk.out.trans (hb6.mono HBk.out.size)
            have hn6 := cells_at ((hb6.block _ (Array.getElem?_eq_some_iff.1 HNk.out).1).trans HNk.out)
            have hx6 := HXc.out _ HB6.out
            clear hb6 hwt
            go_wp2_with fail
            go_at_call 22
            refine (class_any k0 w6).mono ?_
            rintro e w7 ⟨rfl, rfl⟩
            have HB8 := HB6
            generalize hcl : clsN k0 = cl at *
            by_cases hcc : cl = c
            · have hcc' : (cl != c) = false := by simpa using hcc
              have HCc := hide hcc
              clear hcc
              rcases Int.lt_trichotomy kd 0 with hk1 | hk1 | hk1
              · have hk2 : ¬ 0 < kd := by omega
                have HFr : Hid (freeB kind kids.length j = true) := by show _ = _; rw [hfr0, decide_eq_true hk1]
                clear hfr0
                by_cases h21 : k0 = 21
                · have HK21 : Hid (kids[j].kind = 21 ∨ kids[j].kind = 22) := by rw [HKk.out]; exact Or.inl h21
                  have HKb : Hid (kidB kind kids.length j kids[j].kind = true) := HKb0.out.2 ⟨HCc.out, fun h => by omega, fun _ => Or.inl h21⟩
                  have h21' : (k0 != 21) = false := by simpa using h21
                  clear h21
                  have hcal := HIh.out kids[j] (List.getElem_mem hlt) _ _ true (HW.out _ HB8.out).2 HNd.out (fun _ => HK21.out)
                  generalize hib : isN kids[j] true = ib at *
                  have HIb := hide hib
                  clear hib
                  go_wp2_with fail
                  go_at_call 9
                  refine hcal.mono ?_
                  rintro e wz ⟨rfl, hbz⟩
                  have HBz : Hid (Below W.heap.size W wz) := HB8.out.trans (hbz.mono HB8.out.size)
                  have hxz := HXc.out wz HBz.out
                  clear hbz hcal
                  cases ib with
                  | false =>
                    have HF : Hid (isN (.mk kind text num kids) false = false) := is_kid hlt (fun h => by have h2 := h.2; rw [HFr.out, HIb.out] at h2; cases h2)
                    go_wp2_with fail
                    go_ret
                    exact ⟨by rw [HF.out]; rfl, (HW.out _ HBz.out).1⟩
                  | true =>
                    have HA9 : Hid (∀ i (hi : i < kids.length), i < j + 1 → kidB kind kids.length i kids[i].kind = true ∧ isN kids[i] (freeB kind kids.length i) = true) := fun i hi hij => by
                      by_cases e : i = j
                      · subst e
                        exact ⟨HKb.out, by rw [HFr.out, HIb.out]⟩
                      · exact HAj.out i hi (by omega)
                    go_wp2_with fail
                    go_roundw
                    case rel => exact ⟨j + 1, by omega, by go_num, HBz, HA9⟩
                    case measure => simp [intOf]; omega
                have h21' : (k0 != 21) = true := by simpa using h21
                by_cases h22 : k0 = 22
                · have HK21 : Hid (kids[j].kind = 21 ∨ kids[j].kind = 22) := by rw [HKk.out]; exact Or.inr h22
                  have HKb : Hid (kidB kind kids.length j kids[j].kind = true) := HKb0.out.2 ⟨HCc.out, fun h => by omega, fun _ => Or.inr h22⟩
                  have h22' : (k0 != 22) = false := by simpa using h22
                  clear h21 h22
                  have hcal := HIh.out kids[j] (List.getElem_mem hlt) _ _ true (HW.out _ HB8.out).2 HNd.out (fun _ => HK21.out)
                  generalize hib : isN kids[j] true = ib at *
                  have HIb := hide hib
                  clear hib
                  go_wp2_with fail
                  go_at_call 9
                  refine hcal.mono ?_
                  rintro e wz ⟨rfl, hbz⟩
                  have HBz : Hid (Below W.heap.size W wz) := HB8.out.trans (hbz.mono HB8.out.size)
                  have hxz := HXc.out wz HBz.out
                  clear hbz hcal
                  cases ib with
                  | false =>
                    have HF : Hid (isN (.mk kind text num kids) false = false) := is_kid hlt (fun h => by have h2 := h.2; rw [HFr.out, HIb.out] at h2; cases h2)
                    go_wp2_with fail
                    go_ret
                    exact ⟨by rw [HF.out]; rfl, (HW.out _ HBz.out).1⟩
                  | true =>
                    have HA9 : Hid (∀ i (hi : i < kids.length), i < j + 1 → kidB kind kids.length i kids[i].kind = true ∧ isN kids[i] (freeB kind kids.length i) = true) := fun i hi hij => by
                      by_cases e : i = j
                      · subst e
                        exact ⟨HKb.out, by rw [HFr.out, HIb.out]⟩
                      · exact HAj.out i hi (by omega)
                    go_wp2_with fail
                    go_roundw
                    case rel => exact ⟨j + 1, by omega, by go_num, HBz, HA9⟩
                    case measure => simp [intOf]; omega
                have h22' : (k0 != 22) = true := by simpa using h22
                have HKn : Hid (¬ kidB kind kids.length j kids[j].kind = true) := fun h => by have := (HKb0.out.1 h).2.2 hk1; omega
                clear h21 h22
                have HF : Hid (isN (.mk kind text num kids) false = false) := is_kid hlt (fun h => HKn.out h.1)
                go_wp2_with fail
                go_ret
                exact ⟨by rw [HF.out]; rfl, (HW.out _ HB8.out).1⟩
              · subst hk1
                have HFr : Hid (freeB kind kids.length j = false) := hfr0
                have HKb : Hid (kidB kind kids.length j kids[j].kind = true) := HKb0.out.2 ⟨HCc.out, fun h => absurd h (by decide), fun h => absurd h (by decide)⟩
                clear hfr0
                have hcal := HIh.out kids[j] (List.getElem_mem hlt) _ _ false (HW.out _ HB8.out).2 HNd.out (fun h => absurd h (by decide))
                generalize hib : isN kids[j] false = ib at *
                have HIb := hide hib
                clear hib
                go_wp2_with fail
                go_at_call 9
                refine hcal.mono ?_
                rintro e wz ⟨rfl, hbz⟩
                have HBz : Hid (Below W.heap.size W wz) := HB8.out.trans (hbz.mono HB8.out.size)
                have hxz := HXc.out wz HBz.out
                clear hbz hcal
                cases ib with
                | false =>
                  have HF : Hid (isN (.mk kind text num kids) false = false) := is_kid hlt (fun h => by have h2 := h.2; rw [HFr.out, HIb.out] at h2; cases h2)
                  go_wp2_with fail
                  go_ret
                  exact ⟨by rw [HF.out]; rfl, (HW.out _ HBz.out).1⟩
                | true =>
                  have HA9 : Hid (∀ i (hi : i < kids.length), i < j + 1 → kidB kind kids.length i kids[i].kind = true ∧ isN kids[i] (freeB kind kids.length i) = true) := fun i hi hij => by
                    by_cases e : i = j
                    · subst e
                      exact ⟨HKb.out, by rw [HFr.out, HIb.out]⟩
                    · exact HAj.out i hi (by omega)
                  go_wp2_with fail
                  go_roundw
                  case rel => exact ⟨j + 1, by omega, by go_num, HBz, HA9⟩
                  case measure => simp [intOf]; omega
              · have hk2 : ¬ kd < 0 := by omega
                have HFr : Hid (freeB kind kids.length j = false) := by show _ = _; rw [hfr0, decide_eq_false hk2]
                clear hfr0
                by_cases hkk : k0 = kd
                · have HKb : Hid (kidB kind kids.length j kids[j].kind = true) := HKb0.out.2 ⟨HCc.out, fun _ => hkk, fun h => absurd h hk2⟩
                  have hkk' : (k0 != kd) = false := by simpa using hkk
                  clear hkk
                  have hcal := HIh.out kids[j] (List.getElem_mem hlt) _ _ false (HW.out _ HB8.out).2 HNd.out (fun h => absurd h (by decide))
                  generalize hib : isN kids[j] false = ib at *
                  have HIb := hide hib
                  clear hib
                  go_wp2_with fail
                  go_at_call 9
                  refine hcal.mono ?_
                  rintro e wz ⟨rfl, hbz⟩
                  have HBz : Hid (Below W.heap.size W wz) := HB8.out.trans (hbz.mono HB8.out.size)
                  have hxz := HXc.out wz HBz.out
                  clear hbz hcal
                  cases ib with
                  | false =>
                    have HF : Hid (isN (.mk kind text num kids) false = false) := is_kid hlt (fun h => by have h2 := h.2; rw [HFr.out, HIb.out] at h2; cases h2)
                    go_wp2_with fail
                    go_ret
                    exact ⟨by rw [HF.out]; rfl, (HW.out _ HBz.out).1⟩
                  | true =>
                    have HA9 : Hid (∀ i (hi : i < kids.length), i < j + 1 → kidB kind kids.length i kids[i].kind = true ∧ isN kids[i] (freeB kind kids.length i) = true) := fun i hi hij => by
                      by_cases e : i = j
                      · subst e
                        exact ⟨HKb.out, by rw [HFr.out, HIb.out]⟩
                      · exact HAj.out i hi (by omega)
                    go_wp2_with fail
                    go_roundw
                    case rel => exact ⟨j + 1, by omega, by go_num, HBz, HA9⟩
                    case measure => simp [intOf]; omega
                · have HKn : Hid (¬ kidB kind kids.length j kids[j].kind = true) := fun h => hkk ((HKb0.out.1 h).2.1 hk1)
                  have hkk' : (k0 != kd) = true := by simpa using hkk
                  clear hkk
                  have HF : Hid (isN (.mk kind text num kids) false = false) := is_kid hlt (fun h => HKn.out h.1)
                  go_wp2_with fail
                  go_ret
                  exact ⟨by rw [HF.out]; rfl, (HW.out _ HB8.out).1⟩
            · have hcc' : (cl != c) = true := by simpa using hcc
              have HKn : Hid (¬ kidB kind kids.length j kids[j].kind = true) := fun h => hcc (HKb0.out.1 h).1
              clear hcc
              have HF : Hid (isN (.mk kind text num kids) false = false) := is_kid hlt (fun h => HKn.out h.1)
              go_wp2_with fail
              go_ret
              exact ⟨by rw [HF.out]; rfl, (HW.out _ HB8.out).1⟩
          · obtain rfl : j = kids.length := by omega
            have hlt' : ¬ (kids.length : Int) < kids.length := by omega
            have HF : Hid (isN (.mk kind text num kids) false = true) := (isN_iff _ _ _ _ _).2 ⟨HLoc.out, fun i hi => HAj.out i hi hi⟩
            go_wp2_with fail
            go_ret
            exact ⟨by rw [HF.out]; rfl, (HW.out _ HB.out).1⟩
      · rw [decide_eq_false c5] at hte
        have HTx : Hid (¬ txtB false text = true) := by intro h; exact c5 (txt_f h)
        clear c5 hnm
        have HF : Hid (isN (.mk kind text num kids) false = false) := (HLq.out True trivial).2 (fun h => HTx.out h.2.1)
        go_wp2_with fail
        go_ret
        exact ⟨by rw [HF.out]; rfl, HBc.out⟩
    | true =>
      by_cases c5 : text = []
      · rw [decide_eq_true c5] at hte
        have HTx : Hid (¬ txtB true text = true) := by subst c5; exact fun h => absurd h (by decide)
        clear c5 hnm
        have HF : Hid (isN (.mk kind text num kids) false = false) := (HLq.out True trivial).2 (fun h => HTx.out h.2.1)
        go_wp2_with fail
        go_ret
        exact ⟨by rw [HF.out]; rfl, HBc.out⟩
      · rw [decide_eq_false c5] at hte
        clear c5
        go_wp2_with fail
        go_at_call 18
        refine (hnm _).mono ?_
        rintro e w2 ⟨rfl, hb2⟩
        have HBd : Hid (Below w.heap.size w w2) := HBc.out.trans (hb2.mono HBc.out.size)
        have HNd2 : Hid (w2.heap[w.heap.size]? = some (.cells #[.int .i64 kind, .string (str text), .int .i64 num, .slice ka kids.length kc] 24 (0, 0))) := (hb2.block _ (Array.getElem?_eq_some_iff.1 HNc.out).1).trans HNc.out
        have hs2 := cells_at ((hb2.block _ (Array.getElem?_eq_some_iff.1 HSc.out).1).trans HSc.out)
        have hn2 := cells_at HNd2.out
        clear hb2 hn hs HBc HNc HSc hnm
        have HBc := HBd
        have HNc := HNd2
        have hn := hn2
        have hs := hs2
        clear HBd HNd2 hn2 hs2
        cases hnb : nameB text with
        | false =>
          have HTx : Hid (¬ txtB true text = true) := fun h => by have := txt_t h; rw [hnb] at this; cases this
          have HF : Hid (isN (.mk kind text num kids) false = false) := (HLq.out True trivial).2 (fun h => HTx.out h.2.1)
          go_wp2_with fail
          go_ret
          exact ⟨by rw [HF.out]; rfl, HBc.out⟩
        | true =>
          have HTx : Hid (txtB true text = true) := txt_ok hnb
          by_cases c3 : num < 0
          · have HF : Hid (isN (.mk kind text num kids) false = false) := (HLq.out True trivial).2 (by omega)
            go_wp2_with fail
            go_ret
            exact ⟨by rw [HF.out]; rfl, HBc.out⟩
          by_cases c4 : mx < num
          · have HF : Hid (isN (.mk kind text num kids) false = false) := (HLq.out True trivial).2 (by omega)
            go_wp2_with fail
            go_ret
            exact ⟨by rw [HF.out]; rfl, HBc.out⟩
          have HLoc : Hid (locN kind text num kids false = true) := (HLq.out True trivial).1 ⟨⟨by omega, by omega⟩, HTx.out, by omega, by omega⟩
          go_wp2_with fail
          generalize hWg : w2 = W at *
          clear hWg
          have HW : Hid (∀ w', Below W.heap.size W w' → Below w.heap.size w w' ∧ Below w0.heap.size w0 w') := fun w' hw => ⟨HBc.out.trans (hw.mono HBc.out.size), hb.trans ((HBc.out.trans (hw.mono HBc.out.size)).mono hb.size)⟩
          have HXc : Hid (∀ w', Below W.heap.size W w' → ∀ o, w'.cell? ⟨w.heap.size, o, none⟩ = (#[Value.int .i64 kind, .string (str text), .int .i64 num, .slice ka kids.length kc])[o]?) := fun w' hw => cells_at ((hw.block w.heap.size (Array.getElem?_eq_some_iff.1 HNc.out).1).trans HNc.out)
          clear hn hs
          go_loopw [8] (fun i' wr => ∃ j : Nat, j ≤ kids.length ∧ i' = .int .i64 j ∧ Hid (Below W.heap.size W wr) ∧ Hid (∀ i (hi : i < kids.length), i < j → kidB kind kids.length i kids[i].kind = true ∧ isN kids[i] (freeB kind kids.length i) = true)) (fun i _ => kids.length - (intOf i).toNat)
          case atStart => exact ⟨0, Nat.zero_le _, rfl, Below.refl _ _, fun i hi h0 => by omega⟩
          case round =>
            obtain ⟨j, hj, rfl, HB, HAj⟩ := hrel
            have hx1 := HXc.out wr HB.out
            by_cases hlt : j < kids.length
            · have hlt' : (j : Int) < kids.length := by omega
              have hidx : (0 : Int) ≤ j ∧ (j : Int) < kids.length := by omega
              obtain ⟨g, o, rfl, hg, hcs⟩ := HR.out (fun e => by rw [e] at hlt; simp at hlt)
              obtain ⟨k0, x0, n0, a0, m9, c0, q0, q1, q2, q3, hnd⟩ := hcs j hlt
              have hbz := (HW.out _ HB.out).2
              have e0 := below_cell hbz q0
              have e1 := below_cell hbz q1
              have e2 := below_cell hbz q2
              have e3 := below_cell hbz q3
              have HNd := hide hnd
              have HKk : Hid (kids[j].kind = k0) := by
                show _ = _
                cases hkj : kids[j] with
                | mk a1 a2 a3 a4 =>
                  rw [hkj] at hnd
                  obtain ⟨_, _, hvv, _⟩ := hnd.part
                  simp at hvv
                  exact hvv.1.symm
              have HBk : Hid (Below W.heap.size W (wr.alloc (.cells #[.int .i64 k0, .string x0, .int .i64 n0, .slice a0 m9 c0] 24))) := HB.out.alloc HB.out.size _
              have HNk : Hid ((wr.alloc (.cells #[.int .i64 k0, .string x0, .int .i64 n0, .slice a0 m9 c0] 24)).heap[wr.heap.size]? = some (.cells #[.int .i64 k0, .string x0, .int .i64 n0, .slice a0 m9 c0] 24 (0, 0))) := heap_new _ _ _
              have hxk := HXc.out _ HBk.out
              have hwt := want_any kind text num (some ⟨g, o, none⟩) kids.length kc j hlt (by omega) (wr.alloc (.cells #[.int .i64 k0, .string x0, .int .i64 n0, .slice a0 m9 c0] 24))
              have HKd : Hid (∀ c kd, wantN kind kids.length j = (c, kd) → ((kidB kind kids.length j kids[j].kind = true ↔ clsN k0 = c ∧ (0 < kd → k0 = kd) ∧ (kd < 0 → k0 = 21 ∨ k0 = 22)) ∧ freeB kind kids.length j = decide (kd < 0))) := fun c kd h => by
                unfold kidB freeB
                rw [h, HKk.out]
                exact ⟨decide_eq_true_iff, rfl⟩
              generalize hww : wantN kind kids.length j = wk at *
              obtain ⟨c, kd⟩ := wk
              simp only at hwt
              have hkd2 := HKd.out c kd rfl
              have HKb0 := hide hkd2.1
              have hfr0 := hkd2.2
              clear q0 q1 q2 q3 hcs hnd hbz hww HKd hkd2
              go_wp2_with fail
              go_at_call 21
              refine hwt.mono ?_
              rintro e w6 ⟨rfl, hb6⟩
              have HB6 : Hid (Below W.heap.size W w6) := HBk.out.trans (hb6.mono HBk.out.size)
              have hn6 := cells_at ((hb6.block _ (Array.getElem?_eq_some_iff.1 HNk.out).1).trans HNk.out)
              have hx6 := HXc.out _ HB6.out
              clear hb6 hwt
              go_wp2_with fail
              go_at_call 22
              refine (class_any k0 w6).mono ?_
              rintro e w7 ⟨rfl, rfl⟩
              have HB8 := HB6
              generalize hcl : clsN k0 = cl at *
              by_cases hcc : cl = c
              · have hcc' : (cl != c) = false := by simpa using hcc
                have HCc := hide hcc
                clear hcc
                rcases Int.lt_trichotomy kd 0 with hk1 | hk1 | hk1
                · have hk2 : ¬ 0 < kd := by omega
                  have HFr : Hid (freeB kind kids.length j = true) := by show _ = _; rw [hfr0, decide_eq_true hk1]
                  clear hfr0
                  by_cases h21 : k0 = 21
                  · have HK21 : Hid (kids[j].kind = 21 ∨ kids[j].kind = 22) := by rw [HKk.out]; exact Or.inl h21
                    have HKb : Hid (kidB kind kids.length j kids[j].kind = true) := HKb0.out.2 ⟨HCc.out, fun h => by omega, fun _ => Or.inl h21⟩
                    have h21' : (k0 != 21) = false := by simpa using h21
                    clear h21
                    have hcal := HIh.out kids[j] (List.getElem_mem hlt) _ _ true (HW.out _ HB8.out).2 HNd.out (fun _ => HK21.out)
                    generalize hib : isN kids[j] true = ib at *
                    have HIb := hide hib
                    clear hib
                    go_wp2_with fail
                    go_at_call 9
                    refine hcal.mono ?_
                    rintro e wz ⟨rfl, hbz⟩
                    have HBz : Hid (Below W.heap.size W wz) := HB8.out.trans (hbz.mono HB8.out.size)
                    have hxz := HXc.out wz HBz.out
                    clear hbz hcal
                    cases ib with
                    | false =>
                      have HF : Hid (isN (.mk kind text num kids) false = false) := is_kid hlt (fun h => by have h2 := h.2; rw [HFr.out, HIb.out] at h2; cases h2)
                      go_wp2_with fail
                      go_ret
                      exact ⟨by rw [HF.out]; rfl, (HW.out _ HBz.out).1⟩
                    | true =>
                      have HA9 : Hid (∀ i (hi : i < kids.length), i < j + 1 → kidB kind kids.length i kids[i].kind = true ∧ isN kids[i] (freeB kind kids.length i) = true) := fun i hi hij => by
                        by_cases e : i = j
                        · subst e
                          exact ⟨HKb.out, by rw [HFr.out, HIb.out]⟩
                        · exact HAj.out i hi (by omega)
                      go_wp2_with fail
                      go_roundw
                      case rel => exact ⟨j + 1, by omega, by go_num, HBz, HA9⟩
                      case measure => simp [intOf]; omega
                  have h21' : (k0 != 21) = true := by simpa using h21
                  by_cases h22 : k0 = 22
                  · have HK21 : Hid (kids[j].kind = 21 ∨ kids[j].kind = 22) := by rw [HKk.out]; exact Or.inr h22
                    have HKb : Hid (kidB kind kids.length j kids[j].kind = true) := HKb0.out.2 ⟨HCc.out, fun h => by omega, fun _ => Or.inr h22⟩
                    have h22' : (k0 != 22) = false := by simpa using h22
                    clear h21 h22
                    have hcal := HIh.out kids[j] (List.getElem_mem hlt) _ _ true (HW.out _ HB8.out).2 HNd.out (fun _ => HK21.out)
                    generalize hib : isN kids[j] true = ib at *
                    have HIb := hide hib
                    clear hib
                    go_wp2_with fail
                    go_at_call 9
                    refine hcal.mono ?_
                    rintro e wz ⟨rfl, hbz⟩
                    have HBz : Hid (Below W.heap.size W wz) := HB8.out.trans (hbz.mono HB8.out.size)
                    have hxz := HXc.out wz HBz.out
                    clear hbz hcal
                    cases ib with
                    | false =>
                      have HF : Hid (isN (.mk kind text num kids) false = false) := is_kid hlt (fun h => by have h2 := h.2; rw [HFr.out, HIb.out] at h2; cases h2)
                      go_wp2_with fail
                      go_ret
                      exact ⟨by rw [HF.out]; rfl, (HW.out _ HBz.out).1⟩
                    | true =>
                      have HA9 : Hid (∀ i (hi : i < kids.length), i < j + 1 → kidB kind kids.length i kids[i].kind = true ∧ isN kids[i] (freeB kind kids.length i) = true) := fun i hi hij => by
                        by_cases e : i = j
                        · subst e
                          exact ⟨HKb.out, by rw [HFr.out, HIb.out]⟩
                        · exact HAj.out i hi (by omega)
                      go_wp2_with fail
                      go_roundw
                      case rel => exact ⟨j + 1, by omega, by go_num, HBz, HA9⟩
                      case measure => simp [intOf]; omega
                  have h22' : (k0 != 22) = true := by simpa using h22
                  have HKn : Hid (¬ kidB kind kids.length j kids[j].kind = true) := fun h => by have := (HKb0.out.1 h).2.2 hk1; omega
                  clear h21 h22
                  have HF : Hid (isN (.mk kind text num kids) false = false) := is_kid hlt (fun h => HKn.out h.1)
                  go_wp2_with fail
                  go_ret
                  exact ⟨by rw [HF.out]; rfl, (HW.out _ HB8.out).1⟩
                · subst hk1
                  have HFr : Hid (freeB kind kids.length j = false) := hfr0
                  have HKb : Hid (kidB kind kids.length j kids[j].kind = true) := HKb0.out.2 ⟨HCc.out, fun h => absurd h (by decide), fun h => absurd h (by decide)⟩
                  clear hfr0
                  have hcal := HIh.out kids[j] (List.getElem_mem hlt) _ _ false (HW.out _ HB8.out).2 HNd.out (fun h => absurd h (by decide))
                  generalize hib : isN kids[j] false = ib at *
                  have HIb := hide hib
                  clear hib
                  go_wp2_with fail
                  go_at_call 9
                  refine hcal.mono ?_
                  rintro e wz ⟨rfl, hbz⟩
                  have HBz : Hid (Below W.heap.size W wz) := HB8.out.trans (hbz.mono HB8.out.size)
                  have hxz := HXc.out wz HBz.out
                  clear hbz hcal
                  cases ib with
                  | false =>
                    have HF : Hid (isN (.mk kind text num kids) false = false) := is_kid hlt (fun h => by have h2 := h.2; rw [HFr.out, HIb.out] at h2; cases h2)
                    go_wp2_with fail
                    go_ret
                    exact ⟨by rw [HF.out]; rfl, (HW.out _ HBz.out).1⟩
                  | true =>
                    have HA9 : Hid (∀ i (hi : i < kids.length), i < j + 1 → kidB kind kids.length i kids[i].kind = true ∧ isN kids[i] (freeB kind kids.length i) = true) := fun i hi hij => by
                      by_cases e : i = j
                      · subst e
                        exact ⟨HKb.out, by rw [HFr.out, HIb.out]⟩
                      · exact HAj.out i hi (by omega)
                    go_wp2_with fail
                    go_roundw
                    case rel => exact ⟨j + 1, by omega, by go_num, HBz, HA9⟩
                    case measure => simp [intOf]; omega
                · have hk2 : ¬ kd < 0 := by omega
                  have HFr : Hid (freeB kind kids.length j = false) := by show _ = _; rw [hfr0, decide_eq_false hk2]
                  clear hfr0
                  by_cases hkk : k0 = kd
                  · have HKb : Hid (kidB kind kids.length j kids[j].kind = true) := HKb0.out.2 ⟨HCc.out, fun _ => hkk, fun h => absurd h hk2⟩
                    have hkk' : (k0 != kd) = false := by simpa using hkk
                    clear hkk
                    have hcal := HIh.out kids[j] (List.getElem_mem hlt) _ _ false (HW.out _ HB8.out).2 HNd.out (fun h => absurd h (by decide))
                    generalize hib : isN kids[j] false = ib at *
                    have HIb := hide hib
                    clear hib
                    go_wp2_with fail
                    go_at_call 9
                    refine hcal.mono ?_
                    rintro e wz ⟨rfl, hbz⟩
                    have HBz : Hid (Below W.heap.size W wz) := HB8.out.trans (hbz.mono HB8.out.size)
                    have hxz := HXc.out wz HBz.out
                    clear hbz hcal
                    cases ib with
                    | false =>
                      have HF : Hid (isN (.mk kind text num kids) false = false) := is_kid hlt (fun h => by have h2 := h.2; rw [HFr.out, HIb.out] at h2; cases h2)
                      go_wp2_with fail
                      go_ret
                      exact ⟨by rw [HF.out]; rfl, (HW.out _ HBz.out).1⟩
                    | true =>
                      have HA9 : Hid (∀ i (hi : i < kids.length), i < j + 1 → kidB kind kids.length i kids[i].kind = true ∧ isN kids[i] (freeB kind kids.length i) = true) := fun i hi hij => by
                        by_cases e : i = j
                        · subst e
                          exact ⟨HKb.out, by rw [HFr.out, HIb.out]⟩
                        · exact HAj.out i hi (by omega)
                      go_wp2_with fail
                      go_roundw
                      case rel => exact ⟨j + 1, by omega, by go_num, HBz, HA9⟩
                      case measure => simp [intOf]; omega
                  · have HKn : Hid (¬ kidB kind kids.length j kids[j].kind = true) := fun h => hkk ((HKb0.out.1 h).2.1 hk1)
                    have hkk' : (k0 != kd) = true := by simpa using hkk
                    clear hkk
                    have HF : Hid (isN (.mk kind text num kids) false = false) := is_kid hlt (fun h => HKn.out h.1)
                    go_wp2_with fail
                    go_ret
                    exact ⟨by rw [HF.out]; rfl, (HW.out _ HB8.out).1⟩
              · have hcc' : (cl != c) = true := by simpa using hcc
                have HKn : Hid (¬ kidB kind kids.length j kids[j].kind = true) := fun h => hcc (HKb0.out.1 h).1
                clear hcc
                have HF : Hid (isN (.mk kind text num kids) false = false) := is_kid hlt (fun h => HKn.out h.1)
                go_wp2_with fail
                go_ret
                exact ⟨by rw [HF.out]; rfl, (HW.out _ HB8.out).1⟩
            · obtain rfl : j = kids.length := by omega
              have hlt' : ¬ (kids.length : Int) < kids.length := by omega
              have HF : Hid (isN (.mk kind text num kids) false = true) := (isN_iff _ _ _ _ _).2 ⟨HLoc.out, fun i hi => HAj.out i hi hi⟩
              go_wp2_with fail
              go_ret
              exact ⟨by rw [HF.out]; rfl, (HW.out _ HB.out).1⟩
  · have c2' : ¬ 0 ≤ most := c2
    cases tt with
    | false =>
      by_cases c5 : text = []
      · rw [decide_eq_true c5] at hte
        have HTx : Hid (txtB false text = true) := by show _ = _; simp [txtB, c5]
        clear c5 hnm
        by_cases c3 : num < 0
        · have HF : Hid (isN (.mk kind text num kids) false = false) := (HLq.out True trivial).2 (by omega)
          go_wp2_with fail
          go_ret
          exact ⟨by rw [HF.out]; rfl, HBc.out⟩
        by_cases c4 : mx < num
        · have HF : Hid (isN (.mk kind text num kids) false = false) := (HLq.out True trivial).2 (by omega)
          go_wp2_with fail
          go_ret
          exact ⟨by rw [HF.out]; rfl, HBc.out⟩
        have HLoc : Hid (locN kind text num kids false = true) := (HLq.out True trivial).1 ⟨⟨by omega, by omega⟩, HTx.out, by omega, by omega⟩
        go_wp2_with fail
        generalize hWg : (w1.alloc (.cells #[.bool false, .int .i64 mx, .int .i64 least, .int .i64 most] 41)) = W at *
        clear hWg
        have HW : Hid (∀ w', Below W.heap.size W w' → Below w.heap.size w w' ∧ Below w0.heap.size w0 w') := fun w' hw => ⟨HBc.out.trans (hw.mono HBc.out.size), hb.trans ((HBc.out.trans (hw.mono HBc.out.size)).mono hb.size)⟩
        have HXc : Hid (∀ w', Below W.heap.size W w' → ∀ o, w'.cell? ⟨w.heap.size, o, none⟩ = (#[Value.int .i64 kind, .string (str text), .int .i64 num, .slice ka kids.length kc])[o]?) := fun w' hw => cells_at ((hw.block w.heap.size (Array.getElem?_eq_some_iff.1 HNc.out).1).trans HNc.out)
        clear hn hs
        go_loopw [8] (fun i' wr => ∃ j : Nat, j ≤ kids.length ∧ i' = .int .i64 j ∧ Hid (Below W.heap.size W wr) ∧ Hid (∀ i (hi : i < kids.length), i < j → kidB kind kids.length i kids[i].kind = true ∧ isN kids[i] (freeB kind kids.length i) = true)) (fun i _ => kids.length - (intOf i).toNat)
        case atStart => exact ⟨0, Nat.zero_le _, rfl, Below.refl _ _, fun i hi h0 => by omega⟩
        case round =>
          obtain ⟨j, hj, rfl, HB, HAj⟩ := hrel
          have hx1 := HXc.out wr HB.out
          by_cases hlt : j < kids.length
          · have hlt' : (j : Int) < kids.length := by omega
            have hidx : (0 : Int) ≤ j ∧ (j : Int) < kids.length := by omega
            obtain ⟨g, o, rfl, hg, hcs⟩ := HR.out (fun e => by rw [e] at hlt; simp at hlt)
            obtain ⟨k0, x0, n0, a0, m9, c0, q0, q1, q2, q3, hnd⟩ := hcs j hlt
            have hbz := (HW.out _ HB.out).2
            have e0 := below_cell hbz q0
            have e1 := below_cell hbz q1
            have e2 := below_cell hbz q2
            have e3 := below_cell hbz q3
            have HNd := hide hnd
            have HKk : Hid (kids[j].kind = k0) := by
              show _ = _
              cases hkj : kids[j] with
              | mk a1 a2 a3 a4 =>
                rw [hkj] at hnd
                obtain ⟨_, _, hvv, _⟩ := hnd.part
                simp at hvv
                exact hvv.1.symm
            have HBk : Hid (Below W.heap.size W (wr.alloc (.cells #[.int .i64 k0, .string x0, .int .i64 n0, .slice a0 m9 c0] 24))) := HB.out.alloc HB.out.size _
            have HNk : Hid ((wr.alloc (.cells #[.int .i64 k0, .string x0, .int .i64 n0, .slice a0 m9 c0] 24)).heap[wr.heap.size]? = some (.cells #[.int .i64 k0, .string x0, .int .i64 n0, .slice a0 m9 c0] 24 (0, 0))) := heap_new _ _ _
            have hxk := HXc.out _ HBk.out
            have hwt := want_any kind text num (some ⟨g, o, none⟩) kids.length kc j hlt (by omega) (wr.alloc (.cells #[.int .i64 k0, .string x0, .int .i64 n0, .slice a0 m9 c0] 24))
            have HKd : Hid (∀ c kd, wantN kind kids.length j = (c, kd) → ((kidB kind kids.length j kids[j].kind = true ↔ clsN k0 = c ∧ (0 < kd → k0 = kd) ∧ (kd < 0 → k0 = 21 ∨ k0 = 22)) ∧ freeB kind kids.length j = decide (kd < 0))) := fun c kd h => by
              unfold kidB freeB
              rw [h, HKk.out]
              exact ⟨decide_eq_true_iff, rfl⟩
            generalize hww : wantN kind kids.length j = wk at *
            obtain ⟨c, kd⟩ := wk
            simp only at hwt
            have hkd2 := HKd.out c kd rfl
            have HKb0 := hide hkd2.1
            have hfr0 := hkd2.2
            clear q0 q1 q2 q3 hcs hnd hbz hww HKd hkd2
            go_wp2_with fail
            go_at_call 21
            refine hwt.mono ?_
            rintro e w6 ⟨rfl, hb6⟩
            have HB6 : Hid (Below W.heap.size W w6) := HBk.out.trans (hb6.mono HBk.out.size)
            have hn6 := cells_at ((hb6.block _ (Array.getElem?_eq_some_iff.1 HNk.out).1).trans HNk.out)
            have hx6 := HXc.out _ HB6.out
            clear hb6 hwt
            go_wp2_with fail
            go_at_call 22
            refine (class_any k0 w6).mono ?_
            rintro e w7 ⟨rfl, rfl⟩
            have HB8 := HB6
            generalize hcl : clsN k0 = cl at *
            by_cases hcc : cl = c
            · have hcc' : (cl != c) = false := by simpa using hcc
              have HCc := hide hcc
              clear hcc
              rcases Int.lt_trichotomy kd 0 with hk1 | hk1 | hk1
              · have hk2 : ¬ 0 < kd := by omega
                have HFr : Hid (freeB kind kids.length j = true) := by show _ = _; rw [hfr0, decide_eq_true hk1]
                clear hfr0
                by_cases h21 : k0 = 21
                · have HK21 : Hid (kids[j].kind = 21 ∨ kids[j].kind = 22) := by rw [HKk.out]; exact Or.inl h21
                  have HKb : Hid (kidB kind kids.length j kids[j].kind = true) := HKb0.out.2 ⟨HCc.out, fun h => by omega, fun _ => Or.inl h21⟩
                  have h21' : (k0 != 21) = false := by simpa using h21
                  clear h21
                  have hcal := HIh.out kids[j] (List.getElem_mem hlt) _ _ true (HW.out _ HB8.out).2 HNd.out (fun _ => HK21.out)
                  generalize hib : isN kids[j] true = ib at *
                  have HIb := hide hib
                  clear hib
                  go_wp2_with fail
                  go_at_call 9
                  refine hcal.mono ?_
                  rintro e wz ⟨rfl, hbz⟩
                  have HBz : Hid (Below W.heap.size W wz) := HB8.out.trans (hbz.mono HB8.out.size)
                  have hxz := HXc.out wz HBz.out
                  clear hbz hcal
                  cases ib with
                  | false =>
                    have HF : Hid (isN (.mk kind text num kids) false = false) := is_kid hlt (fun h => by have h2 := h.2; rw [HFr.out, HIb.out] at h2; cases h2)
                    go_wp2_with fail
                    go_ret
                    exact ⟨by rw [HF.out]; rfl, (HW.out _ HBz.out).1⟩
                  | true =>
                    have HA9 : Hid (∀ i (hi : i < kids.length), i < j + 1 → kidB kind kids.length i kids[i].kind = true ∧ isN kids[i] (freeB kind kids.length i) = true) := fun i hi hij => by
                      by_cases e : i = j
                      · subst e
                        exact ⟨HKb.out, by rw [HFr.out, HIb.out]⟩
                      · exact HAj.out i hi (by omega)
                    go_wp2_with fail
                    go_roundw
                    case rel => exact ⟨j + 1, by omega, by go_num, HBz, HA9⟩
                    case measure => simp [intOf]; omega
                have h21' : (k0 != 21) = true := by simpa using h21
                by_cases h22 : k0 = 22
                · have HK21 : Hid (kids[j].kind = 21 ∨ kids[j].kind = 22) := by rw [HKk.out]; exact Or.inr h22
                  have HKb : Hid (kidB kind kids.length j kids[j].kind = true) := HKb0.out.2 ⟨HCc.out, fun h => by omega, fun _ => Or.inr h22⟩
                  have h22' : (k0 != 22) = false := by simpa using h22
                  clear h21 h22
                  have hcal := HIh.out kids[j] (List.getElem_mem hlt) _ _ true (HW.out _ HB8.out).2 HNd.out (fun _ => HK21.out)
                  generalize hib : isN kids[j] true = ib at *
                  have HIb := hide hib
                  clear hib
                  go_wp2_with fail
                  go_at_call 9
                  refine hcal.mono ?_
                  rintro e wz ⟨rfl, hbz⟩
                  have HBz : Hid (Below W.heap.size W wz) := HB8.out.trans (hbz.mono HB8.out.size)
                  have hxz := HXc.out wz HBz.out
                  clear hbz hcal
                  cases ib with
                  | false =>
                    have HF : Hid (isN (.mk kind text num kids) false = false) := is_kid hlt (fun h => by have h2 := h.2; rw [HFr.out, HIb.out] at h2; cases h2)
                    go_wp2_with fail
                    go_ret
                    exact ⟨by rw [HF.out]; rfl, (HW.out _ HBz.out).1⟩
                  | true =>
                    have HA9 : Hid (∀ i (hi : i < kids.length), i < j + 1 → kidB kind kids.length i kids[i].kind = true ∧ isN kids[i] (freeB kind kids.length i) = true) := fun i hi hij => by
                      by_cases e : i = j
                      · subst e
                        exact ⟨HKb.out, by rw [HFr.out, HIb.out]⟩
                      · exact HAj.out i hi (by omega)
                    go_wp2_with fail
                    go_roundw
                    case rel => exact ⟨j + 1, by omega, by go_num, HBz, HA9⟩
                    case measure => simp [intOf]; omega
                have h22' : (k0 != 22) = true := by simpa using h22
                have HKn : Hid (¬ kidB kind kids.length j kids[j].kind = true) := fun h => by have := (HKb0.out.1 h).2.2 hk1; omega
                clear h21 h22
                have HF : Hid (isN (.mk kind text num kids) false = false) := is_kid hlt (fun h => HKn.out h.1)
                go_wp2_with fail
                go_ret
                exact ⟨by rw [HF.out]; rfl, (HW.out _ HB8.out).1⟩
              · subst hk1
                have HFr : Hid (freeB kind kids.length j = false) := hfr0
                have HKb : Hid (kidB kind kids.length j kids[j].kind = true) := HKb0.out.2 ⟨HCc.out, fun h => absurd h (by decide), fun h => absurd h (by decide)⟩
                clear hfr0
                have hcal := HIh.out kids[j] (List.getElem_mem hlt) _ _ false (HW.out _ HB8.out).2 HNd.out (fun h => absurd h (by decide))
                generalize hib : isN kids[j] false = ib at *
                have HIb := hide hib
                clear hib
                go_wp2_with fail
                go_at_call 9
                refine hcal.mono ?_
                rintro e wz ⟨rfl, hbz⟩
                have HBz : Hid (Below W.heap.size W wz) := HB8.out.trans (hbz.mono HB8.out.size)
                have hxz := HXc.out wz HBz.out
                clear hbz hcal
                cases ib with
                | false =>
                  have HF : Hid (isN (.mk kind text num kids) false = false) := is_kid hlt (fun h => by have h2 := h.2; rw [HFr.out, HIb.out] at h2; cases h2)
                  go_wp2_with fail
                  go_ret
                  exact ⟨by rw [HF.out]; rfl, (HW.out _ HBz.out).1⟩
                | true =>
                  have HA9 : Hid (∀ i (hi : i < kids.length), i < j + 1 → kidB kind kids.length i kids[i].kind = true ∧ isN kids[i] (freeB kind kids.length i) = true) := fun i hi hij => by
                    by_cases e : i = j
                    · subst e
                      exact ⟨HKb.out, by rw [HFr.out, HIb.out]⟩
                    · exact HAj.out i hi (by omega)
                  go_wp2_with fail
                  go_roundw
                  case rel => exact ⟨j + 1, by omega, by go_num, HBz, HA9⟩
                  case measure => simp [intOf]; omega
              · have hk2 : ¬ kd < 0 := by omega
                have HFr : Hid (freeB kind kids.length j = false) := by show _ = _; rw [hfr0, decide_eq_false hk2]
                clear hfr0
                by_cases hkk : k0 = kd
                · have HKb : Hid (kidB kind kids.length j kids[j].kind = true) := HKb0.out.2 ⟨HCc.out, fun _ => hkk, fun h => absurd h hk2⟩
                  have hkk' : (k0 != kd) = false := by simpa using hkk
                  clear hkk
                  have hcal := HIh.out kids[j] (List.getElem_mem hlt) _ _ false (HW.out _ HB8.out).2 HNd.out (fun h => absurd h (by decide))
                  generalize hib : isN kids[j] false = ib at *
                  have HIb := hide hib
                  clear hib
                  go_wp2_with fail
                  go_at_call 9
                  refine hcal.mono ?_
                  rintro e wz ⟨rfl, hbz⟩
                  have HBz : Hid (Below W.heap.size W wz) := HB8.out.trans (hbz.mono HB8.out.size)
                  have hxz := HXc.out wz HBz.out
                  clear hbz hcal
                  cases ib with
                  | false =>
                    have HF : Hid (isN (.mk kind text num kids) false = false) := is_kid hlt (fun h => by have h2 := h.2; rw [HFr.out, HIb.out] at h2; cases h2)
                    go_wp2_with fail
                    go_ret
                    exact ⟨by rw [HF.out]; rfl, (HW.out _ HBz.out).1⟩
                  | true =>
                    have HA9 : Hid (∀ i (hi : i < kids.length), i < j + 1 → kidB kind kids.length i kids[i].kind = true ∧ isN kids[i] (freeB kind kids.length i) = true) := fun i hi hij => by
                      by_cases e : i = j
                      · subst e
                        exact ⟨HKb.out, by rw [HFr.out, HIb.out]⟩
                      · exact HAj.out i hi (by omega)
                    go_wp2_with fail
                    go_roundw
                    case rel => exact ⟨j + 1, by omega, by go_num, HBz, HA9⟩
                    case measure => simp [intOf]; omega
                · have HKn : Hid (¬ kidB kind kids.length j kids[j].kind = true) := fun h => hkk ((HKb0.out.1 h).2.1 hk1)
                  have hkk' : (k0 != kd) = true := by simpa using hkk
                  clear hkk
                  have HF : Hid (isN (.mk kind text num kids) false = false) := is_kid hlt (fun h => HKn.out h.1)
                  go_wp2_with fail
                  go_ret
                  exact ⟨by rw [HF.out]; rfl, (HW.out _ HB8.out).1⟩
            · have hcc' : (cl != c) = true := by simpa using hcc
              have HKn : Hid (¬ kidB kind kids.length j kids[j].kind = true) := fun h => hcc (HKb0.out.1 h).1
              clear hcc
              have HF : Hid (isN (.mk kind text num kids) false = false) := is_kid hlt (fun h => HKn.out h.1)
              go_wp2_with fail
              go_ret
              exact ⟨by rw [HF.out]; rfl, (HW.out _ HB8.out).1⟩
          · obtain rfl : j = kids.length := by omega
            have hlt' : ¬ (kids.length : Int) < kids.length := by omega
            have HF : Hid (isN (.mk kind text num kids) false = true) := (isN_iff _ _ _ _ _).2 ⟨HLoc.out, fun i hi => HAj.out i hi hi⟩
            go_wp2_with fail
            go_ret
            exact ⟨by rw [HF.out]; rfl, (HW.out _ HB.out).1⟩
      · rw [decide_eq_false c5] at hte
        have HTx : Hid (¬ txtB false text = true) := by intro h; exact c5 (txt_f h)
        clear c5 hnm
        have HF : Hid (isN (.mk kind text num kids) false = false) := (HLq.out True trivial).2 (fun h => HTx.out h.2.1)
        go_wp2_with fail
        go_ret
        exact ⟨by rw [HF.out]; rfl, HBc.out⟩
    | true =>
      by_cases c5 : text = []
      · rw [decide_eq_true c5] at hte
        have HTx : Hid (¬ txtB true text = true) := by subst c5; exact fun h => absurd h (by decide)
        clear c5 hnm
        have HF : Hid (isN (.mk kind text num kids) false = false) := (HLq.out True trivial).2 (fun h => HTx.out h.2.1)
        go_wp2_with fail
        go_ret
        exact ⟨by rw [HF.out]; rfl, HBc.out⟩
      · rw [decide_eq_false c5] at hte
        clear c5
        go_wp2_with fail
        go_at_call 18
        refine (hnm _).mono ?_
        rintro e w2 ⟨rfl, hb2⟩
        have HBd : Hid (Below w.heap.size w w2) := HBc.out.trans (hb2.mono HBc.out.size)
        have HNd2 : Hid (w2.heap[w.heap.size]? = some (.cells #[.int .i64 kind, .string (str text), .int .i64 num, .slice ka kids.length kc] 24 (0, 0))) := (hb2.block _ (Array.getElem?_eq_some_iff.1 HNc.out).1).trans HNc.out
        have hs2 := cells_at ((hb2.block _ (Array.getElem?_eq_some_iff.1 HSc.out).1).trans HSc.out)
        have hn2 := cells_at HNd2.out
        clear hb2 hn hs HBc HNc HSc hnm
        have HBc := HBd
        have HNc := HNd2
        have hn := hn2
        have hs := hs2
        clear HBd HNd2 hn2 hs2
        cases hnb : nameB text with
        | false =>
          have HTx : Hid (¬ txtB true text = true) := fun h => by have := txt_t h; rw [hnb] at this; cases this
          have HF : Hid (isN (.mk kind text num kids) false = false) := (HLq.out True trivial).2 (fun h => HTx.out h.2.1)
          go_wp2_with fail
          go_ret
          exact ⟨by rw [HF.out]; rfl, HBc.out⟩
        | true =>
          have HTx : Hid (txtB true text = true) := txt_ok hnb
          by_cases c3 : num < 0
          · have HF : Hid (isN (.mk kind text num kids) false = false) := (HLq.out True trivial).2 (by omega)
            go_wp2_with fail
            go_ret
            exact ⟨by rw [HF.out]; rfl, HBc.out⟩
          by_cases c4 : mx < num
          · have HF : Hid (isN (.mk kind text num kids) false = false) := (HLq.out True trivial).2 (by omega)
            go_wp2_with fail
            go_ret
            exact ⟨by rw [HF.out]; rfl, HBc.out⟩
          have HLoc : Hid (locN kind text num kids false = true) := (HLq.out True trivial).1 ⟨⟨by omega, by omega⟩, HTx.out, by omega, by omega⟩
          go_wp2_with fail
          generalize hWg : w2 = W at *
          clear hWg
          have HW : Hid (∀ w', Below W.heap.size W w' → Below w.heap.size w w' ∧ Below w0.heap.size w0 w') := fun w' hw => ⟨HBc.out.trans (hw.mono HBc.out.size), hb.trans ((HBc.out.trans (hw.mono HBc.out.size)).mono hb.size)⟩
          have HXc : Hid (∀ w', Below W.heap.size W w' → ∀ o, w'.cell? ⟨w.heap.size, o, none⟩ = (#[Value.int .i64 kind, .string (str text), .int .i64 num, .slice ka kids.length kc])[o]?) := fun w' hw => cells_at ((hw.block w.heap.size (Array.getElem?_eq_some_iff.1 HNc.out).1).trans HNc.out)
          clear hn hs
          go_loopw [8] (fun i' wr => ∃ j : Nat, j ≤ kids.length ∧ i' = .int .i64 j ∧ Hid (Below W.heap.size W wr) ∧ Hid (∀ i (hi : i < kids.length), i < j → kidB kind kids.length i kids[i].kind = true ∧ isN kids[i] (freeB kind kids.length i) = true)) (fun i _ => kids.length - (intOf i).toNat)
          case atStart => exact ⟨0, Nat.zero_le _, rfl, Below.refl _ _, fun i hi h0 => by omega⟩
          case round =>
            obtain ⟨j, hj, rfl, HB, HAj⟩ := hrel
            have hx1 := HXc.out wr HB.out
            by_cases hlt : j < kids.length
            · have hlt' : (j : Int) < kids.length := by omega
              have hidx : (0 : Int) ≤ j ∧ (j : Int) < kids.length := by omega
              obtain ⟨g, o, rfl, hg, hcs⟩ := HR.out (fun e => by rw [e] at hlt; simp at hlt)
              obtain ⟨k0, x0, n0, a0, m9, c0, q0, q1, q2, q3, hnd⟩ := hcs j hlt
              have hbz := (HW.out _ HB.out).2
              have e0 := below_cell hbz q0
              have e1 := below_cell hbz q1
              have e2 := below_cell hbz q2
              have e3 := below_cell hbz q3
              have HNd := hide hnd
              have HKk : Hid (kids[j].kind = k0) := by
                show _ = _
                cases hkj : kids[j] with
                | mk a1 a2 a3 a4 =>
                  rw [hkj] at hnd
                  obtain ⟨_, _, hvv, _⟩ := hnd.part
                  simp at hvv
                  exact hvv.1.symm
              have HBk : Hid (Below W.heap.size W (wr.alloc (.cells #[.int .i64 k0, .string x0, .int .i64 n0, .slice a0 m9 c0] 24))) := HB.out.alloc HB.out.size _
              have HNk : Hid ((wr.alloc (.cells #[.int .i64 k0, .string x0, .int .i64 n0, .slice a0 m9 c0] 24)).heap[wr.heap.size]? = some (.cells #[.int .i64 k0, .string x0, .int .i64 n0, .slice a0 m9 c0] 24 (0, 0))) := heap_new _ _ _
              have hxk := HXc.out _ HBk.out
              have hwt := want_any kind text num (some ⟨g, o, none⟩) kids.length kc j hlt (by omega) (wr.alloc (.cells #[.int .i64 k0, .string x0, .int .i64 n0, .slice a0 m9 c0] 24))
              have HKd : Hid (∀ c kd, wantN kind kids.length j = (c, kd) → ((kidB kind kids.length j kids[j].kind = true ↔ clsN k0 = c ∧ (0 < kd → k0 = kd) ∧ (kd < 0 → k0 = 21 ∨ k0 = 22)) ∧ freeB kind kids.length j = decide (kd < 0))) := fun c kd h => by
                unfold kidB freeB
                rw [h, HKk.out]
                exact ⟨decide_eq_true_iff, rfl⟩
              generalize hww : wantN kind kids.length j = wk at *
              obtain ⟨c, kd⟩ := wk
              simp only at hwt
              have hkd2 := HKd.out c kd rfl
              have HKb0 := hide hkd2.1
              have hfr0 := hkd2.2
              clear q0 q1 q2 q3 hcs hnd hbz hww HKd hkd2
              go_wp2_with fail
              go_at_call 21
              refine hwt.mono ?_
              rintro e w6 ⟨rfl, hb6⟩
              have HB6 : Hid (Below W.heap.size W w6) := HBk.out.trans (hb6.mono HBk.out.size)
              have hn6 := cells_at ((hb6.block _ (Array.getElem?_eq_some_iff.1 HNk.out).1).trans HNk.out)
              have hx6 := HXc.out _ HB6.out
              clear hb6 hwt
              go_wp2_with fail
              go_at_call 22
              refine (class_any k0 w6).mono ?_
              rintro e w7 ⟨rfl, rfl⟩
              have HB8 := HB6
              generalize hcl : clsN k0 = cl at *
              by_cases hcc : cl = c
              · have hcc' : (cl != c) = false := by simpa using hcc
                have HCc := hide hcc
                clear hcc
                rcases Int.lt_trichotomy kd 0 with hk1 | hk1 | hk1
                · have hk2 : ¬ 0 < kd := by omega
                  have HFr : Hid (freeB kind kids.length j = true) := by show _ = _; rw [hfr0, decide_eq_true hk1]
                  clear hfr0
                  by_cases h21 : k0 = 21
                  · have HK21 : Hid (kids[j].kind = 21 ∨ kids[j].kind = 22) := by rw [HKk.out]; exact Or.inl h21
                    have HKb : Hid (kidB kind kids.length j kids[j].kind = true) := HKb0.out.2 ⟨HCc.out, fun h => by omega, fun _ => Or.inl h21⟩
                    have h21' : (k0 != 21) = false := by simpa using h21
                    clear h21
                    have hcal := HIh.out kids[j] (List.getElem_mem hlt) _ _ true (HW.out _ HB8.out).2 HNd.out (fun _ => HK21.out)
                    generalize hib : isN kids[j] true = ib at *
                    have HIb := hide hib
                    clear hib
                    go_wp2_with fail
                    go_at_call 9
                    refine hcal.mono ?_
                    rintro e wz ⟨rfl, hbz⟩
                    have HBz : Hid (Below W.heap.size W wz) := HB8.out.trans (hbz.mono HB8.out.size)
                    have hxz := HXc.out wz HBz.out
                    clear hbz hcal
                    cases ib with
                    | false =>
                      have HF : Hid (isN (.mk kind text num kids) false = false) := is_kid hlt (fun h => by have h2 := h.2; rw [HFr.out, HIb.out] at h2; cases h2)
                      go_wp2_with fail
                      go_ret
                      exact ⟨by rw [HF.out]; rfl, (HW.out _ HBz.out).1⟩
                    | true =>
                      have HA9 : Hid (∀ i (hi : i < kids.length), i < j + 1 → kidB kind kids.length i kids[i].kind = true ∧ isN kids[i] (freeB kind kids.length i) = true) := fun i hi hij => by
                        by_cases e : i = j
                        · subst e
                          exact ⟨HKb.out, by rw [HFr.out, HIb.out]⟩
                        · exact HAj.out i hi (by omega)
                      go_wp2_with fail
                      go_roundw
                      case rel => exact ⟨j + 1, by omega, by go_num, HBz, HA9⟩
                      case measure => simp [intOf]; omega
                  have h21' : (k0 != 21) = true := by simpa using h21
                  by_cases h22 : k0 = 22
                  · have HK21 : Hid (kids[j].kind = 21 ∨ kids[j].kind = 22) := by rw [HKk.out]; exact Or.inr h22
                    have HKb : Hid (kidB kind kids.length j kids[j].kind = true) := HKb0.out.2 ⟨HCc.out, fun h => by omega, fun _ => Or.inr h22⟩
                    have h22' : (k0 != 22) = false := by simpa using h22
                    clear h21 h22
                    have hcal := HIh.out kids[j] (List.getElem_mem hlt) _ _ true (HW.out _ HB8.out).2 HNd.out (fun _ => HK21.out)
                    generalize hib : isN kids[j] true = ib at *
                    have HIb := hide hib
                    clear hib
                    go_wp2_with fail
                    go_at_call 9
                    refine hcal.mono ?_
                    rintro e wz ⟨rfl, hbz⟩
                    have HBz : Hid (Below W.heap.size W wz) := HB8.out.trans (hbz.mono HB8.out.size)
                    have hxz := HXc.out wz HBz.out
                    clear hbz hcal
                    cases ib with
                    | false =>
                      have HF : Hid (isN (.mk kind text num kids) false = false) := is_kid hlt (fun h => by have h2 := h.2; rw [HFr.out, HIb.out] at h2; cases h2)
                      go_wp2_with fail
                      go_ret
                      exact ⟨by rw [HF.out]; rfl, (HW.out _ HBz.out).1⟩
                    | true =>
                      have HA9 : Hid (∀ i (hi : i < kids.length), i < j + 1 → kidB kind kids.length i kids[i].kind = true ∧ isN kids[i] (freeB kind kids.length i) = true) := fun i hi hij => by
                        by_cases e : i = j
                        · subst e
                          exact ⟨HKb.out, by rw [HFr.out, HIb.out]⟩
                        · exact HAj.out i hi (by omega)
                      go_wp2_with fail
                      go_roundw
                      case rel => exact ⟨j + 1, by omega, by go_num, HBz, HA9⟩
                      case measure => simp [intOf]; omega
                  have h22' : (k0 != 22) = true := by simpa using h22
                  have HKn : Hid (¬ kidB kind kids.length j kids[j].kind = true) := fun h => by have := (HKb0.out.1 h).2.2 hk1; omega
                  clear h21 h22
                  have HF : Hid (isN (.mk kind text num kids) false = false) := is_kid hlt (fun h => HKn.out h.1)
                  go_wp2_with fail
                  go_ret
                  exact ⟨by rw [HF.out]; rfl, (HW.out _ HB8.out).1⟩
                · subst hk1
                  have HFr : Hid (freeB kind kids.length j = false) := hfr0
                  have HKb : Hid (kidB kind kids.length j kids[j].kind = true) := HKb0.out.2 ⟨HCc.out, fun h => absurd h (by decide), fun h => absurd h (by decide)⟩
                  clear hfr0
                  have hcal := HIh.out kids[j] (List.getElem_mem hlt) _ _ false (HW.out _ HB8.out).2 HNd.out (fun h => absurd h (by decide))
                  generalize hib : isN kids[j] false = ib at *
                  have HIb := hide hib
                  clear hib
                  go_wp2_with fail
                  go_at_call 9
                  refine hcal.mono ?_
                  rintro e wz ⟨rfl, hbz⟩
                  have HBz : Hid (Below W.heap.size W wz) := HB8.out.trans (hbz.mono HB8.out.size)
                  have hxz := HXc.out wz HBz.out
                  clear hbz hcal
                  cases ib with
                  | false =>
                    have HF : Hid (isN (.mk kind text num kids) false = false) := is_kid hlt (fun h => by have h2 := h.2; rw [HFr.out, HIb.out] at h2; cases h2)
                    go_wp2_with fail
                    go_ret
                    exact ⟨by rw [HF.out]; rfl, (HW.out _ HBz.out).1⟩
                  | true =>
                    have HA9 : Hid (∀ i (hi : i < kids.length), i < j + 1 → kidB kind kids.length i kids[i].kind = true ∧ isN kids[i] (freeB kind kids.length i) = true) := fun i hi hij => by
                      by_cases e : i = j
                      · subst e
                        exact ⟨HKb.out, by rw [HFr.out, HIb.out]⟩
                      · exact HAj.out i hi (by omega)
                    go_wp2_with fail
                    go_roundw
                    case rel => exact ⟨j + 1, by omega, by go_num, HBz, HA9⟩
                    case measure => simp [intOf]; omega
                · have hk2 : ¬ kd < 0 := by omega
                  have HFr : Hid (freeB kind kids.length j = false) := by show _ = _; rw [hfr0, decide_eq_false hk2]
                  clear hfr0
                  by_cases hkk : k0 = kd
                  · have HKb : Hid (kidB kind kids.length j kids[j].kind = true) := HKb0.out.2 ⟨HCc.out, fun _ => hkk, fun h => absurd h hk2⟩
                    have hkk' : (k0 != kd) = false := by simpa using hkk
                    clear hkk
                    have hcal := HIh.out kids[j] (List.getElem_mem hlt) _ _ false (HW.out _ HB8.out).2 HNd.out (fun h => absurd h (by decide))
                    generalize hib : isN kids[j] false = ib at *
                    have HIb := hide hib
                    clear hib
                    go_wp2_with fail
                    go_at_call 9
                    refine hcal.mono ?_
                    rintro e wz ⟨rfl, hbz⟩
                    have HBz : Hid (Below W.heap.size W wz) := HB8.out.trans (hbz.mono HB8.out.size)
                    have hxz := HXc.out wz HBz.out
                    clear hbz hcal
                    cases ib with
                    | false =>
                      have HF : Hid (isN (.mk kind text num kids) false = false) := is_kid hlt (fun h => by have h2 := h.2; rw [HFr.out, HIb.out] at h2; cases h2)
                      go_wp2_with fail
                      go_ret
                      exact ⟨by rw [HF.out]; rfl, (HW.out _ HBz.out).1⟩
                    | true =>
                      have HA9 : Hid (∀ i (hi : i < kids.length), i < j + 1 → kidB kind kids.length i kids[i].kind = true ∧ isN kids[i] (freeB kind kids.length i) = true) := fun i hi hij => by
                        by_cases e : i = j
                        · subst e
                          exact ⟨HKb.out, by rw [HFr.out, HIb.out]⟩
                        · exact HAj.out i hi (by omega)
                      go_wp2_with fail
                      go_roundw
                      case rel => exact ⟨j + 1, by omega, by go_num, HBz, HA9⟩
                      case measure => simp [intOf]; omega
                  · have HKn : Hid (¬ kidB kind kids.length j kids[j].kind = true) := fun h => hkk ((HKb0.out.1 h).2.1 hk1)
                    have hkk' : (k0 != kd) = true := by simpa using hkk
                    clear hkk
                    have HF : Hid (isN (.mk kind text num kids) false = false) := is_kid hlt (fun h => HKn.out h.1)
                    go_wp2_with fail
                    go_ret
                    exact ⟨by rw [HF.out]; rfl, (HW.out _ HB8.out).1⟩
              · have hcc' : (cl != c) = true := by simpa using hcc
                have HKn : Hid (¬ kidB kind kids.length j kids[j].kind = true) := fun h => hcc (HKb0.out.1 h).1
                clear hcc
                have HF : Hid (isN (.mk kind text num kids) false = false) := is_kid hlt (fun h => HKn.out h.1)
                go_wp2_with fail
                go_ret
                exact ⟨by rw [HF.out]; rfl, (HW.out _ HB8.out).1⟩
            · obtain rfl : j = kids.length := by omega
              have hlt' : ¬ (kids.length : Int) < kids.length := by omega
              have HF : Hid (isN (.mk kind text num kids) false = true) := (isN_iff _ _ _ _ _).2 ⟨HLoc.out, fun i hi => HAj.out i hi hi⟩
              go_wp2_with fail
              go_ret
              exact ⟨by rw [HF.out]; rfl, (HW.out _ HB.out).1⟩
end Go.Proofs.YthcfianhdkolhaaDoor.T
