/- The contract of the reference's Is: by kinds. -/
import Derived.Test.YthcfianhdkolhaaDoorRfE
namespace Go.Proofs.YthcfianhdkolhaaDoor.T
open Go.RowKit Go.Proofs.YthcfianhdkolhaaDoor.S
set_option linter.unusedVariables false
set_option linter.unusedSimpArgs false
set_option maxRecDepth 100000 in
set_option maxHeartbeats 2000000 in
theorem is_k20 {w0 : World} (text : List UInt8) (num : Int) (kids : List Nd) (ih : ∀ x, x ∈ kids → IsR w0 x) (w : World) (v : Value) (hb : Below w0.heap.size w0 w) (hv : NdO w0 (.mk 20 text num kids) v) : Calls Tryd.prog 9 #[v, .bool false] w fun e w' => e = .returned (.bool (isN (.mk 20 text num kids) false)) ∧ Below w.heap.size w w' := by
  obtain ⟨ka, kc, rfl, t1, n1, n2, l1, l2, hR⟩ := hv.part
  have hB0 : Below w.heap.size w (w.alloc (.cells #[.int .i64 20, .string (str text), .int .i64 num, .slice ka kids.length kc] 24)) := (Below.refl _ _).alloc (Nat.le_refl _) _
  have HN0 : Hid ((w.alloc (.cells #[.int .i64 20, .string (str text), .int .i64 num, .slice ka kids.length kc] 24)).heap[w.heap.size]? = some (.cells #[.int .i64 20, .string (str text), .int .i64 num, .slice ka kids.length kc] 24 (0, 0))) := heap_new _ _ _
  have HR := hide hR
  have HIh := hide ih
  have HB0 := hide hB0
  have hnm := fun w => name_any (str text) w t1
  rw [bytes_str] at hnm
  have hte := txt_empty text
  have hof := of_k20 (w.alloc (.cells #[.int .i64 20, .string (str text), .int .i64 num, .slice ka kids.length kc] 24))
  clear hv hR ih hB0
  have hsh : shpN 20 = some (false, 0, 1, 1) := rfl
  go_enter Tryd.func9, Tryd.ntmps9
  go_wp2_with fail
  go_at_call 17
  refine hof.mono ?_
  rintro e w1 ⟨rfl, hb1⟩
  unfold shpV
  simp only
  have HBc : Hid (Below w.heap.size w (w1.alloc (.cells #[.bool false, .int .i64 0, .int .i64 1, .int .i64 1] 41))) := (HB0.out.trans (hb1.mono (by simp))).alloc (Nat.le_trans HB0.out.size (Nat.le_trans hb1.size (Nat.le_refl _))) _
  have HNc : Hid ((w1.alloc (.cells #[.bool false, .int .i64 0, .int .i64 1, .int .i64 1] 41)).heap[w.heap.size]? = some (.cells #[.int .i64 20, .string (str text), .int .i64 num, .slice ka kids.length kc] 24 (0, 0))) := (Below.heap_alloc _ _ _ (by have := hb1.size; simp at this; omega)).trans ((hb1.block w.heap.size (by simp)).trans HN0.out)
  have HSc : Hid ((w1.alloc (.cells #[.bool false, .int .i64 0, .int .i64 1, .int .i64 1] 41)).heap[w1.heap.size]? = some (.cells #[.bool false, .int .i64 0, .int .i64 1, .int .i64 1] 41 (0, 0))) := heap_new _ _ _
  have hn := cells_at HNc.out
  have hs := cells_at HSc.out
  clear hb1 hof
  clear hnm
  by_cases c1 : (kids.length : Int) < 1
  · have HF : Hid (isN (.mk 20 text num kids) false = false) := loc_no hsh (by omega)
    go_wp2_with fail
    go_ret
    exact ⟨by rw [HF.out]; rfl, HBc.out⟩
  by_cases c2 : (1 : Int) < kids.length
  · have HF : Hid (isN (.mk 20 text num kids) false = false) := loc_no hsh (by omega)
    go_wp2_with fail
    go_ret
    exact ⟨by rw [HF.out]; rfl, HBc.out⟩
  by_cases c5 : text = []
  rotate_left
  · rw [decide_eq_false c5] at hte
    have HF : Hid (isN (.mk 20 text num kids) false = false) := loc_no hsh (fun h => c5 (txt_f h.2.1))
    go_wp2_with fail
    go_ret
    exact ⟨by rw [HF.out]; rfl, HBc.out⟩
  rw [decide_eq_true c5] at hte
  have HTx : Hid (text = []) := c5
  clear c5
  by_cases c3 : num < 0
  · have HF : Hid (isN (.mk 20 text num kids) false = false) := loc_no hsh (fun h => by have := h.2.2.1; rw [abs_f] at this; omega)
    go_wp2_with fail
    go_ret
    exact ⟨by rw [HF.out]; rfl, HBc.out⟩
  by_cases c4 : 0 < num
  · have HF : Hid (isN (.mk 20 text num kids) false = false) := loc_no hsh (fun h => by have := h.2.2.1; rw [abs_f] at this; have := this.2.1 (by decide); omega)
    go_wp2_with fail
    go_ret
    exact ⟨by rw [HF.out]; rfl, HBc.out⟩
  obtain ⟨x, r, hkx⟩ : ∃ x r, kids = x :: r := by
    cases kids with
    | nil => simp at c1
    | cons x r => exact ⟨x, r, rfl⟩
  have hR2 := HR.out
  rw [hkx] at hR2
  obtain ⟨ga, oa, ka0, xa, na, aa, ma, ca, rfl, hga, qa0, qa1, qa2, qa3, hnda⟩ := hR2.kid0
  have HKx : Hid (kid0 kids = x) := by show _ = _; rw [hkx]; rfl
  have HXk : Hid (x.kind = ka0) := by
    show _ = _
    cases x with
    | mk a1 a2 a3 a4 =>
      obtain ⟨_, _, hvv, _⟩ := hnda.part
      simp at hvv
      exact hvv.1.symm
  have hbw := hb.trans (HBc.out.mono hb.size)
  have e0 := below_cell hbw qa0
  have e1 := below_cell hbw qa1
  have e2 := below_cell hbw qa2
  have e3 := below_cell hbw qa3
  have hl0 : (0 : Int) < kids.length := by rw [hkx, List.length_cons]; omega
  clear hR2 qa0 qa1 qa2 qa3 hkx hga
  by_cases c7 : ka0 = 25
  rotate_left
  · have c7' : (ka0 != 25) = true := by simpa using c7
    have HF : Hid (isN (.mk 20 text num kids) false = false) := loc_no hsh (fun h => c7 (by have := (h.2.2.2.2.2 rfl).1; rw [HKx.out, HXk.out] at this; exact this))
    clear c7
    go_wp2_with fail
    go_ret
    exact ⟨by rw [HF.out]; rfl, HBc.out⟩
  have c7' : (ka0 != 25) = false := by simpa using c7
  have HC7 := hide c7
  clear c7
  go_wp2_with fail
  go_at_call 20
  refine (base_any true x _ _ hbw hnda).mono ?_
  rintro e w2 ⟨⟨bx, bt, ba, bm, bc, rfl⟩, hb2⟩
  have HBd : Hid (Below w.heap.size w w2) := HBc.out.trans (hb2.mono HBc.out.size)
  have HNd2 : Hid (w2.heap[w.heap.size]? = some (.cells #[.int .i64 20, .string (str text), .int .i64 num, .slice (some ⟨ga, oa, none⟩) kids.length kc] 24 (0, 0))) := (hb2.block _ (Array.getElem?_eq_some_iff.1 HNc.out).1).trans HNc.out
  have hs2 := cells_at ((hb2.block _ (Array.getElem?_eq_some_iff.1 HSc.out).1).trans HSc.out)
  have hn2 := cells_at HNd2.out
  clear hb2 hn hs HBc HNc HSc hbw e0 e1 e2 e3 hnda
  have HBc := HBd
  have HNc := HNd2
  have hn := hn2
  have hs := hs2
  clear HBd HNd2 hn2 hs2
  have hfl : ∀ w : World, (Instr.field 24 (.agg #[.int .i64 (baseN true x), .string bx, .int .i64 bt, .slice ba bm bc]) 0).run Tryd.prog w = .ok (.int .i64 (baseN true x)) w := fun _ => by kernel_rfl
  generalize hbs : baseN true x = bs at *
  have HBs := hide hbs
  clear hbs
  by_cases c6 : bs = 23
  rotate_left
  · have c6' : (bs != 23) = true := by simpa using c6
    have HF : Hid (isN (.mk 20 text num kids) false = false) := loc_no hsh (fun h => c6 (by have := (h.2.2.2.2.2 rfl).2; rw [HKx.out, HBs.out] at this; exact this))
    clear c6
    go_wp2_with fail
    go_ret
    exact ⟨by rw [HF.out]; rfl, HBc.out⟩
  have c6' : (bs != 23) = false := by simpa using c6
  have HLoc : Hid (locN 20 text num kids false = true) := (loc_iff hsh).2 ⟨⟨by omega, fun _ => by omega⟩, by rw [HTx.out]; rfl, by rw [abs_f]; exact ⟨by omega, fun _ => by omega, fun e => absurd e (by decide)⟩, fun e => absurd e (by decide), fun e => absurd e (by decide), fun _ => ⟨by rw [HKx.out, HXk.out]; exact HC7.out, by rw [HKx.out, HBs.out]; exact c6⟩⟩
  clear c6
  go_wp2_with fail
  generalize hWg : w2 = W at *
  clear hWg
  have HW : Hid (∀ w', Below W.heap.size W w' → Below w.heap.size w w' ∧ Below w0.heap.size w0 w') := fun w' hw => ⟨HBc.out.trans (hw.mono HBc.out.size), hb.trans ((HBc.out.trans (hw.mono HBc.out.size)).mono hb.size)⟩
  have HXc : Hid (∀ w', Below W.heap.size W w' → ∀ o, w'.cell? ⟨w.heap.size, o, none⟩ = (#[Value.int .i64 20, .string (str text), .int .i64 num, .slice (some ⟨ga, oa, none⟩) kids.length kc])[o]?) := fun w' hw => cells_at ((hw.block w.heap.size (Array.getElem?_eq_some_iff.1 HNc.out).1).trans HNc.out)
  clear hn hs
  go_loopw [8] (fun i' wr => ∃ j : Nat, j ≤ kids.length ∧ i' = .int .i64 j ∧ Hid (Below W.heap.size W wr) ∧ Hid (∀ i (hi : i < kids.length), i < j → kidB 20 kids.length i kids[i].kind = true ∧ isN kids[i] (freeB 20 kids.length i) = true)) (fun i _ => kids.length - (intOf i).toNat)
  case atStart => exact ⟨0, Nat.zero_le _, rfl, Below.refl _ _, fun i hi h0 => by omega⟩
  case round =>
    obtain ⟨j, hj, rfl, HB, HAj⟩ := hrel
    have hx1 := HXc.out wr HB.out
    by_cases hlt : j < kids.length
    · have hlt' : (j : Int) < kids.length := by omega
      have hidx : (0 : Int) ≤ j ∧ (j : Int) < kids.length := by omega
      obtain ⟨g, o, hgo, hg, hcs⟩ := HR.out (fun e => by rw [e] at hlt; simp at hlt)
      obtain ⟨rfl, rfl⟩ : ga = g ∧ oa = o := by simpa using hgo
      obtain ⟨k0, x0, n0, a0, m9, c0, q0, q1, q2, q3, hnd⟩ := hcs j hlt
      have hbz := (HW.out _ HB.out).2
      have e0 := below_cell hbz q0
      have e1 := below_cell hbz q1
      have e2 := below_cell hbz q2
      have e3 := below_cell hbz q3
      have HNd := hide hnd
      have HKk : Hid (kids[j].kind = k0) := by
        show _ = _
        cases hkj : kids[j] with
        | mk a1 a2 a3 a4 =>
          rw [hkj] at hnd
          obtain ⟨_, _, hvv, _⟩ := hnd.part
          simp at hvv
          exact hvv.1.symm
      have HBk : Hid (Below W.heap.size W (wr.alloc (.cells #[.int .i64 k0, .string x0, .int .i64 n0, .slice a0 m9 c0] 24))) := HB.out.alloc HB.out.size _
      have HNk : Hid ((wr.alloc (.cells #[.int .i64 k0, .string x0, .int .i64 n0, .slice a0 m9 c0] 24)).heap[wr.heap.size]? = some (.cells #[.int .i64 k0, .string x0, .int .i64 n0, .slice a0 m9 c0] 24 (0, 0))) := heap_new _ _ _
      have hxk := HXc.out _ HBk.out
      have hwt := want_any 20 text num (some ⟨ga, oa, none⟩) kids.length kc j hlt (by omega) (wr.alloc (.cells #[.int .i64 k0, .string x0, .int .i64 n0, .slice a0 m9 c0] 24))
      have HKd : Hid (∀ c kd, wantN 20 kids.length j = (c, kd) → ((kidB 20 kids.length j kids[j].kind = true ↔ clsN k0 = c ∧ (0 < kd → k0 = kd) ∧ (kd < 0 → k0 = 21 ∨ k0 = 22)) ∧ freeB 20 kids.length j = decide (kd < 0))) := fun c kd h => by
        unfold kidB freeB
        rw [h, HKk.out]
        exact ⟨decide_eq_true_iff, rfl⟩
      have hww : wantN 20 kids.length j = (4, 0) := rfl
      rw [hww] at hwt
      simp only at hwt
      have hkd2 := HKd.out 4 0 hww
      have HKb0 := hide hkd2.1
      have hfr0 := hkd2.2
      clear q0 q1 q2 q3 hcs hnd hbz hww HKd hkd2
      go_wp2_with fail
      go_at_call 21
      refine hwt.mono ?_
      rintro e w6 ⟨rfl, hb6⟩
      have HB6 : Hid (Below W.heap.size W w6) := HBk.out.trans (hb6.mono HBk.out.size)
      have hn6 := cells_at ((hb6.block _ (Array.getElem?_eq_some_iff.1 HNk.out).1).trans HNk.out)
      have hx6 := HXc.out _ HB6.out
      clear hb6 hwt
      go_wp2_with fail
      go_at_call 22
      refine (class_any k0 w6).mono ?_
      rintro e w7 ⟨rfl, rfl⟩
      have HB8 := HB6
      generalize hcl : clsN k0 = cl at *
      by_cases hcc : cl = 4
      · have hcc' : (cl != 4) = false := by simpa using hcc
        have HCc := hide hcc
        clear hcc
        have HFr : Hid (freeB 20 kids.length j = false) := hfr0
        have HKb : Hid (kidB 20 kids.length j kids[j].kind = true) := HKb0.out.2 ⟨HCc.out, fun h => absurd h (by decide), fun h => absurd h (by decide)⟩
        clear hfr0
        have hcal := HIh.out kids[j] (List.getElem_mem hlt) _ _ false (HW.out _ HB8.out).2 HNd.out (fun h => absurd h (by decide))
        generalize hib : isN kids[j] false = ib at *
        have HIb := hide hib
        clear hib
        go_wp2_with fail
        go_at_call 9
        refine hcal.mono ?_
        rintro e wz ⟨rfl, hbz⟩
        have HBz : Hid (Below W.heap.size W wz) := HB8.out.trans (hbz.mono HB8.out.size)
        have hxz := HXc.out wz HBz.out
        clear hbz hcal
        cases ib with
        | false =>
          have HF : Hid (isN (.mk 20 text num kids) false = false) := is_kid hlt (fun h => by have h2 := h.2; rw [HFr.out, HIb.out] at h2; cases h2)
          go_wp2_with fail
          go_ret
          exact ⟨by rw [HF.out]; rfl, (HW.out _ HBz.out).1⟩
        | true =>
          have HA9 : Hid (∀ i (hi : i < kids.length), i < j + 1 → kidB 20 kids.length i kids[i].kind = true ∧ isN kids[i] (freeB 20 kids.length i) = true) := fun i hi hij => by
            by_cases e : i = j
            · subst e
              exact ⟨HKb.out, by rw [HFr.out, HIb.out]⟩
            · exact HAj.out i hi (by omega)
          go_wp2_with fail
          go_roundw
          case rel => exact ⟨j + 1, by omega, by go_num, HBz, HA9⟩
          case measure => simp [intOf]; omega
      · have hcc' : (cl != 4) = true := by simpa using hcc
        have HKn : Hid (¬ kidB 20 kids.length j kids[j].kind = true) := fun h => hcc (HKb0.out.1 h).1
        clear hcc
        have HF : Hid (isN (.mk 20 text num kids) false = false) := is_kid hlt (fun h => HKn.out h.1)
        go_wp2_with fail
        go_ret
        exact ⟨by rw [HF.out]; rfl, (HW.out _ HB8.out).1⟩
    · obtain rfl : j = kids.length := by omega
      have hlt' : ¬ (kids.length : Int) < kids.length := by omega
      have HF : Hid (isN (.mk 20 text num kids) false = true) := (isN_iff _ _ _ _ _).2 ⟨HLoc.out, fun i hi => HAj.out i hi hi⟩
      go_wp2_with fail
      go_ret
      exact ⟨by rw [HF.out]; rfl, (HW.out _ HB.out).1⟩
end Go.Proofs.YthcfianhdkolhaaDoor.T
