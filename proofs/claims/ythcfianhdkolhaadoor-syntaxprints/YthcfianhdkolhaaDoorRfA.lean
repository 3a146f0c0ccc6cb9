/- The contracts of the reference's Many, Deep, Fits. -/
import Derived.Test.YthcfianhdkolhaaDoorPrO
namespace Go.Proofs.YthcfianhdkolhaaDoor.T
open Go.RowKit Go.Proofs.YthcfianhdkolhaaDoor.S
set_option linter.unusedVariables false
set_option linter.unusedSimpArgs false

def ManyR (n : Nd) (most m : Int) : Prop := ((cnt n : Int) ≤ most → m = cnt n) ∧ (most < cnt n → most < m) ∧ 1 ≤ m ∧ m ≤ most + 1
def DeepR (n : Nd) (most d : Int) : Prop := ((dpt n : Int) ≤ most → d = dpt n) ∧ (most < dpt n → most < d) ∧ 1 ≤ d ∧ d ≤ most + 1
theorem dptL_take {l : List Nd} {j : Nat} (hj : j < l.length) : dptL (l.take (j + 1)) = max (dptL (l.take j)) (dpt l[j]) := by
  have e1 : l.take (j + 1) = l.take j ++ [l[j]] := List.take_succ_eq_append_getElem hj
  have h : ∀ (a : List Nd) (x : Nd), dptL (a ++ [x]) = max (dptL a) (dpt x) := by
    intro a x
    induction a with
    | nil => simp [dptL_cons, dptL_nil]
    | cons y r ih => simp only [List.cons_append, dptL_cons, ih]; omega
  rw [e1, h]
set_option maxRecDepth 100000 in
set_option maxHeartbeats 800000 in
theorem many_step {w0 : World} (kind : Int) (text : List UInt8) (num : Int) (kids : List Nd) (ih : ∀ x, x ∈ kids → ∀ (w : World) (v : Value) (most : Int), Below w0.heap.size w0 w → NdO w0 x v → 0 ≤ most → most ≤ 100000 → Calls Tryd.prog 15 #[v, .int .i64 most] w fun e w' => ∃ m, ManyR x most m ∧ e = .returned (.int .i64 m) ∧ Below w.heap.size w w') : ∀ (w : World) (v : Value) (most : Int), Below w0.heap.size w0 w → NdO w0 (.mk kind text num kids) v → 0 ≤ most → most ≤ 100000 → Calls Tryd.prog 15 #[v, .int .i64 most] w fun e w' => ∃ m, ManyR (.mk kind text num kids) most m ∧ e = .returned (.int .i64 m) ∧ Below w.heap.size w w' := by
  intro w v most hb hv m0 m1
  obtain ⟨ka, kc, rfl, t1, n1, n2, l1, l2, hR⟩ := hv.part
  have hB0 : Below w.heap.size w (w.alloc (.cells #[.int .i64 kind, .string (str text), .int .i64 num, .slice ka kids.length kc] 24)) := (Below.refl _ _).alloc (Nat.le_refl _) _
  have hlen : (kids.length : Int) ≤ 9223372036854775807 := by omega
  have HR := hide hR
  have HIh := hide ih
  have HBa := hide (hb.trans (hB0.mono hb.size))
  have HB0 := hide hB0
  clear hv hR ih hB0
  go_enter Tryd.func15, Tryd.ntmps15
  go_wp2_with fail
  have hx0 : ∀ o, (w.alloc (.cells #[.int .i64 kind, .string (str text), .int .i64 num, .slice ka kids.length kc] 24)).cell? ⟨w.heap.size, o, none⟩ = (#[Value.int .i64 kind, .string (str text), .int .i64 num, .slice ka kids.length kc])[o]? := fun o => World.cell?_alloc_at _ _ _ _ rfl
  have hz0 : (w.alloc (.cells #[.int .i64 kind, .string (str text), .int .i64 num, .slice ka kids.length kc] 24)).heap.size = w.heap.size + 1 := by simp
  generalize w.alloc (.cells #[.int .i64 kind, .string (str text), .int .i64 num, .slice ka kids.length kc] 24) = W at *
  have HW : Hid (∀ w', Below W.heap.size W w' → Below w.heap.size w w' ∧ Below w0.heap.size w0 w') := fun w' hw => ⟨HB0.out.trans (hw.mono (by omega)), HBa.out.trans (hw.mono HBa.out.size)⟩
  have HXc : Hid (∀ w', Below W.heap.size W w' → ∀ o, w'.cell? ⟨w.heap.size, o, none⟩ = (#[Value.int .i64 kind, .string (str text), .int .i64 num, .slice ka kids.length kc])[o]?) := fun w' hw o => (hw.cell (p := ⟨w.heap.size, o, none⟩) (by show w.heap.size < _; omega)).trans (hx0 o)
  clear hz0 hx0
  go_loopw [5, 6] (fun k' i' wr => ∃ (j : Nat) (k : Int), j ≤ kids.length ∧ k' = .int .i64 k ∧ i' = .int .i64 j ∧ 1 ≤ k ∧ k ≤ most + 1 ∧ Hid (((cntL (kids.take j) : Int) + 1 ≤ most → k = cntL (kids.take j) + 1) ∧ (most < cntL (kids.take j) + 1 → most < k)) ∧ Hid (Below W.heap.size W wr)) (fun _ i _ => kids.length - (intOf i).toNat)
  case atStart => exact ⟨0, 1, Nat.zero_le _, rfl, rfl, by omega, by omega, by show _ ∧ _; simp [cntL_nil], Below.refl _ _⟩
  case round =>
    obtain ⟨j, k, hj, rfl, rfl, k0', k1', HM, HB⟩ := hrel
    have hx1 := HXc.out wr HB.out
    by_cases hlt : j < kids.length
    · have hlt' : (j : Int) < kids.length := by omega
      have hidx : (0 : Int) ≤ j ∧ (j : Int) < kids.length := by omega
      have HCt := hide (cntL_take hlt)
      by_cases hk : k ≤ most
      · have hw1 : IntKind.i64.wrap (most - k) = most - k := by rw [IntKind.wrap_i64]; omega
        obtain ⟨g, o, rfl, hg, hcs⟩ := HR.out (fun e => by rw [e] at hlt; simp at hlt)
        obtain ⟨k0, x0, n0, a0, m9, c0, q0, q1, q2, q3, hnd⟩ := hcs j hlt
        have hbz := (HW.out _ HB.out).2
        have e0 := below_cell hbz q0
        have e1 := below_cell hbz q1
        have e2 := below_cell hbz q2
        have e3 := below_cell hbz q3
        have hcal := HIh.out kids[j] (List.getElem_mem hlt) wr _ (most - k) hbz hnd (by omega) (by omega)
        clear q0 q1 q2 q3 hcs hnd hbz
        go_wp2_with fail
        go_at_call 15
        refine hcal.mono ?_
        rintro e w9 ⟨mm, hmm, rfl, hb9⟩
        have HB9 : Hid (Below W.heap.size W w9) := HB.out.trans (hb9.mono HB.out.size)
        have hm2 := hmm.2.2
        have HMm := hide hmm
        have hx2 := HXc.out w9 HB9.out
        clear hb9 hcal hmm
        have hadd : IntKind.i64.wrap (k + mm) = k + mm := by rw [IntKind.wrap_i64]; omega
        have HM9 : Hid (((cntL (kids.take (j + 1)) : Int) + 1 ≤ most → k + mm = cntL (kids.take (j + 1)) + 1) ∧ (most < cntL (kids.take (j + 1)) + 1 → most < k + mm)) := by
          show _ ∧ _
          have h1 := HM.out
          have h2 := HMm.out
          have h3 := HCt.out.1
          unfold ManyR at h2
          have h4 := cnt_pos kids[j]
          constructor <;> intro h5 <;> omega
        go_wp2_with fail
        go_roundw
        case rel => exact ⟨j + 1, k + mm, by omega, rfl, by go_num, by omega, by omega, HM9, HB9⟩
        case measure => simp [intOf]; omega
      · have hk' : ¬ k ≤ most := hk
        have HRe : Hid (ManyR (.mk kind text num kids) most k) := by
          have h1 := HM.out
          have h3 := HCt.out
          have h6 := cnt_mk kind text num kids
          refine ⟨fun h5 => ?_, fun _ => by omega, k0', k1'⟩
          rw [h6] at h5 ⊢
          have h7 := cnt_pos kids[j]
          omega
        go_wp2_with fail
        go_ret
        exact ⟨k, HRe.out, rfl, (HW.out _ HB.out).1⟩
    · obtain rfl : j = kids.length := by omega
      have hlt' : ¬ (kids.length : Int) < kids.length := by omega
      have HRe : Hid (ManyR (.mk kind text num kids) most k) := by
        have h1 := HM.out
        rw [List.take_length] at h1
        have h6 := cnt_mk kind text num kids
        refine ⟨fun h5 => ?_, fun h5 => ?_, k0', k1'⟩
        · rw [h6] at h5 ⊢; omega
        · rw [h6] at h5; omega
      go_wp2_with fail
      go_ret
      exact ⟨k, HRe.out, rfl, (HW.out _ HB.out).1⟩
theorem many_any {w0 : World} : ∀ n, ∀ (w : World) (v : Value) (most : Int), Below w0.heap.size w0 w → NdO w0 n v → 0 ≤ most → most ≤ 100000 → Calls Tryd.prog 15 #[v, .int .i64 most] w fun e w' => ∃ m, ManyR n most m ∧ e = .returned (.int .i64 m) ∧ Below w.heap.size w w' := by
  refine Nd.ind fun k t v kids ih => ?_
  exact many_step k t v kids ih
set_option maxRecDepth 100000 in
set_option maxHeartbeats 800000 in
theorem deep_step {w0 : World} (kind : Int) (text : List UInt8) (num : Int) (kids : List Nd) (ih : ∀ x, x ∈ kids → ∀ (w : World) (v : Value) (most : Int), Below w0.heap.size w0 w → NdO w0 x v → 0 ≤ most → most ≤ 100000 → Calls Tryd.prog 16 #[v, .int .i64 most] w fun e w' => ∃ m, DeepR x most m ∧ e = .returned (.int .i64 m) ∧ Below w.heap.size w w') : ∀ (w : World) (v : Value) (most : Int), Below w0.heap.size w0 w → NdO w0 (.mk kind text num kids) v → 0 ≤ most → most ≤ 100000 → Calls Tryd.prog 16 #[v, .int .i64 most] w fun e w' => ∃ m, DeepR (.mk kind text num kids) most m ∧ e = .returned (.int .i64 m) ∧ Below w.heap.size w w' := by
  intro w v most hb hv m0 m1
  by_cases hm0 : most = 0
  · subst hm0
    obtain ⟨ka, kc, rfl, t1, n1, n2, l1, l2, hR⟩ := hv.part
    have HB0 : Hid (Below w.heap.size w (w.alloc (.cells #[.int .i64 kind, .string (str text), .int .i64 num, .slice ka kids.length kc] 24))) := (Below.refl _ _).alloc (Nat.le_refl _) _
    have HRe : Hid (DeepR (.mk kind text num kids) 0 1) := by
      have := dpt_pos (.mk kind text num kids)
      exact ⟨fun h => by omega, fun _ => by omega, by omega, by omega⟩
    clear hv hR ih
    have hlen : (kids.length : Int) ≤ 9223372036854775807 := by omega
    by_cases hl : 0 < kids.length
    · have hl' : (0 : Int) < kids.length := by omega
      go_enter Tryd.func16, Tryd.ntmps16
      go_wp2_with fail
      go_loopw [5, 6] (fun d i' wr => d = .int .i64 0 ∧ i' = .int .i64 0 ∧ wr = w.alloc (.cells #[.int .i64 kind, .string (str text), .int .i64 num, .slice ka kids.length kc] 24)) (fun _ _ _ => 0)
      case atStart => exact ⟨rfl, rfl, rfl⟩
      case round =>
        obtain ⟨rfl, rfl, rfl⟩ := hrel
        go_wp2_with fail
        go_ret
        exact ⟨1, HRe.out, rfl, HB0.out⟩
    · have hl' : ¬ (0 : Int) < kids.length := by omega
      go_enter Tryd.func16, Tryd.ntmps16
      go_wp2_with fail
      go_loopw [5, 6] (fun d i' wr => d = .int .i64 0 ∧ i' = .int .i64 0 ∧ wr = w.alloc (.cells #[.int .i64 kind, .string (str text), .int .i64 num, .slice ka kids.length kc] 24)) (fun _ _ _ => 0)
      case atStart => exact ⟨rfl, rfl, rfl⟩
      case round =>
        obtain ⟨rfl, rfl, rfl⟩ := hrel
        go_wp2_with fail
        go_ret
        exact ⟨1, HRe.out, rfl, HB0.out⟩
  have hmp : (0 : Int) < most := by omega
  obtain ⟨ka, kc, rfl, t1, n1, n2, l1, l2, hR⟩ := hv.part
  have hB0 : Below w.heap.size w (w.alloc (.cells #[.int .i64 kind, .string (str text), .int .i64 num, .slice ka kids.length kc] 24)) := (Below.refl _ _).alloc (Nat.le_refl _) _
  have hlen : (kids.length : Int) ≤ 9223372036854775807 := by omega
  have HR := hide hR
  have HIh := hide ih
  have HBa := hide (hb.trans (hB0.mono hb.size))
  have HB0 := hide hB0
  clear hv hR ih hB0
  go_enter Tryd.func16, Tryd.ntmps16
  go_wp2_with fail
  have hx0 : ∀ o, (w.alloc (.cells #[.int .i64 kind, .string (str text), .int .i64 num, .slice ka kids.length kc] 24)).cell? ⟨w.heap.size, o, none⟩ = (#[Value.int .i64 kind, .string (str text), .int .i64 num, .slice ka kids.length kc])[o]? := fun o => World.cell?_alloc_at _ _ _ _ rfl
  have hz0 : (w.alloc (.cells #[.int .i64 kind, .string (str text), .int .i64 num, .slice ka kids.length kc] 24)).heap.size = w.heap.size + 1 := by simp
  generalize w.alloc (.cells #[.int .i64 kind, .string (str text), .int .i64 num, .slice ka kids.length kc] 24) = W at *
  have HW : Hid (∀ w', Below W.heap.size W w' → Below w.heap.size w w' ∧ Below w0.heap.size w0 w') := fun w' hw => ⟨HB0.out.trans (hw.mono (by omega)), HBa.out.trans (hw.mono HBa.out.size)⟩
  have HXc : Hid (∀ w', Below W.heap.size W w' → ∀ o, w'.cell? ⟨w.heap.size, o, none⟩ = (#[Value.int .i64 kind, .string (str text), .int .i64 num, .slice ka kids.length kc])[o]?) := fun w' hw o => (hw.cell (p := ⟨w.heap.size, o, none⟩) (by show w.heap.size < _; omega)).trans (hx0 o)
  clear hz0 hx0
  go_loopw [5, 6] (fun d' i' wr => ∃ (j : Nat) (d : Int), j ≤ kids.length ∧ d' = .int .i64 d ∧ i' = .int .i64 j ∧ 0 ≤ d ∧ d ≤ most ∧ Hid (((dptL (kids.take j) : Int) ≤ most - 1 → d = dptL (kids.take j)) ∧ (most - 1 < dptL (kids.take j) → most - 1 < d)) ∧ Hid (Below W.heap.size W wr)) (fun _ i _ => kids.length - (intOf i).toNat)
  case atStart => exact ⟨0, 0, Nat.zero_le _, rfl, rfl, by omega, by omega, by show _ ∧ _; simp [dptL_nil], Below.refl _ _⟩
  case round =>
    obtain ⟨j, d, hj, rfl, rfl, d0', d1', HM, HB⟩ := hrel
    have hx1 := HXc.out wr HB.out
    by_cases hlt : j < kids.length
    · have hlt' : (j : Int) < kids.length := by omega
      have hidx : (0 : Int) ≤ j ∧ (j : Int) < kids.length := by omega
      have HCt := hide (dptL_take hlt)
      have hw1 : IntKind.i64.wrap (most - 1) = most - 1 := by rw [IntKind.wrap_i64]; omega
      obtain ⟨g, o, rfl, hg, hcs⟩ := HR.out (fun e => by rw [e] at hlt; simp at hlt)
      obtain ⟨k0, x0, n0, a0, m9, c0, q0, q1, q2, q3, hnd⟩ := hcs j hlt
      have hbz := (HW.out _ HB.out).2
      have e0 := below_cell hbz q0
      have e1 := below_cell hbz q1
      have e2 := below_cell hbz q2
      have e3 := below_cell hbz q3
      have hcal := HIh.out kids[j] (List.getElem_mem hlt) wr _ (most - 1) hbz hnd (by omega) (by omega)
      clear q0 q1 q2 q3 hcs hnd hbz
      go_wp2_with fail
      go_at_call 16
      refine hcal.mono ?_
      rintro e w9 ⟨mm, hmm, rfl, hb9⟩
      have HB9 : Hid (Below W.heap.size W w9) := HB.out.trans (hb9.mono HB.out.size)
      have hm2 := hmm.2.2
      have HMm := hide hmm
      have hx2 := HXc.out w9 HB9.out
      clear hb9 hcal hmm
      have HM9 : Hid (((dptL (kids.take (j + 1)) : Int) ≤ most - 1 → max d mm = dptL (kids.take (j + 1))) ∧ (most - 1 < dptL (kids.take (j + 1)) → most - 1 < max d mm)) := by
        show _ ∧ _
        have h1 := HM.out
        have h2 := HMm.out
        have h3 := HCt.out
        unfold DeepR at h2
        constructor <;> intro h5 <;> omega
      have hmx : 0 ≤ max d mm ∧ max d mm ≤ most := by omega
      go_wp2_with fail
      go_roundw
      case rel => exact ⟨j + 1, max d mm, by omega, rfl, by go_num, hmx.1, hmx.2, HM9, HB9⟩
      case measure => simp [intOf]; omega
    · obtain rfl : j = kids.length := by omega
      have hlt' : ¬ (kids.length : Int) < kids.length := by omega
      have hadd : IntKind.i64.wrap (d + 1) = d + 1 := by rw [IntKind.wrap_i64]; omega
      have HRe : Hid (DeepR (.mk kind text num kids) most (d + 1)) := by
        have h1 := HM.out
        rw [List.take_length] at h1
        have h6 := dpt_mk kind text num kids
        refine ⟨fun h5 => ?_, fun h5 => ?_, by omega, by omega⟩
        · rw [h6] at h5 ⊢; omega
        · rw [h6] at h5; omega
      go_wp2_with fail
      go_ret
      exact ⟨d + 1, HRe.out, rfl, (HW.out _ HB.out).1⟩
theorem deep_any {w0 : World} : ∀ n, ∀ (w : World) (v : Value) (most : Int), Below w0.heap.size w0 w → NdO w0 n v → 0 ≤ most → most ≤ 100000 → Calls Tryd.prog 16 #[v, .int .i64 most] w fun e w' => ∃ m, DeepR n most m ∧ e = .returned (.int .i64 m) ∧ Below w.heap.size w w' := by
  refine Nd.ind fun k t v kids ih => ?_
  exact deep_step k t v kids ih
set_option maxRecDepth 100000 in
set_option maxHeartbeats 800000 in
theorem rfits_any {w0 w : World} (hb : Below w0.heap.size w0 w) (n : Nd) (v : Value) (hv : NdO w0 n v) : Calls Tryd.prog 8 #[v] w fun e w' => e = .returned (.bool (fitB n)) ∧ Below w.heap.size w w' := by
  have HV := hide hv
  obtain ⟨kind, text, num, ka, kn, kc, rfl⟩ := hv.form
  have hB0 : Below w.heap.size w (w.alloc (.cells #[.int .i64 kind, .string text, .int .i64 num, .slice ka kn kc] 24)) := (Below.refl _ _).alloc (Nat.le_refl _) _
  have HN0 : Hid ((w.alloc (.cells #[.int .i64 kind, .string text, .int .i64 num, .slice ka kn kc] 24)).heap[w.heap.size]? = some (.cells #[.int .i64 kind, .string text, .int .i64 num, .slice ka kn kc] 24 (0, 0))) := heap_new _ _ _
  have hma := many_any n _ _ 700 (hb.trans (hB0.mono hb.size)) hv (by decide) (by decide)
  have HDe : Hid (∀ w', Below w0.heap.size w0 w' → Calls Tryd.prog 16 #[.agg #[.int .i64 kind, .string text, .int .i64 num, .slice ka kn kc], .int .i64 16] w' fun e w'' => ∃ m, DeepR n 16 m ∧ e = .returned (.int .i64 m) ∧ Below w'.heap.size w' w'') := fun w' hw => deep_any n w' _ 16 hw hv (by decide) (by decide)
  have HBb := hide hb
  have HB0 := hide hB0
  clear hv hB0 hb
  go_enter Tryd.func8, Tryd.ntmps8
  go_wp2_with fail
  go_at_call 15
  refine hma.mono ?_
  rintro e w1 ⟨m, hm, rfl, hb1⟩
  have HB1 := hide (HB0.out.trans (hb1.mono (by simp)))
  have hn1 := cells_at ((hb1.block w.heap.size (by simp)).trans HN0.out)
  clear hma hb1
  by_cases h7 : cnt n ≤ 700
  · have hme : m = cnt n := hm.1 (by omega)
    have h7' : ¬ 700 < m := by omega
    clear hm
    have HC := hide h7
    have hde := HDe.out w1 (HBb.out.trans (HB1.out.mono HBb.out.size))
    go_wp2_with fail
    go_at_call 16
    refine hde.mono ?_
    rintro e w2 ⟨d, hd, rfl, hb2⟩
    have HB2 := hide (HB1.out.trans (hb2.mono HB1.out.size))
    have HF : Hid (fitB n = decide (d ≤ 16)) := by
      show _ = _
      unfold fitB
      unfold DeepR at hd
      have := HC.out
      by_cases h : dpt n ≤ 16
      · rw [decide_eq_true ⟨this, h⟩, decide_eq_true (by omega)]
      · rw [decide_eq_false (fun x => h x.2), decide_eq_false (by omega)]
    clear hd hb2 hde hn1
    go_wp2_with fail
    go_ret
    exact ⟨by rw [HF.out]; rfl, HB2.out⟩
  · have hme : 700 < m := hm.2.1 (by omega)
    have HF : Hid (fitB n = false) := decide_eq_false (fun x => h7 x.1)
    clear hm
    go_wp2_with fail
    go_ret
    exact ⟨by rw [HF.out]; rfl, HB1.out⟩
end Go.Proofs.YthcfianhdkolhaaDoor.T
