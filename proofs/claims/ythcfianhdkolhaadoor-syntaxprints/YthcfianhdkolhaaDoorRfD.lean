/- The contract of the reference's base. -/
import Derived.Test.YthcfianhdkolhaaDoorRfC
import Derived.Test.YthcfianhdkolhaaDoorRfB
namespace Go.Proofs.YthcfianhdkolhaaDoor.T
open Go.RowKit Go.Proofs.YthcfianhdkolhaaDoor.S
set_option linter.unusedVariables false
set_option linter.unusedSimpArgs false

theorem info24 : (Tryd.prog.info? 24).map (·.size) = some 4 := by kernel_rfl
theorem load24 {w : World} {b : Nat} {x y z u : Value} (h : w.heap[b]? = some (.cells #[x, y, z, u] 24 (0, 0))) : (loadVar 24 ⟨b, 0, none⟩).run Tryd.prog w = .ok (.agg #[x, y, z, u]) w :=
  run_loadVar_mid w b 0 24 [x, y, z, u] _ (fun i v hv => by rw [Nat.zero_add, cells_at h]; simpa using hv) Tryd.underlying24 rfl info24
theorem set24 {w : World} {b : Nat} {c0 c1 c2 c3 : Value} (a0 a1 a2 a3 : Value) (h : w.heap[b]? = some (.cells #[c0, c1, c2, c3] 24 (0, 0))) : ((((w.setCell ⟨b, 0, none⟩ a0).setCell ⟨b, 1, none⟩ a1).setCell ⟨b, 2, none⟩ a2).setCell ⟨b, 3, none⟩ a3).heap[b]? = some (.cells #[a0, a1, a2, a3] 24 (0, 0)) := by
  have k0 : (w.setCell ⟨b, 0, none⟩ a0).heap[b]? = some (.cells #[a0, c1, c2, c3] 24 (0, 0)) := (heap_setCell_same w b 0 _ 24 _ h).trans rfl
  have k1 : ((w.setCell ⟨b, 0, none⟩ a0).setCell ⟨b, 1, none⟩ a1).heap[b]? = some (.cells #[a0, a1, c2, c3] 24 (0, 0)) := (heap_setCell_same _ b 1 _ 24 _ k0).trans rfl
  have k2 : (((w.setCell ⟨b, 0, none⟩ a0).setCell ⟨b, 1, none⟩ a1).setCell ⟨b, 2, none⟩ a2).heap[b]? = some (.cells #[a0, a1, a2, c3] 24 (0, 0)) := (heap_setCell_same _ b 2 _ 24 _ k1).trans rfl
  exact (heap_setCell_same _ b 3 _ 24 _ k2).trans rfl
/-- What base is to answer. -/
def BaseN (w0 : World) (calls : Bool) (n : Nd) : Prop := ∀ (w : World) (v : Value), Below w0.heap.size w0 w → NdO w0 n v → Calls Tryd.prog 20 #[v, .bool calls] w fun e w' => (∃ x t a m c, e = .returned (.agg #[.int .i64 (baseN calls n), .string x, .int .i64 t, .slice a m c])) ∧ Below w.heap.size w w'
set_option maxRecDepth 100000 in
set_option maxHeartbeats 800000 in
theorem base_false {w0 : World} (kind : Int) (text : List UInt8) (num : Int) (kids : List Nd) (ih : ∀ x, x ∈ kids → BaseN w0 false x) : BaseN w0 false (.mk kind text num kids) := by
  intro w v hb hv
  obtain ⟨ka, kc, rfl, t1, n1, n2, l1, l2, hR⟩ := hv.part
  have hB0 : Below w.heap.size w (w.alloc (.cells #[.int .i64 kind, .string (str text), .int .i64 num, .slice ka kids.length kc] 24)) := (Below.refl _ _).alloc (Nat.le_refl _) _
  clear hv
  cases kids with
  | nil =>
    simp only [List.length_nil] at hB0 l1 ⊢
    have HBs : Hid (baseN false (.mk kind text num []) = kind) := by show _ = _; simp [baseN, baseL]
    have HB : Hid (Below w.heap.size w ((w.alloc (.cells #[.int .i64 kind, .string (str text), .int .i64 num, .slice ka 0 kc] 24)).alloc (.cells #[.int .i64 kind, .string (str text), .int .i64 num, .slice ka 0 kc] 24))) := hB0.alloc (by simp) _
    have HN : Hid (((w.alloc (.cells #[.int .i64 kind, .string (str text), .int .i64 num, .slice ka 0 kc] 24)).alloc (.cells #[.int .i64 kind, .string (str text), .int .i64 num, .slice ka 0 kc] 24)).heap[w.heap.size + 1]? = some (.cells #[.int .i64 kind, .string (str text), .int .i64 num, .slice ka 0 kc] 24 (0, 0))) := by
      have := heap_new (w.alloc (.cells #[.int .i64 kind, .string (str text), .int .i64 num, .slice ka 0 kc] 24)) #[.int .i64 kind, .string (str text), .int .i64 num, .slice ka 0 kc] 24
      rw [show (w.alloc (.cells #[.int .i64 kind, .string (str text), .int .i64 num, .slice ka 0 kc] 24)).heap.size = w.heap.size + 1 by simp] at this
      exact this
    clear hB0 hR ih
    go_enter Tryd.func20, Tryd.ntmps20
    go_wp2_with fail
    refine bodyPost_ret (results_cell rfl _ rfl _ (load24 HN.out)) rfl ?_
    exact ⟨⟨_, _, _, _, _, by rw [HBs.out]⟩, HB.out⟩
  | cons x r =>
    have hlk : ((x :: r).length : Int) ≤ 9223372036854775807 := by omega
    simp only [List.length_cons] at hB0 l1 hlk ⊢
    by_cases k24 : kind = 24
    · subst k24
      obtain ⟨ga, oa, ka0, xa, na, aa, ma, ca, rfl, hga, qa0, qa1, qa2, qa3, hnda⟩ := hR.kid0
      have hl : (0 : Int) < (r.length : Int) + 1 := by omega
      have hB1 : Below w.heap.size w ((w.alloc (.cells #[.int .i64 24, .string (str text), .int .i64 num, .slice (some ⟨ga, oa, none⟩) (r.length + 1) kc] 24)).alloc (.cells #[.int .i64 0, .string ⟨#[]⟩, .int .i64 0, .slice none 0 0] 24)) := ((Below.refl _ _).alloc (Nat.le_refl _) _).alloc (by simp) _
      have hb1 := hb.trans (hB1.mono hb.size)
      have e0 := below_cell hb1 qa0
      have e1 := below_cell hb1 qa1
      have e2 := below_cell hb1 qa2
      have e3 := below_cell hb1 qa3
      have hcal := ih x (by simp) _ _ hb1 hnda
      have HBs : Hid (baseN false (.mk 24 text num (x :: r)) = baseN false x) := by show _ = _; simp [baseN, baseL]
      have HY : Hid (((w.alloc (.cells #[.int .i64 24, .string (str text), .int .i64 num, .slice (some ⟨ga, oa, none⟩) (r.length + 1) kc] 24)).alloc (.cells #[.int .i64 0, .string ⟨#[]⟩, .int .i64 0, .slice none 0 0] 24)).heap[w.heap.size + 1]? = some (.cells #[.int .i64 0, .string ⟨#[]⟩, .int .i64 0, .slice none 0 0] 24 (0, 0))) := by
        have := heap_new (w.alloc (.cells #[.int .i64 24, .string (str text), .int .i64 num, .slice (some ⟨ga, oa, none⟩) (r.length + 1) kc] 24)) #[.int .i64 0, .string ⟨#[]⟩, .int .i64 0, .slice none 0 0] 24
        rw [show (w.alloc (.cells #[.int .i64 24, .string (str text), .int .i64 num, .slice (some ⟨ga, oa, none⟩) (r.length + 1) kc] 24)).heap.size = w.heap.size + 1 by simp] at this
        exact this
      have HB1 := hide hB1
      have hgw : ga < w.heap.size := by have := hb.size; omega
      clear qa0 qa1 qa2 qa3 hnda hR hB1 hb1
      go_enter Tryd.func20, Tryd.ntmps20
      go_wp2_with fail
      go_at_call 20
      refine hcal.mono ?_
      rintro e w2 ⟨⟨xx, tt, aa2, mm2, cc2, rfl⟩, hb2⟩
      generalize hbb : baseN false x = bb at *
      have hy2 : w2.heap[w.heap.size + 1]? = some (.cells #[.int .i64 0, .string ⟨#[]⟩, .int .i64 0, .slice none 0 0] 24 (0, 0)) := (hb2.block _ (Array.getElem?_eq_some_iff.1 HY.out).1).trans HY.out
      have hc2 := cells_at hy2
      have hf2 := frozen_at hy2
      have HN := hide (set24 (.int .i64 bb) (.string xx) (.int .i64 tt) (.slice aa2 mm2 cc2) hy2)
      have HB : Hid (Below w.heap.size w ((((w2.setCell ⟨w.heap.size + 1, 0, none⟩ (.int .i64 bb)).setCell ⟨w.heap.size + 1, 1, none⟩ (.string xx)).setCell ⟨w.heap.size + 1, 2, none⟩ (.int .i64 tt)).setCell ⟨w.heap.size + 1, 3, none⟩ (.slice aa2 mm2 cc2))) := by
        have hb := HB1.out.trans (hb2.mono (by simp; omega))
        exact (((hb.setCell (show w.heap.size ≤ w.heap.size + 1 by omega) _).setCell (show w.heap.size ≤ w.heap.size + 1 by omega) _).setCell (show w.heap.size ≤ w.heap.size + 1 by omega) _).setCell (show w.heap.size ≤ w.heap.size + 1 by omega) _
      clear hy2 hb2 hcal hbb
      go_wp2_with fail
      refine bodyPost_ret (results_cell rfl _ rfl _ (load24 HN.out)) rfl ?_
      exact ⟨⟨_, _, _, _, _, by rw [HBs.out]⟩, HB.out⟩
    have k24' : (kind == 24) = false := by simpa using k24
    have HBs : Hid (baseN false (.mk kind text num (x :: r)) = kind) := by show _ = _; simp [baseN, k24]
    have HB : Hid (Below w.heap.size w ((w.alloc (.cells #[.int .i64 kind, .string (str text), .int .i64 num, .slice ka (r.length + 1) kc] 24)).alloc (.cells #[.int .i64 kind, .string (str text), .int .i64 num, .slice ka (r.length + 1) kc] 24))) := hB0.alloc (by simp) _
    have HN : Hid (((w.alloc (.cells #[.int .i64 kind, .string (str text), .int .i64 num, .slice ka (r.length + 1) kc] 24)).alloc (.cells #[.int .i64 kind, .string (str text), .int .i64 num, .slice ka (r.length + 1) kc] 24)).heap[w.heap.size + 1]? = some (.cells #[.int .i64 kind, .string (str text), .int .i64 num, .slice ka (r.length + 1) kc] 24 (0, 0))) := by
      have := heap_new (w.alloc (.cells #[.int .i64 kind, .string (str text), .int .i64 num, .slice ka (r.length + 1) kc] 24)) #[.int .i64 kind, .string (str text), .int .i64 num, .slice ka (r.length + 1) kc] 24
      rw [show (w.alloc (.cells #[.int .i64 kind, .string (str text), .int .i64 num, .slice ka (r.length + 1) kc] 24)).heap.size = w.heap.size + 1 by simp] at this
      exact this
    have hl : (0 : Int) < (r.length : Int) + 1 := by omega
    clear hB0 hR ih k24
    go_enter Tryd.func20, Tryd.ntmps20
    go_wp2_with fail
    refine bodyPost_ret (results_cell rfl _ rfl _ (load24 HN.out)) rfl ?_
    exact ⟨⟨_, _, _, _, _, by rw [HBs.out]⟩, HB.out⟩
set_option maxRecDepth 100000 in
set_option maxHeartbeats 800000 in
theorem base_true {w0 : World} (kind : Int) (text : List UInt8) (num : Int) (kids : List Nd) (ih : ∀ x, x ∈ kids → BaseN w0 true x) : BaseN w0 true (.mk kind text num kids) := by
  intro w v hb hv
  obtain ⟨ka, kc, rfl, t1, n1, n2, l1, l2, hR⟩ := hv.part
  have hB0 : Below w.heap.size w (w.alloc (.cells #[.int .i64 kind, .string (str text), .int .i64 num, .slice ka kids.length kc] 24)) := (Below.refl _ _).alloc (Nat.le_refl _) _
  clear hv
  cases kids with
  | nil =>
    simp only [List.length_nil] at hB0 l1 ⊢
    have HBs : Hid (baseN true (.mk kind text num []) = kind) := by show _ = _; simp [baseN, baseL]
    have HB : Hid (Below w.heap.size w ((w.alloc (.cells #[.int .i64 kind, .string (str text), .int .i64 num, .slice ka 0 kc] 24)).alloc (.cells #[.int .i64 kind, .string (str text), .int .i64 num, .slice ka 0 kc] 24))) := hB0.alloc (by simp) _
    have HN : Hid (((w.alloc (.cells #[.int .i64 kind, .string (str text), .int .i64 num, .slice ka 0 kc] 24)).alloc (.cells #[.int .i64 kind, .string (str text), .int .i64 num, .slice ka 0 kc] 24)).heap[w.heap.size + 1]? = some (.cells #[.int .i64 kind, .string (str text), .int .i64 num, .slice ka 0 kc] 24 (0, 0))) := by
      have := heap_new (w.alloc (.cells #[.int .i64 kind, .string (str text), .int .i64 num, .slice ka 0 kc] 24)) #[.int .i64 kind, .string (str text), .int .i64 num, .slice ka 0 kc] 24
      rw [show (w.alloc (.cells #[.int .i64 kind, .string (str text), .int .i64 num, .slice ka 0 kc] 24)).heap.size = w.heap.size + 1 by simp] at this
      exact this
    clear hB0 hR ih
    go_enter Tryd.func20, Tryd.ntmps20
    go_wp2_with fail
    refine bodyPost_ret (results_cell rfl _ rfl _ (load24 HN.out)) rfl ?_
    exact ⟨⟨_, _, _, _, _, by rw [HBs.out]⟩, HB.out⟩
  | cons x r =>
    have hlk : ((x :: r).length : Int) ≤ 9223372036854775807 := by omega
    simp only [List.length_cons] at hB0 l1 hlk ⊢
    by_cases k24 : kind = 24
    · subst k24
      obtain ⟨ga, oa, ka0, xa, na, aa, ma, ca, rfl, hga, qa0, qa1, qa2, qa3, hnda⟩ := hR.kid0
      have hl : (0 : Int) < (r.length : Int) + 1 := by omega
      have hB1 : Below w.heap.size w ((w.alloc (.cells #[.int .i64 24, .string (str text), .int .i64 num, .slice (some ⟨ga, oa, none⟩) (r.length + 1) kc] 24)).alloc (.cells #[.int .i64 0, .string ⟨#[]⟩, .int .i64 0, .slice none 0 0] 24)) := ((Below.refl _ _).alloc (Nat.le_refl _) _).alloc (by simp) _
      have hb1 := hb.trans (hB1.mono hb.size)
      have e0 := below_cell hb1 qa0
      have e1 := below_cell hb1 qa1
      have e2 := below_cell hb1 qa2
      have e3 := below_cell hb1 qa3
      have hcal := ih x (by simp) _ _ hb1 hnda
      have HBs : Hid (baseN true (.mk 24 text num (x :: r)) = baseN true x) := by show _ = _; simp [baseN, baseL]
      have HY : Hid (((w.alloc (.cells #[.int .i64 24, .string (str text), .int .i64 num, .slice (some ⟨ga, oa, none⟩) (r.length + 1) kc] 24)).alloc (.cells #[.int .i64 0, .string ⟨#[]⟩, .int .i64 0, .slice none 0 0] 24)).heap[w.heap.size + 1]? = some (.cells #[.int .i64 0, .string ⟨#[]⟩, .int .i64 0, .slice none 0 0] 24 (0, 0))) := by
        have := heap_new (w.alloc (.cells #[.int .i64 24, .string (str text), .int .i64 num, .slice (some ⟨ga, oa, none⟩) (r.length + 1) kc] 24)) #[.int .i64 0, .string ⟨#[]⟩, .int .i64 0, .slice none 0 0] 24
        rw [show (w.alloc (.cells #[.int .i64 24, .string (str text), .int .i64 num, .slice (some ⟨ga, oa, none⟩) (r.length + 1) kc] 24)).heap.size = w.heap.size + 1 by simp] at this
        exact this
      have HB1 := hide hB1
      have hgw : ga < w.heap.size := by have := hb.size; omega
      clear qa0 qa1 qa2 qa3 hnda hR hB1 hb1
      go_enter Tryd.func20, Tryd.ntmps20
      go_wp2_with fail
      go_at_call 20
      refine hcal.mono ?_
      rintro e w2 ⟨⟨xx, tt, aa2, mm2, cc2, rfl⟩, hb2⟩
      generalize hbb : baseN true x = bb at *
      have hy2 : w2.heap[w.heap.size + 1]? = some (.cells #[.int .i64 0, .string ⟨#[]⟩, .int .i64 0, .slice none 0 0] 24 (0, 0)) := (hb2.block _ (Array.getElem?_eq_some_iff.1 HY.out).1).trans HY.out
      have hc2 := cells_at hy2
      have hf2 := frozen_at hy2
      have HN := hide (set24 (.int .i64 bb) (.string xx) (.int .i64 tt) (.slice aa2 mm2 cc2) hy2)
      have HB : Hid (Below w.heap.size w ((((w2.setCell ⟨w.heap.size + 1, 0, none⟩ (.int .i64 bb)).setCell ⟨w.heap.size + 1, 1, none⟩ (.string xx)).setCell ⟨w.heap.size + 1, 2, none⟩ (.int .i64 tt)).setCell ⟨w.heap.size + 1, 3, none⟩ (.slice aa2 mm2 cc2))) := by
        have hb := HB1.out.trans (hb2.mono (by simp; omega))
        exact (((hb.setCell (show w.heap.size ≤ w.heap.size + 1 by omega) _).setCell (show w.heap.size ≤ w.heap.size + 1 by omega) _).setCell (show w.heap.size ≤ w.heap.size + 1 by omega) _).setCell (show w.heap.size ≤ w.heap.size + 1 by omega) _
      clear hy2 hb2 hcal hbb
      go_wp2_with fail
      refine bodyPost_ret (results_cell rfl _ rfl _ (load24 HN.out)) rfl ?_
      exact ⟨⟨_, _, _, _, _, by rw [HBs.out]⟩, HB.out⟩
    have k24' : (kind == 24) = false := by simpa using k24
    by_cases k25 : kind = 25
    · subst k25
      obtain ⟨ga, oa, ka0, xa, na, aa, ma, ca, rfl, hga, qa0, qa1, qa2, qa3, hnda⟩ := hR.kid0
      have hl : (0 : Int) < (r.length : Int) + 1 := by omega
      have hB1 : Below w.heap.size w ((w.alloc (.cells #[.int .i64 25, .string (str text), .int .i64 num, .slice (some ⟨ga, oa, none⟩) (r.length + 1) kc] 24)).alloc (.cells #[.int .i64 0, .string ⟨#[]⟩, .int .i64 0, .slice none 0 0] 24)) := ((Below.refl _ _).alloc (Nat.le_refl _) _).alloc (by simp) _
      have hb1 := hb.trans (hB1.mono hb.size)
      have e0 := below_cell hb1 qa0
      have e1 := below_cell hb1 qa1
      have e2 := below_cell hb1 qa2
      have e3 := below_cell hb1 qa3
      have hcal := ih x (by simp) _ _ hb1 hnda
      have HBs : Hid (baseN true (.mk 25 text num (x :: r)) = baseN true x) := by show _ = _; simp [baseN, baseL]
      have HY : Hid (((w.alloc (.cells #[.int .i64 25, .string (str text), .int .i64 num, .slice (some ⟨ga, oa, none⟩) (r.length + 1) kc] 24)).alloc (.cells #[.int .i64 0, .string ⟨#[]⟩, .int .i64 0, .slice none 0 0] 24)).heap[w.heap.size + 1]? = some (.cells #[.int .i64 0, .string ⟨#[]⟩, .int .i64 0, .slice none 0 0] 24 (0, 0))) := by
        have := heap_new (w.alloc (.cells #[.int .i64 25, .string (str text), .int .i64 num, .slice (some ⟨ga, oa, none⟩) (r.length + 1) kc] 24)) #[.int .i64 0, .string ⟨#[]⟩, .int .i64 0, .slice none 0 0] 24
        rw [show (w.alloc (.cells #[.int .i64 25, .string (str text), .int .i64 num, .slice (some ⟨ga, oa, none⟩) (r.length + 1) kc] 24)).heap.size = w.heap.size + 1 by simp] at this
        exact this
      have HB1 := hide hB1
      have hgw : ga < w.heap.size := by have := hb.size; omega
      clear qa0 qa1 qa2 qa3 hnda hR hB1 hb1
      go_enter Tryd.func20, Tryd.ntmps20
      go_wp2_with fail
      go_at_call 20
      refine hcal.mono ?_
      rintro e w2 ⟨⟨xx, tt, aa2, mm2, cc2, rfl⟩, hb2⟩
      generalize hbb : baseN true x = bb at *
      have hy2 : w2.heap[w.heap.size + 1]? = some (.cells #[.int .i64 0, .string ⟨#[]⟩, .int .i64 0, .slice none 0 0] 24 (0, 0)) := (hb2.block _ (Array.getElem?_eq_some_iff.1 HY.out).1).trans HY.out
      have hc2 := cells_at hy2
      have hf2 := frozen_at hy2
      have HN := hide (set24 (.int .i64 bb) (.string xx) (.int .i64 tt) (.slice aa2 mm2 cc2) hy2)
      have HB : Hid (Below w.heap.size w ((((w2.setCell ⟨w.heap.size + 1, 0, none⟩ (.int .i64 bb)).setCell ⟨w.heap.size + 1, 1, none⟩ (.string xx)).setCell ⟨w.heap.size + 1, 2, none⟩ (.int .i64 tt)).setCell ⟨w.heap.size + 1, 3, none⟩ (.slice aa2 mm2 cc2))) := by
        have hb := HB1.out.trans (hb2.mono (by simp; omega))
        exact (((hb.setCell (show w.heap.size ≤ w.heap.size + 1 by omega) _).setCell (show w.heap.size ≤ w.heap.size + 1 by omega) _).setCell (show w.heap.size ≤ w.heap.size + 1 by omega) _).setCell (show w.heap.size ≤ w.heap.size + 1 by omega) _
      clear hy2 hb2 hcal hbb
      go_wp2_with fail
      refine bodyPost_ret (results_cell rfl _ rfl _ (load24 HN.out)) rfl ?_
      exact ⟨⟨_, _, _, _, _, by rw [HBs.out]⟩, HB.out⟩
    have k25' : (kind == 25) = false := by simpa using k25
    have HBs : Hid (baseN true (.mk kind text num (x :: r)) = kind) := by show _ = _; simp [baseN, k24, k25]
    have HB : Hid (Below w.heap.size w ((w.alloc (.cells #[.int .i64 kind, .string (str text), .int .i64 num, .slice ka (r.length + 1) kc] 24)).alloc (.cells #[.int .i64 kind, .string (str text), .int .i64 num, .slice ka (r.length + 1) kc] 24))) := hB0.alloc (by simp) _
    have HN : Hid (((w.alloc (.cells #[.int .i64 kind, .string (str text), .int .i64 num, .slice ka (r.length + 1) kc] 24)).alloc (.cells #[.int .i64 kind, .string (str text), .int .i64 num, .slice ka (r.length + 1) kc] 24)).heap[w.heap.size + 1]? = some (.cells #[.int .i64 kind, .string (str text), .int .i64 num, .slice ka (r.length + 1) kc] 24 (0, 0))) := by
      have := heap_new (w.alloc (.cells #[.int .i64 kind, .string (str text), .int .i64 num, .slice ka (r.length + 1) kc] 24)) #[.int .i64 kind, .string (str text), .int .i64 num, .slice ka (r.length + 1) kc] 24
      rw [show (w.alloc (.cells #[.int .i64 kind, .string (str text), .int .i64 num, .slice ka (r.length + 1) kc] 24)).heap.size = w.heap.size + 1 by simp] at this
      exact this
    have hl : (0 : Int) < (r.length : Int) + 1 := by omega
    clear hB0 hR ih k24 k25
    go_enter Tryd.func20, Tryd.ntmps20
    go_wp2_with fail
    refine bodyPost_ret (results_cell rfl _ rfl _ (load24 HN.out)) rfl ?_
    exact ⟨⟨_, _, _, _, _, by rw [HBs.out]⟩, HB.out⟩
theorem base_any {w0 : World} (calls : Bool) : ∀ n, BaseN w0 calls n := by
  cases calls with
  | false => exact Nd.ind fun k t v kids ih => base_false k t v kids ih
  | true => exact Nd.ind fun k t v kids ih => base_true k t v kids ih
end Go.Proofs.YthcfianhdkolhaaDoor.T
