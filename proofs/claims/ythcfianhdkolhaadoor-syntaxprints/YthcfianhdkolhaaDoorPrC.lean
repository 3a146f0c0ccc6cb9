/- The contracts of the program's firmness, isPlace, isCall. -/
import Derived.Test.YthcfianhdkolhaaDoorPrB
namespace Go.Proofs.YthcfianhdkolhaaDoor.T
open Go.RowKit Go.Proofs.YthcfianhdkolhaaDoor.S
set_option linter.unusedVariables false
set_option linter.unusedSimpArgs false
set_option maxRecDepth 100000 in
set_option maxHeartbeats 2000000 in
theorem firm_any (kind : Int) (text : List UInt8) (num : Int) (ka : Option Addr) (n kc : Nat) (kids : List Nd) (w : World) (hG : Gl w) :
    Calls Tryd.prog 82 #[.agg #[.int .i64 kind, .string (str text), .int .i64 num, .slice ka n kc]] w fun e w' => (((kind = 32 → isOp num) ∧ e = .returned (.int .i64 (bindN (.mk kind text num kids)))) ∨ (¬ (kind = 32 → isOp num) ∧ e = strange)) ∧ Below w.heap.size w w' := by
  have hB0 : Below w.heap.size w (w.alloc (.cells #[.int .i64 kind, .string (str text), .int .i64 num, .slice ka n kc] 24)) := (Below.refl _ _).alloc (Nat.le_refl _) _
  have hop := opOf_any kind text num ka n kc _ (hG.below hB0)
  have HB := hide hB0
  clear hB0 hG
  by_cases k32 : kind = 32
  · subst k32
    go_enter Tryd.func82, Tryd.ntmps82
    go_wp2_with fail
    go_at_call 83
    refine hop.mono ?_
    rintro e w1 ⟨⟨hi, rfl⟩ | ⟨hi, rfl⟩, hb1⟩
    · have HI := hide hi
      have HB1 := hide (HB.out.trans (hb1.mono (by simp)))
      have hfl : ∀ w : World, (Instr.field 102 (.agg #[.string (str (opSign num)), .int .i64 num, .int .i64 (opBind num)]) 2).run Tryd.prog w = .ok (.int .i64 (opBind num)) w := fun _ => by kernel_rfl
      clear hi hb1 HB hop
      go_wp2_with fail
      go_ret
      exact ⟨Or.inl ⟨by have := HI.out; simpa using this, by first | rfl | simp [bindN]⟩, HB1.out⟩
    · exact ⟨rfl, Or.inr ⟨by simpa using hi, rfl⟩, HB.out.trans (hb1.mono (by simp))⟩
  have k32' : (kind == 32) = false := by simpa using k32
  have HK := hide k32
  by_cases k28 : kind = 28
  · subst k28
    clear hop
    go_enter Tryd.func82, Tryd.ntmps82
    go_wp2_with fail
    go_ret
    exact ⟨Or.inl ⟨fun h => absurd h (by decide), by simp [bindN]⟩, HB.out⟩
  have k28' : (kind == 28) = false := by simpa using k28
  by_cases k29 : kind = 29
  · subst k29
    clear hop
    go_enter Tryd.func82, Tryd.ntmps82
    go_wp2_with fail
    go_ret
    exact ⟨Or.inl ⟨fun h => absurd h (by decide), by simp [bindN]⟩, HB.out⟩
  have k29' : (kind == 29) = false := by simpa using k29
  have HBd : Hid (bindN (.mk kind text num kids) = 4) := by show _ = _; simp [bindN, k28, k29, k32]
  clear hop k32 k28 k29
  go_enter Tryd.func82, Tryd.ntmps82
  go_wp2_with fail
  go_ret
  exact ⟨Or.inl ⟨fun h => absurd h HK.out, by rw [HBd.out]; rfl⟩, HB.out⟩
/-- The least number of which something holds. -/
theorem ex_least {P : Nat → Prop} (h : ∃ k, P k) : ∃ k, P k ∧ ∀ j, P j → k ≤ j := by
  obtain ⟨k, hk⟩ := h
  induction k using Nat.strongRecOn with
  | ind k ih =>
    by_cases hj : ∃ j, j < k ∧ P j
    · obtain ⟨j, h1, h2⟩ := hj
      exact ih j h1 h2
    · exact ⟨k, hk, fun j h => by
        rcases Nat.lt_or_ge j k with h3 | h3
        · exact absurd ⟨j, h3, h⟩ hj
        · exact h3⟩
noncomputable def least (P : Nat → Prop) : Nat := by
  classical exact if h : ∃ k, P k then Classical.choose (ex_least h) else 0
theorem least_spec {P : Nat → Prop} (h : ∃ k, P k) : P (least P) := by
  unfold least
  rw [dif_pos h]
  exact (Classical.choose_spec (ex_least h)).1
theorem least_le {P : Nat → Prop} {k : Nat} (h : P k) : least P ≤ k := by
  unfold least
  rw [dif_pos ⟨k, h⟩]
  exact (Classical.choose_spec (ex_least ⟨k, h⟩)).2 k h
/-- An expression that a cell holds. -/
def Held (w0 : World) (calls : Bool) (base : Int) (q k : Nat) (w : World) : Prop := ∃ m v, SizeOf.sizeOf m = k ∧ NdO w0 m (.agg v) ∧ IsEx m ∧ baseN calls m = base ∧ w.heap[q]? = some (.cells v 24 (0, 0))
theorem ex_dot {t : List UInt8} {v : Int} {kids : List Nd} (h : IsEx (.mk 24 t v kids)) : ∃ x, kids = [x] ∧ IsEx x := by
  cases h with
  | dot s x hs hx => exact ⟨x, rfl, hx⟩
theorem ex_call {t : List UInt8} {v : Int} {kids : List Nd} (h : IsEx (.mk 25 t v kids)) : ∃ x l, kids = x :: l ∧ IsEx x := by
  cases h with
  | call x l hx hl => exact ⟨x, l, rfl, hx⟩
set_option maxRecDepth 100000 in
set_option maxHeartbeats 2000000 in
theorem base_69 {w0 w : World} (hb : Below w0.heap.size w0 w) (n : Nd) (v : Value) (hv : NdO w0 n v) (hx : IsEx n) :
    Calls Tryd.prog 69 #[v] w fun e w' => e = .returned (.bool (decide (baseN false n = 23))) ∧ Below w.heap.size w w' := by
  obtain ⟨kind, text, num, kids⟩ := n
  obtain ⟨ka, kc, rfl, t1, n1, n2, l1, l2, hR⟩ := hv.part
  have hB0 : Below w.heap.size w (w.alloc (.cells #[.int .i64 kind, .string (str text), .int .i64 num, .slice ka kids.length kc] 24)) := (Below.refl _ _).alloc (Nat.le_refl _) _
  obtain ⟨base, hbase⟩ : ∃ base, base = baseN false (.mk kind text num kids) := ⟨_, rfl⟩
  have hH : Held w0 false base w.heap.size (SizeOf.sizeOf (Nd.mk kind text num kids)) (w.alloc (.cells #[.int .i64 kind, .string (str text), .int .i64 num, .slice ka kids.length kc] 24)) := ⟨_, _, rfl, hv, hx, hbase.symm, heap_new _ _ _⟩
  have HBs := hide hbase
  have HH := hide hH
  have hwb : Below w0.heap.size w0 (w.alloc (.cells #[.int .i64 kind, .string (str text), .int .i64 num, .slice ka kids.length kc] 24)) := hb.trans (hB0.mono hb.size)
  have HWb := hide hwb
  have HB0 := hide hB0
  clear hv hx hR hbase hH hB0 hwb
  go_enter Tryd.func69, Tryd.ntmps69
  go_wp2_with fail
  generalize w.alloc (.cells #[.int .i64 kind, .string (str text), .int .i64 num, .slice ka kids.length kc] 24) = W at *
  go_loopw [] (fun wr => Hid ((∃ k, Held w0 false base w.heap.size k wr) ∧ Below w.heap.size w wr)) (fun wr => least fun k => Held w0 false base w.heap.size k wr)
  case atStart => exact ⟨⟨_, HH.out⟩, HB0.out⟩
  case round =>
    have hL := least_spec hrel.out.1
    have HBr := hide hrel.out.2
    generalize hmu : (least fun k => Held w0 false base w.heap.size k wr) = mu at *
    have HMu := hide hmu
    clear hmu hrel
    obtain ⟨m, vv, hsz, hnd, hex, hbs, hcell⟩ := hL
    obtain ⟨kd, tx, nm, ks⟩ := m
    obtain ⟨ka1, kc1, hvv, u1, u2, u3, u4, u5, hR1⟩ := hnd.part
    obtain rfl : vv = #[.int .i64 kd, .string (str tx), .int .i64 nm, .slice ka1 ks.length kc1] := by simpa using hvv
    have hc := cells_at hcell
    have hf := frozen_at hcell
    have HC := hide hcell
    have HSz := hide hsz
    have HBb := hide hbs
    have HEx := hide hex
    clear hvv hsz hbs hcell hnd
    have hqs : w.heap.size < wr.heap.size := (Array.getElem?_eq_some_iff.1 HC.out).1
    have hwr : Below w0.heap.size w0 wr := hb.trans (HBr.out.mono hb.size)
    by_cases k24 : kd = 24
    · subst k24
      obtain ⟨x, hks, hex2⟩ := ex_dot HEx.out
      subst hks
      obtain ⟨ga, oa, ka2, xa2, na2, aa2, ma2, ca2, rfl, hga, qa0, qa1, qa2, qa3, hnda⟩ := hR1.kid0
      have e0 := below_cell hwr qa0
      have e1 := below_cell hwr qa1
      have e2 := below_cell hwr qa2
      have e3 := below_cell hwr qa3
      have v1 : (wr.setCell ⟨w.heap.size, 0, none⟩ (.int .i64 ka2)).heap[w.heap.size]? = some (.cells #[.int .i64 ka2, .string (str tx), .int .i64 nm, .slice (some ⟨ga, oa, none⟩) [x].length kc1] 24 (0, 0)) := (heap_setCell_same wr w.heap.size 0 _ 24 _ HC.out).trans rfl
      have v2 : ((wr.setCell ⟨w.heap.size, 0, none⟩ (.int .i64 ka2)).setCell ⟨w.heap.size, 1, none⟩ (.string xa2)).heap[w.heap.size]? = some (.cells #[.int .i64 ka2, .string xa2, .int .i64 nm, .slice (some ⟨ga, oa, none⟩) [x].length kc1] 24 (0, 0)) := (heap_setCell_same _ w.heap.size 1 _ 24 _ v1).trans rfl
      have v3 : (((wr.setCell ⟨w.heap.size, 0, none⟩ (.int .i64 ka2)).setCell ⟨w.heap.size, 1, none⟩ (.string xa2)).setCell ⟨w.heap.size, 2, none⟩ (.int .i64 na2)).heap[w.heap.size]? = some (.cells #[.int .i64 ka2, .string xa2, .int .i64 na2, .slice (some ⟨ga, oa, none⟩) [x].length kc1] 24 (0, 0)) := (heap_setCell_same _ w.heap.size 2 _ 24 _ v2).trans rfl
      have v4 : ((((wr.setCell ⟨w.heap.size, 0, none⟩ (.int .i64 ka2)).setCell ⟨w.heap.size, 1, none⟩ (.string xa2)).setCell ⟨w.heap.size, 2, none⟩ (.int .i64 na2)).setCell ⟨w.heap.size, 3, none⟩ (.slice aa2 ma2 ca2)).heap[w.heap.size]? = some (.cells #[.int .i64 ka2, .string xa2, .int .i64 na2, .slice aa2 ma2 ca2] 24 (0, 0)) := (heap_setCell_same _ w.heap.size 3 _ 24 _ v3).trans rfl
      have HH2 : Hid (Held w0 false base w.heap.size (SizeOf.sizeOf x) ((((wr.setCell ⟨w.heap.size, 0, none⟩ (.int .i64 ka2)).setCell ⟨w.heap.size, 1, none⟩ (.string xa2)).setCell ⟨w.heap.size, 2, none⟩ (.int .i64 na2)).setCell ⟨w.heap.size, 3, none⟩ (.slice aa2 ma2 ca2))) := ⟨x, _, rfl, hnda, hex2, by have := HBb.out; simpa [baseN, baseL] using this, v4⟩
      have HB2 : Hid (Below w.heap.size w ((((wr.setCell ⟨w.heap.size, 0, none⟩ (.int .i64 ka2)).setCell ⟨w.heap.size, 1, none⟩ (.string xa2)).setCell ⟨w.heap.size, 2, none⟩ (.int .i64 na2)).setCell ⟨w.heap.size, 3, none⟩ (.slice aa2 ma2 ca2))) := (((HBr.out.setCell (Nat.le_refl _) _).setCell (Nat.le_refl _) _).setCell (Nat.le_refl _) _).setCell (Nat.le_refl _) _
      have HLt : Hid (SizeOf.sizeOf x < mu) := by show _ < _; rw [← HSz.out]; exact kid_lt (by simp)
      have hgne : ga ≠ w.heap.size := by have := hb.size; omega
      clear qa0 qa1 qa2 qa3 v1 v2 v3 v4 hnda hR1 hwr hga
      go_wp2_with fail
      go_roundw
      case rel => exact ⟨⟨_, HH2.out⟩, HB2.out⟩
      case measure => exact Nat.lt_of_le_of_lt (least_le HH2.out) HLt.out
    · have k24' : (kd == 24) = false := by simpa using k24
      have hbk : base = kd := by rw [← HBb.out]; simp [baseN, k24]
      have HF : Hid (decide (baseN false (.mk kind text num kids) = 23) = (kd == 23)) := by
        show _ = _
        rw [← HBs.out, hbk]
        by_cases q : kd = 23 <;> simp [q]
      clear k24 hbk HC hwr
      go_wp2_with fail
      go_ret
      exact ⟨by rw [HF.out]; rfl, HBr.out⟩
set_option maxRecDepth 100000 in
set_option maxHeartbeats 2000000 in
theorem base_70 {w0 w : World} (hb : Below w0.heap.size w0 w) (n : Nd) (v : Value) (hv : NdO w0 n v) (hx : IsEx n) :
    Calls Tryd.prog 70 #[v] w fun e w' => e = .returned (.bool (decide (n.kind = 25 ∧ baseN true n = 23))) ∧ Below w.heap.size w w' := by
  obtain ⟨kind, text, num, kids⟩ := n
  obtain ⟨ka, kc, rfl, t1, n1, n2, l1, l2, hR⟩ := hv.part
  have hB0 : Below w.heap.size w (w.alloc (.cells #[.int .i64 kind, .string (str text), .int .i64 num, .slice ka kids.length kc] 24)) := (Below.refl _ _).alloc (Nat.le_refl _) _
  by_cases k25 : kind = 25
  rotate_left
  · have k25' : (kind != 25) = true := by simpa using k25
    have HK := hide k25
    have HB := hide hB0
    clear k25 hB0 hR hv hx
    go_enter Tryd.func70, Tryd.ntmps70
    go_wp2_with fail
    go_ret
    exact ⟨by rw [decide_eq_false (fun h => HK.out h.1)]; rfl, HB.out⟩
  have HK25 := hide k25
  have k25' : (kind != 25) = false := by simpa using k25
  clear k25
  obtain ⟨base, hbase⟩ : ∃ base, base = baseN true (.mk kind text num kids) := ⟨_, rfl⟩
  have hH : Held w0 true base w.heap.size (SizeOf.sizeOf (Nd.mk kind text num kids)) (w.alloc (.cells #[.int .i64 kind, .string (str text), .int .i64 num, .slice ka kids.length kc] 24)) := ⟨_, _, rfl, hv, hx, hbase.symm, heap_new _ _ _⟩
  have HBs := hide hbase
  have HH := hide hH
  have hwb : Below w0.heap.size w0 (w.alloc (.cells #[.int .i64 kind, .string (str text), .int .i64 num, .slice ka kids.length kc] 24)) := hb.trans (hB0.mono hb.size)
  have HWb := hide hwb
  have HB0 := hide hB0
  clear hv hx hR hbase hH hB0 hwb
  go_enter Tryd.func70, Tryd.ntmps70
  go_wp2_with fail
  generalize w.alloc (.cells #[.int .i64 kind, .string (str text), .int .i64 num, .slice ka kids.length kc] 24) = W at *
  go_loopw [] (fun wr => Hid ((∃ k, Held w0 true base w.heap.size k wr) ∧ Below w.heap.size w wr)) (fun wr => least fun k => Held w0 true base w.heap.size k wr)
  case atStart => exact ⟨⟨_, HH.out⟩, HB0.out⟩
  case round =>
    have hL := least_spec hrel.out.1
    have HBr := hide hrel.out.2
    generalize hmu : (least fun k => Held w0 true base w.heap.size k wr) = mu at *
    have HMu := hide hmu
    clear hmu hrel
    obtain ⟨m, vv, hsz, hnd, hex, hbs, hcell⟩ := hL
    obtain ⟨kd, tx, nm, ks⟩ := m
    obtain ⟨ka1, kc1, hvv, u1, u2, u3, u4, u5, hR1⟩ := hnd.part
    obtain rfl : vv = #[.int .i64 kd, .string (str tx), .int .i64 nm, .slice ka1 ks.length kc1] := by simpa using hvv
    have hc := cells_at hcell
    have hf := frozen_at hcell
    have HC := hide hcell
    have HSz := hide hsz
    have HBb := hide hbs
    have HEx := hide hex
    clear hvv hsz hbs hcell hnd
    have hqs : w.heap.size < wr.heap.size := (Array.getElem?_eq_some_iff.1 HC.out).1
    have hwr : Below w0.heap.size w0 wr := hb.trans (HBr.out.mono hb.size)
    by_cases k25 : kd = 25
    · subst k25
      obtain ⟨x, l, hks, hex2⟩ := ex_call HEx.out
      subst hks
      obtain ⟨ga, oa, ka2, xa2, na2, aa2, ma2, ca2, rfl, hga, qa0, qa1, qa2, qa3, hnda⟩ := hR1.kid0
      have e0 := below_cell hwr qa0
      have e1 := below_cell hwr qa1
      have e2 := below_cell hwr qa2
      have e3 := below_cell hwr qa3
      have v1 : (wr.setCell ⟨w.heap.size, 0, none⟩ (.int .i64 ka2)).heap[w.heap.size]? = some (.cells #[.int .i64 ka2, .string (str tx), .int .i64 nm, .slice (some ⟨ga, oa, none⟩) (x :: l).length kc1] 24 (0, 0)) := (heap_setCell_same wr w.heap.size 0 _ 24 _ HC.out).trans rfl
      have v2 : ((wr.setCell ⟨w.heap.size, 0, none⟩ (.int .i64 ka2)).setCell ⟨w.heap.size, 1, none⟩ (.string xa2)).heap[w.heap.size]? = some (.cells #[.int .i64 ka2, .string xa2, .int .i64 nm, .slice (some ⟨ga, oa, none⟩) (x :: l).length kc1] 24 (0, 0)) := (heap_setCell_same _ w.heap.size 1 _ 24 _ v1).trans rfl
      have v3 : (((wr.setCell ⟨w.heap.size, 0, none⟩ (.int .i64 ka2)).setCell ⟨w.heap.size, 1, none⟩ (.string xa2)).setCell ⟨w.heap.size, 2, none⟩ (.int .i64 na2)).heap[w.heap.size]? = some (.cells #[.int .i64 ka2, .string xa2, .int .i64 na2, .slice (some ⟨ga, oa, none⟩) (x :: l).length kc1] 24 (0, 0)) := (heap_setCell_same _ w.heap.size 2 _ 24 _ v2).trans rfl
      have v4 : ((((wr.setCell ⟨w.heap.size, 0, none⟩ (.int .i64 ka2)).setCell ⟨w.heap.size, 1, none⟩ (.string xa2)).setCell ⟨w.heap.size, 2, none⟩ (.int .i64 na2)).setCell ⟨w.heap.size, 3, none⟩ (.slice aa2 ma2 ca2)).heap[w.heap.size]? = some (.cells #[.int .i64 ka2, .string xa2, .int .i64 na2, .slice aa2 ma2 ca2] 24 (0, 0)) := (heap_setCell_same _ w.heap.size 3 _ 24 _ v3).trans rfl
      have HH2 : Hid (Held w0 true base w.heap.size (SizeOf.sizeOf x) ((((wr.setCell ⟨w.heap.size, 0, none⟩ (.int .i64 ka2)).setCell ⟨w.heap.size, 1, none⟩ (.string xa2)).setCell ⟨w.heap.size, 2, none⟩ (.int .i64 na2)).setCell ⟨w.heap.size, 3, none⟩ (.slice aa2 ma2 ca2))) := ⟨x, _, rfl, hnda, hex2, by have := HBb.out; simpa [baseN, baseL] using this, v4⟩
      have HB2 : Hid (Below w.heap.size w ((((wr.setCell ⟨w.heap.size, 0, none⟩ (.int .i64 ka2)).setCell ⟨w.heap.size, 1, none⟩ (.string xa2)).setCell ⟨w.heap.size, 2, none⟩ (.int .i64 na2)).setCell ⟨w.heap.size, 3, none⟩ (.slice aa2 ma2 ca2))) := (((HBr.out.setCell (Nat.le_refl _) _).setCell (Nat.le_refl _) _).setCell (Nat.le_refl _) _).setCell (Nat.le_refl _) _
      have HLt : Hid (SizeOf.sizeOf x < mu) := by show _ < _; rw [← HSz.out]; exact kid_lt (by simp)
      have hgne : ga ≠ w.heap.size := by have := hb.size; omega
      clear qa0 qa1 qa2 qa3 v1 v2 v3 v4 hnda hR1 hwr hga
      go_wp2_with fail
      go_roundw
      case rel => exact ⟨⟨_, HH2.out⟩, HB2.out⟩
      case measure => exact Nat.lt_of_le_of_lt (least_le HH2.out) HLt.out
    have k25b : (kd == 25) = false := by simpa using k25
    by_cases k24 : kd = 24
    · subst k24
      obtain ⟨x, hks, hex2⟩ := ex_dot HEx.out
      subst hks
      obtain ⟨ga, oa, ka2, xa2, na2, aa2, ma2, ca2, rfl, hga, qa0, qa1, qa2, qa3, hnda⟩ := hR1.kid0
      have e0 := below_cell hwr qa0
      have e1 := below_cell hwr qa1
      have e2 := below_cell hwr qa2
      have e3 := below_cell hwr qa3
      have v1 : (wr.setCell ⟨w.heap.size, 0, none⟩ (.int .i64 ka2)).heap[w.heap.size]? = some (.cells #[.int .i64 ka2, .string (str tx), .int .i64 nm, .slice (some ⟨ga, oa, none⟩) [x].length kc1] 24 (0, 0)) := (heap_setCell_same wr w.heap.size 0 _ 24 _ HC.out).trans rfl
      have v2 : ((wr.setCell ⟨w.heap.size, 0, none⟩ (.int .i64 ka2)).setCell ⟨w.heap.size, 1, none⟩ (.string xa2)).heap[w.heap.size]? = some (.cells #[.int .i64 ka2, .string xa2, .int .i64 nm, .slice (some ⟨ga, oa, none⟩) [x].length kc1] 24 (0, 0)) := (heap_setCell_same _ w.heap.size 1 _ 24 _ v1).trans rfl
      have v3 : (((wr.setCell ⟨w.heap.size, 0, none⟩ (.int .i64 ka2)).setCell ⟨w.heap.size, 1, none⟩ (.string xa2)).setCell ⟨w.heap.size, 2, none⟩ (.int .i64 na2)).heap[w.heap.size]? = some (.cells #[.int .i64 ka2, .string xa2, .int .i64 na2, .slice (some ⟨ga, oa, none⟩) [x].length kc1] 24 (0, 0)) := (heap_setCell_same _ w.heap.size 2 _ 24 _ v2).trans rfl
      have v4 : ((((wr.setCell ⟨w.heap.size, 0, none⟩ (.int .i64 ka2)).setCell ⟨w.heap.size, 1, none⟩ (.string xa2)).setCell ⟨w.heap.size, 2, none⟩ (.int .i64 na2)).setCell ⟨w.heap.size, 3, none⟩ (.slice aa2 ma2 ca2)).heap[w.heap.size]? = some (.cells #[.int .i64 ka2, .string xa2, .int .i64 na2, .slice aa2 ma2 ca2] 24 (0, 0)) := (heap_setCell_same _ w.heap.size 3 _ 24 _ v3).trans rfl
      have HH2 : Hid (Held w0 true base w.heap.size (SizeOf.sizeOf x) ((((wr.setCell ⟨w.heap.size, 0, none⟩ (.int .i64 ka2)).setCell ⟨w.heap.size, 1, none⟩ (.string xa2)).setCell ⟨w.heap.size, 2, none⟩ (.int .i64 na2)).setCell ⟨w.heap.size, 3, none⟩ (.slice aa2 ma2 ca2))) := ⟨x, _, rfl, hnda, hex2, by have := HBb.out; simpa [baseN, baseL] using this, v4⟩
      have HB2 : Hid (Below w.heap.size w ((((wr.setCell ⟨w.heap.size, 0, none⟩ (.int .i64 ka2)).setCell ⟨w.heap.size, 1, none⟩ (.string xa2)).setCell ⟨w.heap.size, 2, none⟩ (.int .i64 na2)).setCell ⟨w.heap.size, 3, none⟩ (.slice aa2 ma2 ca2))) := (((HBr.out.setCell (Nat.le_refl _) _).setCell (Nat.le_refl _) _).setCell (Nat.le_refl _) _).setCell (Nat.le_refl _) _
      have HLt : Hid (SizeOf.sizeOf x < mu) := by show _ < _; rw [← HSz.out]; exact kid_lt (by simp)
      have hgne : ga ≠ w.heap.size := by have := hb.size; omega
      clear qa0 qa1 qa2 qa3 v1 v2 v3 v4 hnda hR1 hwr hga
      go_wp2_with fail
      go_roundw
      case rel => exact ⟨⟨_, HH2.out⟩, HB2.out⟩
      case measure => exact Nat.lt_of_le_of_lt (least_le HH2.out) HLt.out
    · have k24' : (kd == 24) = false := by simpa using k24
      have hbk : base = kd := by rw [← HBb.out]; simp [baseN, k24, k25]
      have HF : Hid (decide (kind = 25 ∧ baseN true (.mk kind text num kids) = 23) = (kd == 23)) := by
        show _ = _
        rw [← HBs.out, hbk]
        have hk := HK25.out; by_cases q : kd = 23 <;> simp [q, hk]
      clear k24 hbk HC hwr
      go_wp2_with fail
      go_ret
      exact ⟨by rw [show decide ((Nd.mk kind text num kids).kind = 25 ∧ baseN true (.mk kind text num kids) = 23) = (kd == 23) from HF.out]; rfl, HBr.out⟩
end Go.Proofs.YthcfianhdkolhaaDoor.T
