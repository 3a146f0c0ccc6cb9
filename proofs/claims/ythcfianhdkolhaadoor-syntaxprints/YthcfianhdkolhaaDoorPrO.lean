/- The contracts of what printed defers, of printed and Print. -/
import Derived.Test.YthcfianhdkolhaaDoorPrM
import Derived.Test.YthcfianhdkolhaaDoorSynLen
import Derived.Defers
import Derived.Recover
namespace Go.Proofs.YthcfianhdkolhaaDoor.T
open Go.RowKit Go.Proofs.YthcfianhdkolhaaDoor.S
set_option linter.unusedVariables false
set_option linter.unusedSimpArgs false

set_option maxRecDepth 100000 in
set_option maxHeartbeats 1000000 in
theorem catch_idle (q : Nat) (w : World) :
    CallsD Tryd.prog 12 #[.pointer (some ⟨q, 0, none⟩)] .returning w fun e u' w' => e = .returned (.tuple #[]) ∧ u' = .returning ∧ w' = w := by
  have hta : ∀ (w : World), (Instr.typeAssert .nilIface 20 33 true).run Tryd.prog w = .ok (.tuple #[.agg #[], .bool false]) w := fun _ => by kernel_rfl
  refine callsD_of_wpS Tryd.func12 rfl fun c₀ cs hu => ?_
  apply wpS_seq
  apply wpS_region
  simp [wpOpsS, go_sem, recoverD, hu, Tryd.ntmps12, Exit.thenS]
  refine wpS_of_wp ?_
  change Code.wp _ _ _ ⟨#[.pointer (some ⟨q, 0, none⟩), .nilIface, undef, undef, undef], []⟩ _
  go_wp2
  cases c₀
  simp_all [bodyPostS, results, Tryd.results12]
set_option maxRecDepth 100000 in
set_option maxHeartbeats 1000000 in
theorem catch_strange (q : Nat) (y : Value) (older : List PanicEntry) (w : World) (hc : w.cell? ⟨q, 0, none⟩ = some y) (hz : w.frozen? ⟨q, 0, none⟩ = false) :
    CallsD Tryd.prog 12 #[.pointer (some ⟨q, 0, none⟩)] (.panicking ({ v := .iface 33 (.agg #[]), recovered := false } :: older)) w fun e u' w' =>
      e = .returned (.tuple #[]) ∧ u' = .panicking ({ v := .iface 33 (.agg #[]), recovered := true } :: older) ∧ w' = w.setCell ⟨q, 0, none⟩ (.int .i64 2) := by
  have hta : ∀ (w : World), (Instr.typeAssert (.iface 33 (.agg #[])) 20 33 true).run Tryd.prog w = .ok (.tuple #[.agg #[], .bool true]) w := fun _ => by kernel_rfl
  refine callsD_of_wpS Tryd.func12 rfl fun c₀ cs hu => ?_
  apply wpS_seq
  apply wpS_region
  simp [wpOpsS, go_sem, recoverD, hu, Tryd.ntmps12, Exit.thenS]
  refine wpS_of_wp ?_
  change Code.wp _ _ _ ⟨#[.pointer (some ⟨q, 0, none⟩), .iface 33 (.agg #[]), undef, undef, undef], []⟩ _
  go_wp2
  simp [bodyPostS, results, Tryd.results12]
theorem NdO.under {w w' : World} {n : Nd} {v : Value} (h : NdO w n v) (hb : Below w.heap.size w w') : NdO w' n v := by
  induction h with
  | mk kind text num kids ka kc c h1 h2 h3 h4 h5 h6 h7 ih =>
    refine NdO.mk kind text num kids ka kc c h1 h2 h3 h4 h5 (fun hne => ?_) ih
    obtain ⟨g, o, e, hc⟩ := h6 hne
    exact ⟨g, o, e, fun j i hj hi => below_cell hb (hc j i hj hi)⟩
theorem results_tmp_cell {P : Program} {fn : Func} {t u : Tmp} {ty : TypeId} {q : Addr} {v : Value} (h : fn.results = #[.tmp u, .cell t ty]) (tmps : Array Value) (ht : tmps.getD t undef = .pointer (some q)) (w : World) (hr : (loadVar ty q).run P w = .ok v w) : (results fn tmps).run P w = .ok (.tuple #[tmps.getD u undef, v]) w := by
  have ht' : tmps[t]?.getD undef = .pointer (some q) := by simpa using ht
  simp [results, h, asAddr, ht', hr]
/-- Texts in a row, joined. -/
theorem join_row (xs : List (List UInt8)) (ob : Nat) (v : Value) (w : World) (h : w.ownsRow ob 9 1 v xs.length (strs xs)) (hn : xs.length ≤ 1000000000000) (hl : (Lib.join xs [32]).length ≤ 140737488355328) :
    Calls Tryd.prog 14 #[v, .string ⟨#[32]⟩] w fun e w' => e = .returned (.string (str (Lib.join xs [32]))) ∧ Below w.heap.size w w' := by
  rcases h with ⟨h1, ⟨rfl, h3⟩ | ⟨g, cap, cur, rfl, h4, h5, h6, h7, h8, h9⟩⟩
  · obtain rfl : xs = [] := List.length_eq_zero_iff.1 h3
    exact (Tryd.strings_Join_none none 0 ⟨#[32]⟩ w).mono fun e w' ⟨h1, h2⟩ => ⟨h1, h2 ▸ Below.refl _ _⟩
  · have e : (xs.map str).map (·.data.toList) = xs := by rw [List.map_map]; exact List.map_id'' (fun x => by simp [str]) xs
    have hj := Tryd.strings_Join g 0 cap (xs.map str) ⟨#[32]⟩ w (fun j x hx => ?_) (Array.getElem?_eq_some_iff.1 h5).1 (by rw [List.length_map]; omega) (by rw [List.length_map]; exact h6) (by rw [e]; exact hl)
    · rw [e, List.length_map] at hj
      exact hj
    · have hx2 : (strs xs)[j]? = some (.string x) := by
        unfold strs
        rw [List.getElem?_map] at hx ⊢
        cases hq : xs[j]? with
        | none => rw [hq] at hx; cases hx
        | some y => rw [hq] at hx; simp at hx; subst hx; rfl
      have hjl : j < xs.length := by have := (List.getElem?_eq_some_iff.1 hx).1; simpa using this
      rw [← h9, List.getElem?_take_of_lt (by omega), Array.getElem?_toList] at hx2
      rw [cells_at h5, Nat.zero_add]
      exact hx2
theorem load_int {w : World} {b : Nat} {x : Int} (h : w.heap[b]? = some (.cells #[.int .i64 x] 25 (0, 0))) : (loadVar 25 ⟨b, 0, none⟩).run Tryd.prog w = .ok (.int .i64 x) w := by
  have hc : w.cell? ⟨b, 0, none⟩ = some (.int .i64 x) := cells_at h 0
  simp [loadVar, go_sem, hc, Tryd.underlying25]
theorem leaves_tc {tmps : Array Value} {R : Ending → World → Prop} {w : World} {q : Addr} {v : Value} (ht : tmps.getD 3 undef = .pointer (some q)) (hr : (loadVar 25 q).run Tryd.prog w = .ok v w) (h : R (.returned (.tuple #[tmps.getD 2 undef, v])) w) : Leaves Tryd.prog Tryd.f7 tmps R [] .returning w :=
  ⟨_, results_tmp_cell Tryd.results7 tmps ht w hr, h⟩
theorem info25 : (Tryd.prog.info? 25).map (·.size) = some 1 := by kernel_rfl
set_option maxRecDepth 100000 in
set_option maxHeartbeats 800000 in
theorem printed_any {w : World} (hG : Gl w) (hTb : TabW w) (n : Nd) (v : Value) (hv : NdO w n v) (hc : cnt n ≤ 700) (hd : dpt n ≤ 16) :
    Calls Tryd.prog 7 #[v] w fun e w' => ((IsUn n ∧ e = .returned (.tuple #[.string (str (shownT n)), .int .i64 0])) ∨ (¬ IsUn n ∧ e = .returned (.tuple #[.string ⟨#[]⟩, .int .i64 2]))) ∧ Below w.heap.size w w' := by
  have hmf : ∀ (fn : Fn) (first cap : Array Value) (w : World), (Instr.makeFunc fn first cap).run Tryd.prog w = .ok (.func fn first cap) w := fun _ _ _ _ => rfl
  have HTn := hide (tb_fits hc hd)
  have HLs : Hid (IsUn n → (Lib.join (txs (shT n)) [32]).length ≤ 140737488355328) := fun h => by have := shown_len h hc hd; unfold shownT at this; omega
  have hform := hv.form
  obtain ⟨kind, text, num, ka, kn, kc, rfl⟩ := hform
  have hB0 : Below w.heap.size w ((w.alloc (.cells #[.int .i64 kind, .string text, .int .i64 num, .slice ka kn kc] 24)).alloc (.cells #[.int .i64 0] 25)) := ((Below.refl _ _).alloc (Nat.le_refl _) _).alloc (by simp) _
  have hsz : ((w.alloc (.cells #[.int .i64 kind, .string text, .int .i64 num, .slice ka kn kc] 24)).alloc (.cells #[.int .i64 0] 25)).heap.size = w.heap.size + 2 := by simp
  have HPt : Hid (Pt ((w.alloc (.cells #[.int .i64 kind, .string text, .int .i64 num, .slice ka kn kc] 24)).alloc (.cells #[.int .i64 0] 25)) (((w.alloc (.cells #[.int .i64 kind, .string text, .int .i64 num, .slice ka kn kc] 24)).alloc (.cells #[.int .i64 0] 25)).alloc (.cells #[.slice none 0 0] 36)) (w.heap.size + 2) []) := by
    refine ⟨by omega, (Below.refl _ _).alloc (Nat.le_refl _) _, .slice none 0 0, ?_, World.ownsRow_nil _ _ _ _⟩
    have := heap_new ((w.alloc (.cells #[.int .i64 kind, .string text, .int .i64 num, .slice ka kn kc] 24)).alloc (.cells #[.int .i64 0] 25)) #[.slice none 0 0] 36
    rw [hsz] at this
    exact this
  have HE0 : Hid (((w.alloc (.cells #[.int .i64 kind, .string text, .int .i64 num, .slice ka kn kc] 24)).alloc (.cells #[.int .i64 0] 25)).heap[w.heap.size + 1]? = some (.cells #[.int .i64 0] 25 (0, 0))) := by
    have := heap_new (w.alloc (.cells #[.int .i64 kind, .string text, .int .i64 num, .slice ka kn kc] 24)) #[.int .i64 0] 25
    have e : (w.alloc (.cells #[.int .i64 kind, .string text, .int .i64 num, .slice ka kn kc] 24)).heap.size = w.heap.size + 1 := by simp
    rw [e] at this
    exact this
  have HU := hide (unit_any (hG.below hB0) (tab_below hTb hB0) n HPt.out _ (hv.under hB0) hc (by have := HTn.out; simp only [List.length_nil]; omega))
  have HB0 := hide hB0
  have HSz := hide hsz
  clear hG hTb hv hB0 hsz
  go_enter_defers Tryd.func7, Tryd.ntmps7
  go_wp2_with fail
  go_at_call 13
  refine HU.out.mono ?_
  have hW1 : ((w.alloc (.cells #[.int .i64 kind, .string text, .int .i64 num, .slice ka kn kc] 24)).alloc (.cells #[.int .i64 0] 25)).heap[w.heap.size + 1]? = some (.cells #[.int .i64 0] 25 (0, 0)) := HE0.out
  rintro e w2 (⟨hp, rfl, hP2, hS2⟩ | ⟨hp, rfl, hB2⟩)
  rotate_left
  · have hcell : w2.heap[w.heap.size + 1]? = some (.cells #[.int .i64 0] 25 (0, 0)) := (hB2.block _ (by have := HSz.out; omega)).trans hW1
    have hb9 : Below w.heap.size w (w2.setCell ⟨w.heap.size + 1, 0, none⟩ (.int .i64 2)) := (HB0.out.trans (hB2.mono (by have := HSz.out; omega))).setCell (show w.heap.size ≤ w.heap.size + 1 by omega) _
    have hcell2 : (w2.setCell ⟨w.heap.size + 1, 0, none⟩ (.int .i64 2)).heap[w.heap.size + 1]? = some (.cells #[.int .i64 2] 25 (0, 0)) := (heap_setCell_same w2 _ 0 _ 25 _ hcell).trans rfl
    refine leaves_cons (f := 12) (args := #[.pointer (some ⟨w.heap.size + 1, 0, none⟩)]) (by simp) (by simp [go_sem]) ?_
    refine (catch_strange (w.heap.size + 1) _ [] w2 (cells_at hcell 0) (frozen_at hcell 0)).mono ?_
    rintro e u' w4 ⟨rfl, rfl, rfl⟩
    refine leaves_tc (q := ⟨w.heap.size + 1, 0, none⟩) (v := .int .i64 2) rfl ?_ ⟨Or.inr ⟨hp, rfl⟩, hb9⟩
    exact load_int hcell2
  · obtain ⟨tv, hblk, hown⟩ := hP2.blk
    have hcb := cells_at hblk
    rw [List.nil_append] at hown
    have hlen := HTn.out
    have hjl := sh_tb n
    have HJ := hide (join_row (txs (shT n)) _ tv w2 hown (by rw [txs_len]; omega) (HLs.out hp))
    have HI := hide hp
    have hcell : w2.heap[w.heap.size + 1]? = some (.cells #[.int .i64 0] 25 (0, 0)) := by
      have h1 := (Below.heap_alloc ((w.alloc (.cells #[.int .i64 kind, .string text, .int .i64 num, .slice ka kn kc] 24)).alloc (.cells #[.int .i64 0] 25)) (.cells #[.slice none 0 0] 36) (w.heap.size + 1) (by have := HSz.out; omega)).trans hW1
      exact (hS2.keeps _ _ _ _ (by decide) (by decide) h1).trans h1
    have HCe := hide hcell
    have HB2 : Hid (Below w.heap.size w w2) := HB0.out.trans (hP2.base.mono (by have := HSz.out; omega))
    have hwl : w.heap.size + 1 < w2.heap.size := (Array.getElem?_eq_some_iff.1 hcell).1
    clear hP2 hS2 hp hblk hown hcell hW1 hlen hjl
    go_wp2_with fail
    go_at_call 14
    refine HJ.out.mono ?_
    rintro e w3 ⟨rfl, hb3⟩
    have hcell3 : w3.heap[w.heap.size + 1]? = some (.cells #[.int .i64 0] 25 (0, 0)) := (hb3.block _ hwl).trans HCe.out
    have hc3 := cells_at hcell3
    have hf3 := frozen_at hcell3
    have HC4 : Hid ((w3.setCell ⟨w.heap.size + 1, 0, none⟩ (.int .i64 0)).heap[w.heap.size + 1]? = some (.cells #[.int .i64 0] 25 (0, 0))) := (heap_setCell_same w3 _ 0 _ 25 _ hcell3).trans rfl
    have HB4 : Hid (Below w.heap.size w (w3.setCell ⟨w.heap.size + 1, 0, none⟩ (.int .i64 0))) := (HB2.out.trans (hb3.mono HB2.out.size)).setCell (show w.heap.size ≤ w.heap.size + 1 by omega) _
    clear hb3 hcell3 hcb HJ
    go_wp2_with fail
    refine leaves_cons (f := 12) (args := #[.pointer (some ⟨w.heap.size + 1, 0, none⟩)]) (by simp) (by simp [go_sem]) ?_
    refine (catch_idle (w.heap.size + 1) _).mono ?_
    rintro e u' w5 ⟨rfl, rfl, rfl⟩
    refine leaves_tc (q := ⟨w.heap.size + 1, 0, none⟩) (v := .int .i64 0) rfl ?_ ⟨Or.inl ⟨HI.out, rfl⟩, HB4.out⟩
    exact load_int HC4.out
end Go.Proofs.YthcfianhdkolhaaDoor.T

namespace Go.Proofs.YthcfianhdkolhaaDoor.T
open Go.RowKit Go.Proofs.YthcfianhdkolhaaDoor.S
set_option linter.unusedVariables false
set_option linter.unusedSimpArgs false

/-- What Print is to answer. -/
def PrR (n : Nd) (s : List UInt8) (c : Int) : Prop :=
  (fitB n = false ∧ s = [] ∧ c = 1) ∨ (fitB n = true ∧ ¬ IsUn n ∧ s = [] ∧ c = 2) ∨ (fitB n = true ∧ IsUn n ∧ 4000 < (shownT n).length ∧ s = [] ∧ c = 1) ∨ (fitB n = true ∧ IsUn n ∧ (shownT n).length ≤ 4000 ∧ s = shownT n ∧ c = 0)
theorem PrR.one {n : Nd} {s s' : List UInt8} {c c' : Int} (h : PrR n s c) (h' : PrR n s' c') : s = s' ∧ c = c' := by
  rcases h with ⟨a1, rfl, rfl⟩ | ⟨a1, a2, rfl, rfl⟩ | ⟨a1, a2, a3, rfl, rfl⟩ | ⟨a1, a2, a3, rfl, rfl⟩ <;> rcases h' with ⟨b1, rfl, rfl⟩ | ⟨b1, b2, rfl, rfl⟩ | ⟨b1, b2, b3, rfl, rfl⟩ | ⟨b1, b2, b3, rfl, rfl⟩ <;> first | exact ⟨rfl, rfl⟩ | exact absurd b2 a2 | exact absurd a2 b2 | omega | (exfalso; rw [a1] at b1; cases b1)
set_option maxRecDepth 100000 in
set_option maxHeartbeats 800000 in
theorem print_any {w : World} (hG : Gl w) (hTb : TabW w) (n : Nd) (v : Value) (hv : NdO w n v) :
    Calls Tryd.prog 4 #[v] w fun e w' => ∃ s c, PrR n s c ∧ e = .returned (.tuple #[.string (str s), .int .i64 c]) ∧ Below w.heap.size w w' := by
  have HV := hide hv
  obtain ⟨kind, text, num, ka, kn, kc, rfl⟩ := hv.form
  have hB0 : Below w.heap.size w (w.alloc (.cells #[.int .i64 kind, .string text, .int .i64 num, .slice ka kn kc] 24)) := (Below.refl _ _).alloc (Nat.le_refl _) _
  have HN0 : Hid ((w.alloc (.cells #[.int .i64 kind, .string text, .int .i64 num, .slice ka kn kc] 24)).heap[w.heap.size]? = some (.cells #[.int .i64 kind, .string text, .int .i64 num, .slice ka kn kc] 24 (0, 0))) := heap_new _ _ _
  have hft := fits_any (w := w.alloc (.cells #[.int .i64 kind, .string text, .int .i64 num, .slice ka kn kc] 24)) (Below.refl _ _) n _ (hv.under hB0)
  have HB0 := hide hB0
  have HG := hide hG
  have HTb := hide hTb
  clear hv hB0 hG hTb
  cases hf : fitB n with
  | false =>
    rw [hf] at hft
    have HF := hide hf
    clear hf
    go_enter Tryd.func4, Tryd.ntmps4
    go_wp2_with fail
    go_at_call 6
    refine hft.mono ?_
    rintro e w1 ⟨rfl, hb1⟩
    have HB1 := hide (HB0.out.trans (hb1.mono (by simp)))
    have hn1 := cells_at ((hb1.block w.heap.size (by simp)).trans HN0.out)
    clear hft
    go_wp2_with fail
    go_ret2
    exact ⟨[], 1, Or.inl ⟨HF.out, rfl, rfl⟩, rfl, HB1.out⟩
  | true =>
    rw [hf] at hft
    have HF := hide hf
    have hfit : cnt n ≤ 700 ∧ dpt n ≤ 16 := of_decide_eq_true hf
    clear hf
    go_enter Tryd.func4, Tryd.ntmps4
    go_wp2_with fail
    go_at_call 6
    refine hft.mono ?_
    rintro e w1 ⟨rfl, hb1⟩
    have HB1 := hide (HB0.out.trans (hb1.mono (by simp)))
    have hn1 := cells_at ((hb1.block w.heap.size (by simp)).trans HN0.out)
    clear hft
    have HPd := hide (printed_any (HG.out.below HB1.out) (tab_below HTb.out HB1.out) n _ (HV.out.under HB1.out) hfit.1 hfit.2)
    have HLn : Hid (IsUn n → (shownT n).length ≤ 9200000000000) := fun h => shown_len h hfit.1 hfit.2
    clear hfit hb1
    go_wp2_with fail
    go_at_call 7
    refine HPd.out.mono ?_
    rintro e w2 ⟨⟨hu, rfl⟩ | ⟨hu, rfl⟩, hb2⟩
    rotate_left
    · have HU := hide hu
      have HB2 := hide (HB1.out.trans (hb2.mono HB1.out.size))
      clear hu hb2 hn1 HPd
      go_wp2_with fail
      go_ret2
      exact ⟨[], 2, Or.inr (Or.inl ⟨HF.out, HU.out, rfl, rfl⟩), rfl, HB2.out⟩
    · have HU := hide hu
      have HB2 := hide (HB1.out.trans (hb2.mono HB1.out.size))
      have hl9 := HLn.out hu
      obtain ⟨ss, hss⟩ : ∃ ss, ss = shownT n := ⟨_, rfl⟩
      rw [← hss] at hl9 ⊢
      have HSs := hide hss
      have hsz : (str ss).size = ss.length := rfl
      clear hu hb2 hn1 HPd hss
      generalize hbs : str ss = bs at *
      have HBs := hide hbs
      clear hbs
      by_cases h4 : 4000 < ss.length
      · have h4' : (4000 : Int) < bs.size := by omega
        go_wp2_with fail
        go_ret2
        exact ⟨[], 1, Or.inr (Or.inr (Or.inl ⟨HF.out, HU.out, by rw [← HSs.out]; exact h4, rfl, rfl⟩)), rfl, HB2.out⟩
      · have h4' : ¬ (4000 : Int) < bs.size := by omega
        go_wp2_with fail
        go_ret2
        exact ⟨ss, 0, Or.inr (Or.inr (Or.inr ⟨HF.out, HU.out, by rw [← HSs.out]; omega, HSs.out, rfl⟩)), by rw [HBs.out]; rfl, HB2.out⟩
end Go.Proofs.YthcfianhdkolhaaDoor.T
