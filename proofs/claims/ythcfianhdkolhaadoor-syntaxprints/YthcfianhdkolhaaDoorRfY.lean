/- The contract of the reference's Print; the law. -/
import Derived.Test.YthcfianhdkolhaaDoorRfX
import Derived.Test.YthcfianhdkolhaaDoorRfF
import Derived.Test.YthcfianhdkolhaaDoorRfH
import Derived.Test.YthcfianhdkolhaaDoorRfI
import Derived.Test.YthcfianhdkolhaaDoorRfJ
namespace Go.Proofs.YthcfianhdkolhaaDoor.T
open Go.RowKit Go.Proofs.YthcfianhdkolhaaDoor.S
set_option linter.unusedVariables false
set_option linter.unusedSimpArgs false

theorem is_all {w0 : World} : ∀ n, IsR w0 n := by
  refine Nd.ind fun k t v kids ih => ?_
  intro w u free hb hv hf
  cases free with
  | false =>
    by_cases k15 : k = 15
    · subst k15; exact is_k15 t v kids ih w u hb hv
    by_cases k20 : k = 20
    · subst k20; exact is_k20 t v kids ih w u hb hv
    by_cases k21 : k = 21
    · subst k21; exact is_k21_false t v kids ih w u hb hv
    by_cases k22 : k = 22
    · subst k22; exact is_k22_false t v kids ih w u hb hv
    by_cases k32 : k = 32
    · subst k32; exact is_k32 t v kids ih w u hb hv
    exact is_rest k t v kids k15 k20 k21 k22 k32 ih w u hb hv
  | true =>
    rcases hf rfl with h | h
    · obtain rfl : k = 21 := h
      exact is_k21_true t v kids ih w u hb hv
    · obtain rfl : k = 22 := h
      exact is_k22_true t v kids ih w u hb hv
set_option maxRecDepth 100000 in
set_option maxHeartbeats 800000 in
theorem rprint_any {w : World} (n : Nd) (v : Value) (hv : NdO w n v) :
    Calls Tryd.prog 5 #[v] w fun e w' => ∃ s c, PrR n s c ∧ e = .returned (.tuple #[.string (str s), .int .i64 c]) ∧ Below w.heap.size w w' := by
  have HV := hide hv
  have HUi := hide (un_iff hv.lg)
  have hkk : ∃ kind text num ka kn kc, v = .agg #[.int .i64 kind, .string text, .int .i64 num, .slice ka kn kc] ∧ n.kind = kind := by
    cases n with
    | mk a1 a2 a3 a4 =>
      obtain ⟨ka, kc, e, _⟩ := hv.part
      exact ⟨_, _, _, _, _, _, e, rfl⟩
  obtain ⟨kind, text, num, ka, kn, kc, rfl, hnk⟩ := hkk
  have hB0 : Below w.heap.size w (w.alloc (.cells #[.int .i64 kind, .string text, .int .i64 num, .slice ka kn kc] 24)) := (Below.refl _ _).alloc (Nat.le_refl _) _
  have HN0 : Hid ((w.alloc (.cells #[.int .i64 kind, .string text, .int .i64 num, .slice ka kn kc] 24)).heap[w.heap.size]? = some (.cells #[.int .i64 kind, .string text, .int .i64 num, .slice ka kn kc] 24 (0, 0))) := heap_new _ _ _
  have hft := rfits_any (w0 := w) (w := w.alloc (.cells #[.int .i64 kind, .string text, .int .i64 num, .slice ka kn kc] 24)) hB0 n _ hv
  have HB0 := hide hB0
  have HNk := hide hnk
  clear hv hB0 hnk
  cases hf : fitB n with
  | false =>
    rw [hf] at hft
    have HF := hide hf
    clear hf
    go_enter Tryd.func5, Tryd.ntmps5
    go_wp2_with fail
    go_at_call 8
    refine hft.mono ?_
    rintro e w1 ⟨rfl, hb1⟩
    have HB1 := hide (HB0.out.trans (hb1.mono (by simp)))
    have HN1 : Hid (w1.heap[w.heap.size]? = some (.cells #[.int .i64 kind, .string text, .int .i64 num, .slice ka kn kc] 24 (0, 0))) := (hb1.block w.heap.size (by simp)).trans HN0.out
    have hn1 := cells_at HN1.out
    clear hft hb1
    go_wp2_with fail
    go_ret2
    exact ⟨[], 1, Or.inl ⟨HF.out, rfl, rfl⟩, rfl, HB1.out⟩
  | true =>
    rw [hf] at hft
    have HF := hide hf
    have hfit : cnt n ≤ 700 ∧ dpt n ≤ 16 := of_decide_eq_true hf
    clear hf
    go_enter Tryd.func5, Tryd.ntmps5
    go_wp2_with fail
    go_at_call 8
    refine hft.mono ?_
    rintro e w1 ⟨rfl, hb1⟩
    have HB1 := hide (HB0.out.trans (hb1.mono (by simp)))
    have HN1 : Hid (w1.heap[w.heap.size]? = some (.cells #[.int .i64 kind, .string text, .int .i64 num, .slice ka kn kc] 24 (0, 0))) := (hb1.block w.heap.size (by simp)).trans HN0.out
    have hn1 := cells_at HN1.out
    clear hft hb1
    by_cases k1 : kind = 1
    rotate_left
    · have k1' : (kind != 1) = true := by simpa using k1
      have HU : Hid (¬ IsUn n) := fun h => k1 (by rw [← HNk.out]; exact (HUi.out.1 h).1)
      clear k1 hfit
      go_wp2_with fail
      go_ret2
      exact ⟨[], 2, Or.inr (Or.inl ⟨HF.out, HU.out, rfl, rfl⟩), rfl, HB1.out⟩
    have k1' : (kind != 1) = false := by simpa using k1
    have his := is_all (w0 := w) n w1 _ false HB1.out HV.out (fun h => absurd h (by decide))
    have HK1 := hide k1
    clear k1
    cases hi : isN n false with
    | false =>
      rw [hi] at his
      have HU : Hid (¬ IsUn n) := fun h => by have := (HUi.out.1 h).2; rw [hi] at this; cases this
      clear hi hfit
      go_wp2_with fail
      go_at_call 9
      refine his.mono ?_
      rintro e w2 ⟨rfl, hb2⟩
      have HB2 := hide (HB1.out.trans (hb2.mono HB1.out.size))
      clear hb2 his hn1
      go_wp2_with fail
      go_ret2
      exact ⟨[], 2, Or.inr (Or.inl ⟨HF.out, HU.out, rfl, rfl⟩), rfl, HB2.out⟩
    | true =>
      rw [hi] at his
      have hu : IsUn n := HUi.out.2 ⟨by rw [HNk.out]; exact HK1.out, hi⟩
      have HSh := hide (show_un (w0 := w) hu (tb_fits hfit.1 hfit.2) hfit.1)
      have hl9 := shown_len hu hfit.1 hfit.2
      have HU := hide hu
      obtain ⟨ss, hss⟩ : ∃ ss, ss = shownT n := ⟨_, rfl⟩
      rw [← hss] at hl9
      have hsz : (str ss).size = ss.length := rfl
      clear hi hfit hu
      go_wp2_with fail
      go_at_call 9
      refine his.mono ?_
      rintro e w2 ⟨rfl, hb2⟩
      have HB2 := hide (HB1.out.trans (hb2.mono HB1.out.size))
      have hn2 := cells_at ((hb2.block _ (Array.getElem?_eq_some_iff.1 HN1.out).1).trans HN1.out)
      clear hb2 his hn1
      have hsh := HSh.out w2 _ HB2.out HV.out
      rw [show jx (shT n) = ss from hss.symm] at hsh
      have HSs := hide hss
      clear hss
      generalize hbs : str ss = bs at *
      have HBs := hide hbs
      clear hbs
      go_wp2_with fail
      go_at_call 10
      refine hsh.mono ?_
      rintro e w3 ⟨rfl, hb3⟩
      have HB3 := hide (HB2.out.trans (hb3.mono HB2.out.size))
      clear hb3 hsh hn2
      by_cases h4 : 4000 < ss.length
      · have h4' : (4000 : Int) < bs.size := by omega
        go_wp2_with fail
        go_ret2
        exact ⟨[], 1, Or.inr (Or.inr (Or.inl ⟨HF.out, HU.out, by rw [← HSs.out]; exact h4, rfl, rfl⟩)), rfl, HB3.out⟩
      · have h4' : ¬ (4000 : Int) < bs.size := by omega
        go_wp2_with fail
        go_ret2
        exact ⟨ss, 0, Or.inr (Or.inr (Or.inr ⟨HF.out, HU.out, by rw [← HSs.out]; omega, HSs.out, rfl⟩)), by rw [HBs.out]; rfl, HB3.out⟩
set_option maxRecDepth 100000 in
set_option maxHeartbeats 800000 in
theorem prints_true {w : World} (hG : Gl w) (hTb : TabW w) (n : Nd) (v : Value) (hv : NdO w n v) :
    Calls Tryd.prog 3 #[v] w fun e w' => e = .returned (.bool true) ∧ Below w.heap.size w w' := by
  obtain ⟨kind, text, num, ka, kn, kc, rfl⟩ := hv.form
  have hB0 : Below w.heap.size w (w.alloc (.cells #[.int .i64 kind, .string text, .int .i64 num, .slice ka kn kc] 24)) := (Below.refl _ _).alloc (Nat.le_refl _) _
  have HN0 : Hid ((w.alloc (.cells #[.int .i64 kind, .string text, .int .i64 num, .slice ka kn kc] 24)).heap[w.heap.size]? = some (.cells #[.int .i64 kind, .string text, .int .i64 num, .slice ka kn kc] 24 (0, 0))) := heap_new _ _ _
  have hp := print_any (hG.below hB0) (tab_below hTb hB0) n _ (hv.under hB0)
  have HV := hide (hv.under hB0)
  have HB0 := hide hB0
  clear hv hB0 hG hTb
  go_enter Tryd.func3, Tryd.ntmps3
  go_wp2_with fail
  go_at_call 4
  refine hp.mono ?_
  rintro e w1 ⟨s, c, hr, rfl, hb1⟩
  have HB1 := hide (HB0.out.trans (hb1.mono (by simp)))
  have hn1 := cells_at ((hb1.block w.heap.size (by simp)).trans HN0.out)
  have HR := hide hr
  have hq := rprint_any n _ (HV.out.under hb1)
  clear hb1 hp hr
  go_wp2_with fail
  go_at_call 5
  refine hq.mono ?_
  rintro e w2 ⟨s', c', hr', rfl, hb2⟩
  obtain ⟨rfl, rfl⟩ := HR.out.one hr'
  have HB2 := hide (HB1.out.trans (hb2.mono HB1.out.size))
  have hss : ((str s).toList == (str s).toList) = true := by simp
  have hcc : (c == c) = true := by simp
  clear hb2 hq hr' hn1
  go_wp2_with fail
  go_ret
  exact ⟨rfl, HB2.out⟩
end Go.Proofs.YthcfianhdkolhaaDoor.T
