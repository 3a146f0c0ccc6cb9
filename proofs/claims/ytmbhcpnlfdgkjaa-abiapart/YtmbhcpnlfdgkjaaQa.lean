/- The program's evenAt, next, leaveOut. -/
import Derived.Test.YtmbhcpnlfdgkjaaFx
import Derived.Test.YtmbhcpnlfdgkjaaPf
namespace Go.Proofs.Ytmbhcpnlfdgkjaa.T
open Go.RowKit
set_option linter.unusedVariables false
set_option linter.unusedSimpArgs false
theorem pev_any (n : Nat) (w : World) (hn : n ≤ 1000) : Calls Try.prog 15 #[.int .i64 n] w fun e w' => e = .returned (.int .i64 (upN n)) ∧ w' = w := by
  have e1 : (n : Int) + (n : Int) % 2 = upN n := by unfold upN; omega
  go_enter Try.func15, Try.ntmps15
  go_wp2_with fail
  go_ret
  refine ⟨?_, rfl⟩
  simp [e1]
abbrev ly (r p : Nat) : Array Value := #[.int .i64 r, .int .i64 p]
theorem rt2 {fn : Func} {t : Tmp} {q : Nat} {a : Bool} {b : Int} {tmps : Array Value} {w : World} (h : fn.results = #[.cell t 39]) (ht : tmps.getD t undef = .pointer (some ⟨q, 0, none⟩)) (hb : w.heap[q]? = some (.cells #[.bool a, .int .i64 b] 39 (0, 0))) : (results fn tmps).run Try.prog w = .ok (.agg #[.bool a, .int .i64 b]) w := by
  have ht' : tmps[t]?.getD undef = .pointer (some ⟨q, 0, none⟩) := by simpa using ht
  have hc := fr_cells hb
  have hl := (Array.getElem?_eq_some_iff.1 hb).1
  simp [results, h, asAddr, ht', loadVar, go_sem, hc, hl]
theorem next_reg (b r p : Nat) (w : World) (hb : w.heap[b]? = some (.cells (ly r p) 43 (0, 0))) (hr : r < 4) : Calls Try.prog 12 #[.pointer (some ⟨b, 0, none⟩)] w fun e w' => e = .returned (.agg #[.bool false, .int .i64 r]) ∧ w'.heap[b]? = some (.cells (ly (r + 1) p) 43 (0, 0)) ∧ w.grownBy w' (some b) := by
  have HF := hide ((Fx.one' hb).alloc rfl #[.bool false, .int .i64 0] 39)
  have c1 := HF.out.cell 1 rfl
  have f1 := HF.out.frz 1 rfl
  have HG := hide (HF.out.set 1 rfl 0 (.int .i64 ((r : Int) + 1)))
  have d1 := HG.out.cell 1 rfl
  have d0 := HG.out.cell 0 rfl
  have e0 := HG.out.frz 0 rfl
  have hr' : (r : Int) < 4 := by omega
  clear hb
  go_enter Try.func12, Try.ntmps12
  go_wp2_with fail
  replace HG := hide ((HG.out.set 0 rfl 0 (.bool false)).set 0 rfl 1 (.int .i64 r))
  refine bodyPost_ret (rt2 Try.results12 rfl (HG.out.fr.get (i := 0) rfl).2) rfl ?_
  exact ⟨rfl, (HG.out.fr.get (i := 1) rfl).2, HG.out.grown⟩
theorem next_stk (b r p : Nat) (w : World) (hb : w.heap[b]? = some (.cells (ly r p) 43 (0, 0))) (hr : ¬ r < 4) (hp : p ≤ 1000) : Calls Try.prog 12 #[.pointer (some ⟨b, 0, none⟩)] w fun e w' => e = .returned (.agg #[.bool true, .int .i64 p]) ∧ w'.heap[b]? = some (.cells (ly r (p + 1)) 43 (0, 0)) ∧ w.grownBy w' (some b) := by
  have HF := hide ((Fx.one' hb).alloc rfl #[.bool false, .int .i64 0] 39)
  have c1 := HF.out.cell 1 rfl
  have f1 := HF.out.frz 1 rfl
  have HG := hide (HF.out.set 1 rfl 1 (.int .i64 ((p : Int) + 1)))
  have d1 := HG.out.cell 1 rfl
  have d0 := HG.out.cell 0 rfl
  have e0 := HG.out.frz 0 rfl
  have hr' : ¬ (r : Int) < 4 := by omega
  clear hb
  go_enter Try.func12, Try.ntmps12
  go_wp2_with fail
  replace HG := hide ((HG.out.set 0 rfl 0 (.bool true)).set 0 rfl 1 (.int .i64 p))
  refine bodyPost_ret (rt2 Try.results12 rfl (HG.out.fr.get (i := 0) rfl).2) rfl ?_
  exact ⟨rfl, (HG.out.fr.get (i := 1) rfl).2, HG.out.grown⟩
/-- One word more, by the plain rule. -/
theorem next_any (b a q k : Nat) (w : World) (hb : w.heap[b]? = some (.cells (ly (adv a q k).1 (adv a q k).2) 43 (0, 0))) (hp : (adv a q k).2 ≤ 1000) : Calls Try.prog 12 #[.pointer (some ⟨b, 0, none⟩)] w fun e w' => ∃ x : Lo, lay a q (k + 1) = lay a q k ++ [x] ∧ e = .returned (.agg #[.bool x.1, .int .i64 x.2]) ∧ w'.heap[b]? = some (.cells (ly (adv a q (k + 1)).1 (adv a q (k + 1)).2) 43 (0, 0)) ∧ w.grownBy w' (some b) := by
  by_cases h : (adv a q k).1 < 4
  · refine (next_reg b _ _ w hb h).mono ?_
    rintro e w' ⟨rfl, h1, h2⟩
    refine ⟨(false, (adv a q k).1), ?_, rfl, ?_, h2⟩
    · simp only [lay, if_pos h]
    · simp only [adv, if_pos h]; exact h1
  · refine (next_stk b _ _ w hb h hp).mono ?_
    rintro e w' ⟨rfl, h1, h2⟩
    refine ⟨(true, (adv a q k).2), ?_, rfl, ?_, h2⟩
    · simp only [lay, if_neg h]
    · simp only [adv, if_neg h]; exact h1
theorem hid_no (b : Nat) (w : World) : Calls Try.prog 11 #[.bool false, .pointer (some ⟨b, 0, none⟩)] w fun e w' => e = .returned (.int .i64 (-1)) ∧ w' = w := by
  go_enter Try.func11, Try.ntmps11
  go_wp2_with fail
  go_ret
  exact ⟨rfl, rfl⟩
theorem hid_yes (b r p : Nat) (w : World) (hb : w.heap[b]? = some (.cells (ly r p) 43 (0, 0))) (hr : r < 4) : Calls Try.prog 11 #[.bool true, .pointer (some ⟨b, 0, none⟩)] w fun e w' => e = .returned (.int .i64 r) ∧ w'.heap[b]? = some (.cells (ly (r + 1) p) 43 (0, 0)) ∧ w.grownBy w' (some b) := by
  have HC := hide (next_reg b r p w hb hr)
  have hfl : ∀ w : World, (Instr.field 39 (.agg #[.bool false, .int .i64 r]) 1).run Try.prog w = .ok (.int .i64 r) w := fun _ => by kernel_rfl
  clear hb
  go_enter Try.func11, Try.ntmps11
  go_wp2_with fail
  go_at_call 12
  refine HC.out.mono ?_
  rintro e w1 ⟨rfl, h1, h2⟩
  have H1 := hide h1
  have H2 := hide h2
  clear h1 h2 HC
  go_wp2_with fail
  go_ret
  exact ⟨rfl, H1.out, H2.out⟩
theorem leave_any (b r p : Nat) (w : World) (hb : w.heap[b]? = some (.cells (ly r p) 43 (0, 0))) (hr : r ≤ 4) (hp : p ≤ 1000) : Calls Try.prog 26 #[.pointer (some ⟨b, 0, none⟩)] w fun e w' => e = .returned (.tuple #[]) ∧ w'.heap[b]? = some (.cells (ly (upN r) (if upN r = 4 then upN p else p)) 43 (0, 0)) ∧ w.grownBy w' (some b) := by
  have HF := hide (Fx.one' hb)
  have c1 := HF.out.cell 0 rfl
  have f1 := HF.out.frz 0 rfl
  clear hb
  have hu := up_le r
  by_cases h4 : upN r = 4
  · have HC := pev_any r w (by omega)
    rw [h4] at HC
    rw [h4, if_pos rfl]
    have HC' := hide HC
    have HG := hide (HF.out.set 0 rfl 0 (.int .i64 4))
    have d1 := HG.out.cell 0 rfl
    have e1 := HG.out.frz 0 rfl
    have HD := hide (pev_any p (w.setCell ⟨b, 0, none⟩ (.int .i64 4)) (by omega))
    clear HC
    go_enter Try.func26, Try.ntmps26
    go_wp2_with fail
    go_at_call 15
    refine HC'.out.mono ?_
    rintro e w1 ⟨rfl, hw⟩
    obtain rfl : w1 = w := hw
    go_wp2_with fail
    go_at_call 15
    refine HD.out.mono ?_
    rintro e w2 ⟨rfl, hw⟩
    subst hw
    go_wp2_with fail
    go_end0
    have HK := HG.out.set 0 rfl 1 (.int .i64 (upN p))
    exact ⟨rfl, (HK.fr.get (i := 0) rfl).2, HK.grown⟩
  · have HC := hide (pev_any r w (by omega))
    have HG := hide (HF.out.set 0 rfl 0 (.int .i64 (upN r)))
    have d1 := HG.out.cell 0 rfl
    have e1 := HG.out.frz 0 rfl
    rw [if_neg h4]
    generalize upN r = u at *
    have h4' : ¬ (u : Int) = 4 := by omega
    have h4'' : ((u : Int) == 4) = false := by simpa using h4'
    go_enter Try.func26, Try.ntmps26
    go_wp2_with fail
    go_at_call 15
    refine HC.out.mono ?_
    rintro e w1 ⟨rfl, hw⟩
    obtain rfl : w1 = w := hw
    go_wp2_with fail
    go_end0
    exact ⟨rfl, (HG.out.fr.get (i := 0) rfl).2, HG.out.grown⟩
end Go.Proofs.Ytmbhcpnlfdgkjaa.T
