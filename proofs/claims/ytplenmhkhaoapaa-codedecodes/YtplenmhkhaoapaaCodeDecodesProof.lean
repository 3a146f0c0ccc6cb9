/- For every 32 bits w the call CodeDecodes(w) returns true and leaves all as it was: no condition. (The frame of the row's step was written by the kit's program.) -/
import Derived.Test.YtplenmhkhaoapaaRows
import Derived.WalkKit
import Derived.ProofKit
import Derived.OpenShut
import Derived.Test.YtplenmhkhaoapaaKit
import Derived.Test.YtplenmhkhaoapaaDec
import Derived.Test.YtplenmhkhaoapaaRdec
namespace Go.Proofs.Ytplenmhkhaoapaa.codeDecodes
open Go.Proofs.Ytplenmhkhaoapaa Go.Proofs.Ytplenmhkhaoapaa.W Go.Proofs.Ytplenmhkhaoapaa.M
open Go.ChangeShapes Go.WideShapes Go.ChangeAt Go.RowKit
set_option linter.unusedVariables false      -- a walk need not use every 'w<i>' (that an integer argument fits its kind)

theorem own : ownKnob Try.prog.godebug = none := by kernel_rfl

/-! ### STEP 1: THE WALK: the Go text returns true. 'Grown w w'': the world has at most new blocks (Derived/RowKit3.lean). Part the cases AHEAD of 'go_enter' where a test parts the walk; take each callee by a contract of your own. -/
set_option maxHeartbeats 2000000 in
theorem walk (a0 : Int) (w0 : (Lit.int .u32 a0).wf = true) (w : World) :
    Calls Try.prog 3 #[.int .u32 a0] w fun e w' => e = .returned (.bool true) ∧ Below w.heap.size w w' := by
  obtain ⟨b0, b1⟩ : 0 ≤ a0 ∧ a0 ≤ 4294967295 := bounds_u32 w0
  by_cases h : dck a0 = 0
  · have hd := fun w' => decode_ok a0 w' b0 b1 h
    have hr := fun w' => rdecode_ok a0 w' b0 b1 h
    clear h
    generalize dC (kind (a0 / 16777216)) (a0 % 65536) = c at *
    generalize dM (kind (a0 / 16777216)) (a0 % 65536) = m at *
    generalize a0 / 16777216 = op at *
    generalize a0 / 1048576 % 16 = a at *
    generalize a0 / 65536 % 16 = b at *
    go_enter Try.func3, Try.ntmps3
    go_wp2_with fail
    go_at_call 5
    refine (hd _).mono ?_
    rintro e w1 ⟨rfl, hb⟩
    have hz := hb.size
    go_wp2_with fail
    go_at_call 6
    refine (hr _).mono ?_
    rintro e w2 ⟨rfl, hb2⟩
    obtain ⟨hce2, hfr2⟩ := bcell hb2
    have hz2 := hb2.size
    simp at hz2
    have hz3 : w1.heap.size < w2.heap.size := by omega
    go_wp2_with fail
    go_ret
    refine ⟨rfl, ?_⟩
    exact ((hb.alloc hz _).trans (hb2.mono (by simp; omega))).alloc (by omega) _
  · go_enter Try.func3, Try.ntmps3
    go_wp2_with fail
    go_at_call 5
    refine (decode_bad a0 _ b0 b1 h).mono ?_
    rintro e w1 ⟨rfl, hb⟩
    have hz := hb.size
    go_wp2_with fail
    go_at_call 6
    refine (rdecode_bad a0 _ b0 b1 h).mono ?_
    rintro e w2 ⟨rfl, hb2⟩
    obtain ⟨hce2, hfr2⟩ := bcell hb2
    have hz2 := hb2.size
    simp at hz2
    have hz3 : w1.heap.size < w2.heap.size := by omega
    go_wp2_with fail
    go_ret
    refine ⟨rfl, ?_⟩
    exact ((hb.alloc hz _).trans (hb2.mono (by simp; omega))).alloc (by omega) _

/-! ### THE ROW's STEP: WRITTEN OUT: LEAVE IT -/
set_option maxRecDepth 100000 in
theorem lifted (os : Os) (started : os.Started) (H : Type) (enc : TypeId × Value → H) :
    ReturnsInHanded {} Try.checked os 3 .any (Rows.codeDecodesSpec.pre6 enc Try.prog Try.f3 Rows.codeDecodesRow.domain false) (Rows.codeDecodesSpec.post enc Try.prog Try.f3 false true false false) := by
  refine returnsInHanded_of_change (C := Try.checked) own started (by kernel_rfl) Try.func3
    (ChangeSpec.witness6 (enc := enc) (C := Try.checked) false ⟨#[], #[.int .u32 0], []⟩ 8 (by kernel_rfl) (by kernel_rfl) (by kernel_rfl) (by kernel_rfl)) ?_
  intro W base args ds gs before hval0 hW hcnd _
  have hval : ∀ (j : Nat) t v, Try.f3.params[j]? = some t → args[j]? = some v → Value.okWide Try.prog W .any base t v := hval0
  have hW' := hW
  obtain ⟨p, q, hA0, hV, rfl, hfz, hnd⟩ := hW
  have hA : DataW.TrodAll enc Try.prog W 0 (fun _ => true) true Try.f3.params.toList args.toList ds p := hA0
  rw [Try.params3] at hA hval
  obtain ⟨v0, vs0, d0, ds0, p0, q0, hargs, rfl, rfl, h0, r0⟩ := trodAll_cons hA
  obtain ⟨rfl, rfl, rfl⟩ := trodAll_nil r0
  obtain rfl : args = #[v0] := by cases args; simp_all
  obtain ⟨rfl, rfl⟩ := trodVars_none hV
  obtain ⟨a0, rfl, rfl, rfl, w0⟩ := open_int Try.underlying22 (hval 0 22 v0 rfl rfl) h0
  clear hA0 hval0
  simp only [List.append_nil] at hW'
  refine (walk a0 w0 W).mono fun e W' ⟨he, hg⟩ => ?_
  subst he
  exact ⟨_, rfl, K.post_below (pa := []) (pv := []) hW' (fun _ _ _ => (trodAll_cons_mk (shut_bool Try.underlying4 _) trodAll_mk0)) (fun sp _ => (trodAll_cons_mk (shut_int Try.underlying22 w0) trodAll_mk0)) (fun _ _ => rfl) rfl
    hg⟩

theorem over : Rows.codeDecodesRow.holds Try.pinned (OpenSpec.ofChange Rows.codeDecodesSpec) :=
  OpenClaim.holds_of_wide 3 Try.f3 rfl rfl rfl rfl rfl rfl rfl ⟨rfl, rfl, rfl, rfl, rfl⟩ rfl rfl rfl rfl rfl (by kernel_rfl) Try.func3 (by kernel_rfl)
    (of_decide_eq_true (by kernel_rfl)) (by unfold Func.isWrapper; first | (rw [if_pos (by decide +kernel)]; kernel_rfl) | (rw [if_neg (by decide +kernel)]; exact ⟨rfl, rfl⟩))
    (fun os started H enc _ => lifted os started H enc)

/-- ████ THE STATEMENT ████ -/
theorem proved : Rows.CodeDecodesSaid :=
  over
#print axioms proved
end Go.Proofs.Ytplenmhkhaoapaa.codeDecodes
