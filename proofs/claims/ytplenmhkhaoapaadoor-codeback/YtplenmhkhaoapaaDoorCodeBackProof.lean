/- For every instruction i the call CodeBack(i) returns true and leaves all as it was: no condition. The card ties the listed variables to the program's text. -/
import Derived.Test.YtplenmhkhaoapaaDoorLaid
import Derived.Test.YtplenmhkhaoapaaDoorKit
import Derived.Test.YtplenmhkhaoapaaDoorCards
import Derived.Test.YtplenmhkhaoapaaDoorTie
import Derived.Test.YtplenmhkhaoapaaDoorLaidE
import Derived.Test.YtplenmhkhaoapaaDoorRdd
namespace Go.Proofs.YtplenmhkhaoapaaDoor.codeBack
open Go.Proofs.YtplenmhkhaoapaaDoor Go.Proofs.YtplenmhkhaoapaaDoor.W Go.Proofs.YtplenmhkhaoapaaDoor.M Go.Proofs.YtplenmhkhaoapaaDoor.L
open Go.ChangeShapes Go.WideShapes Go.ChangeAt Go.RowKit
set_option linter.unusedVariables false

theorem own : ownKnob Tryd.prog.godebug = none := by kernel_rfl

set_option maxRecDepth 100000 in
set_option maxHeartbeats 4000000 in
theorem walk_ok (n : Nat) (a b c m : Int) (w : World) (G : GlobE w) (H : Hid (ckN n a b c m = 0)) :
    Calls Tryd.prog 5 #[.agg #[.int .i64 n, .int .i64 a, .int .i64 b, .int .i64 c, .int .i64 m]] w fun e w' => e = .returned (.bool true) ∧ Below w.heap.size w w' := by
  have k1 := fun w' => encode_ok n a b c m w' H
  have k2 := fun w' => decode_enc n a b c m w' H
  have k3 := fun w' G' => text_ok n a b c m w' G' H
  have k4 := fun w' G' => read_yes n a b c m ⟨(textL n a b c m).toArray⟩ w' G' H (by simp)
  have hg7 := G.size
  generalize encN n a b c m = en at *
  generalize (⟨(textL n a b c m).toArray⟩ : ByteArray) = tx at *
  go_enter Tryd.func5, Tryd.ntmps5
  go_wp2_with fail
  go_at_call 6
  refine (k1 _).mono ?_
  rintro e x1 ⟨rfl, b1⟩
  have s1 := b1.size
  simp at s1
  obtain ⟨q1, r1⟩ := bcell b1
  have z1 : w.heap.size < x1.heap.size := by omega
  have y1 : Below w.heap.size w x1 := ((Below.refl _ _).alloc (Nat.le_refl _) _).trans (b1.mono (by simp))
  go_wp2_with fail
  go_at_call 12
  refine (k2 _).mono ?_
  rintro e x2 ⟨rfl, b2⟩
  have s2 := b2.size
  obtain ⟨q2, r2⟩ := bcell b2
  have z2 : w.heap.size < x2.heap.size := by omega
  have y2 := y1.trans (b2.mono y1.size)
  have y2a := y2.alloc (o := .cells #[.int .i64 n, .int .i64 a, .int .i64 b, .int .i64 c, .int .i64 m] 23) y2.size
  have G2 := G.toGlob.below y2a hg7
  have z2a : w.heap.size < x2.heap.size + 1 := by omega
  go_wp2_with fail
  go_at_call 8
  refine (k3 _ G2).mono ?_
  rintro e x3 ⟨rfl, b3⟩
  have s3 := b3.size
  simp at s3
  obtain ⟨q3, r3⟩ := bcell b3
  have z3 : w.heap.size < x3.heap.size := by omega
  have z3a : x2.heap.size < x3.heap.size := by omega
  have y3 := y2a.trans (b3.mono (by simp; omega))
  have G3 := G.below y3 hg7
  go_wp2_with fail
  go_at_call 10
  refine (k4 _ G3).mono ?_
  rintro e x4 ⟨rfl, b4⟩
  have s4 := b4.size
  obtain ⟨q4, r4⟩ := bcell b4
  have z4 : w.heap.size < x4.heap.size := by omega
  have z4a : x2.heap.size < x4.heap.size := by omega
  have y4 := y3.trans (b4.mono y3.size)
  go_wp2_with fail
  go_ret
  exact ⟨rfl, y4.alloc y4.size _⟩

set_option maxRecDepth 100000 in
set_option maxHeartbeats 4000000 in
theorem walk_bad (op a b c m ck : Int) (w : World) (HC : Hid (ckN op a b c m = ck)) (h : (ck == 0) = false) :
    Calls Tryd.prog 5 #[.agg #[.int .i64 op, .int .i64 a, .int .i64 b, .int .i64 c, .int .i64 m]] w fun e w' => e = .returned (.bool true) ∧ Below w.heap.size w w' := by
  have k1 := fun w' => encode_bad op a b c m ck w' HC h
  go_enter Tryd.func5, Tryd.ntmps5
  go_wp2_with fail
  go_at_call 6
  refine (k1 _).mono ?_
  rintro e x1 ⟨rfl, b1⟩
  have y1 : Below w.heap.size w x1 := ((Below.refl _ _).alloc (Nat.le_refl _) _).trans (b1.mono (by simp))
  go_wp2_with fail
  go_ret
  exact ⟨rfl, y1⟩

theorem walk (op a b c m : Int) (w : World) (G : GlobE w) :
    Calls Tryd.prog 5 #[.agg #[.int .i64 op, .int .i64 a, .int .i64 b, .int .i64 c, .int .i64 m]] w fun e w' => e = .returned (.bool true) ∧ Below w.heap.size w w' := by
  by_cases h : ckN op a b c m = 0
  · obtain ⟨h1, _⟩ := ck_facts h
    obtain ⟨n, rfl⟩ : ∃ n : Nat, op = (n : Int) := ⟨op.toNat, by omega⟩
    exact walk_ok n a b c m w G h
  · exact walk_bad op a b c m _ w rfl (by simpa using h)

/-- What the listed variables hold. -/
theorem glob_of {W : World} (h : laidMetH Tryd.prog Rows.codeBackRow.laid W) : GlobE W := by
  have h' : laidMet Tryd.prog [("math/bits.deBruijn32tab", Rows.laid_math_bits_deBruijn32tab), ("math/bits.deBruijn64tab", Rows.laid_math_bits_deBruijn64tab), ("internal/strconv.uint64pow10", Rows.laid_internal_strconv_uint64pow10), ("strconv.ErrRange", Rows.laid_strconv_ErrRange), ("strconv.ErrSyntax", Rows.laid_strconv_ErrSyntax), ("scarfjoint/code.names", Rows.laid_scarfjoint_code_names)] W := by
    rw [MakeChecks.laidMetH_plain _ _ _ (by kernel_rfl)] at h
    exact h
  exact ⟨⟨fun i hi => names_of h'.tail.tail.tail.tail.tail i hi, tab_of h'.tail.tail, size_of h'.tail⟩, es_of h'.tail.tail.tail.tail, er_of h'.tail.tail.tail⟩

/-- The heap that the program's own initialisers leave meets the condition. -/
theorem door_met (os : Os) (args : Array Value) : laidMetH Tryd.prog Rows.codeBackRow.laid ((World.doorLaid Tryd.prog 200 os).forCall (fun _ _ => 0) ⟨#[], args, []⟩).memory :=
  laidMetH_of_parts3 (fuel := 8) (laidMet_of_run' 8 (by kernel_rfl) (by kernel_rfl)) (by kernel_rfl) (by kernel_rfl)

set_option maxRecDepth 100000 in
theorem lifted (os : Os) (started : os.Started) (H : Type) (enc : TypeId × Value → H) :
    ReturnsInHanded {} Tryd.checked os 5 .any (fun w args => (Rows.codeBackSpec.pre enc Tryd.prog Tryd.f5 [] false w args ∧ laidMetH Tryd.prog Rows.codeBackRow.laid w) ∧ sizedMet enc Tryd.prog Tryd.f5 (OpenSpec.ofChange Rows.codeBackSpec) false w args)
      (Rows.codeBackSpec.post enc Tryd.prog Tryd.f5 false true false false) := by
  refine returnsInHanded_of_change_and (C := Tryd.checked) (X := fun w _ => laidMetH Tryd.prog Rows.codeBackRow.laid w) (fun _ _ _ hh h => h.of_heap hh) own started (by kernel_rfl) Tryd.func5
    (ChangeSpec.witness_shaped (enc := enc) (C := Tryd.checked) (os := os) (X := fun w _ => laidMetH Tryd.prog Rows.codeBackRow.laid w) false (World.doorLaid Tryd.prog 200 os) #[.agg #[.int .i64 0, .int .i64 0, .int .i64 0, .int .i64 0, .int .i64 0]] 8 rfl (World.shaped_of_RefB (by kernel_rfl) (by kernel_rfl)) (by kernel_rfl) (by kernel_rfl) (by kernel_rfl) (door_met os _)) ?_
  intro W base args ds gs before hval0 hW _ hsz hL _
  have hval : ∀ (j : Nat) t v, Tryd.f5.params[j]? = some t → args[j]? = some v → Value.okWide Tryd.prog W .any base t v := hval0
  have hW' := hW
  obtain ⟨p, q, hA0, hV, rfl, hfz, hnd⟩ := hW
  have hA : DataW.TrodAll enc Tryd.prog W 0 (fun _ => true) true Tryd.f5.params.toList args.toList ds p := hA0
  rw [Tryd.params5] at hA hval
  obtain ⟨v0, d0, rfl, rfl, h0⟩ := trodAll_one hA
  obtain ⟨rfl, rfl⟩ := trodVars_none hV
  obtain ⟨op, a, b, c, m, rfl, rfl, rfl, f0, f1, f2, f3, f4⟩ := open_instr (hval 0 23 v0 rfl rfl) h0
  have G := glob_of hL
  clear hA0 hval0
  simp only [List.append_nil] at hW'
  refine (walk op a b c m W G).mono fun e W' ⟨he, hg⟩ => ?_
  subst he
  exact ⟨_, rfl, K.post_below (pa := []) (pv := []) hW' (fun _ _ _ => trodAll_mk1 (shut_bool Tryd.underlying4 _)) (fun sp _ => trodAll_mk1 (shut_instr f0 f1 f2 f3 f4)) (fun _ _ => rfl) rfl hg⟩

theorem over : Rows.CodeBackSaid :=
  OpenClaim.holds_of_wide 5 Tryd.f5 rfl rfl rfl rfl rfl rfl rfl ⟨rfl, rfl, rfl, rfl, rfl⟩ rfl rfl rfl rfl rfl (by kernel_rfl) Tryd.func5 (by kernel_rfl)
    (of_decide_eq_true (by kernel_rfl)) (by unfold Func.isWrapper; first | (rw [if_pos (by decide +kernel)]; kernel_rfl) | (rw [if_neg (by decide +kernel)]; exact ⟨rfl, rfl⟩))
    (fun os started H enc _ => lifted os started H enc)

/-- ████ THE STATEMENT ████ -/
theorem proved : Rows.CodeBackCardSaid :=
  Claim7.holds_tied_plain_at .later [] [.data, .data, .data, .sentinel, .sentinel, .data] true (true, "1dcb432e8a3aef88eb8e06d6098fda0e2a8a60003b2b92dc5f90e096476c3793") true
    over (fun _ h => by cases h) (by kernel_rfl) (fun _ h => by cases h) codeBack_row_tie rfl ⟨rfl, rfl⟩ (by kernel_rfl) rfl
    (fun f fn hf hfn => by
      obtain rfl : f = 5 := Option.some.inj ((show Tryd.prog.funcNamed "scarfjoint/scarfjointkeep.CodeBack" = some 5 by kernel_rfl).symm.trans hf) |>.symm
      obtain rfl : fn = Tryd.f5 := (Option.some.inj (Tryd.func5.symm.trans hfn)).symm
      exact ⟨by kernel_rfl, fun j t ht => by
        rw [Tryd.params5] at ht
        have hm : t ∈ [23] := by simpa using Array.mem_of_getElem? ht
        have hall : ([23].all fun u => !Tryd.prog.wantsStandIn u) = true := by kernel_rfl
        exact (show Tryd.prog.wantsStandIn t = false by simpa using List.all_eq_true.1 hall t hm)⟩)
    (by kernel_rfl)
#print axioms proved
end Go.Proofs.YtplenmhkhaoapaaDoor.codeBack
