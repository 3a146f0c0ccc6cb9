/- For every text s the call CodeReads(s) returns true and leaves all as it was: no condition. The card ties the listed variables to the program's text. -/
import Derived.Test.YtplenmhkhaoapaaDoorLaid
import Derived.Test.YtplenmhkhaoapaaDoorKit
import Derived.Test.YtplenmhkhaoapaaDoorCards
import Derived.Test.YtplenmhkhaoapaaDoorTie
import Derived.Test.YtplenmhkhaoapaaDoorLaidE
import Derived.Test.YtplenmhkhaoapaaDoorRrd
import Derived.SizedLaws
import Derived.ShutString
import Derived.ChangeMaps5
namespace Go.Proofs.YtplenmhkhaoapaaDoor.codeReads
open Go.Proofs.YtplenmhkhaoapaaDoor Go.Proofs.YtplenmhkhaoapaaDoor.W Go.Proofs.YtplenmhkhaoapaaDoor.M Go.Proofs.YtplenmhkhaoapaaDoor.L
open Go.ChangeShapes Go.WideShapes Go.ChangeAt Go.RowKit
set_option linter.unusedVariables false

theorem own : ownKnob Tryd.prog.godebug = none := by kernel_rfl
theorem rread_yes (n : Nat) (a b c m : Int) (s : ByteArray) (w : World) (hle : s.size ≤ 140737488355328) (h : ckN n a b c m = 0) (hs : textL n a b c m = s.data.toList) :
    Calls Tryd.prog 11 #[.string s] w fun e w' => e = .returned (rdOk n a b c m) ∧ Below w.heap.size w w' := by
  refine (rread_any s w hle).mono ?_
  rintro e w' ⟨hb, hp⟩
  refine ⟨?_, hb⟩
  rcases hp with ⟨o, a', b', c', m', p1, p2, p3⟩ | ⟨p1, _⟩
  · obtain ⟨h1, _⟩ := ck_facts p1
    obtain ⟨n', rfl⟩ : ∃ n' : Nat, o = (n' : Int) := ⟨o.toNat, by omega⟩
    obtain ⟨rfl, rfl, rfl, rfl, rfl⟩ := text_inj h p1 (hs.trans p2.symm)
    exact p3
  · exact absurd hs (p1 n a b c m h)
theorem rread_no (s : ByteArray) (w : World) (hle : s.size ≤ 140737488355328) (hno : ∀ (n : Nat) (a b c m : Int), ckN n a b c m = 0 → textL n a b c m ≠ s.data.toList) :
    Calls Tryd.prog 11 #[.string s] w fun e w' => e = .returned rdBad ∧ Below w.heap.size w w' := by
  refine (rread_any s w hle).mono ?_
  rintro e w' ⟨hb, hp⟩
  refine ⟨?_, hb⟩
  rcases hp with ⟨o, a', b', c', m', p1, p2, p3⟩ | ⟨_, p1⟩
  · obtain ⟨h1, _⟩ := ck_facts p1
    obtain ⟨n', rfl⟩ : ∃ n' : Nat, o = (n' : Int) := ⟨o.toNat, by omega⟩
    exact absurd p2 (hno n' a' b' c' m' p1)
  · exact p1

set_option maxRecDepth 100000 in
set_option maxHeartbeats 4000000 in
theorem walk_yes (n : Nat) (a b c m : Int) (s : ByteArray) (w : World) (G : GlobE w) (hs : s.size ≤ 140737488355328) (h : ckN n a b c m = 0) (ht : textL n a b c m = s.data.toList) :
    Calls Tryd.prog 4 #[.string s] w fun e w' => e = .returned (.bool true) ∧ Below w.heap.size w w' := by
  have k1 := fun w' G' => read_yes n a b c m s w' G' h ht
  have k2 := fun w' => rread_yes n a b c m s w' hs h ht
  clear h ht
  go_enter Tryd.func4, Tryd.ntmps4
  go_wp2_with fail
  go_at_call 10
  refine (k1 _ G).mono ?_
  rintro e x1 ⟨rfl, b1⟩
  have s1 := b1.size
  go_wp2_with fail
  go_at_call 11
  refine (k2 _).mono ?_
  rintro e x2 ⟨rfl, b2⟩
  have s2 := b2.size
  simp at s2
  obtain ⟨q2, r2⟩ := bcell b2
  have z2 : x1.heap.size < x2.heap.size := by omega
  go_wp2_with fail
  go_ret
  refine ⟨rfl, ?_⟩
  exact ((b1.alloc s1 _).trans (b2.mono (by simp; omega))).alloc (by omega) _

set_option maxRecDepth 100000 in
set_option maxHeartbeats 4000000 in
theorem walk_no (s : ByteArray) (w : World) (G : GlobE w) (hs : s.size ≤ 140737488355328) (hno : Hid (∀ (n : Nat) (a b c m : Int), ckN n a b c m = 0 → textL n a b c m ≠ s.data.toList)) :
    Calls Tryd.prog 4 #[.string s] w fun e w' => e = .returned (.bool true) ∧ Below w.heap.size w w' := by
  have k1 := fun w' G' => read_no s w' G' hs hno
  have k2 := fun w' => rread_no s w' hs hno
  go_enter Tryd.func4, Tryd.ntmps4
  go_wp2_with fail
  go_at_call 10
  refine (k1 _ G).mono ?_
  rintro e x1 ⟨rfl, b1⟩
  have s1 := b1.size
  go_wp2_with fail
  go_at_call 11
  refine (k2 _).mono ?_
  rintro e x2 ⟨rfl, b2⟩
  have s2 := b2.size
  simp at s2
  obtain ⟨q2, r2⟩ := bcell b2
  have z2 : x1.heap.size < x2.heap.size := by omega
  go_wp2_with fail
  go_ret
  refine ⟨rfl, ?_⟩
  exact ((b1.alloc s1 _).trans (b2.mono (by simp; omega))).alloc (by omega) _

theorem walk (s : ByteArray) (w : World) (G : GlobE w) (hs : s.size ≤ 140737488355328) :
    Calls Tryd.prog 4 #[.string s] w fun e w' => e = .returned (.bool true) ∧ Below w.heap.size w w' := by
  by_cases h : ∃ (n : Nat) (a b c m : Int), ckN n a b c m = 0 ∧ textL n a b c m = s.data.toList
  · obtain ⟨n, a, b, c, m, h1, h2⟩ := h
    exact walk_yes n a b c m s w G hs h1 h2
  · exact walk_no s w G hs fun n a b c m h1 h2 => h ⟨n, a, b, c, m, h1, h2⟩

/-- What the listed variables hold. -/
theorem glob_of {W : World} (h : laidMetH Tryd.prog Rows.codeReadsRow.laid W) : GlobE W := by
  have h' : laidMet Tryd.prog [("math/bits.deBruijn32tab", Rows.laid_math_bits_deBruijn32tab), ("math/bits.deBruijn64tab", Rows.laid_math_bits_deBruijn64tab), ("internal/strconv.uint64pow10", Rows.laid_internal_strconv_uint64pow10), ("strconv.ErrRange", Rows.laid_strconv_ErrRange), ("strconv.ErrSyntax", Rows.laid_strconv_ErrSyntax), ("scarfjoint/code.names", Rows.laid_scarfjoint_code_names)] W := by
    rw [MakeChecks.laidMetH_plain _ _ _ (by kernel_rfl)] at h
    exact h
  exact ⟨⟨fun i hi => names_of h'.tail.tail.tail.tail.tail i hi, tab_of h'.tail.tail, size_of h'.tail⟩, es_of h'.tail.tail.tail.tail, er_of h'.tail.tail.tail⟩

/-- The heap that the program's own initialisers leave meets the condition. -/
theorem door_met (os : Os) (args : Array Value) : laidMetH Tryd.prog Rows.codeReadsRow.laid ((World.doorLaid Tryd.prog 200 os).forCall (fun _ _ => 0) ⟨#[], args, []⟩).memory :=
  laidMetH_of_parts3 (fuel := 8) (laidMet_of_run' 8 (by kernel_rfl) (by kernel_rfl)) (by kernel_rfl) (by kernel_rfl)

set_option maxRecDepth 100000 in
theorem lifted (os : Os) (started : os.Started) (H : Type) (enc : TypeId × Value → H) :
    ReturnsInHanded {} Tryd.checked os 4 .any (fun w args => (Rows.codeReadsSpec.pre enc Tryd.prog Tryd.f4 [] false w args ∧ laidMetH Tryd.prog Rows.codeReadsRow.laid w) ∧ sizedMet enc Tryd.prog Tryd.f4 (OpenSpec.ofChange Rows.codeReadsSpec) false w args)
      (Rows.codeReadsSpec.post enc Tryd.prog Tryd.f4 false true false false) := by
  refine returnsInHanded_of_change_and (C := Tryd.checked) (X := fun w _ => laidMetH Tryd.prog Rows.codeReadsRow.laid w) (fun _ _ _ hh h => h.of_heap hh) own started (by kernel_rfl) Tryd.func4
    (ChangeSpec.witness_shaped (enc := enc) (C := Tryd.checked) (os := os) (X := fun w _ => laidMetH Tryd.prog Rows.codeReadsRow.laid w) false (World.doorLaid Tryd.prog 200 os) #[.string ⟨#[]⟩] 8 rfl (World.shaped_of_RefB (by kernel_rfl) (by kernel_rfl)) (by kernel_rfl) (by kernel_rfl) (by kernel_rfl) (door_met os _)) ?_
  intro W base args ds gs before hval0 hW _ hsz hL _
  have hval : ∀ (j : Nat) t v, Tryd.f4.params[j]? = some t → args[j]? = some v → Value.okWide Tryd.prog W .any base t v := hval0
  have hW' := hW
  obtain ⟨p, q, hA0, hV, rfl, hfz, hnd⟩ := hW
  have hA : DataW.TrodAll enc Tryd.prog W 0 (fun _ => true) true Tryd.f4.params.toList args.toList ds p := hA0
  rw [Tryd.params4] at hA hval
  obtain ⟨v0, d0, rfl, rfl, h0⟩ := trodAll_one hA
  obtain ⟨rfl, rfl⟩ := trodVars_none hV
  obtain ⟨s, rfl, rfl, rfl, ws⟩ := Go.ChangeMaps.open_string Tryd.underlying9 (hval 0 9 v0 rfl rfl) h0
  have hsz2 : (DataW.weightsEach Tryd.prog (Tryd.f4.params.toList ++ Rows.codeReadsSpec.plain.varTypes Tryd.prog) ([.lit (.string s.data.toList)] ++ [])).all (· ≤ reachBytes) = true := hsz
  rw [Tryd.params4] at hsz2
  have hsz1 : s.size ≤ 140737488355328 := by
    have h1 := sized_string hsz2 (j := 0) (t := 9) rfl rfl
    have h47 := reachBytes_lt
    have e1 : s.size = s.data.size := rfl
    have e2 : s.data.toList.length = s.data.size := Array.length_toList
    have e3 : (2 : Nat) ^ 47 = 140737488355328 := by decide
    omega
  have G := glob_of hL
  clear hA0 hval0
  simp only [List.append_nil] at hW'
  refine (walk s W G hsz1).mono fun e W' ⟨he, hg⟩ => ?_
  subst he
  exact ⟨_, rfl, K.post_below (pa := []) (pv := []) hW' (fun _ _ _ => trodAll_mk1 (shut_bool Tryd.underlying4 _)) (fun sp _ => trodAll_mk1 (Go.ChangeMaps.shut_string Tryd.underlying9 ws)) (fun _ _ => rfl) rfl hg⟩

theorem over : Rows.CodeReadsSaid :=
  OpenClaim.holds_of_wide 4 Tryd.f4 rfl rfl rfl rfl rfl rfl rfl ⟨rfl, rfl, rfl, rfl, rfl⟩ rfl rfl rfl rfl rfl (by kernel_rfl) Tryd.func4 (by kernel_rfl)
    (of_decide_eq_true (by kernel_rfl)) (by unfold Func.isWrapper; first | (rw [if_pos (by decide +kernel)]; kernel_rfl) | (rw [if_neg (by decide +kernel)]; exact ⟨rfl, rfl⟩))
    (fun os started H enc _ => lifted os started H enc)

/-- ████ THE STATEMENT ████ -/
theorem proved : Rows.CodeReadsCardSaid :=
  Claim7.holds_tied_plain_at .later [] [.data, .data, .data, .sentinel, .sentinel, .data] true (true, "1dcb432e8a3aef88eb8e06d6098fda0e2a8a60003b2b92dc5f90e096476c3793") true
    over (fun _ h => by cases h) (by kernel_rfl) (fun _ h => by cases h) codeReads_row_tie rfl ⟨rfl, rfl⟩ (by kernel_rfl) rfl
    (fun f fn hf hfn => by
      obtain rfl : f = 4 := Option.some.inj ((show Tryd.prog.funcNamed "scarfjoint/scarfjointlaw.CodeReads" = some 4 by kernel_rfl).symm.trans hf) |>.symm
      obtain rfl : fn = Tryd.f4 := (Option.some.inj (Tryd.func4.symm.trans hfn)).symm
      exact ⟨by kernel_rfl, fun j t ht => by
        rw [Tryd.params4] at ht
        have hm : t ∈ [9] := by simpa using Array.mem_of_getElem? ht
        have hall : ([9].all fun u => !Tryd.prog.wantsStandIn u) = true := by kernel_rfl
        exact (show Tryd.prog.wantsStandIn t = false by simpa using List.all_eq_true.1 hall t hm)⟩)
    (by kernel_rfl)
#print axioms proved
end Go.Proofs.YtplenmhkhaoapaaDoor.codeReads
