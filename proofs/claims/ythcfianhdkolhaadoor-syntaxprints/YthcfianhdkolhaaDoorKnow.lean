/- The contracts of the program's know and knowKind. -/
import Derived.Test.YthcfianhdkolhaaDoorOb
namespace Go.Proofs.YthcfianhdkolhaaDoor.T
open Go.RowKit Go.Proofs.YthcfianhdkolhaaDoor.S
set_option linter.unusedVariables false
set_option linter.unusedSimpArgs false
/-- What is thrown where no text has such a node. -/
abbrev strange : Ending := .panicked [{ v := .iface 33 (.agg #[]), recovered := false }]
def shapes : List (Bool × Int × Int × Int) := [(false, 0, 0, 0), (false, 0, 0, 700), (true, 0, 1, 700), (true, 0, 1, 1), (true, 1, 1, 700), (true, 0, 1, 1), (true, 1, 2, 2), (true, 3, 2, 700), (true, 0, 1, 1), (false, 0, 0, 0), (false, 0, 0, 0), (true, 0, 0, 0), (false, 1, 1, 700), (false, 0, 0, 700), (true, 0, 2, 2), (false, 0, 2, 2), (false, 0, 2, 3), (false, 0, 2, 2), (false, 0, 1, 1), (false, 0, 1, 1), (false, 0, 1, 1), (false, 2147483647, 0, 0), (false, 9223372036854775807, 0, 0), (true, 0, 0, 0), (true, 0, 1, 1), (false, 0, 1, 700), (true, 0, 0, 0), (true, 0, 0, 700), (false, 0, 1, 1), (false, 0, 1, 1), (false, 0, 1, 1), (false, 0, 1, 1), (false, 12, 2, 2), (false, 0, 0, 0), (false, 0, 1, 1)]
def shp (k : Nat) : Bool × Int × Int × Int := shapes.getD k (false, 0, 0, 0)
/-- Signs between expressions: the sign, the operation, how firm. -/
def opsP : List (List UInt8 × Int × Int) := [(sSAME, 12, 0), (sLESS, 10, 0), (sPLUS, 1, 1), (sMINUS, 2, 1), (sOR, 8, 1), (sXOR, 9, 1), (sMUL, 3, 2), (sDIV, 5, 2), (sREM, 6, 2), (sAMP, 7, 2)]
def opr (k : Nat) : List UInt8 × Int × Int := opsP.getD k ([], 0, 0)
/-- What the listed variables hold. -/
structure Gl (w : World) : Prop where
  shp : ∀ k : Nat, k < 35 → w.cell? ⟨0, k * 4, none⟩ = some (.bool (shp k).1) ∧ w.cell? ⟨0, k * 4 + 1, none⟩ = some (.int .i64 (shp k).2.1) ∧ w.cell? ⟨0, k * 4 + 2, none⟩ = some (.int .i64 (shp k).2.2.1) ∧ w.cell? ⟨0, k * 4 + 3, none⟩ = some (.int .i64 (shp k).2.2.2)
  opr : ∀ k : Nat, k < 10 → w.cell? ⟨3, k * 3, none⟩ = some (.string (str (opr k).1)) ∧ w.cell? ⟨3, k * 3 + 1, none⟩ = some (.int .i64 (opr k).2.1) ∧ w.cell? ⟨3, k * 3 + 2, none⟩ = some (.int .i64 (opr k).2.2)
theorem Gl.lt {w : World} (h : Gl w) : 0 < w.heap.size ∧ 3 < w.heap.size := ⟨World.block_lt_of_cell? w ⟨0, 0 * 4, none⟩ (h.shp 0 (by omega)).1, World.block_lt_of_cell? w ⟨3, 0 * 3, none⟩ (h.opr 0 (by omega)).1⟩
theorem Gl.below {w w' : World} (h : Gl w) (hb : Below w.heap.size w w') : Gl w' := by
  obtain ⟨l0, l1⟩ := h.lt
  exact ⟨fun k hk => ⟨(hb.cell (p := ⟨0, k * 4, none⟩) l0).trans (h.shp k hk).1, (hb.cell (p := ⟨0, k * 4 + 1, none⟩) l0).trans (h.shp k hk).2.1, (hb.cell (p := ⟨0, k * 4 + 2, none⟩) l0).trans (h.shp k hk).2.2.1, (hb.cell (p := ⟨0, k * 4 + 3, none⟩) l0).trans (h.shp k hk).2.2.2⟩,
    fun k hk => ⟨(hb.cell (p := ⟨3, k * 3, none⟩) l1).trans (h.opr k hk).1, (hb.cell (p := ⟨3, k * 3 + 1, none⟩) l1).trans (h.opr k hk).2.1, (hb.cell (p := ⟨3, k * 3 + 2, none⟩) l1).trans (h.opr k hk).2.2⟩⟩
/-- What know asks. -/
def knB (kind : Int) (text : List UInt8) (num : Int) (len : Nat) : Bool := decide (1 ≤ kind ∧ kind ≤ 34) && txtB (shp kind.toNat).1 text && decide (0 ≤ num ∧ num ≤ (shp kind.toNat).2.1 ∧ (shp kind.toNat).2.2.1 ≤ len ∧ (len : Int) ≤ (shp kind.toNat).2.2.2)
theorem kn_no {kind : Int} {text : List UInt8} {num : Int} {len : Nat} (h : ¬ (1 ≤ kind ∧ kind ≤ 34)) : knB kind text num len = false := by unfold knB; rw [decide_eq_false h]; rfl
theorem txt_empty (s : List UInt8) : (str s).toList.isEmpty = decide (s = []) := by
  have e : (str s).toList = s := by rw [ByteArray.toList_eq]; simp [str]
  rw [e]
  cases s <;> simp
set_option maxRecDepth 100000 in
set_option maxHeartbeats 4000000 in
theorem know_any (kind : Int) (text : List UInt8) (num : Int) (ka : Option Addr) (len kc : Nat) (w : World) (hG : Gl w) (ht : text.length ≤ 9223372036854775807) (hl : len ≤ 9223372036854775807) :
    Calls Tryd.prog 40 #[.agg #[.int .i64 kind, .string (str text), .int .i64 num, .slice ka len kc]] w fun e w' => ((knB kind text num len = true ∧ e = .returned (.tuple #[])) ∨ (knB kind text num len = false ∧ e = strange)) ∧ Below w.heap.size w w' := by
  have hnm := fun w => pname_any (str text) w ht
  by_cases a1 : kind < 1
  · have HKn : Hid (knB kind text num len = false) := kn_no (by omega)
    have HB : Hid (Below w.heap.size w (w.alloc (.cells #[.int .i64 kind, .string (str text), .int .i64 num, .slice ka len kc] 24))) := (Below.refl _ _).alloc (Nat.le_refl _) _
    go_enter Tryd.func40, Tryd.ntmps40
    go_wp2_with fail
    exact ⟨rfl, Or.inr ⟨HKn.out, rfl⟩, HB.out⟩
  by_cases a2 : 35 ≤ kind
  · have HKn : Hid (knB kind text num len = false) := kn_no (by omega)
    have HB : Hid (Below w.heap.size w (w.alloc (.cells #[.int .i64 kind, .string (str text), .int .i64 num, .slice ka len kc] 24))) := (Below.refl _ _).alloc (Nat.le_refl _) _
    go_enter Tryd.func40, Tryd.ntmps40
    go_wp2_with fail
    exact ⟨rfl, Or.inr ⟨HKn.out, rfl⟩, HB.out⟩
  obtain ⟨k, rfl⟩ : ∃ k : Nat, kind = k := ⟨kind.toNat, by omega⟩
  have hk : k < 35 := by omega
  obtain ⟨g0, g1, g2, g3⟩ := hG.shp k hk
  have HKe : Hid (∀ b, txtB (shp k).1 text = b → knB k text num len = (b && decide (0 ≤ num ∧ num ≤ (shp k).2.1 ∧ (shp k).2.2.1 ≤ len ∧ (len : Int) ≤ (shp k).2.2.2))) := fun b hb => by
    show knB k text num len = _
    unfold knB
    rw [decide_eq_true (show (1 : Int) ≤ k ∧ (k : Int) ≤ 34 by omega), Bool.true_and, Int.toNat_natCast, hb]
  have hw := hG.lt
  generalize shp k = sh at *
  obtain ⟨sb, mx, least, most⟩ := sh
  simp only at g0 g1 g2 g3 HKe
  have hidx : (0 : Int) ≤ k ∧ (k : Int) < 35 := by omega
  have HB : Hid (Below w.heap.size w ((w.alloc (.cells #[.int .i64 k, .string (str text), .int .i64 num, .slice ka len kc] 24)).alloc (.cells #[.bool sb, .int .i64 mx, .int .i64 least, .int .i64 most] 78))) := ((Below.refl _ _).alloc (Nat.le_refl _) _).alloc (by simp) _
  have hte := txt_empty text
  have hE : txtB false text = decide (text = []) := by simp [txtB]
  have hE2 : txtB true text = nameB text := by simp [txtB]
  cases sb with
  | false =>
    clear hnm hE2
    by_cases c1 : text = []
    · rw [decide_eq_true c1] at hte hE
      have HE := hide hE
      clear hE c1
      by_cases c2 : num < 0
      · have HKn : Hid (knB k text num len = false) := by show _ = _; rw [HKe.out _ HE.out, decide_eq_false (by omega)]; rfl
        clear HKe
        go_enter Tryd.func40, Tryd.ntmps40
        go_wp2_with fail
        exact ⟨rfl, Or.inr ⟨HKn.out, rfl⟩, HB.out⟩
      by_cases c3 : mx < num
      · have HKn : Hid (knB k text num len = false) := by show _ = _; rw [HKe.out _ HE.out, decide_eq_false (by omega)]; rfl
        clear HKe
        go_enter Tryd.func40, Tryd.ntmps40
        go_wp2_with fail
        exact ⟨rfl, Or.inr ⟨HKn.out, rfl⟩, HB.out⟩
      by_cases c4 : (len : Int) < least
      · have HKn : Hid (knB k text num len = false) := by show _ = _; rw [HKe.out _ HE.out, decide_eq_false (by omega)]; rfl
        clear HKe
        go_enter Tryd.func40, Tryd.ntmps40
        go_wp2_with fail
        exact ⟨rfl, Or.inr ⟨HKn.out, rfl⟩, HB.out⟩
      by_cases c5 : most < (len : Int)
      · have HKn : Hid (knB k text num len = false) := by show _ = _; rw [HKe.out _ HE.out, decide_eq_false (by omega)]; rfl
        clear HKe
        go_enter Tryd.func40, Tryd.ntmps40
        go_wp2_with fail
        exact ⟨rfl, Or.inr ⟨HKn.out, rfl⟩, HB.out⟩
      have HKn : Hid (knB k text num len = true) := by show _ = _; rw [HKe.out _ HE.out, decide_eq_true (by omega)]; rfl
      clear HKe
      go_enter Tryd.func40, Tryd.ntmps40
      go_wp2_with fail
      go_end0
      exact ⟨Or.inl ⟨HKn.out, rfl⟩, HB.out⟩
    · rw [decide_eq_false c1] at hte hE
      have HKn : Hid (knB k text num len = false) := by show _ = _; rw [HKe.out _ hE]; rfl
      clear HKe hE c1
      go_enter Tryd.func40, Tryd.ntmps40
      go_wp2_with fail
      exact ⟨rfl, Or.inr ⟨HKn.out, rfl⟩, HB.out⟩
  | true =>
    clear hE hte
    cases hnb : nameB text with
    | true =>
      rw [hnb] at hE2
      have HE := hide hE2
      clear hE2
      by_cases c2 : num < 0
      · have HKn : Hid (knB k text num len = false) := by show _ = _; rw [HKe.out _ HE.out, decide_eq_false (by omega)]; rfl
        clear HKe
        go_enter Tryd.func40, Tryd.ntmps40
        go_wp2_with fail
        go_at_call 50
        refine (hnm _).mono ?_
        rintro e w1 ⟨rfl, rfl⟩
        rw [bytes_str, hnb]
        go_wp2_with fail
        exact ⟨rfl, Or.inr ⟨HKn.out, rfl⟩, HB.out⟩
      by_cases c3 : mx < num
      · have HKn : Hid (knB k text num len = false) := by show _ = _; rw [HKe.out _ HE.out, decide_eq_false (by omega)]; rfl
        clear HKe
        go_enter Tryd.func40, Tryd.ntmps40
        go_wp2_with fail
        go_at_call 50
        refine (hnm _).mono ?_
        rintro e w1 ⟨rfl, rfl⟩
        rw [bytes_str, hnb]
        go_wp2_with fail
        exact ⟨rfl, Or.inr ⟨HKn.out, rfl⟩, HB.out⟩
      by_cases c4 : (len : Int) < least
      · have HKn : Hid (knB k text num len = false) := by show _ = _; rw [HKe.out _ HE.out, decide_eq_false (by omega)]; rfl
        clear HKe
        go_enter Tryd.func40, Tryd.ntmps40
        go_wp2_with fail
        go_at_call 50
        refine (hnm _).mono ?_
        rintro e w1 ⟨rfl, rfl⟩
        rw [bytes_str, hnb]
        go_wp2_with fail
        exact ⟨rfl, Or.inr ⟨HKn.out, rfl⟩, HB.out⟩
      by_cases c5 : most < (len : Int)
      · have HKn : Hid (knB k text num len = false) := by show _ = _; rw [HKe.out _ HE.out, decide_eq_false (by omega)]; rfl
        clear HKe
        go_enter Tryd.func40, Tryd.ntmps40
        go_wp2_with fail
        go_at_call 50
        refine (hnm _).mono ?_
        rintro e w1 ⟨rfl, rfl⟩
        rw [bytes_str, hnb]
        go_wp2_with fail
        exact ⟨rfl, Or.inr ⟨HKn.out, rfl⟩, HB.out⟩
      have HKn : Hid (knB k text num len = true) := by show _ = _; rw [HKe.out _ HE.out, decide_eq_true (by omega)]; rfl
      clear HKe
      go_enter Tryd.func40, Tryd.ntmps40
      go_wp2_with fail
      go_at_call 50
      refine (hnm _).mono ?_
      rintro e w1 ⟨rfl, rfl⟩
      rw [bytes_str, hnb]
      go_wp2_with fail
      go_end0
      exact ⟨Or.inl ⟨HKn.out, rfl⟩, HB.out⟩
    | false =>
      rw [hnb] at hE2
      have HKn : Hid (knB k text num len = false) := by show _ = _; rw [HKe.out _ hE2]; rfl
      clear HKe hE2
      go_enter Tryd.func40, Tryd.ntmps40
      go_wp2_with fail
      go_at_call 50
      refine (hnm _).mono ?_
      rintro e w1 ⟨rfl, rfl⟩
      rw [bytes_str, hnb]
      go_wp2_with fail
      exact ⟨rfl, Or.inr ⟨HKn.out, rfl⟩, HB.out⟩
set_option maxRecDepth 100000 in
set_option maxHeartbeats 1000000 in
theorem knowKind_any (kind : Int) (text : List UInt8) (num : Int) (ka : Option Addr) (len kc : Nat) (want : Int) (w : World) (hG : Gl w) (ht : text.length ≤ 9223372036854775807) (hl : len ≤ 9223372036854775807) :
    Calls Tryd.prog 29 #[.agg #[.int .i64 kind, .string (str text), .int .i64 num, .slice ka len kc], .int .i64 want] w fun e w' => ((kind = want ∧ knB kind text num len = true ∧ e = .returned (.tuple #[])) ∨ (¬ (kind = want ∧ knB kind text num len = true) ∧ e = strange)) ∧ Below w.heap.size w w' := by
  have hB : Below w.heap.size w (w.alloc (.cells #[.int .i64 kind, .string (str text), .int .i64 num, .slice ka len kc] 24)) := (Below.refl _ _).alloc (Nat.le_refl _) _
  have hkn := know_any kind text num ka len kc _ (hG.below hB) ht hl
  have HB := hide hB
  clear hB hG
  by_cases a1 : kind = want
  · have HA := hide a1
    have a2 : (kind != want) = false := by simp [a1]
    clear a1
    go_enter Tryd.func29, Tryd.ntmps29
    go_wp2_with fail
    go_at_call 40
    refine hkn.mono ?_
    rintro e w1 ⟨⟨hk, rfl⟩ | ⟨hk, rfl⟩, hb⟩
    · have HK := hide hk
      have HB1 := hide (HB.out.trans (hb.mono (by simp)))
      clear hk hb HB
      go_wp2_with fail
      go_end0
      exact ⟨Or.inl ⟨HA.out, HK.out, rfl⟩, HB1.out⟩
    · have HK := hide hk
      have HB1 := hide (HB.out.trans (hb.mono (by simp)))
      clear hk hb HB
      exact ⟨rfl, Or.inr ⟨fun h => by rw [HK.out] at h; exact absurd h.2 (by decide), rfl⟩, HB1.out⟩
  · have HA := hide a1
    have a2 : (kind != want) = true := by simp [a1]
    clear a1 hkn
    go_enter Tryd.func29, Tryd.ntmps29
    go_wp2_with fail
    exact ⟨rfl, Or.inr ⟨fun h => HA.out h.1, rfl⟩, HB.out⟩
end Go.Proofs.YthcfianhdkolhaaDoor.T
