/- The contract of the program's symbolsMay. -/
import Derived.Test.YthbhlmbhnidbhaaQb
import Derived.Test.YthbhlmbhnidbhaaMb
import Derived.Maps.Own
import Derived.Maps.Views
import Derived.Maps.OwnSet
import Derived.StringKeys
namespace Go.Proofs.Ythbhlmbhnidbhaa.T
open Go.RowKit Go.Proofs.Ythbhlmbhnidbhaa.M
set_option linter.unusedVariables false
set_option linter.unusedSimpArgs false

def oldB (L : List Sy) (k : Nat) (s : ByteArray) : Bool := (List.range k).any fun j => match L[j]? with | some x => decide (x.name = s) | none => false
theorem newB_old (L : List Sy) (k : Nat) (s : Sy) : newB L k s = !oldB L k s.name := rfl
theorem old_succ {L : List Sy} {k : Nat} (hk : k < L.length) (s : ByteArray) : oldB L (k + 1) s = (oldB L k s || decide (L[k].name = s)) := by
  unfold oldB
  rw [List.range_succ, List.any_append]
  simp [List.getElem?_eq_getElem hk]
/-- The map of names seen. -/
structure Sn (L : List Sy) (mb k : Nat) (D : DataW Unit) (w : World) : Prop where
  own : w.ownsMap Try.prog 9 (plainElem Try.prog 3) mb k D
  map : Maps.IsMap D
  has : ∀ s : ByteArray, Maps.has D (.string s.data.toList) = oldB L k s
theorem Sn.made (L : List Sy) (w : World) : Sn L w.heap.size 0 (.map []) (w.alloc (.map #[] 0)) :=
  ⟨World.ownsMap_made w _ _ _, Maps.isMap_empty, fun s => rfl⟩
theorem Sn.call {L : List Sy} {mb k : Nat} {D : DataW Unit} {w w' : World} (h : Sn L mb k D w) (hb : Below w.heap.size w w') : Sn L mb k D w' :=
  ⟨h.own.kept (row := none) ⟨hb.os, hb.tape, hb.output, hb.size, fun k hk _ => hb.block k hk⟩ (by simp), h.map, h.has⟩
theorem Sn.look {L : List Sy} {mb k : Nat} {D : DataW Unit} {w : World} (h : Sn L mb k D w) (s : ByteArray) (hs : s.size ≤ maxLen) :
    ∃ c : Int, (Instr.lookup 101 (.map (some mb)) (.string s) true).run Try.prog w = .ok (.tuple #[.int .i64 c, .bool (oldB L k s)]) w := by
  obtain ⟨v, ps, hrun, hv⟩ := h.own.look_ok (t := 101) (e := 3) (Maps.string_keyed Try.underlying9) Try.underlying101 (Try.zeroValue3 _) (plainElem_int Try.underlying3 (q := .i64) (a := 0) (by decide)) (WideMaps.keyOf_string_mk Try.underlying9 hs)
  obtain ⟨c, rfl, -, -⟩ := plainElem_int_inv Try.underlying3 hv
  rw [h.has s] at hrun
  exact ⟨c, hrun⟩
theorem wf64 {x : Int} (h0 : -9223372036854775808 ≤ x) (h1 : x ≤ 9223372036854775807) : (Lit.int .i64 x).wf = true := by
  have e1 : IntKind.i64.min = -9223372036854775808 := by decide
  have e2 : IntKind.i64.max = 9223372036854775807 := by decide
  show (decide (IntKind.i64.min ≤ x) && decide (x ≤ IntKind.i64.max)) = true
  rw [e1, e2]
  simp [h0, h1]
set_option maxRecDepth 10000 in
theorem Sn.put {L : List Sy} {mb k : Nat} {D : DataW Unit} {w : World} (h : Sn L mb k D w) (hk : k < L.length) (hk2 : k < 9223372036854775807) (hs : L[k].name.size ≤ maxLen) :
    ∃ w' D', (Instr.mapUpdate 101 (.map (some mb)) (.string L[k].name) (.int .i64 k)).run Try.prog w = .ok () w' ∧ Sn L mb (k + 1) D' w' ∧ w.grownBy w' (some mb) := by
  have hm : maxLen = 9223372036854775807 := rfl
  obtain ⟨w', h1, h2, h3⟩ := h.own.update (t := 101) (e := 3) (Maps.string_keyed Try.underlying9) Try.underlying101 (by omega) (WideMaps.keyOf_string_mk Try.underlying9 hs) (plainElem_int Try.underlying3 (q := .i64) (a := (k : Int)) (wf64 (by omega) (by omega)))
  refine ⟨w', _, h1, ⟨h2, h.map.put _ _, fun s => ?_⟩, h3⟩
  rw [old_succ hk]
  by_cases e : L[k].name = s
  · subst e
    rw [Maps.has_put_same h.map (show WideAt.IsKeyLit (.string L[k].name.data.toList) from trivial)]
    simp
  · have hne : Lit.string s.data.toList ≠ Lit.string L[k].name.data.toList := fun x => by
      injection x with y
      exact e (ByteArray.ext (Array.toList_inj.1 y.symm))
    rw [Maps.has_put_other hne, h.has s]
    simp [e]
set_option maxRecDepth 100000 in
set_option maxHeartbeats 4000000 in
theorem syms_any (L : List Sy) (v : Value) (w : World) (hv : RowV syC 7 w v L) : Calls Try.prog 42 #[v] w fun e w' => e = .returned (.bool (symsB L)) ∧ Below w.heap.size w w' := by
  have hm : maxLen = 9223372036854775807 := rfl
  obtain ⟨a, c, rfl, hle, hc, H⟩ := hv
  have HS := hide (Sn.made L w)
  have hmm := @run_makeMap Try.prog
  have HB0 := hide ((Below.refl w.heap.size w).alloc (Nat.le_refl _) (.map #[] 0))
  have HT : Hid ((∀ j, j < L.length → symB L j = true) → symsB L = true) := fun h => List.all_eq_true.2 fun j hj => h j (List.mem_range.1 hj)
  have HX : Hid (∀ k, k < L.length → symB L k = false → symsB L = false) := fun k hk h => by
    cases e : symsB L with
    | false => rfl
    | true =>
      have := List.all_eq_true.1 e k (List.mem_range.2 hk)
      rw [this] at h
      cases h
  obtain ⟨n, HN⟩ : ∃ n, Hid (L.length = n) := ⟨_, rfl⟩
  have HE0 : Hid (0 < n → ∃ g oo, a = some ⟨g, oo, none⟩ ∧ Hid (∀ w', Below w.heap.size w w' → ∀ j (hj : j < L.length), _)) := fun h => by
    obtain ⟨g, oo, r, hg, E⟩ := H (by rw [HN.out]; exact h)
    exact ⟨g, oo, r, fun w' hw => sy_cells hg E hw⟩
  clear H
  have hn : n ≤ 9223372036854775807 := by rw [← HN.out]; omega
  rw [HN.out]
  rw [HN.out] at HT
  generalize symsB L = R at *
  go_enter Try.func42, Try.ntmps42
  go_wp2_with fail
  generalize w.alloc (.map #[] 0) = W at *
  clear hmm hle hc
  generalize hbq : w.heap.size = bq at *
  have HBQ : Hid (w.heap.size = bq) := hbq
  clear hbq
  go_loopw [11] (fun i wr => ∃ (k : Nat) (D : DataW Unit), k ≤ n ∧ i = .int .i64 k ∧ Hid (Below bq w wr) ∧ Hid (Sn L bq k D wr) ∧ Hid (∀ j, j < k → symB L j = true)) (fun i _ => n - (intOf i).toNat)
  case atStart => exact ⟨0, _, Nat.zero_le _, rfl, HB0, HS, fun j hj => by omega⟩
  case round =>
    clear HS HB0
    obtain ⟨k, D, hk, rfl, HB, HS, HK⟩ := hrel
    by_cases hlt : k < n
    · have hlt' : (k : Int) < n := by omega
      have hidx : (0 : Int) ≤ k ∧ (k : Int) < n := by omega
      have hkl : k < L.length := by rw [HN.out]; exact hlt
      obtain ⟨g, oo, rfl, HE⟩ := HE0.out (by omega)
      clear HE0
      obtain ⟨e0, e1, e2, e3, e4, e5, e6, b1, b2, b3, b4, b5, b6⟩ := HE.out _ HB.out k hkl
      have hsz : bq ≤ wr.heap.size := by rw [← HBQ.out]; exact HB.out.size
      have HF := hide ((Fr.start wr).alloc (q := wr.heap.size) rfl #[.string L[k].name, .int .i64 L[k].kind, .bool L[k].stat, .int .i64 L[k].pl, .int .i64 L[k].size, .string L[k].sign, .int .i64 L[k].frame] 59)
      have c0 := HF.out.cell 0 rfl
      have HS1 := hide (HS.out.call HF.out.below)
      obtain ⟨cc, hlk⟩ := HS1.out.look L[k].name b5
      have HM := hide (fun w' => symmay_any L[k] w' b1 b2 b3 b4 b5 b6)
      have HSt : Hid (symB L k = (!oldB L k L[k].name && sMayB L[k])) := (symB_at hkl).trans rfl
      have HNx : Hid (symB L k = true → ∀ j, j < k + 1 → symB L j = true) := fun h j hj => by
        by_cases q : j = k
        · subst q; exact h
        · exact HK.out j (by omega)
      have HXk := hide (HX.out k hkl)
      have HUp := hide (fun w' (h : Sn L bq k D w') => h.put hkl (by omega) b5)
      clear HK HX HT HS
      generalize hb : sMayB L[k] = mb at *
      clear hb
      generalize oldB L k L[k].name = ob at *
      clear HE
      generalize L[k].name = nm at *
      generalize L[k].kind = kd at *
      generalize L[k].stat = st at *
      generalize L[k].pl = pl at *
      generalize L[k].size = sz at *
      generalize L[k].sign = sg at *
      generalize L[k].frame = fr at *
      cases ob with
      | true =>
        go_wp2_with fail
        go_ret
        obtain rfl := HXk.out (HSt.out.trans (by simp))
        exact ⟨rfl, by rw [HBQ.out]; exact HB.out.trans (HF.out.below.mono hsz)⟩
      | false =>
        cases mb with
        | false =>
          go_wp2_with fail
          go_at_call 52
          refine (HM.out _).mono ?_
          rintro e w1 ⟨rfl, hb⟩
          replace HF := hide (HF.out.call hb)
          clear hb
          go_wp2_with fail
          go_ret
          obtain rfl := HXk.out (HSt.out.trans (by simp))
          exact ⟨rfl, by rw [HBQ.out]; exact HB.out.trans (HF.out.below.mono hsz)⟩
        | true =>
          go_wp2_with fail
          go_at_call 52
          refine (HM.out _).mono ?_
          rintro e w1 ⟨rfl, hb⟩
          have HS2 := hide (HS1.out.call hb)
          replace HF := hide (HF.out.call hb)
          have HB1 := hide (HB.out.trans (HF.out.below.mono hsz))
          clear hb
          have c1 := HF.out.cell 0 rfl
          obtain ⟨w2, D2, hup, hS2, hg⟩ := HUp.out _ HS2.out
          have HB2 : Hid (Below bq w w2) := HB1.out.grown hg (by have := HB1.out.size; rw [HBQ.out] at this; exact this) (fun k e => by cases e; exact Nat.le_refl _)
          have HS3 := hide hS2
          clear hS2 hg
          go_wp2_with fail
          go_roundw
          case rel => exact ⟨k + 1, D2, by omega, by go_num, HB2, HS3, HNx.out (HSt.out.trans (by simp))⟩
          case measure => simp [intOf]; omega
    · obtain rfl : k = n := by omega
      have hlt' : ¬ (k : Int) < k := by omega
      obtain rfl := HT.out HK.out
      go_wp2_with fail
      go_ret
      exact ⟨rfl, by rw [HBQ.out]; exact HB.out⟩
end Go.Proofs.Ythbhlmbhnidbhaa.T
