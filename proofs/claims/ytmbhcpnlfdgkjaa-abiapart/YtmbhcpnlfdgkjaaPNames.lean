/- The contract of the program's fieldNames. -/
import Derived.Test.YtmbhcpnlfdgkjaaPName
import Derived.Test.YtmbhcpnlfdgkjaaMay
import Derived.Maps.Own
import Derived.Maps.Views
import Derived.StringKeys
namespace Go.Proofs.Ytmbhcpnlfdgkjaa.T
open Go.RowKit
set_option linter.unusedVariables false
set_option linter.unusedSimpArgs false
/-- How often a name has been seen, when k of them have come. -/
def seenN (names : Nat → ByteArray) (k : Nat) (s : ByteArray) : Int := if ((List.range k).any fun j => decide (names j = s)) = true then 1 else 0
theorem seen_zero (names : Nat → ByteArray) (s : ByteArray) : seenN names 0 s = 0 := rfl
theorem seen_succ (names : Nat → ByteArray) (k : Nat) (s : ByteArray) (h : ¬ names k = s) : seenN names (k + 1) s = seenN names k s := by
  unfold seenN
  rw [List.range_succ, List.any_append]
  simp [h]
theorem seen_same (names : Nat → ByteArray) (k : Nat) : seenN names (k + 1) (names k) = 1 := by
  unfold seenN
  rw [List.range_succ, List.any_append]
  simp
/-- The map of names seen. -/
structure Seen (names : Nat → ByteArray) (mb k : Nat) (D : DataW Unit) (w : World) : Prop where
  own : w.ownsMap Try.prog 9 (plainElem Try.prog 3) mb k D
  map : Maps.IsMap D
  at' : ∀ s : ByteArray, D.atKey (.string s.data.toList) (.lit (.int .i64 0)) = .lit (.int .i64 (seenN names k s))
theorem Seen.made (names : Nat → ByteArray) (w : World) : Seen names w.heap.size 0 (.map []) (w.alloc (.map #[] 0)) :=
  ⟨World.ownsMap_made w _ _ _, Maps.isMap_empty, fun s => WideAt.atKey_none _ (by simp)⟩
theorem Seen.look {names : Nat → ByteArray} {mb k : Nat} {D : DataW Unit} {w : World} (h : Seen names mb k D w) (s : ByteArray) (hs : s.size ≤ maxLen) :
    (Instr.lookup 67 (.map (some mb)) (.string s) false).run Try.prog w = .ok (.int .i64 (seenN names k s)) w := by
  obtain ⟨c, hrun, hat, hwc⟩ := h.own.lookup_int (t := 67) (e := 3) (q := .i64) (Maps.string_keyed Try.underlying9) Try.underlying67 Try.underlying3 (Try.zeroValue3 _) (WideMaps.keyOf_string_mk Try.underlying9 hs)
  rw [h.at' s] at hat
  cases hat
  exact hrun
theorem Seen.put {names : Nat → ByteArray} {mb k : Nat} {D : DataW Unit} {w : World} (h : Seen names mb k D w) (hk : k < 1000) (hs : (names k).size ≤ maxLen) :
    ∃ w' D', (Instr.mapUpdate 67 (.map (some mb)) (.string (names k)) (.int .i64 1)).run Try.prog w = .ok () w' ∧ Seen names mb (k + 1) D' w' ∧ w.grownBy w' (some mb) := by
  have hm : maxLen = 9223372036854775807 := rfl
  obtain ⟨w', h1, h2, h3⟩ := h.own.update (t := 67) (e := 3) (Maps.string_keyed Try.underlying9) Try.underlying67 (by omega) (WideMaps.keyOf_string_mk Try.underlying9 hs) (plainElem_int Try.underlying3 (q := .i64) (a := 1) (by decide))
  refine ⟨w', _, h1, ⟨h2, h.map.put _ _, fun s => ?_⟩, h3⟩
  by_cases e : names k = s
  · subst e
    rw [Maps.atKey_put_same h.map (show WideAt.IsKeyLit (.string (names k).data.toList) from trivial), seen_same]
  · rw [Maps.atKey_put_other (fun x => e (ByteArray.ext (Array.toList_inj.1 (by injection x with y; first | exact y | exact y.symm)))), h.at' s, seen_succ names k s e]
theorem names_bad {names : Nat → ByteArray} {nn k : Nat} (hk : k < nn) (h : namesB names k = false) : (decide (1 ≤ nn) && decide (nn ≤ 6) && (List.range nn).all fun i => namesB names i) = false := by
  rw [all_at hk h]; simp
set_option maxRecDepth 100000 in
set_option maxHeartbeats 2000000 in
theorem fieldNames_any (na : Option Addr) (nn nc : Nat) (names : Nat → ByteArray) (w : World) (hS : Strs w na nn names) (hz : nn ≤ 9223372036854775807) (hl : ∀ j, j < nn → (names j).size ≤ 9223372036854775807) :
    Calls Try.prog 38 #[.slice na nn nc] w fun e w' => e = .returned (.bool (decide (1 ≤ nn) && decide (nn ≤ 6) && (List.range nn).all fun i => namesB names i)) ∧ Below w.heap.size w w' := by
  have hm : maxLen = 9223372036854775807 := rfl
  by_cases a1 : nn < 1
  · rw [decide_eq_false (show ¬ 1 ≤ nn by omega)]
    have d1 : (nn : Int) < 1 := by omega
    go_enter Try.func38, Try.ntmps38
    go_wp2_with fail
    go_ret
    exact ⟨rfl, Below.refl _ _⟩
  have d1 : ¬ (nn : Int) < 1 := by omega
  by_cases a2 : 6 < nn
  · rw [decide_eq_false (show ¬ nn ≤ 6 by omega)]
    have d2 : (6 : Int) < nn := by omega
    go_enter Try.func38, Try.ntmps38
    go_wp2_with fail
    go_ret
    exact ⟨rfl, Below.refl _ _⟩
  have d2 : ¬ (6 : Int) < nn := by omega
  obtain ⟨b, o, rfl, hb, hc⟩ := hS (by omega)
  have HC := hide hc
  have HS := hide (Seen.made names w)
  have hmm := @run_makeMap Try.prog
  have hB0 : Below w.heap.size w (w.alloc (.map #[] 0)) := (Below.refl _ _).alloc (Nat.le_refl _) _
  clear hc hS
  go_enter Try.func38, Try.ntmps38
  go_wp2_with fail
  generalize w.alloc (.map #[] 0) = W at *
  have HB0 := hide hB0
  clear hB0 hmm
  go_loopw [17] (fun i wr => ∃ (k : Nat) (D : DataW Unit), k ≤ nn ∧ i = .int .i64 k ∧ Hid (Below w.heap.size w wr) ∧ Hid (Seen names w.heap.size k D wr) ∧ Hid (∀ j, j < k → namesB names j = true)) (fun i _ => nn - (intOf i).toNat)
  case atStart => exact ⟨0, _, Nat.zero_le _, rfl, HB0, HS, fun j hj => by omega⟩
  case round =>
    clear HS HB0
    obtain ⟨k, D, hk, rfl, HB, HS, HK⟩ := hrel
    by_cases hlt : k < nn
    · have hlt' : (k : Int) < nn := by omega
      have hidx : (0 : Int) ≤ k ∧ (k : Int) < nn := by omega
      have r1 : wr.cell? ⟨b, o + k, none⟩ = some (.string (names k)) := (HB.out.cell (p := ⟨b, o + k, none⟩) hb).trans (HC.out k hlt)
      have hnm := fun w' => pname_any (names k) w' (by have := hl k hlt; omega)
      have hlk := HS.out.look (names k) (by have := hl k hlt; omega)
      cases hN : nameB (bytes (names k)) with
      | false =>
        rw [hN] at hnm
        have HF := hide (names_bad hlt (show namesB names k = false by unfold namesB; rw [hN]; rfl))
        clear hlk
        go_wp2_with fail
        go_at_call 37
        refine (hnm _).mono ?_
        rintro e w1 ⟨rfl, rfl⟩
        go_wp2_with fail
        go_ret
        exact ⟨by rw [HF.out]; rfl, HB.out⟩
      | true =>
        rw [hN] at hnm
        cases hA : ((List.range k).any fun i => decide (names i = names k)) with
        | true =>
          rw [show seenN names k (names k) = 1 by unfold seenN; rw [hA]; rfl] at hlk
          have HF := hide (names_bad hlt (show namesB names k = false by unfold namesB; rw [hN, hA]; rfl))
          go_wp2_with fail
          go_at_call 37
          refine (hnm _).mono ?_
          rintro e w1 ⟨rfl, rfl⟩
          go_wp2_with fail
          go_ret
          exact ⟨by rw [HF.out]; rfl, HB.out⟩
        | false =>
          rw [show seenN names k (names k) = 0 by unfold seenN; rw [hA]; rfl] at hlk
          have HK1 : Hid (∀ j, j < k + 1 → namesB names j = true) := fun j hj => by
            by_cases e : j = k
            · subst e; unfold namesB; rw [hN, hA]; rfl
            · exact HK.out j (by omega)
          obtain ⟨w2, D2, hup, hS2, hg⟩ := HS.out.put (by omega) (by have := hl k hlt; omega)
          have HB2 : Hid (Below w.heap.size w w2) := HB.out.grown hg HB.out.size (fun k e => by cases e; exact Nat.le_refl _)
          have HS2 := hide hS2
          have HG := hide hg
          clear hS2 hg
          go_wp2_with fail
          go_at_call 37
          refine (hnm _).mono ?_
          rintro e w1 ⟨rfl, rfl⟩
          go_wp2_with fail
          go_roundw
          case rel => exact ⟨k + 1, D2, by omega, by go_num, HB2, HS2, HK1⟩
          case measure => simp [intOf]; omega
    · obtain rfl : k = nn := by omega
      have hlt' : ¬ (k : Int) < k := by omega
      go_wp2_with fail
      go_ret
      exact ⟨by rw [all_upto HK.out, decide_eq_true (show 1 ≤ k by omega), decide_eq_true (show k ≤ 6 by omega)]; rfl, HB.out⟩
end Go.Proofs.Ytmbhcpnlfdgkjaa.T
