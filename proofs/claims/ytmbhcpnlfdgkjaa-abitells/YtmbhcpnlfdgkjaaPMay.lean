/- The contract of the closure within the program's may. -/
import Derived.Test.YtmbhcpnlfdgkjaaPNames
import Derived.Test.YtmbhcpnlfdgkjaaPWords
namespace Go.Proofs.Ytmbhcpnlfdgkjaa.T
open Go.RowKit
set_option linter.unusedVariables false
set_option linter.unusedSimpArgs false
variable {kind : Int} {name : ByteArray} {nn : Nat} {names : Nat → ByteArray} {pn : Nat} {parts : Nat → Ty} {many : Bool}
set_option maxRecDepth 100000 in
set_option maxHeartbeats 2000000 in
theorem partsMay_any (d : Nat) (hd : d ≤ 1000) (ih : Hid (∀ T v w, TyV w T v → Calls Try.prog 31 #[v, .int .i64 d] w fun e w' => e = .returned (.bool (mayN d T)) ∧ Below w.heap.size w w')) (lo hi : Nat) (hlo : lo ≤ 9223372036854775807) (hhi : hi ≤ 9223372036854775807)
    (bt bd : Nat) (w : World) (na pa : Option Addr) (nc pc : Nat) (hv : TyV w (.mk kind name nn names pn parts many) (.agg #[.int .i64 kind, .string name, .slice na nn nc, .slice pa pn pc, .bool many]))
    (hbt : bt < w.heap.size) (hbd : bd < w.heap.size) (hct : ∀ o, w.cell? ⟨bt, o, none⟩ = (#[Value.int .i64 kind, .string name, .slice na nn nc, .slice pa pn pc, .bool many])[o]?) (hcd : w.cell? ⟨bd, 0, none⟩ = some (.int .i64 ((d : Int) + 1))) :
    Calls Try.prog 36 #[.int .i64 lo, .int .i64 hi, .pointer (some ⟨bt, 0, none⟩), .pointer (some ⟨bd, 0, none⟩)] w fun e w' => e = .returned (.bool (decide (lo ≤ pn) && decide (pn ≤ hi) && (List.range pn).all fun i => mayN d (parts i))) ∧ Below w.heap.size w w' := by
  have q2 : pn ≤ 9223372036854775807 := by obtain ⟨_, _, _, _, _, _, _, q2, _⟩ := hv.part; exact q2
  obtain ⟨na', nc', pa', pc', e, _, _, _, _, _, _, _, _, HP⟩ := hv.part
  cases e
  have HT := hide hv
  clear hv
  have HXc : Hid (∀ w', Below w.heap.size w w' → (∀ o, w'.cell? ⟨bt, o, none⟩ = (#[Value.int .i64 kind, .string name, .slice na nn nc, .slice pa pn pc, .bool many])[o]?) ∧ w'.cell? ⟨bd, 0, none⟩ = some (.int .i64 ((d : Int) + 1))) := fun w' hw => ⟨fun o => (hw.cell (p := ⟨bt, o, none⟩) hbt).trans (hct o), (hw.cell (p := ⟨bd, 0, none⟩) hbd).trans hcd⟩
  by_cases a1 : pn < lo
  · rw [decide_eq_false (show ¬ lo ≤ pn by omega)]
    have d1 : (pn : Int) < lo := by omega
    go_enter Try.func36, Try.ntmps36
    go_wp2_with fail
    go_ret
    exact ⟨rfl, Below.refl _ _⟩
  have d1 : ¬ (pn : Int) < lo := by omega
  by_cases a2 : hi < pn
  · rw [decide_eq_false (show ¬ pn ≤ hi by omega), Bool.and_false, Bool.false_and]
    have d2 : (hi : Int) < pn := by omega
    go_enter Try.func36, Try.ntmps36
    go_wp2_with fail
    go_ret
    exact ⟨rfl, Below.refl _ _⟩
  have d2 : ¬ (hi : Int) < pn := by omega
  rw [decide_eq_true (show lo ≤ pn by omega), decide_eq_true (show pn ≤ hi by omega), Bool.and_self, Bool.true_and]
  have hdw : IntKind.i64.wrap ((d : Int) + 1 - 1) = (d : Int) := by rw [IntKind.wrap_i64]; omega
  go_enter Try.func36, Try.ntmps36
  go_wp2_with fail
  clear hct hcd
  go_loopw [24] (fun i wr => ∃ k : Nat, k ≤ pn ∧ i = .int .i64 k ∧ Hid (Below w.heap.size w wr) ∧ Hid (∀ j, j < k → mayN d (parts j) = true)) (fun i _ => pn - (intOf i).toNat)
  case atStart => exact ⟨0, Nat.zero_le _, rfl, Below.refl _ _, fun j hj => by omega⟩
  case round =>
    obtain ⟨k, hk, rfl, HB, HK⟩ := hrel
    by_cases hlt : k < pn
    · have hlt' : (k : Int) < pn := by omega
      have hidx : (0 : Int) ≤ k ∧ (k : Int) < pn := by omega
      obtain ⟨b, o, rfl, hb, hc⟩ := HP.out (by omega)
      obtain ⟨c0, c1, c2, c3, c4, g0, g1, g2, g3, g4, g5⟩ := hc k hlt
      obtain ⟨kd, nm, xa, xn, xc, ya, yn, yc, my, rfl, rfl, rfl, rfl, rfl⟩ := g5.shapeP
      have hcal := fun w' hw => ih.out _ _ w' (g5.below hw)
      have e0 : wr.cell? ⟨b, o + k * 5, none⟩ = some (.int .i64 kd) := (HB.out.cell (p := ⟨b, o + k * 5, none⟩) hb).trans g0
      have e1 : wr.cell? ⟨b, o + k * 5 + 1, none⟩ = some (.string nm) := (HB.out.cell (p := ⟨b, o + k * 5 + 1, none⟩) hb).trans g1
      have e2 : wr.cell? ⟨b, o + k * 5 + 2, none⟩ = some (.slice xa xn xc) := (HB.out.cell (p := ⟨b, o + k * 5 + 2, none⟩) hb).trans g2
      have e3 : wr.cell? ⟨b, o + k * 5 + 3, none⟩ = some (.slice ya yn yc) := (HB.out.cell (p := ⟨b, o + k * 5 + 3, none⟩) hb).trans g3
      have e4 : wr.cell? ⟨b, o + k * 5 + 4, none⟩ = some (.bool my) := (HB.out.cell (p := ⟨b, o + k * 5 + 4, none⟩) hb).trans g4
      clear g0 g1 g2 g3 g4 g5 hc
      have hcd : (wr.alloc (.cells #[.int .i64 kd, .string nm, .slice xa xn xc, .slice ya yn yc, .bool my] 25)).cell? ⟨bd, 0, none⟩ = some (.int .i64 ((d : Int) + 1)) := (HXc.out _ (HB.out.alloc HB.out.size _)).2
      cases hE : mayN d (parts k) with
      | false =>
        rw [hE] at hcal
        go_wp2_with fail
        go_at_call 31
        refine (hcal _ (HB.out.alloc HB.out.size _)).mono ?_
        rintro e w1 ⟨rfl, hb1⟩
        have HB1 : Hid (Below w.heap.size w w1) := (HB.out.alloc HB.out.size _).trans (hb1.mono (HB.out.alloc HB.out.size _).size)
        clear hb1
        go_wp2_with fail
        go_ret
        exact ⟨by rw [all_at hlt hE]; rfl, HB1.out⟩
      | true =>
        rw [hE] at hcal
        have HK1 : Hid (∀ j, j < k + 1 → mayN d (parts j) = true) := fun j hj => by
          by_cases e : j = k
          · subst e; exact hE
          · exact HK.out j (by omega)
        go_wp2_with fail
        go_at_call 31
        refine (hcal _ (HB.out.alloc HB.out.size _)).mono ?_
        rintro e w1 ⟨rfl, hb1⟩
        have HB1 : Hid (Below w.heap.size w w1) := (HB.out.alloc HB.out.size _).trans (hb1.mono (HB.out.alloc HB.out.size _).size)
        clear hb1
        go_wp2_with fail
        go_roundw
        case rel => exact ⟨k + 1, by omega, by go_num, HB1, HK1⟩
        case measure => simp [intOf]; omega
    · obtain rfl : k = pn := by omega
      have hlt' : ¬ (k : Int) < k := by omega
      go_wp2_with fail
      go_ret
      exact ⟨by rw [all_upto HK.out]; rfl, HB.out⟩
end Go.Proofs.Ytmbhcpnlfdgkjaa.T
