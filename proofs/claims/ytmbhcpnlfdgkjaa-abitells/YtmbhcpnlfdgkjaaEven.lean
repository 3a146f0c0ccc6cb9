/- The contract of the reference's IsEven. -/
import Derived.Test.YtmbhcpnlfdgkjaaLeaf
namespace Go.Proofs.Ytmbhcpnlfdgkjaa.T
open Go.RowKit
set_option linter.unusedVariables false
set_option linter.unusedSimpArgs false

theorem evenT_mk (kind : Int) (name : ByteArray) (nn : Nat) (names : Nat → ByteArray) (pn : Nat) (parts : Nat → Ty) (many : Bool) :
    evenT (.mk kind name nn names pn parts many) = ((decide (kind = 3) && (List.range pn).any fun i => evenT (parts i)) || decide (kind = 2)) := by rw [evenT]
/-- A type's parts. -/
theorem TyV.part {w : World} {kind : Int} {name : ByteArray} {nn : Nat} {names : Nat → ByteArray} {pn : Nat} {parts : Nat → Ty} {many : Bool} {v : Value} (h : TyV w (.mk kind name nn names pn parts many) v) :
    ∃ na nc pa pc, v = .agg #[.int .i64 kind, .string name, .slice na nn nc, .slice pa pn pc, .bool many] ∧ Strs w na nn names ∧ nn ≤ 9223372036854775807 ∧ pn ≤ 9223372036854775807 ∧ -9223372036854775808 ≤ kind ∧ kind ≤ 9223372036854775807 ∧ name.size ≤ 9223372036854775807 ∧ (∀ j, j < nn → (names j).size ≤ 9223372036854775807) ∧ (nn ≤ nc ∧ nc ≤ 9223372036854775807 ∧ pn ≤ pc ∧ pc ≤ 9223372036854775807)
    ∧ Hid (0 < pn → ∃ b o, pa = some ⟨b, o, none⟩ ∧ b < w.heap.size ∧ ∀ j, j < pn → ∃ k0 k1 k2 k3 k4, w.cell? ⟨b, o + j * 5, none⟩ = some k0 ∧ w.cell? ⟨b, o + j * 5 + 1, none⟩ = some k1 ∧ w.cell? ⟨b, o + j * 5 + 2, none⟩ = some k2 ∧ w.cell? ⟨b, o + j * 5 + 3, none⟩ = some k3 ∧ w.cell? ⟨b, o + j * 5 + 4, none⟩ = some k4
      ∧ TyV w (parts j) (.agg #[k0, k1, k2, k3, k4])) := by
  unfold TyV at h
  obtain ⟨na, nc, pa, pc, rfl, h1, h2, h3, h4, h5, h6, h7, h8, h9⟩ := h
  exact ⟨na, nc, pa, pc, rfl, h1, h5, h6, h3, h4, h7, h8, h9, h2⟩
set_option maxRecDepth 100000 in
set_option maxHeartbeats 1000000 in
theorem even_any : ∀ (T : Ty) (v : Value) (w : World), TyV w T v → Calls Try.prog 19 #[v] w fun e w' => e = .returned (.bool (evenT T)) ∧ Below w.heap.size w w' := by
  intro T
  induction T with
  | leaf => intro v w hv; exact (TyV_leaf hv).elim
  | mk kind name nn names pn parts many ih =>
    intro v w hv
    rw [evenT_mk]
    obtain ⟨na, nc, pa, pc, rfl, hS, q1, q2, q3, q4, q5, q6, q7, HP⟩ := hv.part
    have HT := hide hv
    have HI := hide ih
    clear ih hv hS
    have hB0 : Below w.heap.size w (w.alloc (.cells #[.int .i64 kind, .string name, .slice na nn nc, .slice pa pn pc, .bool many] 25)) := (Below.refl _ _).alloc (Nat.le_refl _) _
    by_cases k3 : kind = 3
    · subst k3
      go_enter Try.func19, Try.ntmps19
      go_wp2_with fail
      have hx0 : ∀ o, (w.alloc (.cells #[.int .i64 3, .string name, .slice na nn nc, .slice pa pn pc, .bool many] 25)).cell? ⟨w.heap.size, o, none⟩ = (#[Value.int .i64 3, .string name, .slice na nn nc, .slice pa pn pc, .bool many])[o]? := fun o => World.cell?_alloc_at _ _ _ _ rfl
      have hz0 : (w.alloc (.cells #[.int .i64 3, .string name, .slice na nn nc, .slice pa pn pc, .bool many] 25)).heap.size = w.heap.size + 1 := by simp
      generalize w.alloc (.cells #[.int .i64 3, .string name, .slice na nn nc, .slice pa pn pc, .bool many] 25) = W at *
      have HX := hide (And.intro hx0 (And.intro hz0 hB0))
      clear hx0 hz0 hB0
      go_loopw [3] (fun i wr => ∃ k : Nat, k ≤ pn ∧ i = .int .i64 k ∧ Hid (Below W.heap.size W wr) ∧ Hid (∀ j, j < k → evenT (parts j) = false)) (fun i _ => pn - (intOf i).toNat)
      case atStart => exact ⟨0, Nat.zero_le _, rfl, Below.refl _ _, fun j hj => by omega⟩
      case round =>
        obtain ⟨k, hk, rfl, HB, HK⟩ := hrel
        have hx1 : ∀ o, wr.cell? ⟨w.heap.size, o, none⟩ = (#[Value.int .i64 3, .string name, .slice na nn nc, .slice pa pn pc, .bool many])[o]? := fun o => (HB.out.cell (p := ⟨w.heap.size, o, none⟩) (by show w.heap.size < _; rw [HX.out.2.1]; omega)).trans (HX.out.1 o)
        have HBw : Hid (Below w.heap.size w wr) := HX.out.2.2.trans (HB.out.mono (by rw [HX.out.2.1]; omega))
        by_cases hlt : k < pn
        · have hlt' : (k : Int) < pn := by omega
          have hidx : (0 : Int) ≤ k ∧ (k : Int) < pn := by omega
          obtain ⟨b, o, rfl, hb, hc⟩ := HP.out (by omega)
          obtain ⟨c0, c1, c2, c3, c4, g0, g1, g2, g3, g4, g5⟩ := hc k hlt
          have hcal := fun w' hw => HI.out k _ w' (g5.below hw)
          have e0 : wr.cell? ⟨b, o + k * 5, none⟩ = some c0 := (HBw.out.cell (p := ⟨b, o + k * 5, none⟩) hb).trans g0
          have e1 : wr.cell? ⟨b, o + k * 5 + 1, none⟩ = some c1 := (HBw.out.cell (p := ⟨b, o + k * 5 + 1, none⟩) hb).trans g1
          have e2 : wr.cell? ⟨b, o + k * 5 + 2, none⟩ = some c2 := (HBw.out.cell (p := ⟨b, o + k * 5 + 2, none⟩) hb).trans g2
          have e3 : wr.cell? ⟨b, o + k * 5 + 3, none⟩ = some c3 := (HBw.out.cell (p := ⟨b, o + k * 5 + 3, none⟩) hb).trans g3
          have e4 : wr.cell? ⟨b, o + k * 5 + 4, none⟩ = some c4 := (HBw.out.cell (p := ⟨b, o + k * 5 + 4, none⟩) hb).trans g4
          clear g0 g1 g2 g3 g4 g5 hc
          cases hE : evenT (parts k) with
          | true =>
            rw [hE] at hcal
            go_wp2_with fail
            go_at_call 19
            refine (hcal _ HBw.out).mono ?_
            rintro e w1 ⟨rfl, hb1⟩
            have HB1 : Hid (Below w.heap.size w w1) := HBw.out.trans (hb1.mono HBw.out.size)
            clear hb1
            go_wp2_with fail
            go_ret
            exact ⟨by rw [any_at hlt hE]; rfl, HB1.out⟩
          | false =>
            rw [hE] at hcal
            have HK1 : Hid (∀ j, j < k + 1 → evenT (parts j) = false) := fun j hj => by
              by_cases e : j = k
              · subst e; exact hE
              · exact HK.out j (by omega)
            go_wp2_with fail
            go_at_call 19
            refine (hcal _ HBw.out).mono ?_
            rintro e w1 ⟨rfl, hb1⟩
            have HB1 : Hid (Below W.heap.size W w1) := HB.out.trans (hb1.mono HB.out.size)
            clear hb1
            go_wp2_with fail
            go_roundw
            case rel => exact ⟨k + 1, by omega, by go_num, HB1, HK1⟩
            case measure => simp [intOf]; omega
        · have hkn : k = pn := by omega
          subst hkn
          have hlt' : ¬ (k : Int) < k := by omega
          go_wp2_with fail
          go_ret
          exact ⟨by rw [any_upto HK.out]; rfl, HBw.out⟩
    · have k3' : (kind == 3) = false := by simpa using k3
      rw [decide_eq_false k3]
      by_cases k2 : kind = 2
      · subst k2
        go_enter Try.func19, Try.ntmps19
        go_wp2_with fail
        go_ret
        exact ⟨rfl, hB0⟩
      · have k2' : (kind == 2) = false := by simpa using k2
        rw [decide_eq_false k2]
        go_enter Try.func19, Try.ntmps19
        go_wp2_with fail
        go_ret
        exact ⟨rfl, hB0⟩
end Go.Proofs.Ytmbhcpnlfdgkjaa.T
