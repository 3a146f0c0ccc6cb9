/- The contract of the program's even. -/
import Derived.Test.YtmbhcpnlfdgkjaaEven
namespace Go.Proofs.Ytmbhcpnlfdgkjaa.T
open Go.RowKit
set_option linter.unusedVariables false
set_option linter.unusedSimpArgs false
/-- A type's value, written out. -/
theorem TyV.shapeP {w : World} {T : Ty} {k0 k1 k2 k3 k4 : Value} (h : TyV w T (.agg #[k0, k1, k2, k3, k4])) : ∃ kind name na nn nc pa pn pc many, k0 = .int .i64 kind ∧ k1 = .string name ∧ k2 = .slice na nn nc ∧ k3 = .slice pa pn pc ∧ k4 = .bool many := by
  rcases T with _ | ⟨kind, name, nn, names, pn, parts, many⟩
  · exact (TyV_leaf h).elim
  · obtain ⟨na, nc, pa, pc, e, _⟩ := h.part
    cases e
    exact ⟨_, _, _, _, _, _, _, _, _, rfl, rfl, rfl, rfl, rfl⟩
set_option maxRecDepth 100000 in
set_option maxHeartbeats 1000000 in
theorem peven_any : ∀ (T : Ty) (v : Value) (w : World), TyV w T v → Calls Try.prog 33 #[v] w fun e w' => e = .returned (.bool (evenT T)) ∧ Below w.heap.size w w' := by
  intro T
  induction T with
  | leaf => intro v w hv; exact (TyV_leaf hv).elim
  | mk kind name nn names pn parts many ih =>
    intro v w hv
    rw [evenT_mk]
    obtain ⟨na, nc, pa, pc, rfl, hS, q1, q2, q3, q4, q5, q6, q7, HP⟩ := hv.part
    have HT := hide hv
    have HI := hide ih
    clear ih hv hS
    have hB0 : Below w.heap.size w (w.alloc (.cells #[.int .i64 kind, .string name, .slice na nn nc, .slice pa pn pc, .bool many] 25)) := (Below.refl _ _).alloc (Nat.le_refl _) _
    by_cases k3 : kind = 3
    · subst k3
      go_enter Try.func33, Try.ntmps33
      go_wp2_with fail
      have hx0 : ∀ o, (w.alloc (.cells #[.int .i64 3, .string name, .slice na nn nc, .slice pa pn pc, .bool many] 25)).cell? ⟨w.heap.size, o, none⟩ = (#[Value.int .i64 3, .string name, .slice na nn nc, .slice pa pn pc, .bool many])[o]? := fun o => World.cell?_alloc_at _ _ _ _ rfl
      have hz0 : (w.alloc (.cells #[.int .i64 3, .string name, .slice na nn nc, .slice pa pn pc, .bool many] 25)).heap.size = w.heap.size + 1 := by simp
      generalize w.alloc (.cells #[.int .i64 3, .string name, .slice na nn nc, .slice pa pn pc, .bool many] 25) = W at *
      have HX := hide (And.intro hx0 (And.intro hz0 hB0))
      clear hx0 hz0 hB0
      go_loopw [14] (fun i wr => ∃ k : Nat, k ≤ pn ∧ i = .int .i64 k ∧ Hid (Below W.heap.size W wr) ∧ Hid (∀ j, j < k → evenT (parts j) = false)) (fun i _ => pn - (intOf i).toNat)
      case atStart => exact ⟨0, Nat.zero_le _, rfl, Below.refl _ _, fun j hj => by omega⟩
      case round =>
        obtain ⟨k, hk, rfl, HB, HK⟩ := hrel
        have hx1 : ∀ o, wr.cell? ⟨w.heap.size, o, none⟩ = (#[Value.int .i64 3, .string name, .slice na nn nc, .slice pa pn pc, .bool many])[o]? := fun o => (HB.out.cell (p := ⟨w.heap.size, o, none⟩) (by show w.heap.size < _; rw [HX.out.2.1]; omega)).trans (HX.out.1 o)
        have HBw : Hid (Below w.heap.size w wr) := HX.out.2.2.trans (HB.out.mono (by rw [HX.out.2.1]; omega))
        by_cases hlt : k < pn
        · have hlt' : (k : Int) < pn := by omega
          have hidx : (0 : Int) ≤ k ∧ (k : Int) < pn := by omega
          obtain ⟨b, o, rfl, hb, hc⟩ := HP.out (by omega)
          obtain ⟨c0, c1, c2, c3, c4, g0, g1, g2, g3, g4, g5⟩ := hc k hlt
          obtain ⟨kd, nm, xa, xn, xc, ya, yn, yc, my, rfl, rfl, rfl, rfl, rfl⟩ := g5.shapeP
          have hcal := fun w' hw => HI.out k _ w' (g5.below hw)
          have e0 : wr.cell? ⟨b, o + k * 5, none⟩ = some (.int .i64 kd) := (HBw.out.cell (p := ⟨b, o + k * 5, none⟩) hb).trans g0
          have e1 : wr.cell? ⟨b, o + k * 5 + 1, none⟩ = some (.string nm) := (HBw.out.cell (p := ⟨b, o + k * 5 + 1, none⟩) hb).trans g1
          have e2 : wr.cell? ⟨b, o + k * 5 + 2, none⟩ = some (.slice xa xn xc) := (HBw.out.cell (p := ⟨b, o + k * 5 + 2, none⟩) hb).trans g2
          have e3 : wr.cell? ⟨b, o + k * 5 + 3, none⟩ = some (.slice ya yn yc) := (HBw.out.cell (p := ⟨b, o + k * 5 + 3, none⟩) hb).trans g3
          have e4 : wr.cell? ⟨b, o + k * 5 + 4, none⟩ = some (.bool my) := (HBw.out.cell (p := ⟨b, o + k * 5 + 4, none⟩) hb).trans g4
          clear g0 g1 g2 g3 g4 g5 hc
          cases hE : evenT (parts k) with
          | true =>
            rw [hE] at hcal
            go_wp2_with fail
            go_at_call 33
            refine (hcal _ (HBw.out.alloc HBw.out.size _)).mono ?_
            rintro e w1 ⟨rfl, hb1⟩
            have HB1 : Hid (Below w.heap.size w w1) := (HBw.out.alloc HBw.out.size _).trans (hb1.mono (HBw.out.alloc HBw.out.size _).size)
            clear hb1
            go_wp2_with fail
            go_ret
            exact ⟨by rw [any_at hlt hE]; rfl, HB1.out⟩
          | false =>
            rw [hE] at hcal
            have HK1 : Hid (∀ j, j < k + 1 → evenT (parts j) = false) := fun j hj => by
              by_cases e : j = k
              · subst e; exact hE
              · exact HK.out j (by omega)
            go_wp2_with fail
            go_at_call 33
            refine (hcal _ (HBw.out.alloc HBw.out.size _)).mono ?_
            rintro e w1 ⟨rfl, hb1⟩
            have HB1 : Hid (Below W.heap.size W w1) := (HB.out.alloc HB.out.size _).trans (hb1.mono (HB.out.alloc HB.out.size _).size)
            clear hb1
            go_wp2_with fail
            go_roundw
            case rel => exact ⟨k + 1, by omega, by go_num, HB1, HK1⟩
            case measure => simp [intOf]; omega
        · have hkn : k = pn := by omega
          subst hkn
          have hlt' : ¬ (k : Int) < k := by omega
          go_wp2_with fail
          go_ret
          exact ⟨by rw [any_upto HK.out]; rfl, HBw.out⟩
    · have k3' : (kind == 3) = false := by simpa using k3
      rw [decide_eq_false k3]
      by_cases k2 : kind = 2
      · subst k2
        go_enter Try.func33, Try.ntmps33
        go_wp2_with fail
        go_ret
        exact ⟨rfl, hB0⟩
      · have k2' : (kind == 2) = false := by simpa using k2
        rw [decide_eq_false k2]
        go_enter Try.func33, Try.ntmps33
        go_wp2_with fail
        go_ret
        exact ⟨rfl, hB0⟩
end Go.Proofs.Ytmbhcpnlfdgkjaa.T
