/- The contracts of the law's ints and locs, and what the program's Places is to answer. -/
import Derived.Test.YtmbhcpnlfdgkjaaPf
import Derived.BigQuiet
namespace Go.Proofs.Ytmbhcpnlfdgkjaa.T
open Go.RowKit
set_option linter.unusedVariables false
set_option linter.unusedSimpArgs false
theorem below_drewN {B : Nat} {a w : World} (h : Below B a w) (n : Nat) : Below B a (w.drewN n) := ⟨h.os, h.tape, h.output, h.size, h.block⟩
theorem dr {w wr : World} {m : Nat} (h : wr = w.drewN m) {a : Addr} {v : Option Value} (e : w.cell? a = v) : wr.cell? a = v := by subst h; exact e
set_option maxRecDepth 100000 in
set_option maxHeartbeats 1000000 in
theorem ints_same (v1 v2 : Value) (l : List Nat) (w : World) (hl : l.length ≤ 1000000) (h1 : Ints w v1 l) (h2 : Ints w v2 l) :
    Calls Try.prog 7 #[v1, v2] w fun e w' => e = .returned (.bool true) ∧ ∃ m, w' = w.drewN m := by
  obtain ⟨a1, c1, rfl, H1⟩ := h1
  obtain ⟨a2, c2, rfl, H2⟩ := h2
  have G1 := hide H1
  have G2 := hide H2
  clear H1 H2
  go_enter Try.func7, Try.ntmps7
  go_wp2_with fail
  go_loopw [5] (fun i wr => ∃ k m : Nat, k ≤ l.length ∧ i = .int .i64 k ∧ Hid (wr = w.drewN m)) (fun i _ => l.length - (intOf i).toNat)
  case atStart => exact ⟨0, 0, Nat.zero_le _, rfl, rfl⟩
  case round =>
    obtain ⟨k, m, hk, rfl, HB⟩ := hrel
    by_cases hlt : k < l.length
    · have hlt' : (k : Int) < l.length := by omega
      have hidx : (0 : Int) ≤ k ∧ (k : Int) < l.length := by omega
      obtain ⟨g1, o1, rfl, b1, e1⟩ := G1.out (by omega)
      obtain ⟨g2, o2, rfl, b2, e2⟩ := G2.out (by omega)
      have r1 := dr HB.out (e1 k hlt)
      have r2 := dr HB.out (e2 k hlt)
      generalize l[k] = x at *
      clear e1 e2
      go_wp2_with fail
      go_quiet (fail)
      generalize nq = q
      go_wp2_with fail
      go_roundw
      case rel => exact ⟨k + 1, m + q, by omega, by go_num, by rw [HB.out, World.drewN_drewN]; rfl⟩
      case measure => simp [intOf]; omega
    · obtain hkl : k = l.length := by omega
      have hlt' : ¬ (k : Int) < l.length := by omega
      go_wp2_with fail
      go_ret
      exact ⟨rfl, m, HB.out⟩
set_option maxRecDepth 100000 in
set_option maxHeartbeats 1000000 in
theorem locs_same (v1 v2 : Value) (l : List Lo) (w : World) (hl : l.length ≤ 1000000) (h1 : Locs w v1 l) (h2 : Locs w v2 l) :
    Calls Try.prog 8 #[v1, v2] w fun e w' => e = .returned (.bool true) ∧ ∃ m, w' = w.drewN m := by
  obtain ⟨a1, c1, rfl, H1⟩ := h1
  obtain ⟨a2, c2, rfl, H2⟩ := h2
  have G1 := hide H1
  have G2 := hide H2
  clear H1 H2
  go_enter Try.func8, Try.ntmps8
  go_wp2_with fail
  go_loopw [5] (fun i wr => ∃ k m : Nat, k ≤ l.length ∧ i = .int .i64 k ∧ Hid (wr = w.drewN m)) (fun i _ => l.length - (intOf i).toNat)
  case atStart => exact ⟨0, 0, Nat.zero_le _, rfl, rfl⟩
  case round =>
    obtain ⟨k, m, hk, rfl, HB⟩ := hrel
    by_cases hlt : k < l.length
    · have hlt' : (k : Int) < l.length := by omega
      have hidx : (0 : Int) ≤ k ∧ (k : Int) < l.length := by omega
      obtain ⟨g1, o1, rfl, b1, e1⟩ := G1.out (by omega)
      obtain ⟨g2, o2, rfl, b2, e2⟩ := G2.out (by omega)
      have r1 := dr HB.out ((e1 k hlt).1)
      have r2 := dr HB.out ((e2 k hlt).1)
      have r3 := dr HB.out ((e1 k hlt).2)
      have r4 := dr HB.out ((e2 k hlt).2)
      generalize l[k] = x at *
      obtain ⟨s, x⟩ := x
      simp only at r1 r2 r3 r4
      clear e1 e2
      go_wp2_with fail
      go_quiet (fail)
      generalize nq = q
      go_wp2_with fail
      go_roundw
      case rel => exact ⟨k + 1, m + q, by omega, by go_num, by rw [HB.out, World.drewN_drewN]; rfl⟩
      case measure => simp [intOf]; omega
    · obtain hkl : k = l.length := by omega
      have hlt' : ¬ (k : Int) < l.length := by omega
      go_wp2_with fail
      go_ret
      exact ⟨rfl, m, HB.out⟩
end Go.Proofs.Ytmbhcpnlfdgkjaa.T
