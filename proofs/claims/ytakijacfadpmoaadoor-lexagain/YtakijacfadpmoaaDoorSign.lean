/- The contract of the reference's sign. -/
import Derived.Test.YtakijacfadpmoaaDoorLeaf
namespace Go.Proofs.YtakijacfadpmoaaDoor.T
open Go.RowKit
set_option linter.unusedVariables false
set_option linter.unusedSimpArgs false
theorem below_drewN {B : Nat} {a w : World} (h : Below B a w) (n : Nat) : Below B a (w.drewN n) := ⟨h.os, h.tape, h.output, h.size, h.block⟩
/-- Does a text begin with a sign? -/
def pre (s : ByteArray) (j : Nat) : Bool := decide ((sigN j).size ≤ s.size) && ((s.extract 0 (sigN j).size).toList == (sigN j).toList)
/-- The first of so many signs with which a text begins, from the j-th on. -/
def signFrom (s : ByteArray) : Nat → Nat → ByteArray
  | _, 0 => ⟨#[]⟩
  | j, n + 1 => if pre s j then sigN j else signFrom s (j + 1) n
def signOf (s : ByteArray) : ByteArray := signFrom s 0 20
theorem signFrom_skip (s : ByteArray) : ∀ n j, (∀ i, j ≤ i → i < j + n → pre s i = false) → signFrom s j n = ⟨#[]⟩
  | 0, _, _ => rfl
  | n + 1, j, h => by
    unfold signFrom
    rw [h j (Nat.le_refl _) (by omega)]
    exact signFrom_skip s n (j + 1) (fun i h1 h2 => h i (by omega) (by omega))
theorem signFrom_at (s : ByteArray) : ∀ n j k, j ≤ k → k < j + n → (∀ i, j ≤ i → i < k → pre s i = false) → pre s k = true → signFrom s j n = sigN k
  | 0, _, _, h1, h2, _, _ => by omega
  | n + 1, j, k, h1, h2, h, hp => by
    unfold signFrom
    by_cases e : j = k
    · subst e; rw [hp]; rfl
    · rw [h j (Nat.le_refl _) (by omega)]
      exact signFrom_at s n (j + 1) k (by omega) (by omega) (fun i h3 h4 => h i (by omega) h4) hp
set_option maxRecDepth 100000 in
set_option maxHeartbeats 1000000 in
theorem sign_any (s : ByteArray) (w : World) (hs : s.size ≤ 4000) : Calls Tryd.prog 10 #[.string s] w fun e w' => e = .returned (.string (signOf s)) ∧ Below w.heap.size w w' := by
  obtain ⟨r, hr⟩ : ∃ r, r = signOf s := ⟨_, rfl⟩
  rw [← hr]
  have HR := hide hr
  clear hr
  go_enter Tryd.func10, Tryd.ntmps10
  go_wp2_with fail
  go_at_call 22
  refine (signs_any _).mono ?_
  rintro e w1 ⟨na, rfl, hst, hb1⟩
  obtain ⟨b, o, rfl, hb, hc⟩ := hst (by omega)
  have HB1 := hide hb1
  have HC := hide hc
  clear hst hb1 hc
  go_wp2_with fail
  go_loopw [4] (fun i wr => ∃ k : Nat, k ≤ 20 ∧ i = .int .i64 k ∧ Hid (Below w1.heap.size w1 wr) ∧ Hid (∀ j, j < k → pre s j = false)) (fun i _ => 20 - (intOf i).toNat)
  case atStart => exact ⟨0, Nat.zero_le _, rfl, Below.refl _ _, fun j hj => by omega⟩
  case round =>
    obtain ⟨k, hk, rfl, HB, HK⟩ := hrel
    by_cases hlt : k < 20
    · have hlt' : (k : Int) < 20 := by omega
      have hidx : (0 : Int) ≤ k ∧ (k : Int) < 20 := by omega
      have e1 : wr.cell? ⟨b, o + k, none⟩ = some (.string (sigN k)) := (HB.out.cell (p := ⟨b, o + k, none⟩) hb).trans (HC.out k hlt)
      have hss : (sigN k).size ≤ 3 := by
        have : k = 0 ∨ k = 1 ∨ k = 2 ∨ k = 3 ∨ k = 4 ∨ k = 5 ∨ k = 6 ∨ k = 7 ∨ k = 8 ∨ k = 9 ∨ k = 10 ∨ k = 11 ∨ k = 12 ∨ k = 13 ∨ k = 14 ∨ k = 15 ∨ k = 16 ∨ k = 17 ∨ k = 18 ∨ k = 19 := by omega
        rcases this with rfl | rfl | rfl | rfl | rfl | rfl | rfl | rfl | rfl | rfl | rfl | rfl | rfl | rfl | rfl | rfl | rfl | rfl | rfl | rfl <;> decide
      have HP : Hid (pre s k = (decide ((sigN k).size ≤ s.size) && ((s.extract 0 (sigN k).size).toList == (sigN k).toList))) := rfl
      have HAt : Hid (pre s k = true → r = sigN k) := fun h => by rw [HR.out]; exact signFrom_at s 20 0 k (by omega) (by omega) (fun i _ h2 => HK.out i h2) h
      have HNx : Hid (pre s k = false → ∀ j, j < k + 1 → pre s j = false) := fun h j hj => by
        by_cases e : j = k
        · subst e; exact h
        · exact HK.out j (by omega)
      generalize sigN k = g at *
      by_cases hz : g.size ≤ s.size
      · have hz' : (g.size : Int) ≤ s.size := by omega
        have hz0 : (0 : Int) ≤ g.size ∧ (g.size : Int) ≤ s.size := by omega
        have hzd : decide ((g.size : Int) ≤ s.size) = true := by simpa using hz
        have hzd2 : decide (g.size ≤ s.size) = true := by simpa using hz
        cases hq : ((s.extract 0 g.size).toList == g.toList) with
        | true =>
          have hp : pre s k = true := by rw [HP.out, hzd2, hq]; rfl
          obtain rfl := HAt.out hp
          have HH := hide hp
          clear hp
          go_wp2_with fail
          go_quiet (fail)
          generalize nq = q
          go_wp2_with fail
          go_ret
          exact ⟨rfl, HB1.out.trans ((below_drewN HB.out q).mono HB1.out.size)⟩
        | false =>
          have hp : pre s k = false := by rw [HP.out, hzd2, hq]; rfl
          have HN := hide (HNx.out hp)
          clear hp
          go_wp2_with fail
          go_quiet (fail)
          generalize nq = q
          go_wp2_with fail
          go_roundw
          case rel => exact ⟨k + 1, by omega, by go_num, below_drewN HB.out q, HN⟩
          case measure => simp [intOf]; omega
      · have hz' : ¬ (g.size : Int) ≤ s.size := by omega
        have hzd : decide ((g.size : Int) ≤ s.size) = false := by simpa using hz
        have hzd2 : decide (g.size ≤ s.size) = false := by simpa using hz
        have hp : pre s k = false := by rw [HP.out, hzd2]; rfl
        have HN := hide (HNx.out hp)
        clear hp
        go_wp2_with fail
        go_quiet (fail)
        generalize nq = q
        go_wp2_with fail
        go_roundw
        case rel => exact ⟨k + 1, by omega, by go_num, below_drewN HB.out q, HN⟩
        case measure => simp [intOf]; omega
    · obtain rfl : k = 20 := by omega
      have hlt' : ¬ ((20 : Nat) : Int) < 20 := by omega
      have hr : r = ⟨#[]⟩ := by rw [HR.out]; exact signFrom_skip s 20 0 (fun i _ h2 => HK.out i (by omega))
      subst hr
      go_wp2_with fail
      go_ret
      exact ⟨rfl, HB1.out.trans (HB.out.mono HB1.out.size)⟩
end Go.Proofs.YtakijacfadpmoaaDoor.T
