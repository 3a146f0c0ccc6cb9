/- The contracts of the reference's placeFrom, regFrom, up, free. -/
import Derived.Test.YtmbhcpnlfdgkjaaSize
import Derived.Test.YtmbhcpnlfdgkjaaPl
import Derived.Deep.AppendLies
namespace Go.Proofs.Ytmbhcpnlfdgkjaa.T
open Go.RowKit
set_option linter.unusedVariables false
set_option linter.unusedSimpArgs false
/-- A value that is a row of places, in the world. -/
def Locs (w : World) (v : Value) (L : List Lo) : Prop := ∃ a c, v = .slice a L.length c ∧ (0 < L.length → ∃ g o, a = some ⟨g, o, none⟩ ∧ g < w.heap.size ∧ ∀ j (h : j < L.length), w.cell? ⟨g, o + j * 2, none⟩ = some (.bool L[j].1) ∧ w.cell? ⟨g, o + j * 2 + 1, none⟩ = some (.int .i64 L[j].2))
theorem take_snoc {α : Type} (L : List α) (k : Nat) (h : k < L.length) : L.take (k + 1) = L.take k ++ [L[k]] := (List.take_append_getElem h).symm
set_option maxRecDepth 100000 in
set_option maxHeartbeats 1000000 in
theorem place_from (v : Value) (L : List Lo) (w : World) (hL : Locs w v L) (hl : L.length ≤ 1000) (hb : ∀ l, l ∈ L → l.2 ≤ 1000) :
    Calls Try.prog 21 #[v] w fun e w' => e = .returned (.int .i64 (plN L)) ∧ w' = w := by
  obtain ⟨a, c, rfl, H⟩ := hL
  have G := hide H
  have HB := hide hb
  clear H hb
  go_enter Try.func21, Try.ntmps21
  go_wp2_with fail
  go_loopw [3, 4] (fun n i wr => ∃ k : Nat, k ≤ L.length ∧ n = .int .i64 (plN (L.take k)) ∧ i = .int .i64 k ∧ wr = w) (fun _ i _ => L.length - (intOf i).toNat)
  case atStart => exact ⟨0, Nat.zero_le _, rfl, rfl, rfl⟩
  case round =>
    obtain ⟨k, hk, rfl, rfl, rfl⟩ := hrel
    by_cases hlt : k < L.length
    · have hlt' : (k : Int) < L.length := by omega
      have hidx : (0 : Int) ≤ k ∧ (k : Int) < L.length := by omega
      obtain ⟨g, o, rfl, b1, e1⟩ := G.out (by omega)
      obtain ⟨r1, r2⟩ := e1 k hlt
      have hs := HB.out L[k] (List.getElem_mem hlt)
      have HT : Hid (plN (L.take (k + 1)) = if L[k].1 = true ∧ plN (L.take k) ≤ L[k].2 then L[k].2 + 1 else plN (L.take k)) := by show _ = _; rw [take_snoc L k hlt, plN_snoc]
      generalize L[k] = x at *
      obtain ⟨s, x⟩ := x
      generalize plN (L.take k) = n at *
      simp only at r1 r2 hs HT
      clear e1
      cases s
      · have HT' : Hid (plN (L.take (k + 1)) = n) := HT.out.trans (by simp)
        clear HT
        go_wp2_with fail
        go_roundw
        case rel => exact ⟨k + 1, by omega, by rw [HT'.out], by go_num, trivial⟩
        case measure => simp [intOf]; omega
      by_cases hc : n ≤ x
      · have hc' : (n : Int) ≤ x := by omega
        have HT' : Hid (plN (L.take (k + 1)) = x + 1) := HT.out.trans (by simp [hc])
        clear HT
        go_wp2_with fail
        go_roundw
        case rel => exact ⟨k + 1, by omega, by rw [HT'.out]; go_num, by go_num, trivial⟩
        case measure => simp [intOf]; omega
      · have hc' : ¬ (n : Int) ≤ x := by omega
        have HT' : Hid (plN (L.take (k + 1)) = n) := HT.out.trans (by simp [hc])
        clear HT
        go_wp2_with fail
        go_roundw
        case rel => exact ⟨k + 1, by omega, by rw [HT'.out], by go_num, trivial⟩
        case measure => simp [intOf]; omega
    · obtain hkl : k = L.length := by omega
      have hlt' : ¬ (k : Int) < L.length := by omega
      have HT : Hid (L.take k = L) := by subst hkl; exact List.take_length
      rw [HT.out]
      clear HT
      generalize hn : plN L = n at *
      go_wp2_with fail
      go_ret
      exact ⟨rfl, rfl⟩
set_option maxRecDepth 100000 in
set_option maxHeartbeats 1000000 in
theorem reg_from (v : Value) (L : List Lo) (w : World) (hL : Locs w v L) (hl : L.length ≤ 1000) (hb : ∀ l, l ∈ L → l.2 ≤ 1000) :
    Calls Try.prog 29 #[v] w fun e w' => e = .returned (.int .i64 (regN L)) ∧ w' = w := by
  obtain ⟨a, c, rfl, H⟩ := hL
  have G := hide H
  have HB := hide hb
  clear H hb
  go_enter Try.func29, Try.ntmps29
  go_wp2_with fail
  go_loopw [3, 4] (fun n i wr => ∃ k : Nat, k ≤ L.length ∧ n = .int .i64 (rgN (L.take k)) ∧ i = .int .i64 k ∧ wr = w ∧ Hid ((L.take k).any (·.1) = false)) (fun _ i _ => L.length - (intOf i).toNat)
  case atStart => exact ⟨0, Nat.zero_le _, rfl, rfl, rfl, rfl⟩
  case round =>
    obtain ⟨k, hk, rfl, rfl, rfl, HN⟩ := hrel
    by_cases hlt : k < L.length
    · have hlt' : (k : Int) < L.length := by omega
      have hidx : (0 : Int) ≤ k ∧ (k : Int) < L.length := by omega
      obtain ⟨g, o, rfl, b1, e1⟩ := G.out (by omega)
      obtain ⟨r1, r2⟩ := e1 k hlt
      have hs := HB.out L[k] (List.getElem_mem hlt)
      have HM := hide (List.getElem_mem hlt)
      have HT : Hid (rgN (L.take (k + 1)) = if rgN (L.take k) ≤ L[k].2 then L[k].2 + 1 else rgN (L.take k)) := by show _ = _; rw [take_snoc L k hlt, rgN_snoc]
      have HA : Hid ((L.take (k + 1)).any (·.1) = L[k].1) := by show _ = _; rw [take_snoc L k hlt, List.any_append, HN.out]; simp
      generalize L[k] = x at *
      obtain ⟨s, x⟩ := x
      generalize rgN (L.take k) = n at *
      simp only at r1 r2 hs HT HA
      clear e1 HN
      cases s
      rotate_left
      · have HT' : Hid (regN L = 4) := if_pos (List.any_eq_true.2 ⟨_, HM.out, rfl⟩)
        clear HT
        go_wp2_with fail
        go_ret
        exact ⟨by rw [HT'.out]; rfl, rfl⟩
      by_cases hc : n ≤ x
      · have hc' : (n : Int) ≤ x := by omega
        have HT' : Hid (rgN (L.take (k + 1)) = x + 1) := HT.out.trans (by simp [hc])
        clear HT
        go_wp2_with fail
        go_roundw
        case rel => exact ⟨k + 1, by omega, by rw [HT'.out]; go_num, by go_num, trivial, HA⟩
        case measure => simp [intOf]; omega
      · have hc' : ¬ (n : Int) ≤ x := by omega
        have HT' : Hid (rgN (L.take (k + 1)) = n) := HT.out.trans (by simp [hc])
        clear HT
        go_wp2_with fail
        go_roundw
        case rel => exact ⟨k + 1, by omega, by rw [HT'.out], by go_num, trivial, HA⟩
        case measure => simp [intOf]; omega
    · obtain hkl : k = L.length := by omega
      have hlt' : ¬ (k : Int) < L.length := by omega
      have HT : Hid (L.take k = L) := by subst hkl; exact List.take_length
      rw [HT.out] at HN ⊢
      have HR : Hid (regN L = rgN L) := if_neg (by rw [HN.out]; simp)
      clear HT HN
      generalize rgN L = n at *
      go_wp2_with fail
      go_ret
      exact ⟨by rw [HR.out]; rfl, rfl⟩
theorem freeB_spec {L : List Lo} {r : Nat} (h : freeB L r = true) : (∀ l, l ∈ L → l.1 = false ∧ ¬ l.2 = r) ∧ r < 4 := by
  unfold freeB at h
  rw [Bool.and_eq_true, Bool.not_eq_true', List.any_eq_false] at h
  refine ⟨fun l hl => ?_, by simpa using h.2⟩
  have := h.1 l hl
  simpa using this
theorem up_any (n : Nat) (w : World) (hn : n ≤ 1000) : Calls Try.prog 22 #[.int .i64 n] w fun e w' => e = .returned (.int .i64 (upN n)) ∧ w' = w := by
  go_enter Try.func22, Try.ntmps22
  go_wp2_with fail
  go_ret
  refine ⟨?_, rfl⟩
  unfold upN
  go_num
set_option maxRecDepth 100000 in
set_option maxHeartbeats 1000000 in
theorem free_any (v : Value) (L : List Lo) (r : Nat) (w : World) (hL : Locs w v L) (hl : L.length ≤ 1000) (hr : r ≤ 1000) (hf : freeB L r = true) (hb : ∀ l, l ∈ L → l.2 ≤ 1000) :
    Calls Try.prog 30 #[v, .int .i64 r] w fun e w' => e = .returned (.bool true) ∧ w' = w := by
  obtain ⟨a, c, rfl, H⟩ := hL
  have G := hide H
  have HB := hide hb
  obtain ⟨hf1, hf2⟩ := freeB_spec hf
  have HF := hide hf1
  have hf2' : (r : Int) < 4 := by omega
  clear H hb hf1
  go_enter Try.func30, Try.ntmps30
  go_wp2_with fail
  go_loopw [5] (fun i wr => ∃ k : Nat, k ≤ L.length ∧ i = .int .i64 k ∧ wr = w) (fun i _ => L.length - (intOf i).toNat)
  case atStart => exact ⟨0, Nat.zero_le _, rfl, rfl⟩
  case round =>
    obtain ⟨k, hk, rfl, rfl⟩ := hrel
    by_cases hlt : k < L.length
    · have hlt' : (k : Int) < L.length := by omega
      have hidx : (0 : Int) ≤ k ∧ (k : Int) < L.length := by omega
      obtain ⟨g, o, rfl, b1, e1⟩ := G.out (by omega)
      obtain ⟨r1, r2⟩ := e1 k hlt
      have hs := HB.out L[k] (List.getElem_mem hlt)
      obtain ⟨hA, hB⟩ := HF.out L[k] (List.getElem_mem hlt)
      generalize L[k] = x at *
      obtain ⟨s, x⟩ := x
      simp only at r1 r2 hs hA hB
      subst hA
      have hne : ¬ (x : Int) = r := by omega
      have hne' : ((x : Int) == r) = false := by simpa using hne
      clear e1
      go_wp2_with fail
      go_roundw
      case rel => exact ⟨k + 1, by omega, by go_num, trivial⟩
      case measure => simp [intOf]; omega
    · obtain hkl : k = L.length := by omega
      have hlt' : ¬ (k : Int) < L.length := by omega
      go_wp2_with fail
      go_ret
      exact ⟨rfl, rfl⟩
end Go.Proofs.Ytmbhcpnlfdgkjaa.T
