/- The contract of the reference's Once. -/
import Derived.Test.YtejionmgpplniaaB
import Derived.Deep.RegionLaw
namespace Go.Proofs.Ytejionmgpplniaa.T
open Go.RowKit
set_option linter.unusedVariables false
set_option linter.unusedSimpArgs false
def prV (L : List (Lc × Lc)) : List Value := L.flatMap fun m => [.bool m.1.1, .int .i64 m.1.2, .bool m.2.1, .int .i64 m.2.2]
theorem prV_snoc (L : List (Lc × Lc)) (m : Lc × Lc) : prV (L ++ [m]) = prV L ++ [.bool m.1.1, .int .i64 m.1.2, .bool m.2.1, .int .i64 m.2.2] := by simp [prV]
theorem prV_len : ∀ L : List (Lc × Lc), (prV L).length = L.length * 4
  | [] => rfl
  | l :: L => by have := prV_len L; simp only [prV, List.flatMap_cons, List.length_append, List.length_cons, List.length_nil] at *; omega
theorem prV_at : ∀ (L : List (Lc × Lc)) (j : Nat) (h : j < L.length), (prV L)[j * 4]? = some (.bool L[j].1.1) ∧ (prV L)[j * 4 + 1]? = some (.int .i64 L[j].1.2) ∧ (prV L)[j * 4 + 2]? = some (.bool L[j].2.1) ∧ (prV L)[j * 4 + 3]? = some (.int .i64 L[j].2.2)
  | l :: L, 0, _ => ⟨rfl, rfl, rfl, rfl⟩
  | l :: L, j + 1, h => by
    have := prV_at L j (by simpa using h)
    have e : prV (l :: L) = .bool l.1.1 :: .int .i64 l.1.2 :: .bool l.2.1 :: .int .i64 l.2.2 :: prV L := rfl
    rw [e, show (j + 1) * 4 = j * 4 + 4 by omega, show j * 4 + 4 + 1 = (j * 4 + 1) + 4 by omega, show j * 4 + 4 + 2 = (j * 4 + 2) + 4 by omega, show j * 4 + 4 + 3 = (j * 4 + 3) + 4 by omega]
    simpa using this
/-- What is owned as a row of pairs is read as one. -/
theorem Prs.of {w : World} {ob : Nat} {e : TypeId} {v : Value} {L : List (Lc × Lc)} (h : Rs.ok ob w (.row v e 4 L.length (prV L))) : Prs w v L := by
  rcases h.2 with ⟨hv, h0⟩ | ⟨g, cap, cur, rfl, hg, hh, _, _, hs, ht⟩
  · subst hv
    exact ⟨none, 0, by rw [h0], fun h => by omega⟩
  · refine ⟨_, cap, rfl, fun _ => ⟨g, 0, rfl, (Array.getElem?_eq_some_iff.1 hh).1, fun j hj => ?_⟩⟩
    have key : ∀ i, i < L.length * 4 → w.cell? ⟨g, 0 + i, none⟩ = (prV L)[i]? := fun i hi => by
      rw [← ht, List.getElem?_take_of_lt (by omega), Array.getElem?_toList]
      simp [World.cell?, hh]
    have := prV_at L j hj
    exact ⟨(key _ (by omega)).trans this.1, (key (j * 4 + 1) (by omega)).trans this.2.1, (key (j * 4 + 2) (by omega)).trans this.2.2.1, (key (j * 4 + 3) (by omega)).trans this.2.2.2⟩
theorem info41 : (Try.prog.info? 41).map (fun i => (i.zero, i.size, i.bytes)) = some (some (.agg #[.bool false, .int .i64 0, .bool false, .int .i64 0]), 4, 32) := by kernel_rfl
def swp (m : Lc × Lc) : Lc × Lc := (m.2, m.1)
set_option maxRecDepth 100000 in
set_option maxHeartbeats 2000000 in
theorem once_any (v : Value) (L : List (Lc × Lc)) (w : World) (hL : Prs w v L) (hl : L.length ≤ 1000) :
    Calls Try.prog 6 #[v] w fun e w' => ∃ u, e = .returned u ∧ w'.ownsRow w.heap.size 41 4 u L.length (prV (L.map swp)) ∧ Below w.heap.size w w' := by
  obtain ⟨a, c, rfl, H⟩ := hL
  have HH := hide H
  clear H
  go_enter Try.func6, Try.ntmps6
  go_wp2_with fail
  go_loopw [3, 4] (fun u i wr => ∃ k : Nat, k ≤ L.length ∧ i = .int .i64 k ∧ Hid (Fr w.heap.size w wr [.row u 41 4 k (prV ((L.take k).map swp))])) (fun _ i _ => L.length - (intOf i).toNat)
  case atStart => exact ⟨0, Nat.zero_le _, rfl, (Fr.start w).nil 41 4⟩
  case round =>
    obtain ⟨k, hk, rfl, HF⟩ := hrel
    by_cases hlt : k < L.length
    · have hlt' : (k : Int) < L.length := by omega
      have hidx : (0 : Int) ≤ k ∧ (k : Int) < L.length := by omega
      obtain ⟨g, o, rfl, hg, E⟩ := HH.out (by omega)
      obtain ⟨d0, d1, d2, d3⟩ := E k hlt
      have hb := HF.out.below
      have e0 := (hb.cell (p := ⟨g, o + k * 4, none⟩) hg).trans d0
      have e1 := (hb.cell (p := ⟨g, o + k * 4 + 1, none⟩) hg).trans d1
      have e2 := (hb.cell (p := ⟨g, o + k * 4 + 2, none⟩) hg).trans d2
      have e3 := (hb.cell (p := ⟨g, o + k * 4 + 3, none⟩) hg).trans d3
      clear E d0 d1 d2 d3 hb
      have HT : Hid ((L.take (k + 1)).map swp = (L.take k).map swp ++ [swp L[k]]) := by show _ = _; rw [(List.take_append_getElem hlt).symm, List.map_append]; rfl
      generalize L[k] = y at *
      obtain ⟨⟨s1, x1⟩, ⟨s2, x2⟩⟩ := y
      simp only at e0 e1 e2 e3
      have HA := ((HF.out.alloc rfl #[.bool s2, .int .i64 x2, .bool s1, .int .i64 x1] 41).drew)
      go_wp2_with fail
      go_region_law (refine Fr.stepOne 27 info41 Try.underlying27 rfl (by decide) (by decide) HA 0 (v := u3) (n := k) rfl (by omega) (.tmp 11) (.tmp 23) rfl rfl rfl rfl rfl rfl ?_; intro g7 cap7 w7 h7 _; have HF7 := hide h7; clear h7)
      all_goals
        go_wp2_with fail
        go_roundw
        case rel => exact ⟨k + 1, by omega, by go_num, by rw [HT.out, prV_snoc]; exact HF7⟩
        case measure => simp [intOf]; omega
    · obtain rfl : k = L.length := by omega
      have hlt' : ¬ (L.length : Int) < L.length := by omega
      go_wp2_with fail
      go_ret
      refine ⟨_, rfl, ?_, HF.out.below⟩
      have hx := HF.out.get (i := 0) rfl
      rw [List.take_length] at hx
      exact hx
end Go.Proofs.Ytejionmgpplniaa.T
