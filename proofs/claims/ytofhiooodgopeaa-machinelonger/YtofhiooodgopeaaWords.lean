/- Rows of words that are compared. -/
import Derived.Test.YtofhiooodgopeaaRun2
namespace Go.Proofs.Ytofhiooodgopeaa.V
open Go.RowKit Go.Proofs.Ytofhiooodgopeaa.M
set_option linter.unusedVariables false
set_option linter.unusedSimpArgs false

theorem own_form {w : World} {ob : Nat} {e : TypeId} {z : Nat} {v : Value} {n : Nat} {xs : List Value} (h : w.ownsRow ob e z v n xs) : ∃ a c, v = .slice a n c := by
  rcases h.2 with ⟨rfl, rfl⟩ | ⟨g, cap, cur, rfl, _⟩
  · exact ⟨_, _, rfl⟩
  · exact ⟨_, _, rfl⟩
theorem own_cells {w : World} {ob : Nat} {v : Value} {l : List Int} (h : w.ownsRow ob 21 1 v l.length (l.map (Value.int .i32))) (hp : 0 < l.length) :
    ∃ g c, v = .slice (some ⟨g, 0, none⟩) l.length c ∧ ∀ k, k < l.length → w.cell? ⟨g, k, none⟩ = some (.int .i32 (l.getD k 0)) := by
  rcases h.2 with ⟨_, h0⟩ | ⟨g, cap, cur, rfl, hg, hh, h1, h2, h3, h4⟩
  · omega
  · refine ⟨g, cap, rfl, fun k hk => ?_⟩
    have e : w.cell? ⟨g, k, none⟩ = cur[k]? := by simp [World.cell?, hh]
    have h5 : (cur.toList.take (l.length * 1))[k]? = (l.map (Value.int .i32))[k]? := by rw [h4]
    rw [List.getElem?_take_of_lt (by omega), List.getElem?_map, Array.getElem?_toList] at h5
    rw [e, h5, List.getElem?_eq_getElem hk]
    simp [hk]

set_option maxRecDepth 100000 in
set_option maxHeartbeats 1000000 in
theorem words_noneK (a1 a2 : Option Addr) (c1 c2 : Nat) (w : World) : Calls Try.prog 13 #[.slice a1 0 c1, .slice a2 0 c2] w fun e w' => e = .returned (.bool true) ∧ ∃ m, w' = w.drewN m := by
  go_enter Try.func13, Try.ntmps13
  go_wp2
  go_loopw [5] (fun i wr => i = .int .i64 0 ∧ wr = w) (fun _ _ => 0)
  case atStart => exact ⟨rfl, rfl⟩
  case round =>
    obtain ⟨rfl, rfl⟩ := hrel
    go_wp2
    go_ret
    exact ⟨rfl, 0, rfl⟩
set_option maxRecDepth 100000 in
set_option maxHeartbeats 1000000 in
theorem words_someK (g1 o1 g2 o2 n c1 c2 : Nat) (f : Nat → Int) (w : World) (hn : n ≤ 1000000) (h1 : ∀ k, k < n → w.cell? ⟨g1, o1 + k, none⟩ = some (.int .i32 (f k))) (h2 : ∀ k, k < n → w.cell? ⟨g2, o2 + k, none⟩ = some (.int .i32 (f k))) :
    Calls Try.prog 13 #[.slice (some ⟨g1, o1, none⟩) n c1, .slice (some ⟨g2, o2, none⟩) n c2] w fun e w' => e = .returned (.bool true) ∧ ∃ m, w' = w.drewN m := by
  go_enter Try.func13, Try.ntmps13
  go_wp2
  go_loopw [5] (fun i wr => ∃ k m : Nat, k ≤ n ∧ i = .int .i64 k ∧ wr = w.drewN m) (fun i _ => n - (intOf i).toNat)
  case atStart => exact ⟨0, 0, Nat.zero_le _, rfl, rfl⟩
  case round =>
    obtain ⟨k, m, hk, rfl, rfl⟩ := hrel
    by_cases hlt : k < n
    · have r1 := h1 k hlt
      have r2 := h2 k hlt
      have hidx : (0 : Int) ≤ k ∧ (k : Int) < n := by omega
      clear h1 h2
      go_wp2
      go_quiet (fail)
      go_wp2
      go_roundw
      case rel => exact ⟨k + 1, _, by omega, by go_num, rfl⟩
      case measure => simp [intOf]; omega
    · have hge : ¬ (k : Int) < n := by omega
      go_wp2
      go_ret
      exact ⟨rfl, _, rfl⟩
/-- Two rows of the same words. -/
theorem words_anyK (v1 v2 : Value) (l : List Int) (w : World) (ob : Nat) (hl : l.length ≤ 1000000) (h1 : w.ownsRow ob 21 1 v1 l.length (l.map (Value.int .i32))) (h2 : w.ownsRow ob 21 1 v2 l.length (l.map (Value.int .i32))) :
    Calls Try.prog 13 #[v1, v2] w fun e w' => e = .returned (.bool true) ∧ ∃ m, w' = w.drewN m := by
  by_cases h0 : l.length = 0
  · obtain ⟨a1, c1, rfl⟩ := own_form h1
    obtain ⟨a2, c2, rfl⟩ := own_form h2
    rw [h0]
    exact words_noneK a1 a2 c1 c2 w
  · obtain ⟨g1, c1, rfl, e1⟩ := own_cells h1 (by omega)
    obtain ⟨g2, c2, rfl, e2⟩ := own_cells h2 (by omega)
    exact words_someK g1 0 g2 0 l.length c1 c2 (fun k => l.getD k 0) w hl (fun k hk => by rw [Nat.zero_add]; exact e1 k hk) (fun k hk => by rw [Nat.zero_add]; exact e2 k hk)

set_option maxRecDepth 100000 in
set_option maxHeartbeats 1000000 in
theorem begins_none (a1 a2 : Option Addr) (n1 c1 c2 : Nat) (w : World) : Calls Try.prog 12 #[.slice a1 n1 c1, .slice a2 0 c2] w fun e w' => e = .returned (.bool true) ∧ ∃ m, w' = w.drewN m := by
  go_enter Try.func12, Try.ntmps12
  go_wp2_with fail
  go_at_call 13
  refine (words_noneK a1 a2 c1 c2 w).mono ?_
  rintro e w' ⟨rfl, m, rfl⟩
  go_wp2_with fail
  go_ret
  exact ⟨rfl, _, rfl⟩
set_option maxRecDepth 100000 in
set_option maxHeartbeats 1000000 in
theorem begins_some (g1 g2 n1 n2 c1 c2 : Nat) (f : Nat → Int) (w : World) (hn : n2 ≤ 1000000) (hnn : n2 ≤ n1) (hc : n1 ≤ c1) (h1 : ∀ k, k < n2 → w.cell? ⟨g1, 0 + k, none⟩ = some (.int .i32 (f k))) (h2 : ∀ k, k < n2 → w.cell? ⟨g2, 0 + k, none⟩ = some (.int .i32 (f k))) :
    Calls Try.prog 12 #[.slice (some ⟨g1, 0, none⟩) n1 c1, .slice (some ⟨g2, 0, none⟩) n2 c2] w fun e w' => e = .returned (.bool true) ∧ ∃ m, w' = w.drewN m := by
  have hge : (n2 : Int) ≤ n1 := by omega
  have hsl : ¬ (c1 : Int) < n2 := by omega
  have hsl2 : n2 ≤ c1 := by omega
  have hw := fun c => words_someK g1 0 g2 0 n2 c c2 f w hn h1 h2
  clear h1 h2
  go_enter Try.func12, Try.ntmps12
  go_wp2_with fail
  go_at_call 13
  refine (hw _).mono ?_
  rintro e w' ⟨rfl, m, rfl⟩
  go_wp2_with fail
  go_ret
  exact ⟨rfl, _, rfl⟩
theorem own_cap {w : World} {ob : Nat} {e : TypeId} {z n : Nat} {a : Option Addr} {m c : Nat} {xs : List Value} (h : w.ownsRow ob e z (.slice a m c) n xs) : n ≤ c := by
  rcases h.2 with ⟨h1, rfl⟩ | ⟨g, cap, cur, h1, _, _, h2, _⟩
  · omega
  · injection h1 with _ _ e3
    omega
theorem begins_any (v1 v2 : Value) (l r : List Int) (w : World) (ob : Nat) (hl : l.length ≤ 1000000) (h1 : w.ownsRow ob 21 1 v1 (l ++ r).length ((l ++ r).map (Value.int .i32))) (h2 : w.ownsRow ob 21 1 v2 l.length (l.map (Value.int .i32))) :
    Calls Try.prog 12 #[v1, v2] w fun e w' => e = .returned (.bool true) ∧ ∃ m, w' = w.drewN m := by
  by_cases h0 : l.length = 0
  · obtain ⟨a1, c1, rfl⟩ := own_form h1
    obtain ⟨a2, c2, rfl⟩ := own_form h2
    rw [h0]
    exact begins_none a1 a2 _ c1 c2 w
  · have hla : (l ++ r).length = l.length + r.length := List.length_append
    obtain ⟨g1, c1, rfl, e1⟩ := own_cells h1 (by omega)
    obtain ⟨g2, c2, rfl, e2⟩ := own_cells h2 (by omega)
    refine begins_some g1 g2 (l ++ r).length l.length c1 c2 (fun k => l.getD k 0) w hl (by omega) (own_cap h1) (fun k hk => ?_) (fun k hk => by rw [Nat.zero_add]; exact e2 k hk)
    rw [Nat.zero_add, e1 k (by omega)]
    simp [List.getD, List.getElem?_append_left hk]
end Go.Proofs.Ytofhiooodgopeaa.V
