/- Rows of words that are compared. -/
import Derived.Test.YtofhiooodgopeaaRun2
import Derived.ProofKit
import Derived.OpenShut
import Derived.SizedLaws
import Derived.Carry
namespace Go.Proofs.Ytofhiooodgopeaa.V
open Go.RowKit Go.Proofs.Ytofhiooodgopeaa.M
set_option linter.unusedVariables false
set_option linter.unusedSimpArgs false

theorem own_form {w : World} {ob : Nat} {e : TypeId} {z : Nat} {v : Value} {n : Nat} {xs : List Value} (h : w.ownsRow ob e z v n xs) : ∃ a c, v = .slice a n c := by
  rcases h.2 with ⟨rfl, rfl⟩ | ⟨g, cap, cur, rfl, _⟩
  · exact ⟨_, _, rfl⟩
  · exact ⟨_, _, rfl⟩
theorem own_cells {w : World} {ob : Nat} {v : Value} {l : List Int} (h : w.ownsRow ob 21 1 v l.length (l.map (Value.int .i32))) (hp : 0 < l.length) :
    ∃ g c, v = .slice (some ⟨g, 0, none⟩) l.length c ∧ ∀ k, k < l.length → w.cell? ⟨g, k, none⟩ = some (.int .i32 (l.getD k 0)) := by
  rcases h.2 with ⟨_, h0⟩ | ⟨g, cap, cur, rfl, hg, hh, h1, h2, h3, h4⟩
  · omega
  · refine ⟨g, cap, rfl, fun k hk => ?_⟩
    have e : w.cell? ⟨g, k, none⟩ = cur[k]? := by simp [World.cell?, hh]
    have h5 : (cur.toList.take (l.length * 1))[k]? = (l.map (Value.int .i32))[k]? := by rw [h4]
    rw [List.getElem?_take_of_lt (by omega), List.getElem?_map, Array.getElem?_toList] at h5
    rw [e, h5, List.getElem?_eq_getElem hk]
    simp [hk]

set_option maxRecDepth 100000 in
set_option maxHeartbeats 1000000 in
theorem words_noneK (a1 a2 : Option Addr) (c1 c2 : Nat) (w : World) : Calls Try.prog 13 #[.slice a1 0 c1, .slice a2 0 c2] w fun e w' => e = .returned (.bool true) ∧ ∃ m, w' = w.drewN m := by
  go_enter Try.func13, Try.ntmps13
  go_wp2
  go_loopw [5] (fun i wr => i = .int .i64 0 ∧ wr = w) (fun _ _ => 0)
  case atStart => exact ⟨rfl, rfl⟩
  case round =>
    obtain ⟨rfl, rfl⟩ := hrel
    go_wp2
    go_ret
    exact ⟨rfl, 0, rfl⟩
set_option maxRecDepth 100000 in
set_option maxHeartbeats 1000000 in
theorem words_someK (g1 o1 g2 o2 n c1 c2 : Nat) (f : Nat → Int) (w : World) (hn : n ≤ 1000000) (h1 : ∀ k, k < n → w.cell? ⟨g1, o1 + k, none⟩ = some (.int .i32 (f k))) (h2 : ∀ k, k < n → w.cell? ⟨g2, o2 + k, none⟩ = some (.int .i32 (f k))) :
    Calls Try.prog 13 #[.slice (some ⟨g1, o1, none⟩) n c1, .slice (some ⟨g2, o2, none⟩) n c2] w fun e w' => e = .returned (.bool true) ∧ ∃ m, w' = w.drewN m := by
  go_enter Try.func13, Try.ntmps13
  go_wp2
  go_loopw [5] (fun i wr => ∃ k m : Nat, k ≤ n ∧ i = .int .i64 k ∧ wr = w.drewN m) (fun i _ => n - (intOf i).toNat)
  case atStart => exact ⟨0, 0, Nat.zero_le _, rfl, rfl⟩
  case round =>
    obtain ⟨k, m, hk, rfl, rfl⟩ := hrel
    by_cases hlt : k < n
    · have r1 := h1 k hlt
      have r2 := h2 k hlt
      have hidx : (0 : Int) ≤ k ∧ (k : Int) < n := by omega
      clear h1 h2
      go_wp2
      go_quiet (fail)
      go_wp2
      go_roundw
      case rel => exact ⟨k + 1, _, by omega, by go_num, rfl⟩
      case measure => simp [intOf]; omega
    · have hge : ¬ (k : Int) < n := by omega
      go_wp2
      go_ret
      exact ⟨rfl, _, rfl⟩
/-- Two rows of the same words. -/
theorem words_anyK (v1 v2 : Value) (l : List Int) (w : World) (ob : Nat) (hl : l.length ≤ 1000000) (h1 : w.ownsRow ob 21 1 v1 l.length (l.map (Value.int .i32))) (h2 : w.ownsRow ob 21 1 v2 l.length (l.map (Value.int .i32))) :
    Calls Try.prog 13 #[v1, v2] w fun e w' => e = .returned (.bool true) ∧ ∃ m, w' = w.drewN m := by
  by_cases h0 : l.length = 0
  · obtain ⟨a1, c1, rfl⟩ := own_form h1
    obtain ⟨a2, c2, rfl⟩ := own_form h2
    rw [h0]
    exact words_noneK a1 a2 c1 c2 w
  · obtain ⟨g1, c1, rfl, e1⟩ := own_cells h1 (by omega)
    obtain ⟨g2, c2, rfl, e2⟩ := own_cells h2 (by omega)
    exact words_someK g1 0 g2 0 l.length c1 c2 (fun k => l.getD k 0) w hl (fun k hk => by rw [Nat.zero_add]; exact e1 k hk) (fun k hk => by rw [Nat.zero_add]; exact e2 k hk)

set_option maxRecDepth 100000 in
set_option maxHeartbeats 1000000 in
theorem begins_none (a1 a2 : Option Addr) (n1 c1 c2 : Nat) (w : World) : Calls Try.prog 12 #[.slice a1 n1 c1, .slice a2 0 c2] w fun e w' => e = .returned (.bool true) ∧ ∃ m, w' = w.drewN m := by
  go_enter Try.func12, Try.ntmps12
  go_wp2_with fail
  go_at_call 13
  refine (words_noneK a1 a2 c1 c2 w).mono ?_
  rintro e w' ⟨rfl, m, rfl⟩
  go_wp2_with fail
  go_ret
  exact ⟨rfl, _, rfl⟩
set_option maxRecDepth 100000 in
set_option maxHeartbeats 1000000 in
theorem begins_some (g1 g2 n1 n2 c1 c2 : Nat) (f : Nat → Int) (w : World) (hn : n2 ≤ 1000000) (hnn : n2 ≤ n1) (hc : n1 ≤ c1) (h1 : ∀ k, k < n2 → w.cell? ⟨g1, 0 + k, none⟩ = some (.int .i32 (f k))) (h2 : ∀ k, k < n2 → w.cell? ⟨g2, 0 + k, none⟩ = some (.int .i32 (f k))) :
    Calls Try.prog 12 #[.slice (some ⟨g1, 0, none⟩) n1 c1, .slice (some ⟨g2, 0, none⟩) n2 c2] w fun e w' => e = .returned (.bool true) ∧ ∃ m, w' = w.drewN m := by
  have hge : (n2 : Int) ≤ n1 := by omega
  have hsl : ¬ (c1 : Int) < n2 := by omega
  have hsl2 : n2 ≤ c1 := by omega
  have hw := fun c => words_someK g1 0 g2 0 n2 c c2 f w hn h1 h2
  clear h1 h2
  go_enter Try.func12, Try.ntmps12
  go_wp2_with fail
  go_at_call 13
  refine (hw _).mono ?_
  rintro e w' ⟨rfl, m, rfl⟩
  go_wp2_with fail
  go_ret
  exact ⟨rfl, _, rfl⟩
theorem own_cap {w : World} {ob : Nat} {e : TypeId} {z n : Nat} {a : Option Addr} {m c : Nat} {xs : List Value} (h : w.ownsRow ob e z (.slice a m c) n xs) : n ≤ c := by
  rcases h.2 with ⟨h1, rfl⟩ | ⟨g, cap, cur, h1, _, _, h2, _⟩
  · omega
  · injection h1 with _ _ e3
    omega
theorem begins_any (v1 v2 : Value) (l r : List Int) (w : World) (ob : Nat) (hl : l.length ≤ 1000000) (h1 : w.ownsRow ob 21 1 v1 (l ++ r).length ((l ++ r).map (Value.int .i32))) (h2 : w.ownsRow ob 21 1 v2 l.length (l.map (Value.int .i32))) :
    Calls Try.prog 12 #[v1, v2] w fun e w' => e = .returned (.bool true) ∧ ∃ m, w' = w.drewN m := by
  by_cases h0 : l.length = 0
  · obtain ⟨a1, c1, rfl⟩ := own_form h1
    obtain ⟨a2, c2, rfl⟩ := own_form h2
    rw [h0]
    exact begins_none a1 a2 _ c1 c2 w
  · have hla : (l ++ r).length = l.length + r.length := List.length_append
    obtain ⟨g1, c1, rfl, e1⟩ := own_cells h1 (by omega)
    obtain ⟨g2, c2, rfl, e2⟩ := own_cells h2 (by omega)
    refine begins_some g1 g2 (l ++ r).length l.length c1 c2 (fun k => l.getD k 0) w hl (by omega) (own_cap h1) (fun k hk => ?_) (fun k hk => by rw [Nat.zero_add]; exact e2 k hk)
    rw [Nat.zero_add, e1 k (by omega)]
    simp [List.getD, List.getElem?_append_left hk]
end Go.Proofs.Ytofhiooodgopeaa.V

namespace Go.Proofs.Ytofhiooodgopeaa.V
open Go.RowKit Go.Proofs.Ytofhiooodgopeaa.M
set_option linter.unusedVariables false
set_option linter.unusedSimpArgs false
variable {w : World} {ca da : Option Addr} {nc cc nd cd : Nat} {code data : Nat → Int} {M few more : Int}

set_option maxRecDepth 100000 in
set_option maxHeartbeats 1000000 in
theorem long_gt (h : more < few) : Calls Try.prog 4 #[.agg #[.slice ca nc cc, .slice da nd cd, .int .i64 M], .int .i64 few, .int .i64 more] w fun e w' => e = .returned (.bool true) ∧ Below w.heap.size w w' := by
  go_enter Try.func4, Try.ntmps4
  go_wp2_with fail
  go_ret
  exact ⟨rfl, (Below.refl _ _).alloc (Nat.le_refl _) _⟩

/-- An error among the two. -/
def Errs (few more er1 er2 : Int) : Prop := (er1 = 1 ∧ er2 = 1) ∨ (er1 = 6 ∧ er2 = 6) ∨ (er1 = 6 ∧ er2 = 0 ∧ few < 0) ∨ (er1 = 0 ∧ er2 = 6 ∧ 300000 < more ∧ ¬ few < 0)
set_option maxRecDepth 100000 in
set_option maxHeartbeats 4000000 in
theorem long_err (h : ¬ more < few) (er1 er2 : Int) (he : Errs few more er1 er2)
    (hr1 : ∀ w', Below w.heap.size w w' → Calls Try.prog 5 #[.agg #[.slice ca nc cc, .slice da nd cd, .int .i64 M], .int .i64 few] w' fun e w'' => ∃ (x y : Int) (oa : Option Addr) (on oc : Nat) (t : Int), e = .returned (.tuple #[.agg #[.int .i64 x, .int .i32 y, .slice oa on oc, .int .i64 t], .int .i64 er1]) ∧ Below w'.heap.size w' w'')
    (hr2 : ∀ w', Below w.heap.size w w' → Calls Try.prog 5 #[.agg #[.slice ca nc cc, .slice da nd cd, .int .i64 M], .int .i64 more] w' fun e w'' => ∃ (x y : Int) (oa : Option Addr) (on oc : Nat) (t : Int), e = .returned (.tuple #[.agg #[.int .i64 x, .int .i32 y, .slice oa on oc, .int .i64 t], .int .i64 er2]) ∧ Below w'.heap.size w' w'') :
    Calls Try.prog 4 #[.agg #[.slice ca nc cc, .slice da nd cd, .int .i64 M], .int .i64 few, .int .i64 more] w fun e w' => e = .returned (.bool true) ∧ Below w.heap.size w w' := by
  rcases he with ⟨rfl, rfl⟩ | ⟨rfl, rfl⟩ | ⟨rfl, rfl, hf⟩ | ⟨rfl, rfl, hm, hf⟩
  all_goals
    go_enter Try.func4, Try.ntmps4
    go_wp2_with fail
    have hB0 : Below w.heap.size w (w.alloc (.cells #[.slice ca nc cc, .slice da nd cd, .int .i64 M] 25)) := (Below.refl _ _).alloc (Nat.le_refl _) _
    go_at_call 5
    refine (hr1 _ hB0).mono ?_
    rintro e w1 ⟨x, y, oa, on, oc, t, rfl, hb1⟩
    have hB1 : Below w.heap.size w w1 := hB0.trans (hb1.mono (by simp))
    have hz1 : w.heap.size < w1.heap.size := by have := hb1.size; simp at this; omega
    have hx1 : ∀ o, w1.cell? ⟨w.heap.size, o, none⟩ = (#[Value.slice ca nc cc, .slice da nd cd, .int .i64 M])[o]? := fun o => (hb1.cell (p := ⟨w.heap.size, o, none⟩) (by simp)).trans (World.cell?_alloc_at _ _ _ _ rfl)
    clear hb1
    go_wp2_with fail
    go_at_call 5
    refine (hr2 _ (hB1.alloc hB1.size _)).mono ?_
    rintro e w2 ⟨x2, y2, oa2, on2, oc2, t2, rfl, hb2⟩
    have hB2 : Below w.heap.size w w2 := (hB1.alloc hB1.size _).trans (hb2.mono (by simp; omega))
    clear hb2 hx1
    go_wp2_with fail
    go_ret
    exact ⟨rfl, hB2.alloc hB2.size _⟩

set_option maxRecDepth 100000 in
set_option maxHeartbeats 4000000 in
theorem long_fuel (h : ¬ more < few) (y1 y2 x2 t2 : Int) (l r : List Int) (hl : l.length ≤ 1000000) (ht : few ≤ t2)
    (hr1 : ∀ w', Below w.heap.size w w' → Calls Try.prog 5 #[.agg #[.slice ca nc cc, .slice da nd cd, .int .i64 M], .int .i64 few] w' fun e w'' => ∃ ov, e = .returned (.tuple #[.agg #[.int .i64 0, .int .i32 y1, ov, .int .i64 few], .int .i64 0]) ∧ w''.ownsRow w'.heap.size 21 1 ov l.length (l.map (Value.int .i32)) ∧ Below w'.heap.size w' w'')
    (hr2 : ∀ w', Below w.heap.size w w' → Calls Try.prog 5 #[.agg #[.slice ca nc cc, .slice da nd cd, .int .i64 M], .int .i64 more] w' fun e w'' => ∃ ov, e = .returned (.tuple #[.agg #[.int .i64 x2, .int .i32 y2, ov, .int .i64 t2], .int .i64 0]) ∧ w''.ownsRow w'.heap.size 21 1 ov (l ++ r).length ((l ++ r).map (Value.int .i32)) ∧ Below w'.heap.size w' w'') :
    Calls Try.prog 4 #[.agg #[.slice ca nc cc, .slice da nd cd, .int .i64 M], .int .i64 few, .int .i64 more] w fun e w' => e = .returned (.bool true) ∧ Below w.heap.size w w' := by
  go_enter Try.func4, Try.ntmps4
  go_wp2_with fail
  have hB0 : Below w.heap.size w (w.alloc (.cells #[.slice ca nc cc, .slice da nd cd, .int .i64 M] 25)) := (Below.refl _ _).alloc (Nat.le_refl _) _
  go_at_call 5
  refine (hr1 _ hB0).mono ?_
  rintro e w1 ⟨ov1, rfl, ho1, hb1⟩
  obtain ⟨oa1, oc1, rfl⟩ := own_form ho1
  have hB1 : Below w.heap.size w w1 := hB0.trans (hb1.mono (by simp))
  have hz1 : w.heap.size < w1.heap.size := by have := hb1.size; simp at this; omega
  have hx1 : ∀ o, w1.cell? ⟨w.heap.size, o, none⟩ = (#[Value.slice ca nc cc, .slice da nd cd, .int .i64 M])[o]? := fun o => (hb1.cell (p := ⟨w.heap.size, o, none⟩) (by simp)).trans (World.cell?_alloc_at _ _ _ _ rfl)
  have HO1 : Hid (w1.ownsRow 0 21 1 (.slice oa1 l.length oc1) l.length (l.map (Value.int .i32))) := ownsRow_base ho1 (Nat.zero_le _)
  clear hb1 ho1
  go_wp2_with fail
  go_at_call 5
  refine (hr2 _ (hB1.alloc hB1.size _)).mono ?_
  rintro e w2 ⟨ov2, rfl, ho2, hb2⟩
  obtain ⟨oa2, oc2, rfl⟩ := own_form ho2
  have hB2 : Below w.heap.size w w2 := (hB1.alloc hB1.size _).trans (hb2.mono (by simp; omega))
  have hx2 : ∀ o, w2.cell? ⟨w1.heap.size, o, none⟩ = (#[Value.int .i64 0, .int .i32 y1, .slice oa1 l.length oc1, .int .i64 few])[o]? := fun o => (hb2.cell (p := ⟨w1.heap.size, o, none⟩) (by simp)).trans (World.cell?_alloc_at _ _ _ _ rfl)
  have hz2 : w1.heap.size < w2.heap.size := by have := hb2.size; simp at this; omega
  have HO2 : Hid (w2.ownsRow 0 21 1 (.slice oa2 (l ++ r).length oc2) (l ++ r).length ((l ++ r).map (Value.int .i32))) := ownsRow_base ho2 (Nat.zero_le _)
  have HO3 : Hid (w2.ownsRow 0 21 1 (.slice oa1 l.length oc1) l.length (l.map (Value.int .i32))) := ownsRow_below (ownsRow_below HO1.out ((Below.refl _ _).alloc (Nat.le_refl _) (.cells #[Value.int .i64 0, .int .i32 y1, .slice oa1 l.length oc1, .int .i64 few] 27))) (hb2.mono (by simp))
  clear hb2 hx1 ho2 HO1
  generalize hlr : (l ++ r).length = n2 at *
  have HLR := hide hlr
  clear hlr
  go_wp2_with fail
  go_at_call 12
  have hn2 := HLR.out
  subst hn2
  refine (begins_any _ _ l r _ 0 hl (ownsRow_below HO2.out ((Below.refl _ _).alloc (Nat.le_refl _) _)) (ownsRow_below HO3.out ((Below.refl _ _).alloc (Nat.le_refl _) _))).mono ?_
  rintro e w3 ⟨rfl, m, rfl⟩
  go_wp2_with fail
  go_ret
  exact ⟨rfl, below_drewN (hB2.alloc hB2.size _) m⟩

set_option maxRecDepth 100000 in
set_option maxHeartbeats 4000000 in
theorem long_end (h : ¬ more < few) (x y t : Int) (l : List Int) (hl : l.length ≤ 1000000) (hx : (x == 0) = false)
    (hr1 : ∀ w', Below w.heap.size w w' → Calls Try.prog 5 #[.agg #[.slice ca nc cc, .slice da nd cd, .int .i64 M], .int .i64 few] w' fun e w'' => ∃ ov, e = .returned (.tuple #[.agg #[.int .i64 x, .int .i32 y, ov, .int .i64 t], .int .i64 0]) ∧ w''.ownsRow w'.heap.size 21 1 ov l.length (l.map (Value.int .i32)) ∧ Below w'.heap.size w' w'')
    (hr2 : ∀ w', Below w.heap.size w w' → Calls Try.prog 5 #[.agg #[.slice ca nc cc, .slice da nd cd, .int .i64 M], .int .i64 more] w' fun e w'' => ∃ ov, e = .returned (.tuple #[.agg #[.int .i64 x, .int .i32 y, ov, .int .i64 t], .int .i64 0]) ∧ w''.ownsRow w'.heap.size 21 1 ov l.length (l.map (Value.int .i32)) ∧ Below w'.heap.size w' w'') :
    Calls Try.prog 4 #[.agg #[.slice ca nc cc, .slice da nd cd, .int .i64 M], .int .i64 few, .int .i64 more] w fun e w' => e = .returned (.bool true) ∧ Below w.heap.size w w' := by
  go_enter Try.func4, Try.ntmps4
  go_wp2_with fail
  have hB0 : Below w.heap.size w (w.alloc (.cells #[.slice ca nc cc, .slice da nd cd, .int .i64 M] 25)) := (Below.refl _ _).alloc (Nat.le_refl _) _
  go_at_call 5
  refine (hr1 _ hB0).mono ?_
  rintro e w1 ⟨ov1, rfl, ho1, hb1⟩
  obtain ⟨oa1, oc1, rfl⟩ := own_form ho1
  have hB1 : Below w.heap.size w w1 := hB0.trans (hb1.mono (by simp))
  have hz1 : w.heap.size < w1.heap.size := by have := hb1.size; simp at this; omega
  have hx1 : ∀ o, w1.cell? ⟨w.heap.size, o, none⟩ = (#[Value.slice ca nc cc, .slice da nd cd, .int .i64 M])[o]? := fun o => (hb1.cell (p := ⟨w.heap.size, o, none⟩) (by simp)).trans (World.cell?_alloc_at _ _ _ _ rfl)
  have HO1 : Hid (w1.ownsRow 0 21 1 (.slice oa1 l.length oc1) l.length (l.map (Value.int .i32))) := ownsRow_base ho1 (Nat.zero_le _)
  clear hb1 ho1
  go_wp2_with fail
  go_at_call 5
  refine (hr2 _ (hB1.alloc hB1.size _)).mono ?_
  rintro e w2 ⟨ov2, rfl, ho2, hb2⟩
  obtain ⟨oa2, oc2, rfl⟩ := own_form ho2
  have hB2 : Below w.heap.size w w2 := (hB1.alloc hB1.size _).trans (hb2.mono (by simp; omega))
  have hx2 : ∀ o, w2.cell? ⟨w1.heap.size, o, none⟩ = (#[Value.int .i64 x, .int .i32 y, .slice oa1 l.length oc1, .int .i64 t])[o]? := fun o => (hb2.cell (p := ⟨w1.heap.size, o, none⟩) (by simp)).trans (World.cell?_alloc_at _ _ _ _ rfl)
  have hz2 : w1.heap.size < w2.heap.size := by have := hb2.size; simp at this; omega
  have HO2 : Hid (w2.ownsRow 0 21 1 (.slice oa2 l.length oc2) l.length (l.map (Value.int .i32))) := ownsRow_base ho2 (Nat.zero_le _)
  have HO3 : Hid (w2.ownsRow 0 21 1 (.slice oa1 l.length oc1) l.length (l.map (Value.int .i32))) := ownsRow_below (ownsRow_below HO1.out ((Below.refl _ _).alloc (Nat.le_refl _) (.cells #[Value.int .i64 x, .int .i32 y, .slice oa1 l.length oc1, .int .i64 t] 27))) (hb2.mono (by simp))
  clear hb2 hx1 ho2 HO1
  go_wp2_with fail
  go_at_call 13
  refine (words_anyK _ _ l _ 0 hl (ownsRow_below HO3.out ((Below.refl _ _).alloc (Nat.le_refl _) _)) (ownsRow_below HO2.out ((Below.refl _ _).alloc (Nat.le_refl _) _))).mono ?_
  rintro e w3 ⟨rfl, m, rfl⟩
  go_wp2_with fail
  go_ret
  exact ⟨rfl, below_drewN (hB2.alloc hB2.size _) m⟩

/-- A machine's run told at most as many words as it had fuel. -/
theorem fin_len (nc nd M fuel : Nat) (code data : Nat → Int) (hf : fuel ≤ 300000) : (fin nc nd M fuel code data).out.length ≤ 1000000 := by
  have := run_len (cf nc nd M code) (sm0 nc nd M code data) fuel
  have e : (sm0 nc nd M code data).out.length = 0 := rfl
  show (run _ _ _).out.length ≤ _
  omega
/-- MachineLonger answers true. -/
theorem long_any (h : Img w ca da nc nd code data) (M0 : -9223372036854775808 ≤ M) (M1 : M ≤ 9223372036854775807) :
    Calls Try.prog 4 #[.agg #[.slice ca nc cc, .slice da nd cd, .int .i64 M], .int .i64 few, .int .i64 more] w fun e w' => e = .returned (.bool true) ∧ Below w.heap.size w w' := by
  by_cases hgt : more < few
  · exact long_gt hgt
  have hz : ∀ {er : Int} {w' w'' : World} {e : Ending}, e = .returned (.tuple #[.agg zz27, .int .i64 er]) ∧ Below w'.heap.size w' w'' → ∃ (x y : Int) (oa : Option Addr) (on oc : Nat) (t : Int), e = .returned (.tuple #[.agg #[.int .i64 x, .int .i32 y, .slice oa on oc, .int .i64 t], .int .i64 er]) ∧ Below w'.heap.size w' w'' :=
    fun ⟨he, hb⟩ => ⟨0, 0, none, 0, 0, 0, he, hb⟩
  have hy : ∀ {s : Sm} {w' w'' : World} {e : Ending}, (∃ ov, e = .returned (.tuple #[.agg #[.int .i64 s.fin, .int .i32 s.val, ov, .int .i64 s.steps], .int .i64 0]) ∧ w''.ownsRow w'.heap.size 21 1 ov s.out.length (s.out.map (Value.int .i32)) ∧ Below w'.heap.size w' w'') →
      ∃ (x y : Int) (oa : Option Addr) (on oc : Nat) (t : Int), e = .returned (.tuple #[.agg #[.int .i64 x, .int .i32 y, .slice oa on oc, .int .i64 t], .int .i64 0]) ∧ Below w'.heap.size w' w'' := fun ⟨ov, he, ho, hb⟩ => by
    obtain ⟨a, c, rfl⟩ := own_form ho
    exact ⟨_, _, _, _, _, _, he, hb⟩
  cases hm : mayB nc nd M with
  | false =>
    exact long_err hgt 1 1 (Or.inl ⟨rfl, rfl⟩) (fun w' hb => (run_may (h.below hb) M few M0 M1 hm).mono fun _ _ => hz) (fun w' hb => (run_may (h.below hb) M more M0 M1 hm).mono fun _ _ => hz)
  | true =>
    have hmm : 1 ≤ nc ∧ nc ≤ 6000 ∧ (32 : Int) ≤ M ∧ M ≤ 16000 ∧ (nc : Int) + nd ≤ M - 16 := by simpa [mayB] using hm
    obtain ⟨Mn, rfl⟩ : ∃ n : Nat, M = n := ⟨M.toNat, by omega⟩
    by_cases h1 : few < 0 ∨ (¬ few < 0 ∧ 300000 < few)
    · by_cases h2 : more < 0 ∨ (¬ more < 0 ∧ 300000 < more)
      · exact long_err hgt 6 6 (Or.inr (Or.inl ⟨rfl, rfl⟩)) (fun w' hb => (run_fuel (h.below hb) Mn few M0 M1 hm h1).mono fun _ _ => hz) (fun w' hb => (run_fuel (h.below hb) Mn more M0 M1 hm h2).mono fun _ _ => hz)
      · obtain ⟨k, rfl⟩ : ∃ n : Nat, more = n := ⟨more.toNat, by omega⟩
        exact long_err hgt 6 0 (Or.inr (Or.inr (Or.inl ⟨rfl, rfl, by omega⟩))) (fun w' hb => (run_fuel (h.below hb) Mn few M0 M1 hm h1).mono fun _ _ => hz) (fun w' hb => (run_ok' (h.below hb) Mn k hm (by omega)).mono fun _ _ => hy)
    · obtain ⟨j, rfl⟩ : ∃ n : Nat, few = n := ⟨few.toNat, by omega⟩
      by_cases h2 : more < 0 ∨ (¬ more < 0 ∧ 300000 < more)
      · exact long_err hgt 0 6 (Or.inr (Or.inr (Or.inr ⟨rfl, rfl, by omega, by omega⟩))) (fun w' hb => (run_ok' (h.below hb) Mn j hm (by omega)).mono fun _ _ => hy) (fun w' hb => (run_fuel (h.below hb) Mn more M0 M1 hm h2).mono fun _ _ => hz)
      · obtain ⟨k, rfl⟩ : ∃ n : Nat, more = n := ⟨more.toNat, by omega⟩
        have hjk : j ≤ k := by omega
        have hlen := fin_len nc nd Mn j code data (by omega)
        have r1 := fun (w' : World) (hb : Below w.heap.size w w') => run_ok' (cc := cc) (cd := cd) (h.below hb) Mn j hm (by omega)
        have r2 := fun (w' : World) (hb : Below w.heap.size w w') => run_ok' (cc := cc) (cd := cd) (h.below hb) Mn k hm (by omega)
        by_cases hf : (fin nc nd Mn j code data).fin = 0
        · have hst := (run_steps (cf nc nd Mn code) (sm0 nc nd Mn code data) j).2.2 hf
          have hs0 : (sm0 nc nd Mn code data).steps = 0 := rfl
          obtain ⟨d, rfl⟩ : ∃ d, k = j + d := ⟨k - j, by omega⟩
          have hadd : fin nc nd Mn (j + d) code data = run (cf nc nd Mn code) d (fin nc nd Mn j code data) := run_add _ _ _ _
          have hst2 := (run_steps (cf nc nd Mn code) (fin nc nd Mn j code data) d).2.1
          obtain ⟨r, hr⟩ := run_out (cf nc nd Mn code) (fin nc nd Mn j code data) d
          rw [← hadd] at hst2 hr
          have hsj : (fin nc nd Mn j code data).steps = j := by show (run _ _ _).steps = j; omega
          rw [hf, hsj] at r1
          rw [hr] at r2
          exact long_fuel hgt _ _ _ _ _ r hlen (by omega) r1 r2
        · have hsame : fin nc nd Mn k code data = fin nc nd Mn j code data := run_same _ _ j k hf hjk
          rw [hsame] at r2
          exact long_end hgt _ _ _ _ hlen (by simpa using hf) r1 r2
end Go.Proofs.Ytofhiooodgopeaa.V

namespace Go.Proofs.Ytofhiooodgopeaa.K
open Go.ChangeShapes Go.WideShapes Go.ChangeAt Go.RowKit Go.Proofs.Ytofhiooodgopeaa.M Go.Proofs.Ytofhiooodgopeaa.V
set_option linter.unusedVariables false

theorem spot_none {w : World} {a : Addr} {u : Value} (h : w.cell? a = some u) : a.spot = none := by
  obtain ⟨b, o, s⟩ := a
  cases s with
  | none => rfl
  | some s =>
    exfalso
    unfold World.cell? at h
    split at h <;> simp at h
theorem sl_open {H : Type} {enc : TypeId × Value → H} {W : World} {k : IntKind} {e t : TypeId} {fuel : Nat} {k0 : Value} {y : DataW H × List MemPlace} (ht : Try.prog.underlying t = some (.slice e)) (he : Try.prog.underlying e = some (.int k)) (hc : Try.prog.cellsOf e = 1) (hby : 1 ≤ Try.prog.bytesOf e)
    (h : DataW.trod enc Try.prog W 0 (fun _ => true) true fuel t [k0] = some y) (hz : ∀ n ∈ y.1.weights Try.prog t, n ≤ reachBytes) :
    ∃ (a : Option Addr) (n c : Nat) (f : Nat → Int), k0 = .slice a n c ∧ (0 < n → ∃ cb co, a = some ⟨cb, co, none⟩ ∧ cb < W.heap.size ∧ ∀ j, j < n → W.cell? ⟨cb, co + j, none⟩ = some (.int k (f j))) ∧ (∀ j, j < n → (Lit.int k (f j)).wf = true) ∧ n ≤ 140737488355328 := by
  rcases open_ints ht he hc h with ⟨h1, _⟩ | ⟨a, len, cap, zs, h1, _, hlc, _, hzl, hx, hcell, hwf⟩
  · simp at h1
    exact ⟨none, 0, 0, fun _ => 0, h1, fun h => by omega, fun j hj => by omega, by omega⟩
  · simp at h1
    simp at hzl
    have hcap : cap ≤ reachBytes := by
      have h2 := hz ((lits (H := H) k (zs.take len)).length + (lits (H := H) k (zs.drop len)).length |>.mul (Try.prog.bytesOf e)) (by rw [hx]; simp [DataW.weights, ht])
      have h3 : (lits (H := H) k (zs.take len)).length + (lits (H := H) k (zs.drop len)).length = cap := by simp [lits]; omega
      rw [h3] at h2
      exact Nat.le_trans (Nat.le_mul_of_pos_right cap hby) h2
    have hr : reachBytes ≤ 140737488355328 := by decide
    refine ⟨some a, len, cap, fun j => zs.getD j 0, h1, fun hp => ?_, fun j hj => ?_, by omega⟩
    · have h0 := hcell 0 (by omega)
      have ha0 : a.add 0 = a := by unfold Addr.add; simp
      rw [ha0] at h0
      have hs := spot_none h0
      obtain ⟨cb, co, sp⟩ := a
      simp only at hs
      subst hs
      refine ⟨cb, co, rfl, World.block_lt_of_cell? W ⟨cb, co, none⟩ h0, fun j hj => ?_⟩
      have := hcell j (by omega)
      rwa [Addr.add_mid] at this
    · refine hwf _ ?_
      show zs.getD j 0 ∈ zs
      rw [List.getD_eq_getElem?_getD, List.getElem?_eq_getElem (by omega)]
      exact List.getElem_mem _
set_option maxRecDepth 100000 in
theorem open_img {H : Type} {enc : TypeId × Value → H} {W : World} {r : Reach} {b0 : Nat} {v : Value} {d : DataW H} {p : List MemPlace}
    (hv : Value.okWide Try.prog W r b0 25 v) (h : DataW.Trod enc Try.prog W 0 (fun _ => true) true 25 v d p) (hz : ∀ n ∈ d.weights Try.prog 25, n ≤ reachBytes) :
    ∃ (ca : Option Addr) (nc cc : Nat) (da : Option Addr) (nd cd : Nat) (M : Int) (code data : Nat → Int), v = .agg #[.slice ca nc cc, .slice da nd cd, .int .i64 M] ∧ (Lit.int .i64 M).wf = true ∧ Img W ca da nc nd code data := by
  have c25 : Try.prog.cellsOf 25 = 3 := by kernel_rfl
  have c22 : Try.prog.cellsOf 22 = 1 := by kernel_rfl
  have c23 : Try.prog.cellsOf 23 = 1 := by kernel_rfl
  have c3 : Try.prog.cellsOf 3 = 1 := by kernel_rfl
  have c60 : Try.prog.cellsOf 60 = 1 := by kernel_rfl
  have c21 : Try.prog.cellsOf 21 = 1 := by kernel_rfl
  have b60 : 1 ≤ Try.prog.bytesOf 60 := of_decide_eq_true (by kernel_rfl)
  have b21 : 1 ≤ Try.prog.bytesOf 21 := of_decide_eq_true (by kernel_rfl)
  obtain ⟨cs, rfl, hsz⟩ := okWide_struct Try.underlying25 hv
  obtain ⟨l⟩ := cs
  rw [c25] at hsz
  obtain ⟨k0, k1, k2, rfl⟩ : ∃ k0 k1 k2, l = [k0, k1, k2] := by
    match l, hsz with
    | [k0, k1, k2], _ => exact ⟨k0, k1, k2, rfl⟩
  obtain ⟨fuel, hf⟩ := h
  obtain ⟨xs, n, _, hx, hl, hlen, hp⟩ := DataW.trod_struct Try.underlying25 hf
  obtain ⟨y0, y1, y2, rfl⟩ : ∃ y0 y1 y2, xs = [y0, y1, y2] := by
    match xs, hlen with
    | [y0, y1, y2], _ => exact ⟨y0, y1, y2, rfl⟩
  have e0 := hp 0 _ rfl
  have e1 := hp 1 _ rfl
  have e2 := hp 2 _ rfl
  simp only [Value.cells] at e0 e1 e2
  simp [c22, c23, c3] at e0 e1 e2
  simp only [Prod.mk.injEq] at hx
  have hd : d = .agg [y0.1, y1.1, y2.1] := by simpa using hx.1
  subst hd
  have hw : ∀ n, n ∈ y0.1.weights Try.prog 22 ∨ n ∈ y1.1.weights Try.prog 23 → n ≤ reachBytes := fun n hn => hz n (by
    simp [DataW.weights, Try.underlying25, DataW.weightsEach]
    rcases hn with hn | hn
    · exact Or.inl hn
    · exact Or.inr (Or.inl hn))
  obtain ⟨ca, nc, cc, code, rfl, a1, a2, a3⟩ := sl_open Try.underlying22 Try.underlying60 c60 b60 e0 (fun n hn => hw n (Or.inl hn))
  obtain ⟨da, nd, cd, data, rfl, d1, d2, d3⟩ := sl_open Try.underlying23 Try.underlying21 c21 b21 e1 (fun n hn => hw n (Or.inr hn))
  obtain ⟨M, q2, z2, f2⟩ := DataW.trod_int Try.underlying3 e2
  simp at q2
  subst q2
  exact ⟨ca, nc, cc, da, nd, cd, M, code, data, rfl, f2, ⟨a1, d1, fun k hk => bounds_u32 (a2 k hk), fun k hk => bounds_i32 (d2 k hk), a3, d3⟩⟩
/-- The end of a row's step: new memory alone, the arguments read as they did. -/
theorem post_below2 {H : Type} {enc : TypeId × Value → H} {P : Program} {f : Func} {s : ChangeSpec} {apart fresh handsOn : Bool} {W W' : World} {args : Array Value} {v : Value} {ds gs : List (DataW H)} {before pa pv : List MemPlace}
    (hW : DataW.Whole enc P f.params.toList s.vars apart W args.toList ds gs before)
    (hres : ∀ (b : Nat) (sp : Nat → Bool) (hd : Bool), DataW.TrodAll enc P W' b sp hd f.resultTypes.toList (v.resultList f.resultTypes.size) (s.fn H (ds ++ gs)).results [])
    (hargs : DataW.TrodAll enc P W' 0 (fun b => decide (b < W.heap.size)) true f.params.toList args.toList (s.fn H (ds ++ gs)).args pa)
    (hvars : DataW.TrodVars enc P W' (fun b => decide (b < W.heap.size)) s.vars (s.fn H (ds ++ gs)).vars pv)
    (hps : before = pa ++ pv) (hb : Below W.heap.size W W') :
    s.post enc P f apart fresh handsOn false W args v W' := by
  refine ⟨ds, gs, before, [], pa, pv, hW, hres _ _ _, hargs, hvars, World.keptBut_mono (fun p hp => ⟨hp, ?_⟩) (hb.frame (· ∈ before)), fun h => by cases h⟩
  rw [hps, List.mem_append] at hp
  exact Or.inr hp
end Go.Proofs.Ytofhiooodgopeaa.K
