/- The contracts of (*machine).give and (*machine).address. -/
import Derived.Test.YtofhiooodgopeaaRows
import Derived.WalkKit
import Derived.WalkSpells
import Derived.Below
import Derived.Deep.QuietTactic
import Derived.BigQuiet
import Derived.WalkLawsBesides
import Derived.Deep.RegionHeldLaw
import Derived.Outline
namespace Go.Proofs.Ytofhiooodgopeaa.V
open Go.RowKit
set_option linter.unusedVariables false

theorem below_drewN {B : Nat} {a w : World} (h : Below B a w) (n : Nat) : Below B a (w.drewN n) := by
  have e : (w.drewN n).heap = w.heap := by simp
  exact ⟨h.os, h.tape, h.output, by rw [e]; exact h.size, fun k hk => by rw [e]; exact h.block k hk⟩
theorem bcell {W w1 : World} (hb : Below W.heap.size W w1) : (∀ b o, b < W.heap.size → w1.cell? ⟨b, o, none⟩ = W.cell? ⟨b, o, none⟩) ∧ (∀ b o, b < W.heap.size → w1.frozen? ⟨b, o, none⟩ = W.frozen? ⟨b, o, none⟩) :=
  ⟨fun b o h => hb.cell (p := ⟨b, o, none⟩) h, fun b o h => hb.frozen (p := ⟨b, o, none⟩) h⟩
/-- An end that is thrown. -/
abbrev thrown (n : Int) : Ending := .panicked [{ v := .iface 67 (.int .i64 n), recovered := false }]

set_option maxRecDepth 100000 in
set_option maxHeartbeats 400000 in
theorem give_ok (b : Nat) (r : Nat) (x : Int) (y : Value) (w : World) (hr : r < 16) (hc : w.cell? ⟨b, r, none⟩ = some y) (hf : w.frozen? ⟨b, r, none⟩ = false) (h13 : ¬ r = 13) :
    Calls Try.prog 38 #[.pointer (some ⟨b, 0, none⟩), .int .i64 r, .int .i32 x] w fun e w' => e = .returned (.tuple #[]) ∧ w' = w.setCell ⟨b, r, none⟩ (.int .i32 x) := by
  have hr' : (0 : Int) ≤ r ∧ (r : Int) < 16 := by omega
  have h13' : ((r : Int) != 13) = true := by simp; omega
  go_enter Try.func38, Try.ntmps38
  go_wp2
  refine bodyPost_ret (results_none rfl _ _ _) rfl ?_
  exact ⟨rfl, rfl⟩

set_option maxRecDepth 100000 in
set_option maxHeartbeats 400000 in
theorem give_13 (b : Nat) (x low : Int) (mb M cap : Nat) (y : Value) (w : World) (hc : w.cell? ⟨b, 13, none⟩ = some y) (hf : w.frozen? ⟨b, 13, none⟩ = false)
    (hl : w.cell? ⟨b, 23, none⟩ = some (.int .i64 low)) (hm : w.cell? ⟨b, 21, none⟩ = some (.slice (some ⟨mb, 0, none⟩) M cap)) (x0 : -2147483648 ≤ x) (x1 : x ≤ 2147483647) (h1 : ¬ x < low) (h2 : ¬ (M : Int) < x) :
    Calls Try.prog 38 #[.pointer (some ⟨b, 0, none⟩), .int .i64 13, .int .i32 x] w fun e w' => e = .returned (.tuple #[]) ∧ w' = w.setCell ⟨b, 13, none⟩ (.int .i32 x) := by
  go_enter Try.func38, Try.ntmps38
  go_wp2
  go_end0
  exact ⟨rfl, rfl⟩

set_option maxRecDepth 100000 in
set_option maxHeartbeats 400000 in
theorem give_low (b : Nat) (x low : Int) (y : Value) (w : World) (hc : w.cell? ⟨b, 13, none⟩ = some y) (hf : w.frozen? ⟨b, 13, none⟩ = false)
    (hl : w.cell? ⟨b, 23, none⟩ = some (.int .i64 low)) (x0 : -2147483648 ≤ x) (x1 : x ≤ 2147483647) (h1 : x < low) :
    Calls Try.prog 38 #[.pointer (some ⟨b, 0, none⟩), .int .i64 13, .int .i32 x] w fun e w' => e = thrown 3 ∧ w' = w.setCell ⟨b, 13, none⟩ (.int .i32 x) := by
  go_enter Try.func38, Try.ntmps38
  go_wp2
  exact ⟨rfl, rfl, rfl⟩

set_option maxRecDepth 100000 in
set_option maxHeartbeats 400000 in
theorem give_high (b : Nat) (x low : Int) (mb M cap : Nat) (y : Value) (w : World) (hc : w.cell? ⟨b, 13, none⟩ = some y) (hf : w.frozen? ⟨b, 13, none⟩ = false)
    (hl : w.cell? ⟨b, 23, none⟩ = some (.int .i64 low)) (hm : w.cell? ⟨b, 21, none⟩ = some (.slice (some ⟨mb, 0, none⟩) M cap)) (x0 : -2147483648 ≤ x) (x1 : x ≤ 2147483647) (h1 : ¬ x < low) (h2 : (M : Int) < x) :
    Calls Try.prog 38 #[.pointer (some ⟨b, 0, none⟩), .int .i64 13, .int .i32 x] w fun e w' => e = thrown 4 ∧ w' = w.setCell ⟨b, 13, none⟩ (.int .i32 x) := by
  go_enter Try.func38, Try.ntmps38
  go_wp2
  exact ⟨rfl, rfl, rfl⟩

set_option maxRecDepth 100000 in
set_option maxHeartbeats 400000 in
theorem address_ok (b : Nat) (op : Int) (a r k : Nat) (m x : Int) (mb M cap : Nat) (w : World) (hb : b < w.heap.size) (hr : r < 16) (hc : w.cell? ⟨b, r, none⟩ = some (.int .i32 x))
    (hm : w.cell? ⟨b, 21, none⟩ = some (.slice (some ⟨mb, 0, none⟩) M cap)) (x0 : -2147483648 ≤ x) (x1 : x ≤ 2147483647) (m0 : -32768 ≤ m) (m1 : m ≤ 65535) (h1 : ¬ x + m < 0) (h2 : ¬ (M : Int) ≤ x + m) :
    Calls Try.prog 45 #[.pointer (some ⟨b, 0, none⟩), .agg #[.int .i64 op, .int .i64 a, .int .i64 r, .int .i64 k, .int .i64 m]] w fun e w' => e = .returned (.int .i64 (x + m)) ∧ Below w.heap.size w w' := by
  have hr' : (0 : Int) ≤ r ∧ (r : Int) < 16 := by omega
  go_enter Try.func45, Try.ntmps45
  go_wp2
  go_quiet (fail)
  go_wp2
  go_ret
  exact ⟨rfl, below_drewN ((Below.refl _ _).alloc (Nat.le_refl _) _) _⟩

set_option maxRecDepth 100000 in
set_option maxHeartbeats 400000 in
theorem address_bad (b : Nat) (op : Int) (a r k : Nat) (m x : Int) (mb M cap : Nat) (w : World) (hb : b < w.heap.size) (hr : r < 16) (hc : w.cell? ⟨b, r, none⟩ = some (.int .i32 x))
    (hm : w.cell? ⟨b, 21, none⟩ = some (.slice (some ⟨mb, 0, none⟩) M cap)) (x0 : -2147483648 ≤ x) (x1 : x ≤ 2147483647) (m0 : -32768 ≤ m) (m1 : m ≤ 65535) (h : x + m < 0 ∨ (¬ x + m < 0 ∧ (M : Int) ≤ x + m)) :
    Calls Try.prog 45 #[.pointer (some ⟨b, 0, none⟩), .agg #[.int .i64 op, .int .i64 a, .int .i64 r, .int .i64 k, .int .i64 m]] w fun e w' => e = thrown 4 ∧ Below w.heap.size w w' := by
  have hr' : (0 : Int) ≤ r ∧ (r : Int) < 16 := by omega
  rcases h with h | ⟨h, h2⟩
  all_goals
    go_enter Try.func45, Try.ntmps45
    go_wp2
    go_quiet (fail)
    go_wp2
    exact ⟨rfl, rfl, below_drewN ((Below.refl _ _).alloc (Nat.le_refl _) _) _⟩

set_option maxRecDepth 100000 in
set_option maxHeartbeats 400000 in
theorem store_bad (b : Nat) (op : Int) (a r k : Nat) (m x : Int) (mb M cap : Nat) (w : World) (hb : b < w.heap.size) (hr : r < 16) (hc : w.cell? ⟨b, r, none⟩ = some (.int .i32 x))
    (hm : w.cell? ⟨b, 21, none⟩ = some (.slice (some ⟨mb, 0, none⟩) M cap)) (x0 : -2147483648 ≤ x) (x1 : x ≤ 2147483647) (m0 : -32768 ≤ m) (m1 : m ≤ 65535) (h : x + m < 0 ∨ (¬ x + m < 0 ∧ (M : Int) ≤ x + m)) :
    Calls Try.prog 39 #[.pointer (some ⟨b, 0, none⟩), .agg #[.int .i64 op, .int .i64 a, .int .i64 r, .int .i64 k, .int .i64 m]] w fun e w' => e = thrown 4 ∧ Below w.heap.size w w' := by
  have ha := fun w' h1 h2 h3 => address_bad b op a r k m x mb M cap w' h1 hr h2 h3 x0 x1 m0 m1 h
  clear h
  go_enter Try.func39, Try.ntmps39
  go_wp2_with fail
  go_at_call 45
  refine (ha _ ?_ ?_ ?_).mono ?_
  · simp; omega
  · exact (World.cell?_alloc_past _ _ _ hb).trans hc
  · exact (World.cell?_alloc_past _ _ _ hb).trans hm
  rintro e w1 ⟨rfl, hb1⟩
  exact ⟨rfl, rfl, ((Below.refl _ _).alloc (Nat.le_refl _) _).trans (hb1.mono (by simp))⟩

set_option maxRecDepth 100000 in
set_option maxHeartbeats 400000 in
theorem store_ok (b : Nat) (op : Int) (a r k : Nat) (m x y : Int) (mb kb M n cap cap2 : Nat) (z : Value) (t : Nat) (w : World) (hb : b < w.heap.size) (hmb : mb < w.heap.size) (ha : a < 16) (hr : r < 16) (hc : w.cell? ⟨b, r, none⟩ = some (.int .i32 x)) (hy : w.cell? ⟨b, a, none⟩ = some (.int .i32 y))
    (hm : w.cell? ⟨b, 21, none⟩ = some (.slice (some ⟨mb, 0, none⟩) M cap)) (hk : w.cell? ⟨b, 22, none⟩ = some (.slice (some ⟨kb, 0, none⟩) n cap2)) (x0 : -2147483648 ≤ x) (x1 : x ≤ 2147483647) (m0 : -32768 ≤ m) (m1 : m ≤ 65535) (ht : x + m = t) (h1 : t < M) (h2 : ¬ (t : Int) < n)
    (hz : w.cell? ⟨mb, t, none⟩ = some z) (hf : w.frozen? ⟨mb, t, none⟩ = false) :
    Calls Try.prog 39 #[.pointer (some ⟨b, 0, none⟩), .agg #[.int .i64 op, .int .i64 a, .int .i64 r, .int .i64 k, .int .i64 m]] w fun e w' => e = .returned (.tuple #[]) ∧ ∃ w1, Below w.heap.size w w1 ∧ w' = w1.setCell ⟨mb, t, none⟩ (.int .i32 y) := by
  have ha' : (0 : Int) ≤ a ∧ (a : Int) < 16 := by omega
  have ht' : (0 : Int) ≤ t ∧ (t : Int) < M := by omega
  have had := fun w' h1 h2 h3 => address_ok b op a r k m x mb M cap w' h1 hr h2 h3 x0 x1 m0 m1 (by omega) (by omega)
  rw [ht] at had
  have HT : Hid (x + m = t) := ht
  clear ht
  go_enter Try.func39, Try.ntmps39
  go_wp2_with fail
  go_at_call 45
  refine (had _ ?_ ?_ ?_).mono ?_
  · simp; omega
  · exact (World.cell?_alloc_past _ _ _ hb).trans hc
  · exact (World.cell?_alloc_past _ _ _ hb).trans hm
  rintro e w1 ⟨rfl, hb1⟩
  obtain ⟨hce, hfr⟩ := bcell hb1
  have hz1 : w.heap.size < w1.heap.size := by have := hb1.size; simp at this; omega
  have hb2 : b < w.heap.size + 1 := by omega
  have hb3 : mb < w.heap.size + 1 := by omega
  have hB : Below w.heap.size w w1 := ((Below.refl _ _).alloc (Nat.le_refl _) _).trans (hb1.mono (by simp))
  go_wp2_with fail
  go_region
  all_goals
    go_end0
    exact ⟨rfl, _, hB.drew, rfl⟩

set_option maxRecDepth 100000 in
set_option maxHeartbeats 400000 in
theorem store_code (b : Nat) (op : Int) (a r k : Nat) (m x : Int) (mb kb M n cap cap2 : Nat) (t : Nat) (w : World) (hb : b < w.heap.size) (hr : r < 16) (hc : w.cell? ⟨b, r, none⟩ = some (.int .i32 x))
    (hm : w.cell? ⟨b, 21, none⟩ = some (.slice (some ⟨mb, 0, none⟩) M cap)) (hk : w.cell? ⟨b, 22, none⟩ = some (.slice (some ⟨kb, 0, none⟩) n cap2)) (x0 : -2147483648 ≤ x) (x1 : x ≤ 2147483647) (m0 : -32768 ≤ m) (m1 : m ≤ 65535) (ht : x + m = t) (h1 : t < M) (h2 : (t : Int) < n) :
    Calls Try.prog 39 #[.pointer (some ⟨b, 0, none⟩), .agg #[.int .i64 op, .int .i64 a, .int .i64 r, .int .i64 k, .int .i64 m]] w fun e w' => e = thrown 4 ∧ Below w.heap.size w w' := by
  have had := fun w' h1 h2 h3 => address_ok b op a r k m x mb M cap w' h1 hr h2 h3 x0 x1 m0 m1 (by omega) (by omega)
  rw [ht] at had
  have HT : Hid (x + m = t) := ht
  clear ht
  go_enter Try.func39, Try.ntmps39
  go_wp2_with fail
  go_at_call 45
  refine (had _ ?_ ?_ ?_).mono ?_
  · simp; omega
  · exact (World.cell?_alloc_past _ _ _ hb).trans hc
  · exact (World.cell?_alloc_past _ _ _ hb).trans hm
  rintro e w1 ⟨rfl, hb1⟩
  obtain ⟨hce, hfr⟩ := bcell hb1
  have hz1 : w.heap.size < w1.heap.size := by have := hb1.size; simp at this; omega
  have hb2 : b < w.heap.size + 1 := by omega
  have hB : Below w.heap.size w w1 := ((Below.refl _ _).alloc (Nat.le_refl _) _).trans (hb1.mono (by simp))
  go_wp2_with fail
  exact ⟨rfl, rfl, hB⟩
end Go.Proofs.Ytofhiooodgopeaa.V
