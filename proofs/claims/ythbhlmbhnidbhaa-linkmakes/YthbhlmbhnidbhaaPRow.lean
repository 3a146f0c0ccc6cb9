/- Contracts of code.between, its closure, code.row and code.field. -/
import Derived.Test.YthbhlmbhnidbhaaRows2
import Derived.Test.YthbhlmbhnidbhaaMath
import Derived.Test.YthbhlmbhnidbhaaPShelf
import Derived.WalkKit
import Derived.WalkSpells
namespace Go.Proofs.Ythbhlmbhnidbhaa.W
open Go.RowKit Go.Proofs.Ythbhlmbhnidbhaa.M
set_option linter.unusedVariables false


/-- A closure of code.between: its two captured variables. -/
abbrev cl (p q : Nat) : Value := .func (.func 61) #[] #[.pointer (some ⟨p, 0, none⟩), .pointer (some ⟨q, 0, none⟩)]
/-- The two variables lie in the world and hold these numbers. -/
def ClAt (w : World) (p q : Nat) (l h : Int) : Prop :=
  p < w.heap.size ∧ q < w.heap.size ∧ w.cell? ⟨p, 0, none⟩ = some (.int .i64 l) ∧ w.cell? ⟨q, 0, none⟩ = some (.int .i64 h)
theorem ClAt.mono {w w' : World} {p q : Nat} {l h : Int} (c : ClAt w p q l h) (b : Below w.heap.size w w') : ClAt w' p q l h :=
  ⟨Nat.lt_of_lt_of_le c.1 b.size, Nat.lt_of_lt_of_le c.2.1 b.size, (b.cell (p := ⟨p, 0, none⟩) c.1).trans c.2.2.1, (b.cell (p := ⟨q, 0, none⟩) c.2.1).trans c.2.2.2⟩
/-- The world with the two variables of one closure more. -/
abbrev btw (w : World) (l h : Int) : World := (w.alloc (.cells #[.int .i64 l] 3)).alloc (.cells #[.int .i64 h] 3)
theorem btw_at (w : World) (l h : Int) : ClAt (btw w l h) w.heap.size (w.heap.size + 1) l h := by
  refine ⟨by simp [btw]; omega, by simp [btw], ?_, ?_⟩
  · exact (World.cell?_alloc_past _ _ _ (by simp)).trans (World.cell?_alloc_at _ _ _ _ rfl)
  · exact World.cell?_alloc_at _ _ _ _ (by simp)
theorem btw_below (w : World) (l h : Int) : Below w.heap.size w (btw w l h) :=
  ((Below.refl _ _).alloc (Nat.le_refl _) _).alloc (by simp) _

set_option maxHeartbeats 400000 in
theorem between_any (l h : Int) (w : World) :
    Calls Try.prog 55 #[.int .i64 l, .int .i64 h] w fun e w' => e = .returned (cl w.heap.size (w.heap.size + 1)) ∧ w' = btw w l h := by
  have hmf : ∀ (fn : Fn) (first cap : Array Value) (w : World), (Instr.makeFunc fn first cap).run Try.prog w = .ok (.func fn first cap) w := fun _ _ _ _ => rfl
  go_enter Try.func55, Try.ntmps55
  go_wp2
  go_ret
  exact ⟨by simp, rfl⟩

set_option maxHeartbeats 400000 in
theorem test_any (n l h : Int) (p q : Nat) (w : World) (c : ClAt w p q l h) :
    Calls Try.prog 61 #[.int .i64 n, .pointer (some ⟨p, 0, none⟩), .pointer (some ⟨q, 0, none⟩)] w fun e w' => e = .returned (.bool (decide (l ≤ n ∧ n ≤ h))) ∧ w' = w := by
  obtain ⟨h1, h2, h3, h4⟩ := c
  by_cases a : l ≤ n <;> by_cases b : n ≤ h
  all_goals
    go_enter Try.func61, Try.ntmps61
    go_wp2
    go_ret
    exact ⟨ret_bool (by simp [a, b]), rfl⟩

set_option maxHeartbeats 400000 in
theorem field_any (b : Nat) (r : Int) (w : World) (x : Value) (hb : w.cell? ⟨b, 0, none⟩ = some x) :
    Calls Try.prog 57 #[.pointer (some ⟨b, 0, none⟩), .int .i32 r] w fun e w' => e = .returned (.pointer (some ⟨b, (if r = 65 then 1 else if r = 66 then 2 else if r = 67 then 3 else 4), none⟩)) ∧ w' = w := by
  go_enter Try.func57, Try.ntmps57
  go_wp2
  all_goals
    go_ret
    refine ⟨?_, rfl⟩
    simp_all

/-- The world behind code.row, and its three closures. -/
abbrev rww (w : World) : World := btw (btw (btw w 0 0) (-32768) 32767) 0 65535
theorem rww_below (w : World) : Below w.heap.size w (rww w) :=
  ((btw_below w 0 0).trans ((btw_below _ _ _).mono (by simp [btw]; omega))).trans ((btw_below _ _ _).mono (by simp [btw]; omega))
theorem rww_1 (w : World) : ClAt (rww w) w.heap.size (w.heap.size + 1) 0 0 := ((btw_at w 0 0).mono (btw_below _ _ _)).mono (btw_below _ _ _)
theorem rww_2 (w : World) : ClAt (rww w) (w.heap.size + 1 + 1) (w.heap.size + 1 + 1 + 1) (-32768) 32767 := by
  have h := (btw_at (btw w 0 0) (-32768) 32767).mono (btw_below _ 0 65535)
  simpa [btw] using h
theorem rww_3 (w : World) : ClAt (rww w) (w.heap.size + 1 + 1 + 1 + 1) (w.heap.size + 1 + 1 + 1 + 1 + 1) 0 65535 := by
  have h := btw_at (btw (btw w 0 0) (-32768) 32767) 0 65535
  simpa [btw] using h
theorem row_end {op : Int} {k : Nat} {w : World} {p q : Nat} {s : ByteArray} (hk : kind op = k) (hs : fl k = s) (hc : ClAt (rww w) p q (lo k) (hi k)) :
    ∃ p' q', Ending.returned (.tuple #[.string s, cl p q]) = .returned (.tuple #[.string (fl (kind op)), cl p' q']) ∧ ClAt (rww w) p' q' (lo (kind op)) (hi (kind op)) ∧ Below w.heap.size w (rww w) := by
  subst hk hs
  exact ⟨p, q, rfl, hc, rww_below w⟩

set_option maxRecDepth 100000 in
set_option maxHeartbeats 2000000 in
theorem row_any (op : Int) (w : World) :
    Calls Try.prog 54 #[.int .i64 op] w fun e w' => ∃ p q, e = .returned (.tuple #[.string (fl (kind op)), cl p q]) ∧ ClAt w' p q (lo (kind op)) (hi (kind op)) ∧ Below w.heap.size w w' := by
  go_enter Try.func54, Try.ntmps54
  go_wp2_with (go_at_call 55; refine (between_any _ _ _).mono ?_; rintro e w' ⟨rfl, rfl⟩)
  all_goals
    go_ret2
    first
      | exact row_end (k := 1) (by simp_all [kind]) rfl (rww_1 w)
      | exact row_end (k := 2) (by simp_all [kind]) rfl (rww_2 w)
      | exact row_end (k := 3) (by simp_all [kind]) rfl (rww_3 w)
      | exact row_end (k := 4) (by simp_all [kind]) rfl (rww_2 w)
      | exact row_end (k := 5) (by simp_all [kind]) rfl (rww_3 w)
      | exact row_end (k := 6) (by simp_all [kind]) rfl (rww_1 w)
      | exact row_end (k := 7) (by simp_all [kind]) rfl (rww_1 w)
      | exact row_end (k := 0) (by simp_all [kind]; try omega) rfl (rww_1 w)
end Go.Proofs.Ythbhlmbhnidbhaa.W
