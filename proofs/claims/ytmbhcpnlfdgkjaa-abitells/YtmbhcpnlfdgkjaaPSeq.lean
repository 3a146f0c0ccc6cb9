/- What the program's iterator over a struct's fields hands on, and what the rounds keep. No walk. -/
import Derived.Test.YtmbhcpnlfdgkjaaPEven
import Derived.Test.YtmbhcpnlfdgkjaaSize
import Derived.RangeFuncNested
import Derived.RangeFuncBound
import Derived.RangeFuncCalls
import Derived.RangeFuncLeaves
import Derived.Shelf.Abstract
import Derived.Shelf.RegionOpen
import Derived.OwnWalkIn
import Derived.TacticsInMore
import Derived.LoopNIn
import Derived.LoopIn
namespace Go.Proofs.Ytmbhcpnlfdgkjaa.T
open Go.RowKit Go.Shelf
set_option linter.unusedVariables false
set_option linter.unusedSimpArgs false
/-- A block that holds a type. -/
def is25 (o : Obj) : Prop := ∃ cur, o = .cells cur 25 (0, 0)
/-- What a round keeps: all that lay, and every block that holds a type. -/
structure Kp (n : Nat) (A B : World) : Prop where
  below : Below n A B
  types : ∀ (k : Nat) (o : Obj), A.heap[k]? = some o → is25 o → B.heap[k]? = some o
theorem Kp.trans {n : Nat} {A B C : World} (h : Kp n A B) (k : Kp n B C) : Kp n A C := ⟨h.below.trans k.below, fun i o hi ho => k.types i o (h.types i o hi ho) ho⟩
theorem Kp.refl (n : Nat) (A : World) : Kp n A A := ⟨Below.refl _ _, fun _ _ h _ => h⟩
/-- Where nothing that lay has turned. -/
theorem Kp.of {n : Nat} {A B : World} (h : Below A.heap.size A B) (hn : n ≤ A.heap.size) : Kp n A B :=
  ⟨h.mono hn, fun i o hi _ => (h.block i (Array.getElem?_eq_some_iff.1 hi).1).trans hi⟩
theorem kp_put {n m : Nat} (hn : n ≤ m) (W : World) (l : Nat) (o o' : Obj) (hl : m ≤ l) (h : W.heap[l]? = some o) (hc : o.isCells = false) (hw : o.isWalk = false) : Kp n W (W.putObj l o') := by
  have hg := grownBy_putObj' W l o'
  refine ⟨(Below.refl n W).grown hg (by have := (Array.getElem?_eq_some_iff.1 h).1; omega) (fun k e => by cases e; omega), fun i q hi hq => ?_⟩
  by_cases e : i = l
  · subst e
    obtain ⟨cur, rfl⟩ := hq
    rw [h] at hi
    cases hi
    cases hc
  · exact (World.putObj_heap_other e).trans hi
theorem grown_of {A B : World} (h : Below A.heap.size A B) : A.grownBy B none := ⟨h.os, h.tape, h.output, h.size, fun k hk _ => h.block k hk⟩
theorem keeps_of {n : Nat} {A B : World} (h : Below A.heap.size A B) : KeepsFrom n A B := ⟨h.size, fun k o _ hk _ => (h.block k (Array.getElem?_eq_some_iff.1 hk).1).trans hk⟩
theorem Boxed.below {W W' : World} {B : Nat} {t : TypeId} {v : Value} (h : Boxed W B t v) (hb : Below W.heap.size W W') : Boxed W' B t v := h.kept (grown_of hb) (by simp)
/-- The values of a type's parts, as they lie. -/
def PartsAt (w : World) (pa : Option Addr) (pn : Nat) (parts : Nat → Ty) (pv : Nat → Value) : Prop := ∀ i, i < pn → ∃ b o kd nm xa xn xc ya yn yc my, pa = some ⟨b, o, none⟩ ∧ b < w.heap.size ∧ pv i = .agg #[.int .i64 kd, .string nm, .slice xa xn xc, .slice ya yn yc, .bool my]
  ∧ w.cell? ⟨b, o + i * 5, none⟩ = some (.int .i64 kd) ∧ w.cell? ⟨b, o + i * 5 + 1, none⟩ = some (.string nm) ∧ w.cell? ⟨b, o + i * 5 + 2, none⟩ = some (.slice xa xn xc) ∧ w.cell? ⟨b, o + i * 5 + 3, none⟩ = some (.slice ya yn yc) ∧ w.cell? ⟨b, o + i * 5 + 4, none⟩ = some (.bool my)
  ∧ TyV w (parts i) (pv i)
theorem parts_at {w : World} {pa : Option Addr} {pn : Nat} {parts : Nat → Ty} (h : 0 < pn → ∃ b o, pa = some ⟨b, o, none⟩ ∧ b < w.heap.size ∧ ∀ j, j < pn → ∃ k0 k1 k2 k3 k4, w.cell? ⟨b, o + j * 5, none⟩ = some k0 ∧ w.cell? ⟨b, o + j * 5 + 1, none⟩ = some k1 ∧ w.cell? ⟨b, o + j * 5 + 2, none⟩ = some k2 ∧ w.cell? ⟨b, o + j * 5 + 3, none⟩ = some k3 ∧ w.cell? ⟨b, o + j * 5 + 4, none⟩ = some k4
      ∧ TyV w (parts j) (.agg #[k0, k1, k2, k3, k4])) : ∃ pv, PartsAt w pa pn parts pv := by
  by_cases hp : 0 < pn
  · obtain ⟨b, o, rfl, hb, hc⟩ := h hp
    refine ⟨fun i => .agg #[(w.cell? ⟨b, o + i * 5, none⟩).getD undef, (w.cell? ⟨b, o + i * 5 + 1, none⟩).getD undef, (w.cell? ⟨b, o + i * 5 + 2, none⟩).getD undef, (w.cell? ⟨b, o + i * 5 + 3, none⟩).getD undef, (w.cell? ⟨b, o + i * 5 + 4, none⟩).getD undef], fun i hi => ?_⟩
    obtain ⟨c0, c1, c2, c3, c4, g0, g1, g2, g3, g4, g5⟩ := hc i hi
    obtain ⟨kd, nm, xa, xn, xc, ya, yn, yc, my, rfl, rfl, rfl, rfl, rfl⟩ := g5.shapeP
    refine ⟨b, o, kd, nm, xa, xn, xc, ya, yn, yc, my, rfl, hb, ?_, g0, g1, g2, g3, g4, ?_⟩
    · simp only [g0, g1, g2, g3, g4, Option.getD_some]
    · simp only [g0, g1, g2, g3, g4, Option.getD_some]; exact g5
  · exact ⟨fun _ => undef, fun i hi => by omega⟩
/-- The fields that have come when k rounds are over. -/
def upto (pn k : Nat) : List (Fin pn) := (List.finRange pn).take k
theorem upto_succ {pn k : Nat} (hk : k < pn) : upto pn (k + 1) = upto pn k ++ [⟨k, hk⟩] := by
  unfold upto
  rw [List.take_add_one]
  simp [hk]
theorem upto_len {pn k : Nat} (hk : k ≤ pn) : (upto pn k).length = k := by simp [upto]; omega
theorem upto_all (pn : Nat) : upto pn pn = List.finRange pn := by unfold upto; exact List.take_of_length_le (by simp)
end Go.Proofs.Ytmbhcpnlfdgkjaa.T
