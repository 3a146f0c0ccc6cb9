/- The text of an instruction (no program), what the world's package variables hold, and what keeps a builder. -/
import Derived.Test.YtplenmhkhaoapaaDoorBld
import Derived.Test.YtplenmhkhaoapaaDoorTab
import Derived.Lib.ItoaLen
import Derived.Lib.AppendIntMem
namespace Go.Proofs.YtplenmhkhaoapaaDoor.M
/-- The number of the field of that letter. -/
def fv (a b c m r : Int) : Int := if r = 65 then a else if r = 66 then b else if r = 67 then c else m
/-- A field's part of the text. -/
def piece (r x : Int) : List UInt8 := 32 :: ((if r = 73 then [] else [114]) ++ Lib.itoa x)
def pieces (a b c m : Int) (l : List UInt8) : List UInt8 := l.flatMap fun r => piece (r.toNat : Int) (fv a b c m (r.toNat : Int))
def textL (op a b c m : Int) : List UInt8 := (nameOf op).data.toList ++ pieces a b c m (fl (kind op)).data.toList
theorem pieces_snoc (a b c m : Int) (l : List UInt8) (r : UInt8) : pieces a b c m (l ++ [r]) = pieces a b c m l ++ piece (r.toNat : Int) (fv a b c m (r.toNat : Int)) := by simp [pieces]
theorem take_snoc (s : ByteArray) (k : Nat) (h : k < s.size) : s.data.toList.take (k + 1) = s.data.toList.take k ++ [s[k]] := by
  rw [List.take_succ_eq_append_getElem (by simpa using h)]; rfl
theorem name_len (op : Int) : (nameOf op).size ≤ 5 := by unfold nameOf; split <;> decide
theorem piece_len (r x : Int) (h0 : -32768 ≤ x) (h1 : x ≤ 65535) : (piece r x).length ≤ 23 := by
  have := Lib.itoa_length_le x (by omega) (by omega)
  unfold piece
  split <;> simp <;> omega
theorem fv_bd (a b c m r : Int) (ha : -32768 ≤ a ∧ a ≤ 65535) (hb : -32768 ≤ b ∧ b ≤ 65535) (hc : -32768 ≤ c ∧ c ≤ 65535) (hm : -32768 ≤ m ∧ m ≤ 65535) : -32768 ≤ fv a b c m r ∧ fv a b c m r ≤ 65535 := by
  unfold fv; repeat' split
  all_goals assumption
theorem pieces_len (a b c m : Int) (ha : -32768 ≤ a ∧ a ≤ 65535) (hb : -32768 ≤ b ∧ b ≤ 65535) (hc : -32768 ≤ c ∧ c ≤ 65535) (hm : -32768 ≤ m ∧ m ≤ 65535) (l : List UInt8) : (pieces a b c m l).length ≤ 23 * l.length := by
  induction l with
  | nil => simp [pieces]
  | cons r l ih =>
    have h := fv_bd a b c m (r.toNat : Int) ha hb hc hm
    have := piece_len (r.toNat : Int) _ h.1 h.2
    simp only [pieces, List.flatMap_cons, List.length_append, List.length_cons] at *
    omega
end Go.Proofs.YtplenmhkhaoapaaDoor.M
namespace Go.Proofs.YtplenmhkhaoapaaDoor.W
open Go.RowKit Go.Proofs.YtplenmhkhaoapaaDoor.M
set_option linter.unusedVariables false

/-- What the package's and the library's variables hold. -/
structure Glob (w : World) : Prop where
  names : ∀ i : Nat, i < 26 → w.cell? ⟨0, i, none⟩ = some (.string (nameOf (i : Int)))
  tab : Lib.TabIs Tryd.prog w "internal/strconv.uint64pow10" .u64 Lib.pow10Tab
  size : 7 ≤ w.heap.size
/-- .. and the library's two errors of numbers. -/
structure GlobE (w : World) : Prop extends Glob w where
  es : ∃ te pe, w.cell? ⟨2, 0, none⟩ = some (.iface te pe)
  er : ∃ te pe, w.cell? ⟨3, 0, none⟩ = some (.iface te pe)
theorem tab_global : Tryd.prog.globalNamed "internal/strconv.uint64pow10" = some 4 := by kernel_rfl
theorem Glob.below {B : Nat} {w w' : World} (g : Glob w) (hb : Below B w w') (hB : 7 ≤ B) : Glob w' := by
  refine ⟨fun i hi => (hb.cell (p := ⟨0, i, none⟩) (by simp; omega)).trans (g.names i hi), ?_, Nat.le_trans g.size hb.size⟩
  have h := g.tab
  unfold Lib.TabIs World.var? at *
  rw [tab_global] at *
  simp only [Option.bind_some] at *
  rw [hb.block 4 (by omega)]
  exact h
theorem GlobE.below {B : Nat} {w w' : World} (g : GlobE w) (hb : Below B w w') (hB : 7 ≤ B) : GlobE w' := by
  refine ⟨g.toGlob.below hb hB, ?_, ?_⟩
  · obtain ⟨te, pe, h⟩ := g.es
    exact ⟨te, pe, (hb.cell (p := ⟨2, 0, none⟩) (by simp; omega)).trans h⟩
  · obtain ⟨te, pe, h⟩ := g.er
    exact ⟨te, pe, (hb.cell (p := ⟨3, 0, none⟩) (by simp; omega)).trans h⟩
/-- A builder stays one where all that was there stands. -/
theorem at_below {p : Value} {B b : Nat} {bs : List Value} {w w' : World} (h : Lib.BuilderAtF 45 5 B b p bs w) (hb : Below w.heap.size w w') : Lib.BuilderAtF 45 5 B b p bs w' := by
  have hlt := h.lt
  obtain ⟨hB, v, hk, hown, hne⟩ := h
  exact ⟨hB, v, (hb.block b hlt).trans hk, hown.kept (row := none) ⟨hb.os, hb.tape, hb.output, hb.size, fun k hk _ => hb.block k hk⟩ (by cases hv : v.ownBlock <;> simp), hne⟩
theorem bld_below {B b : Nat} {l : List UInt8} {w w' : World} (h : Bld B b l w) (hb : Below w.heap.size w w') : Bld B b l w' :=
  h.elim (fun x => .inl (at_below x hb)) (fun x => .inr (at_below x hb))
end Go.Proofs.YtplenmhkhaoapaaDoor.W
