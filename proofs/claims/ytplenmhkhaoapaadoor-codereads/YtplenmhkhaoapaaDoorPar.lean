/- The parts of code.Read: a number's text, the state of its loop. -/
import Derived.Test.YtplenmhkhaoapaaDoorCut
namespace Go.Proofs.YtplenmhkhaoapaaDoor.M
/-- The word of a field's number, and the numbers of all fields, one by one; none: a word is no number. -/
def wordOf (r : UInt8) (rest : List UInt8) : List UInt8 := if (r.toNat : Int) = 73 then cutW rest else Lib.trimPrefix (cutW rest) [114]
def parse : List UInt8 → List UInt8 → Int → Int → Int → Int → Option (Int × Int × Int × Int)
  | [], _, a, b, c, m => some (a, b, c, m)
  | r :: l, rest, a, b, c, m => match Lib.atoiAll (wordOf r rest) with
    | .ok v => parse l (cutR rest) (if (r.toNat : Int) = 65 then v else a) (if (r.toNat : Int) = 66 then v else b) (if (r.toNat : Int) = 67 then v else c) (if (r.toNat : Int) = 65 ∨ (r.toNat : Int) = 66 ∨ (r.toNat : Int) = 67 then m else v)
    | .syntax => none
    | .range => none
theorem parse_ok {r : UInt8} {l rest : List UInt8} {a b c m v : Int} (h : Lib.atoiAll (wordOf r rest) = .ok v) :
    parse (r :: l) rest a b c m = parse l (cutR rest) (if (r.toNat : Int) = 65 then v else a) (if (r.toNat : Int) = 66 then v else b) (if (r.toNat : Int) = 67 then v else c) (if (r.toNat : Int) = 65 ∨ (r.toNat : Int) = 66 ∨ (r.toNat : Int) = 67 then m else v) := by
  rw [parse, h]
theorem parse_bad {r : UInt8} {l rest : List UInt8} {a b c m : Int} (h : ∀ v, Lib.atoiAll (wordOf r rest) ≠ .ok v) : parse (r :: l) rest a b c m = none := by
  rw [parse]
  split
  · rename_i v hv; exact absurd hv (h v)
  · rfl
  · rfl
theorem trim_len (l p : List UInt8) : (Lib.trimPrefix l p).length ≤ l.length := by
  unfold Lib.trimPrefix; split <;> simp
theorem word_len (r : UInt8) (rest : List UInt8) : (wordOf r rest).length ≤ rest.length := by
  unfold wordOf
  split
  · exact (cut_len rest).1
  · exact Nat.le_trans (trim_len _ _) (cut_len rest).1
end Go.Proofs.YtplenmhkhaoapaaDoor.M
namespace Go.Proofs.YtplenmhkhaoapaaDoor.W
open Go.RowKit Go.Proofs.YtplenmhkhaoapaaDoor.M
set_option linter.unusedVariables false

theorem below_bytes (w : World) (t : ByteArray) : Below w.heap.size w (Lib.bytesWorld w 5 t) :=
  ⟨rfl, rfl, rfl, by rw [Lib.bytesWorld_size]; omega, fun k hk => Lib.bytesWorld_at_old w 5 t k hk⟩
theorem atoi_ok (l : List UInt8) (v : Int) (w : World) (hl : l.length ≤ 140737488355328) (h : Lib.atoiAll l = .ok v) :
    Calls Tryd.prog 26 #[.string ⟨l.toArray⟩] w fun e w' => e = .returned (.tuple #[.int .i64 v, .nilIface]) ∧ Below w.heap.size w w' := by
  refine (Tryd.strconv_Atoi_ok ⟨l.toArray⟩ (by rw [size_of_list]; omega) v (by simpa using h) w).mono ?_
  rintro e w' ⟨rfl, hw⟩
  refine ⟨rfl, ?_⟩
  rcases hw with rfl | ⟨t, rfl⟩
  · exact Below.refl _ _
  · exact below_bytes w t
theorem atoi_bad (l : List UInt8) (w : World) (G : GlobE w) (hl : l.length ≤ 140737488355328) (h : ∀ v, Lib.atoiAll l ≠ .ok v) :
    Calls Tryd.prog 26 #[.string ⟨l.toArray⟩] w fun e w' => ∃ v N, e = .returned (.tuple #[.int .i64 v, .iface 85 (.pointer (some ⟨N, 0, none⟩))]) ∧ Below w.heap.size w w' := by
  have hs : (⟨l.toArray⟩ : ByteArray).size ≤ 281474976710656 := by rw [size_of_list]; omega
  cases hh : Lib.atoiAll l with
  | ok v => exact absurd hh (h v)
  | «syntax» =>
    obtain ⟨te, pe, hc⟩ := G.es
    refine (Tryd.strconv_Atoi_syntax ⟨l.toArray⟩ hs (by simpa using hh) _ w hc (Or.inr ⟨te, pe, rfl⟩)).mono ?_
    rintro e w' ⟨N, rfl, _, _, hb⟩
    exact ⟨_, N, rfl, hb⟩
  | range =>
    obtain ⟨te, pe, hc⟩ := G.er
    refine (Tryd.strconv_Atoi_range ⟨l.toArray⟩ hs (by simpa using hh) _ w hc (Or.inr ⟨te, pe, rfl⟩)).mono ?_
    rintro e w' ⟨N, rfl, _, _, hb⟩
    exact ⟨_, N, rfl, hb⟩

/-- The five cells of an instruction. -/
abbrev ic (k a b c m : Int) : Array Value := #[.int .i64 k, .int .i64 a, .int .i64 b, .int .i64 c, .int .i64 m]
/-- The state of Read's loop: its result's cells, its instruction, its place in the fields' letters. -/
structure St (w : World) (bi it k : Nat) (a b c m : Int) (kd ix : Nat) (wr : World) : Prop where
  res : wr.heap[w.heap.size]? = some (.cells (ic 0 0 0 0 0) 23 (0, 0))
  ins : wr.heap[bi]? = some (.cells (ic k a b c m) 23 (0, 0))
  itr : wr.heap[it]? = some (.stringIter (fl kd) ix)
  bel : Below w.heap.size w wr
theorem lt_of_heap {w : World} {k : Nat} {o : Obj} (h : w.heap[k]? = some o) : k < w.heap.size := (Array.getElem?_eq_some_iff.1 h).1
theorem St.below {w : World} {bi it k : Nat} {a b c m : Int} {kd ix : Nat} {wr wr' : World} (s : St w bi it k a b c m kd ix wr) (hb : Below wr.heap.size wr wr') : St w bi it k a b c m kd ix wr' :=
  ⟨(hb.block _ (lt_of_heap s.res)).trans s.res, (hb.block _ (lt_of_heap s.ins)).trans s.ins, (hb.block _ (lt_of_heap s.itr)).trans s.itr, s.bel.trans (hb.mono s.bel.size)⟩
theorem St.next {w : World} {bi it k : Nat} {a b c m : Int} {kd ix : Nat} {wr : World} (s : St w bi it k a b c m kd ix wr) (h1 : w.heap.size < bi) (h2 : bi < it) : St w bi it k a b c m kd (ix + 1) (wr.iterAt it (fl kd) (ix + 1)) :=
  ⟨(Lib.iterAt_other wr it _ _ _ (by omega)).trans s.res, (Lib.iterAt_other wr it _ _ _ (by omega)).trans s.ins, Lib.iterAt_heap wr it (fl kd) ix (ix + 1) s.itr, Lib.below_iterAt s.bel (by omega) _ _⟩
theorem ic_set (k a b c m v : Int) (r : Int) (f : Nat) (hf : (if r = 65 then 1 else if r = 66 then 2 else if r = 67 then 3 else 4) = f) :
    (ic k a b c m).setIfInBounds f (.int .i64 v) = ic k (if r = 65 then v else a) (if r = 66 then v else b) (if r = 67 then v else c) (if r = 65 ∨ r = 66 ∨ r = 67 then m else v) := by
  subst hf
  by_cases h1 : r = 65
  · subst h1; rfl
  · by_cases h2 : r = 66
    · subst h2; rfl
    · by_cases h3 : r = 67
      · subst h3; rfl
      · simp [h1, h2, h3]
theorem St.store {w : World} {bi it k : Nat} {a b c m v : Int} {kd ix : Nat} {wr : World} (s : St w bi it k a b c m kd ix wr) (h1 : w.heap.size < bi) (h2 : bi < it) (r : Int) (f : Nat) (hf : (if r = 65 then 1 else if r = 66 then 2 else if r = 67 then 3 else 4) = f) :
    St w bi it k (if r = 65 then v else a) (if r = 66 then v else b) (if r = 67 then v else c) (if r = 65 ∨ r = 66 ∨ r = 67 then m else v) kd ix (wr.setCell ⟨bi, f, none⟩ (.int .i64 v)) := by
  refine ⟨(Below.heap_setCell _ _ _ _ (by simp; omega)).trans s.res, ?_, (Below.heap_setCell _ _ _ _ (by simp; omega)).trans s.itr, s.bel.setCell (by simp; omega) _⟩
  rw [← ic_set k a b c m v r f hf]
  simp [World.setCell, Array.getElem?_modify, s.ins]
end Go.Proofs.YtplenmhkhaoapaaDoor.W
