/- The reference's table of rows, and what it finds there. No program. -/
import Derived.Test.YtofhiooodgopeaaRow
import Derived.WalkKit
import Derived.LoopTactic
import Derived.Outline
import Derived.Maps.AppendAt
namespace Go.Proofs.Ytofhiooodgopeaa.M
open Go.RowKit
set_option linter.unusedSimpArgs false
/-- A row: its Op, its name, its fields, whether its number has a sign. -/
def tab : List (Int × ByteArray × ByteArray × Bool) := [(1, ⟨#[109, 111, 118]⟩, ⟨#[65, 66]⟩, false), (2, ⟨#[109, 111, 118, 105]⟩, ⟨#[65, 73]⟩, true), (3, ⟨#[109, 111, 118, 104]⟩, ⟨#[65, 73]⟩, false), (16, ⟨#[97, 100, 100, 105]⟩, ⟨#[65, 66, 73]⟩, true), (17, ⟨#[108, 111, 97, 100]⟩, ⟨#[65, 66, 73]⟩, true), (18, ⟨#[115, 116, 111, 114, 101]⟩, ⟨#[65, 66, 73]⟩, true), (19, ⟨#[106, 117, 109, 112]⟩, ⟨#[73]⟩, false), (21, ⟨#[99, 97, 108, 108]⟩, ⟨#[73]⟩, false), (20, ⟨#[122, 101, 114, 111]⟩, ⟨#[65, 73]⟩, false), (22, ⟨#[99, 97, 108, 108, 114]⟩, ⟨#[65]⟩, false), (23, ⟨#[106, 117, 109, 112, 114]⟩, ⟨#[65]⟩, false), (24, ⟨#[111, 117, 116]⟩, ⟨#[65]⟩, false), (25, ⟨#[101, 120, 105, 116]⟩, ⟨#[65]⟩, false), (4, ⟨#[97, 100, 100]⟩, ⟨#[65, 66, 67]⟩, false), (5, ⟨#[115, 117, 98]⟩, ⟨#[65, 66, 67]⟩, false), (6, ⟨#[109, 117, 108]⟩, ⟨#[65, 66, 67]⟩, false), (7, ⟨#[104, 105, 103, 104]⟩, ⟨#[65, 66, 67]⟩, false), (8, ⟨#[100, 105, 118]⟩, ⟨#[65, 66, 67]⟩, false), (9, ⟨#[114, 101, 109]⟩, ⟨#[65, 66, 67]⟩, false), (10, ⟨#[97, 110, 100]⟩, ⟨#[65, 66, 67]⟩, false), (11, ⟨#[111, 114]⟩, ⟨#[65, 66, 67]⟩, false), (12, ⟨#[120, 111, 114]⟩, ⟨#[65, 66, 67]⟩, false), (13, ⟨#[108, 101, 115, 115]⟩, ⟨#[65, 66, 67]⟩, false), (14, ⟨#[108, 111, 119]⟩, ⟨#[65, 66, 67]⟩, false), (15, ⟨#[115, 97, 109, 101]⟩, ⟨#[65, 66, 67]⟩, false)]
/-- The names of the operations. -/
def ops : List ByteArray := [⟨#[97, 100, 100]⟩, ⟨#[115, 117, 98]⟩, ⟨#[109, 117, 108]⟩, ⟨#[104, 105, 103, 104]⟩, ⟨#[100, 105, 118]⟩, ⟨#[114, 101, 109]⟩, ⟨#[97, 110, 100]⟩, ⟨#[111, 114]⟩, ⟨#[120, 111, 114]⟩, ⟨#[108, 101, 115, 115]⟩, ⟨#[108, 111, 119]⟩, ⟨#[115, 97, 109, 101]⟩]
def rowCells (r : Int × ByteArray × ByteArray × Bool) : List Value := [.int .i64 r.1, .string r.2.1, .string r.2.2.1, .bool r.2.2.2]
def cellsOf (l : List (Int × ByteArray × ByteArray × Bool)) : List Value := l.flatMap rowCells
theorem cellsOf_length (l : List (Int × ByteArray × ByteArray × Bool)) : (cellsOf l).length = l.length * 4 := by
  induction l with
  | nil => rfl
  | cons r l ih => simp only [cellsOf, List.flatMap_cons, List.length_append, List.length_cons] at *; simp only [rowCells, List.length_cons, List.length_nil]; omega
theorem tab_length : tab.length = 25 := rfl
theorem ops_length : ops.length = 12 := rfl
theorem tab_op (k : Nat) (hk : k < 12) : tab.take (13 + (k + 1)) = tab.take (13 + k) ++ [(4 + (k : Int), ops[k]'(by rw [ops_length]; exact hk), ⟨#[65, 66, 67]⟩, false)] := by
  have : k = 0 ∨ k = 1 ∨ k = 2 ∨ k = 3 ∨ k = 4 ∨ k = 5 ∨ k = 6 ∨ k = 7 ∨ k = 8 ∨ k = 9 ∨ k = 10 ∨ k = 11 := by omega
  rcases this with rfl | rfl | rfl | rfl | rfl | rfl | rfl | rfl | rfl | rfl | rfl | rfl <;> rfl
theorem cellsOf_op (k : Nat) (hk : k < 12) : cellsOf (tab.take (13 + (k + 1))) = cellsOf (tab.take (13 + k)) ++ [.int .i64 (4 + (k : Int)), .string (ops[k]'(by rw [ops_length]; exact hk)), .string ⟨#[65, 66, 67]⟩, .bool false] := by
  rw [tab_op k hk]; simp [cellsOf, rowCells]
/-- A row's cells lie four by four. -/
theorem cellsOf_at (l : List (Int × ByteArray × ByteArray × Bool)) (k : Nat) (hk : k < l.length) (j : Nat) (hj : j < 4) : (cellsOf l)[4 * k + j]? = (rowCells l[k])[j]? := by
  induction l generalizing k with
  | nil => simp at hk
  | cons r l ih =>
    cases k with
    | zero =>
      have : (rowCells r).length = 4 := rfl
      simp [cellsOf, List.getElem?_append_left, this, hj]
    | succ k =>
      have h4 : (rowCells r).length = 4 := rfl
      have := ih k (by simpa using hk)
      simp only [cellsOf, List.flatMap_cons] at this ⊢
      rw [List.getElem?_append_right (by omega), h4, show 4 * (k + 1) + j - 4 = 4 * k + j by omega, this]
      rfl
/-- The name of an Op. -/
def nameOf (op : Int) : ByteArray := match op with
  | 1 => ⟨#[109, 111, 118]⟩
  | 2 => ⟨#[109, 111, 118, 105]⟩
  | 3 => ⟨#[109, 111, 118, 104]⟩
  | 4 => ⟨#[97, 100, 100]⟩
  | 5 => ⟨#[115, 117, 98]⟩
  | 6 => ⟨#[109, 117, 108]⟩
  | 7 => ⟨#[104, 105, 103, 104]⟩
  | 8 => ⟨#[100, 105, 118]⟩
  | 9 => ⟨#[114, 101, 109]⟩
  | 10 => ⟨#[97, 110, 100]⟩
  | 11 => ⟨#[111, 114]⟩
  | 12 => ⟨#[120, 111, 114]⟩
  | 13 => ⟨#[108, 101, 115, 115]⟩
  | 14 => ⟨#[108, 111, 119]⟩
  | 15 => ⟨#[115, 97, 109, 101]⟩
  | 16 => ⟨#[97, 100, 100, 105]⟩
  | 17 => ⟨#[108, 111, 97, 100]⟩
  | 18 => ⟨#[115, 116, 111, 114, 101]⟩
  | 19 => ⟨#[106, 117, 109, 112]⟩
  | 20 => ⟨#[122, 101, 114, 111]⟩
  | 21 => ⟨#[99, 97, 108, 108]⟩
  | 22 => ⟨#[99, 97, 108, 108, 114]⟩
  | 23 => ⟨#[106, 117, 109, 112, 114]⟩
  | 24 => ⟨#[111, 117, 116]⟩
  | 25 => ⟨#[101, 120, 105, 116]⟩
  | _ => ⟨#[]⟩
def sgn : Nat → Bool | 2 => true | 4 => true | _ => false
theorem tab_row (k : Nat) (hk : k < 25) : (tab[k]'(by rw [tab_length]; exact hk)) = ((tab[k]'(by rw [tab_length]; exact hk)).1, nameOf (tab[k]'(by rw [tab_length]; exact hk)).1, fl (kind (tab[k]'(by rw [tab_length]; exact hk)).1), sgn (kind (tab[k]'(by rw [tab_length]; exact hk)).1)) ∧ kind (tab[k]'(by rw [tab_length]; exact hk)).1 ≠ 0 := by
  have : k = 0 ∨ k = 1 ∨ k = 2 ∨ k = 3 ∨ k = 4 ∨ k = 5 ∨ k = 6 ∨ k = 7 ∨ k = 8 ∨ k = 9 ∨ k = 10 ∨ k = 11 ∨ k = 12 ∨ k = 13 ∨ k = 14 ∨ k = 15 ∨ k = 16 ∨ k = 17 ∨ k = 18 ∨ k = 19 ∨ k = 20 ∨ k = 21 ∨ k = 22 ∨ k = 23 ∨ k = 24 := by omega
  rcases this with rfl | rfl | rfl | rfl | rfl | rfl | rfl | rfl | rfl | rfl | rfl | rfl | rfl | rfl | rfl | rfl | rfl | rfl | rfl | rfl | rfl | rfl | rfl | rfl | rfl <;> exact ⟨rfl, ne_of_beq_false rfl⟩
theorem tab_has (op : Int) (h : kind op ≠ 0) : ∃ k, ∃ hk : k < 25, (tab[k]'(by rw [tab_length]; exact hk)).1 = op := by
  have hop : 1 ≤ op ∧ op ≤ 25 := by
    revert h; unfold kind
    repeat' split
    all_goals omega
  have : op = 1 ∨ op = 2 ∨ op = 3 ∨ op = 4 ∨ op = 5 ∨ op = 6 ∨ op = 7 ∨ op = 8 ∨ op = 9 ∨ op = 10 ∨ op = 11 ∨ op = 12 ∨ op = 13 ∨ op = 14 ∨ op = 15 ∨ op = 16 ∨ op = 17 ∨ op = 18 ∨ op = 19 ∨ op = 20 ∨ op = 21 ∨ op = 22 ∨ op = 23 ∨ op = 24 ∨ op = 25 := by omega
  rcases this with rfl | rfl | rfl | rfl | rfl | rfl | rfl | rfl | rfl | rfl | rfl | rfl | rfl | rfl | rfl | rfl | rfl | rfl | rfl | rfl | rfl | rfl | rfl | rfl | rfl
  · exact ⟨0, by omega, rfl⟩
  · exact ⟨1, by omega, rfl⟩
  · exact ⟨2, by omega, rfl⟩
  · exact ⟨13, by omega, rfl⟩
  · exact ⟨14, by omega, rfl⟩
  · exact ⟨15, by omega, rfl⟩
  · exact ⟨16, by omega, rfl⟩
  · exact ⟨17, by omega, rfl⟩
  · exact ⟨18, by omega, rfl⟩
  · exact ⟨19, by omega, rfl⟩
  · exact ⟨20, by omega, rfl⟩
  · exact ⟨21, by omega, rfl⟩
  · exact ⟨22, by omega, rfl⟩
  · exact ⟨23, by omega, rfl⟩
  · exact ⟨24, by omega, rfl⟩
  · exact ⟨3, by omega, rfl⟩
  · exact ⟨4, by omega, rfl⟩
  · exact ⟨5, by omega, rfl⟩
  · exact ⟨6, by omega, rfl⟩
  · exact ⟨8, by omega, rfl⟩
  · exact ⟨7, by omega, rfl⟩
  · exact ⟨9, by omega, rfl⟩
  · exact ⟨10, by omega, rfl⟩
  · exact ⟨11, by omega, rfl⟩
  · exact ⟨12, by omega, rfl⟩
end Go.Proofs.Ytofhiooodgopeaa.M

namespace Go.Proofs.Ytofhiooodgopeaa.W
open Go.RowKit Go.Proofs.Ytofhiooodgopeaa.M
set_option linter.unusedVariables false

theorem info38 : (Try.prog.info? 71).map (fun i => (i.zero, i.size, i.bytes)) = some (some (.agg #[.int .i64 0, .string ⟨#[]⟩, .string ⟨#[]⟩, .bool false]), 4, 48) := by kernel_rfl

theorem ops_cells {w1 : World} {g : Nat} {t : TypeId} (h : w1.heap[g]? = some (.cells (ops.map Value.string).toArray t (0, 0))) (j : Nat) (hj : j < 12) : w1.cell? ⟨g, j, none⟩ = some (.string (ops[j]'(by rw [ops_length]; exact hj))) := by
  simp [World.cell?, h]
theorem rows_step {w wr w2 : World} {v v' : Value} {k : Nat} {o : Obj} (hk : k < 12) (hB : Below w.heap.size w wr) (hz : w.heap.size + 1 < wr.heap.size)
    (hown : wr.ownsRow w.heap.size 71 4 v (13 + k) (cellsOf (tab.take (13 + k)))) (hne : v.ownBlock ≠ some (w.heap.size + 1))
    (hop : ∀ j, (hj : j < 12) → wr.cell? ⟨w.heap.size + 1, j, none⟩ = some (.string (ops[j]'(by rw [ops_length]; exact hj))))
    (hg : (wr.alloc o).grownBy w2 v.ownBlock) (hb : v'.ownBlock = v.ownBlock ∨ v'.ownBlock = some (wr.heap.size + 1)) :
    v'.ownBlock ≠ some (w.heap.size + 1) ∧ (∀ j, (hj : j < 12) → w2.cell? ⟨w.heap.size + 1, j, none⟩ = some (.string (ops[j]'(by rw [ops_length]; exact hj)))) ∧ w.heap.size + 1 < w2.heap.size ∧ Below w.heap.size w w2 := by
  have hs := hg.size
  simp at hs
  refine ⟨?_, fun j hj => ?_, by omega, ?_⟩
  · rcases hb with h | h
    · rw [h]; exact hne
    · rw [h]; intro e; simp at e; omega
  · rw [World.cell?_of_block (w := wr.alloc o) (a := ⟨w.heap.size + 1, j, none⟩) (hg.block _ (by simp; omega) (fun e => hne e.symm))]
    exact (World.cell?_alloc_past _ _ _ hz).trans (hop j hj)
  · exact (hB.alloc (by omega) o).grown hg (by simp; omega) (fun q hq => (hown.lt q hq).1)

set_option maxRecDepth 100000 in
set_option maxHeartbeats 2000000 in
theorem rows_any (w : World) :
    Calls Try.prog 42 #[] w fun e w' => ∃ v, e = .returned v ∧ w'.ownsRow w.heap.size 71 4 v 25 (cellsOf tab) ∧ Below w.heap.size w w' := by
  obtain ⟨i0, hi, hz0, hz1, hz2⟩ := info_parts info38
  have hown0 : ((w.alloc (.cells (cellsOf (tab.take 13)).toArray 71)).alloc (.cells (ops.map Value.string).toArray 9)).ownsRow w.heap.size 71 4 (.slice (some ⟨w.heap.size, 0, none⟩) 13 13) 13 (cellsOf (tab.take 13)) :=
    (World.ownsRow_lit (base := w.heap.size) (e := 71) (size := 4) w (cellsOf (tab.take 13)).toArray 13 (Nat.le_refl _) (by unfold maxLen; omega) rfl).alloc _
  have hnm0 : ((w.alloc (.cells (cellsOf (tab.take 13)).toArray 71)).alloc (.cells (ops.map Value.string).toArray 9)).heap[w.heap.size + 1]? = some (.cells (ops.map Value.string).toArray 9 (0, 0)) := by
    have := heap_alloc_new (w.alloc (.cells (cellsOf (tab.take 13)).toArray 71)) (.cells (ops.map Value.string).toArray 9)
    simpa using this
  have hB0 : Below w.heap.size w ((w.alloc (.cells (cellsOf (tab.take 13)).toArray 71)).alloc (.cells (ops.map Value.string).toArray 9)) := ((Below.refl _ _).alloc (Nat.le_refl _) _).alloc (by simp) _
  have hsz : w.heap.size + 1 < ((w.alloc (.cells (cellsOf (tab.take 13)).toArray 71)).alloc (.cells (ops.map Value.string).toArray 9)).heap.size := by simp
  have HS := hide (And.intro hown0 (And.intro (ops_cells hnm0) (And.intro hB0 hsz)))
  clear hown0 hnm0 hB0 hsz
  go_enter Try.func42, Try.ntmps42
  go_wp2
  go_loopw [1, 3] (fun v i wr => ∃ k : Nat, k ≤ 12 ∧ i = .int .i64 k ∧ wr.ownsRow w.heap.size 71 4 v (13 + k) (cellsOf (tab.take (13 + k))) ∧ v.ownBlock ≠ some (w.heap.size + 1) ∧ (∀ j, (hj : j < 12) → wr.cell? ⟨w.heap.size + 1, j, none⟩ = some (.string (ops[j]'(by rw [ops_length]; exact hj)))) ∧ w.heap.size + 1 < wr.heap.size ∧ Below w.heap.size w wr) (fun _ i _ => 12 - (intOf i).toNat)
  case atStart =>
    obtain ⟨h1, h2, h3, h4⟩ := unhide HS
    exact ⟨0, by omega, rfl, h1, by simp [Value.ownBlock], h2, h4, h3⟩
  case round =>
    obtain ⟨k, hk, rfl, hown, hne, hop, hz, hB⟩ := hrel
    clear HS
    by_cases hlt : k < 12
    · have hc := hop k hlt
      have hc4 := cellsOf_op k hlt
      have HC4 := hide hc4
      clear hc4
      generalize hnm : ops[k]'(by rw [ops_length]; exact hlt) = nm at *
      go_wp2_with (at_builtin; refine wpList_append_own_at _ rfl _ _ 85 rfl w.heap.size 71 i0 (.agg #[.int .i64 0, .string ⟨#[]⟩, .string ⟨#[]⟩, .bool false]) 4 48 Try.underlying85 hi hz0 hz1 hz2 rfl (by decide) _ _ _ rfl (hown.alloc _) ⟨wr.heap.size, 0, none⟩ 1 1 [.int .i64 (4 + (k : Int)), .string nm, .string ⟨#[65, 66, 67]⟩, .bool false] rfl rfl ?c1 ?c2 ?c3 ?c4 ?c5 ?_)
      case c1 =>
        intro j u hj
        match j, hj with
        | 0, hj => simp at hj; subst hj; simp [Addr.add]
        | 1, hj => simp at hj; subst hj; simp [Addr.add]
        | 2, hj => simp at hj; subst hj; simp [Addr.add]
        | 3, hj => simp at hj; subst hj; simp [Addr.add]
      case c2 => intro u hu; simp at hu; rcases hu with rfl | rfl | rfl | rfl <;> rfl
      case c3 => unfold maxLen; omega
      case c4 => omega
      case c5 => simp; omega
      · intro v' w2 hown' hg _ hb
        have R := rows_step hlt hB hz hown hne hop hg hb
        have O : w2.ownsRow w.heap.size 71 4 v' (13 + (k + 1)) (cellsOf (tab.take (13 + (k + 1)))) := by rw [unhide HC4]; exact hown'
        have R2 := hide (And.intro O R)
        clear O R hown' hg hb hown hne hop hB hc
        go_wp2
        go_roundw
        case rel =>
          obtain ⟨h1, h2, h3, h4, h5⟩ := unhide R2
          exact ⟨k + 1, by omega, by go_num, h1, h2, h3, h4, h5⟩
        case measure => simp [intOf]; omega
    · have hk12 : k = 12 := by omega
      subst hk12
      go_wp2
      go_ret
      exact ⟨_, rfl, hown, hB⟩
end Go.Proofs.Ytofhiooodgopeaa.W

namespace Go.Proofs.Ytofhiooodgopeaa.W
open Go.RowKit Go.Proofs.Ytofhiooodgopeaa.M
set_option linter.unusedVariables false

theorem tab_cells {w1 : World} {g : Nat} (h : ∀ j, j < 25 * 4 → w1.cell? ⟨g, j, none⟩ = (cellsOf tab)[j]?) (k : Nat) (hk : k < 25) :
    ∃ o, (tab[k]'(by rw [tab_length]; exact hk)).1 = o ∧ w1.cell? ⟨g, k * 4, none⟩ = some (.int .i64 o) ∧ w1.cell? ⟨g, k * 4 + 1, none⟩ = some (.string (nameOf o)) ∧ w1.cell? ⟨g, k * 4 + 2, none⟩ = some (.string (fl (kind o))) ∧ w1.cell? ⟨g, k * 4 + 3, none⟩ = some (.bool (sgn (kind o))) ∧ kind o ≠ 0 := by
  obtain ⟨hr, hn⟩ := tab_row k hk
  refine ⟨_, rfl, ?_, ?_, ?_, ?_, hn⟩
  · rw [h _ (by omega), show k * 4 = 4 * k + 0 by omega, cellsOf_at tab k (by rw [tab_length]; exact hk) 0 (by omega)]; rfl
  · rw [h _ (by omega), show k * 4 + 1 = 4 * k + 1 by omega, cellsOf_at tab k (by rw [tab_length]; exact hk) 1 (by omega), hr]; rfl
  · rw [h _ (by omega), show k * 4 + 2 = 4 * k + 2 by omega, cellsOf_at tab k (by rw [tab_length]; exact hk) 2 (by omega), hr]; rfl
  · rw [h _ (by omega), show k * 4 + 3 = 4 * k + 3 by omega, cellsOf_at tab k (by rw [tab_length]; exact hk) 3 (by omega), hr]; rfl
theorem own1 {w w1 : World} {R : Array Value} {t : TypeId} (hb : Below (w.alloc (.cells R t)).heap.size (w.alloc (.cells R t)) w1) (i : Nat) : w1.cell? ⟨w.heap.size, i, none⟩ = R[i]? :=
  (hb.cell (p := ⟨w.heap.size, i, none⟩) (by simp)).trans (World.cell?_alloc_at _ _ _ _ rfl)
theorem own1_below {w w1 : World} {o : Obj} (hb : Below (w.alloc o).heap.size (w.alloc o) w1) : Below w.heap.size w w1 :=
  ((Below.refl _ _).alloc (Nat.le_refl _) _).trans (hb.mono (by simp))

set_option maxRecDepth 100000 in
set_option maxHeartbeats 2000000 in
theorem find_some (op : Int) (w : World) (hk : kind op ≠ 0) :
    Calls Try.prog 28 #[.int .i64 op] w fun e w' => e = .returned (.tuple #[.agg #[.int .i64 op, .string (nameOf op), .string (fl (kind op)), .bool (sgn (kind op))], .bool true]) ∧ Below w.heap.size w w' := by
  have HK := hide hk
  clear hk
  go_enter Try.func28, Try.ntmps28
  go_wp2_with fail
  go_at_call 42
  refine (rows_any _).mono ?_
  rintro e w1 ⟨v, rfl, hown, hb⟩
  obtain ⟨g, cap, rfl⟩ : ∃ g cap, v = .slice (some ⟨g, 0, none⟩) 25 cap := by
    rcases hown.2 with ⟨_, h⟩ | ⟨g, cap, cur, h, _⟩
    · omega
    · exact ⟨g, cap, h⟩
  have HT := hide (tab_cells fun j hj => hown.cellAt j hj)
  have hBw := own1_below hb
  obtain ⟨hce, hfr⟩ := bcell hb
  have r0 := own1 hb 0
  have r1 := own1 hb 1
  have r2 := own1 hb 2
  have r3 := own1 hb 3
  clear hown hce
  go_wp2_with fail
  go_loop [5] (fun i => ∃ k : Nat, k ≤ 25 ∧ i = .int .i64 k ∧ Hid (∀ j, (hj : j < k) → (hj2 : j < 25) → (tab[j]'(by rw [tab_length]; exact hj2)).1 ≠ op)) (fun i => 25 - (intOf i).toNat)
  case atStart => exact ⟨0, by omega, rfl, fun j hj => by omega⟩
  case round =>
    obtain ⟨k, hk25, rfl, hall⟩ := hrel
    by_cases hlt : k < 25
    · obtain ⟨o, ho, c0, c1, c2, c3, hn⟩ := unhide HT k hlt
      have HO := hide ho
      clear ho
      by_cases he : o = op
      · subst he
        clear hn
        go_wp2
        refine bodyPost_ret (v := .tuple #[.agg #[.int .i64 o, .string (nameOf o), .string (fl (kind o)), .bool (sgn (kind o))], .bool true]) (by simp [results, Try.results28, go_sem, r0, r1, r2, r3]) rfl ⟨rfl, ?_⟩
        exact (((hBw.setCell (Nat.le_refl _) _).setCell (Nat.le_refl _) _).setCell (Nat.le_refl _) _).setCell (Nat.le_refl _) _
      · have he' : (o == op) = false := by simpa using he
        have HE := hide he
        clear he hn
        go_wp2
        go_round
        case rel => exact ⟨k + 1, by omega, by go_num, fun j hj hj2 => by
          by_cases e : j = k
          · subst e; rw [unhide HO]; exact unhide HE
          · exact unhide hall j (by omega) hj2⟩
        case measure => simp [intOf]; omega
    · have hk : k = 25 := by omega
      subst hk
      obtain ⟨j, hj, e⟩ := tab_has op (unhide HK)
      exact absurd e (unhide hall j hj hj)

set_option maxRecDepth 100000 in
set_option maxHeartbeats 2000000 in
theorem find_none (op : Int) (w : World) (hk : kind op = 0) :
    Calls Try.prog 28 #[.int .i64 op] w fun e w' => e = .returned (.tuple #[.agg #[.int .i64 0, .string ⟨#[]⟩, .string ⟨#[]⟩, .bool false], .bool false]) ∧ Below w.heap.size w w' := by
  have HK := hide hk
  clear hk
  go_enter Try.func28, Try.ntmps28
  go_wp2_with fail
  go_at_call 42
  refine (rows_any _).mono ?_
  rintro e w1 ⟨v, rfl, hown, hb⟩
  obtain ⟨g, cap, rfl⟩ : ∃ g cap, v = .slice (some ⟨g, 0, none⟩) 25 cap := by
    rcases hown.2 with ⟨_, h⟩ | ⟨g, cap, cur, h, _⟩
    · omega
    · exact ⟨g, cap, h⟩
  have HT := hide (tab_cells fun j hj => hown.cellAt j hj)
  have hBw := own1_below hb
  obtain ⟨hce, hfr⟩ := bcell hb
  have r0 := own1 hb 0
  have r1 := own1 hb 1
  have r2 := own1 hb 2
  have r3 := own1 hb 3
  clear hown hce
  go_wp2_with fail
  go_loop [5] (fun i => ∃ k : Nat, k ≤ 25 ∧ i = .int .i64 k ∧ Hid (∀ j, (hj : j < k) → (hj2 : j < 25) → (tab[j]'(by rw [tab_length]; exact hj2)).1 ≠ op)) (fun i => 25 - (intOf i).toNat)
  case atStart => exact ⟨0, by omega, rfl, fun j hj => by omega⟩
  case round =>
    obtain ⟨k, hk25, rfl, hall⟩ := hrel
    by_cases hlt : k < 25
    · obtain ⟨o, ho, c0, c1, c2, c3, hn⟩ := unhide HT k hlt
      have HO := hide ho
      clear ho
      by_cases he : o = op
      · exact absurd (unhide HK) (he ▸ hn)
      · have he' : (o == op) = false := by simpa using he
        have HE := hide he
        clear he hn
        go_wp2
        go_round
        case rel => exact ⟨k + 1, by omega, by go_num, fun j hj hj2 => by
          by_cases e : j = k
          · subst e; rw [unhide HO]; exact unhide HE
          · exact unhide hall j (by omega) hj2⟩
        case measure => simp [intOf]; omega
    · have hk : k = 25 := by omega
      subst hk
      go_wp2
      refine bodyPost_ret (v := .tuple #[.agg #[.int .i64 0, .string ⟨#[]⟩, .string ⟨#[]⟩, .bool false], .bool false]) (by simp [results, Try.results28, go_sem, r0, r1, r2, r3]) rfl ⟨rfl, ?_⟩
      exact (((hBw.setCell (Nat.le_refl _) _).setCell (Nat.le_refl _) _).setCell (Nat.le_refl _) _).setCell (Nat.le_refl _) _

end Go.Proofs.Ytofhiooodgopeaa.W

namespace Go.Proofs.Ytofhiooodgopeaa.M
theorem idx_mem (l : List UInt8) (c : UInt8) : 0 ≤ Lib.indexByte l c ↔ ∃ i, ∃ h : i < l.length, l[i] = c := by
  induction l with
  | nil => simp [Lib.indexByte]
  | cons b l ih =>
    simp only [Lib.indexByte]
    by_cases hb : b = c
    · subst hb
      simp only [beq_self_eq_true, if_true]
      exact ⟨fun _ => ⟨0, by simp, rfl⟩, fun _ => by omega⟩
    · rw [if_neg (by simpa using hb)]
      have hge := Lib.indexByte_ge l c
      constructor
      · intro h
        have h1 : ¬ (Lib.indexByte l c == -1) = true := by
          intro e; rw [if_pos e] at h; omega
        rw [if_neg h1] at h
        have : 0 ≤ Lib.indexByte l c := by
          have : Lib.indexByte l c ≠ -1 := by simpa using h1
          omega
        obtain ⟨i, hi, e⟩ := ih.1 this
        exact ⟨i + 1, by simpa using hi, by simpa using e⟩
      · rintro ⟨i, hi, e⟩
        cases i with
        | zero => exact absurd e hb
        | succ i =>
          have := ih.2 ⟨i, by simpa using hi, by simpa using e⟩
          rw [if_neg (by simp; omega)]
          omega
theorem byte_of (b : UInt8) (r : Int) (h0 : 0 ≤ r) (h1 : r < 128) : b = r.toNat.toUInt8 ↔ (b.toNat : Int) = r := by
  constructor
  · rintro rfl
    simp
    omega
  · intro h
    apply UInt8.toNat_inj.1
    simp
    omega
theorem has_iff (k : Nat) (r : Int) (h0 : 0 ≤ r) (h1 : r < 128) : hasL k r = true ↔ ∃ i, ∃ h : i < (fl k).size, ((fl k)[i].toNat : Int) = r := by
  simp only [hasL, decide_eq_true_eq]
  rw [idx_mem]
  constructor
  · rintro ⟨i, h, e⟩; exact ⟨i, by simpa using h, (byte_of _ _ h0 h1).1 e⟩
  · rintro ⟨i, h, e⟩; exact ⟨i, by simpa using h, (byte_of _ _ h0 h1).2 e⟩
theorem fl_size (k : Nat) : (fl k).size ≤ 3 := by
  unfold fl; split <;> decide
end Go.Proofs.Ytofhiooodgopeaa.M
namespace Go.Proofs.Ytofhiooodgopeaa.W
open Go.RowKit Go.Proofs.Ytofhiooodgopeaa.M
set_option linter.unusedVariables false

set_option maxHeartbeats 1000000 in
theorem has_any (kd : Nat) (c : Int) (w : World) (h0 : 0 ≤ c) (h1 : c < 128) :
    Calls Try.prog 29 #[.string (fl kd), .int .u8 c] w fun e w' => e = .returned (.bool (hasL kd c)) ∧ w' = w := by
  have hs := fl_size kd
  have HI := hide (has_iff kd c h0 h1)
  generalize hasL kd c = t at *
  generalize fl kd = s at *
  go_enter Try.func29, Try.ntmps29
  go_wp2
  go_loop [5] (fun i => ∃ k : Nat, k ≤ s.size ∧ i = .int .i64 k ∧ Hid (∀ j, (hj : j < k) → (hj2 : j < s.size) → ((s[j].toNat : Int) ≠ c))) (fun i => s.size - (intOf i).toNat)
  case atStart => exact ⟨0, by omega, rfl, fun j hj => by omega⟩
  case round =>
    obtain ⟨k, hk, rfl, hall⟩ := hrel
    by_cases hlt : k < s.size
    · by_cases he : (s[k].toNat : Int) = c
      · have HE := hide he
        have he' : ((s[k].toNat : Int) == c) = true := by simpa using he
        clear he
        go_wp2
        go_ret
        exact ⟨ret_bool ((unhide HI).2 ⟨k, hlt, unhide HE⟩).symm, rfl⟩
      · have HE := hide he
        have he' : ((s[k].toNat : Int) == c) = false := by simpa using he
        clear he
        go_wp2
        go_round
        case rel => exact ⟨k + 1, by omega, by go_num, fun j hj hj2 => by
          by_cases e : j = k
          · subst e; exact unhide HE
          · exact unhide hall j (by omega) hj2⟩
        case measure => simp [intOf]; omega
    · have hk2 : k = s.size := by omega
      subst hk2
      go_wp2
      go_ret
      refine ⟨ret_bool ?_, rfl⟩
      cases t with
      | false => rfl
      | true =>
        obtain ⟨i, hi, e⟩ := (unhide HI).1 rfl
        exact absurd e (unhide hall i hi hi)

set_option maxHeartbeats 1000000 in
theorem fits_any (a : Int) (nm : ByteArray) (kd : Nat) (r n : Int) (w : World) (h0 : 0 ≤ r) (h1 : r < 128) (hsl : sgn kd = true → hasL kd r = true → r = 73 → lo kd = -32768 ∧ hi kd = 32767) (hsu : sgn kd = false → hasL kd r = true → r = 73 → lo kd = 0 ∧ hi kd = 65535) :
    Calls Try.prog 43 #[.agg #[.int .i64 a, .string nm, .string (fl kd), .bool (sgn kd)], .int .u8 r, .int .i64 n] w fun e w' => e = .returned (.bool (okL kd r n)) ∧ Below w.heap.size w w' := by
  have hB : Below w.heap.size w (w.alloc (.cells #[.int .i64 a, .string nm, .string (fl kd), .bool (sgn kd)] 71)) := (Below.refl _ _).alloc (Nat.le_refl _) _
  have HL := hide hsl
  have HU := hide hsu
  clear hsl hsu
  have hha := has_any kd r
  cases hh : hasL kd r with
  | false =>
    have H1 : Hid (okL kd r n = decide (n = 0)) := by show _ = _; simp [okL, hh]
    rw [hh] at hha
    by_cases hn : n = 0
    all_goals
      go_enter Try.func43, Try.ntmps43
      go_wp2_with (go_at_call 29; refine (hha _ h0 h1).mono ?_; rintro e w' ⟨rfl, rfl⟩)
      go_ret
      exact ⟨ret_bool (by rw [unhide H1]; simp [hn]), hB⟩
  | true =>
    rw [hh] at hha
    by_cases h73 : r = 73
    · cases hg : sgn kd with
      | true =>
        obtain ⟨e1, e2⟩ := unhide HL hg hh h73
        have H1 : Hid (okL kd r n = decide (-32768 ≤ n ∧ n ≤ 32767)) := by show _ = _; unfold okL; rw [if_pos hh, if_pos h73, e1, e2]
        clear e1 e2
        subst h73
        rw [hg] at hB
        have hcs : (-32768 ≤ n ∧ n ≤ 32767) ∨ (¬ -32768 ≤ n) ∨ (-32768 ≤ n ∧ ¬ n ≤ 32767) := by omega
        rcases hcs with ⟨ha, hb⟩ | ha | ⟨ha, hb⟩
        all_goals
          go_enter Try.func43, Try.ntmps43
          go_wp2_with (go_at_call 29; refine (hha _ h0 h1).mono ?_; rintro e w' ⟨rfl, rfl⟩)
          go_ret
          exact ⟨ret_bool (by rw [unhide H1]; first | (simp [ha, hb]; done) | (simp; omega)), hB⟩
      | false =>
        obtain ⟨e1, e2⟩ := unhide HU hg hh h73
        have H1 : Hid (okL kd r n = decide (0 ≤ n ∧ n ≤ 65535)) := by show _ = _; unfold okL; rw [if_pos hh, if_pos h73, e1, e2]
        clear e1 e2
        subst h73
        rw [hg] at hB
        have hcs : (0 ≤ n ∧ n ≤ 65535) ∨ (¬ 0 ≤ n) ∨ (0 ≤ n ∧ ¬ n ≤ 65535) := by omega
        rcases hcs with ⟨ha, hb⟩ | ha | ⟨ha, hb⟩
        all_goals
          go_enter Try.func43, Try.ntmps43
          go_wp2_with (go_at_call 29; refine (hha _ h0 h1).mono ?_; rintro e w' ⟨rfl, rfl⟩)
          go_ret
          exact ⟨ret_bool (by rw [unhide H1]; first | (simp [ha, hb]; done) | (simp; omega)), hB⟩
    · have H1 : Hid (okL kd r n = decide (0 ≤ n ∧ n ≤ 15)) := by show _ = _; unfold okL; rw [if_pos hh, if_neg h73]
      have h73' : (r == 73) = false := by simpa using h73
      have hcs : (0 ≤ n ∧ n ≤ 15) ∨ (¬ 0 ≤ n) ∨ (0 ≤ n ∧ ¬ n ≤ 15) := by omega
      rcases hcs with ⟨ha, hb⟩ | ha | ⟨ha, hb⟩
      all_goals
        go_enter Try.func43, Try.ntmps43
        go_wp2_with (go_at_call 29; refine (hha _ h0 h1).mono ?_; rintro e w' ⟨rfl, rfl⟩)
        go_ret
        exact ⟨ret_bool (by rw [unhide H1]; first | (simp [ha, hb]; done) | (simp; omega)), hB⟩
end Go.Proofs.Ytofhiooodgopeaa.W
