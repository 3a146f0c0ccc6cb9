/- The reference's table of rows, and what it finds there. No program. -/
import Derived.Test.YthbhlmbhnidbhaaMath
import Derived.WalkKit
namespace Go.Proofs.Ythbhlmbhnidbhaa.M
open Go.RowKit
set_option linter.unusedSimpArgs false
/-- A row: its Op, its name, its fields, whether its number has a sign. -/
def tab : List (Int × ByteArray × ByteArray × Bool) := [(1, ⟨#[109, 111, 118]⟩, ⟨#[65, 66]⟩, false), (2, ⟨#[109, 111, 118, 105]⟩, ⟨#[65, 73]⟩, true), (3, ⟨#[109, 111, 118, 104]⟩, ⟨#[65, 73]⟩, false), (16, ⟨#[97, 100, 100, 105]⟩, ⟨#[65, 66, 73]⟩, true), (17, ⟨#[108, 111, 97, 100]⟩, ⟨#[65, 66, 73]⟩, true), (18, ⟨#[115, 116, 111, 114, 101]⟩, ⟨#[65, 66, 73]⟩, true), (19, ⟨#[106, 117, 109, 112]⟩, ⟨#[73]⟩, false), (21, ⟨#[99, 97, 108, 108]⟩, ⟨#[73]⟩, false), (20, ⟨#[122, 101, 114, 111]⟩, ⟨#[65, 73]⟩, false), (22, ⟨#[99, 97, 108, 108, 114]⟩, ⟨#[65]⟩, false), (23, ⟨#[106, 117, 109, 112, 114]⟩, ⟨#[65]⟩, false), (24, ⟨#[111, 117, 116]⟩, ⟨#[65]⟩, false), (25, ⟨#[101, 120, 105, 116]⟩, ⟨#[65]⟩, false), (4, ⟨#[97, 100, 100]⟩, ⟨#[65, 66, 67]⟩, false), (5, ⟨#[115, 117, 98]⟩, ⟨#[65, 66, 67]⟩, false), (6, ⟨#[109, 117, 108]⟩, ⟨#[65, 66, 67]⟩, false), (7, ⟨#[104, 105, 103, 104]⟩, ⟨#[65, 66, 67]⟩, false), (8, ⟨#[100, 105, 118]⟩, ⟨#[65, 66, 67]⟩, false), (9, ⟨#[114, 101, 109]⟩, ⟨#[65, 66, 67]⟩, false), (10, ⟨#[97, 110, 100]⟩, ⟨#[65, 66, 67]⟩, false), (11, ⟨#[111, 114]⟩, ⟨#[65, 66, 67]⟩, false), (12, ⟨#[120, 111, 114]⟩, ⟨#[65, 66, 67]⟩, false), (13, ⟨#[108, 101, 115, 115]⟩, ⟨#[65, 66, 67]⟩, false), (14, ⟨#[108, 111, 119]⟩, ⟨#[65, 66, 67]⟩, false), (15, ⟨#[115, 97, 109, 101]⟩, ⟨#[65, 66, 67]⟩, false)]
/-- The names of the operations. -/
def ops : List ByteArray := [⟨#[97, 100, 100]⟩, ⟨#[115, 117, 98]⟩, ⟨#[109, 117, 108]⟩, ⟨#[104, 105, 103, 104]⟩, ⟨#[100, 105, 118]⟩, ⟨#[114, 101, 109]⟩, ⟨#[97, 110, 100]⟩, ⟨#[111, 114]⟩, ⟨#[120, 111, 114]⟩, ⟨#[108, 101, 115, 115]⟩, ⟨#[108, 111, 119]⟩, ⟨#[115, 97, 109, 101]⟩]
def rowCells (r : Int × ByteArray × ByteArray × Bool) : List Value := [.int .i64 r.1, .string r.2.1, .string r.2.2.1, .bool r.2.2.2]
def cellsOf (l : List (Int × ByteArray × ByteArray × Bool)) : List Value := l.flatMap rowCells
theorem cellsOf_length (l : List (Int × ByteArray × ByteArray × Bool)) : (cellsOf l).length = l.length * 4 := by
  induction l with
  | nil => rfl
  | cons r l ih => simp only [cellsOf, List.flatMap_cons, List.length_append, List.length_cons] at *; simp only [rowCells, List.length_cons, List.length_nil]; omega
theorem tab_length : tab.length = 25 := rfl
theorem ops_length : ops.length = 12 := rfl
theorem tab_op (k : Nat) (hk : k < 12) : tab.take (13 + (k + 1)) = tab.take (13 + k) ++ [(4 + (k : Int), ops[k]'(by rw [ops_length]; exact hk), ⟨#[65, 66, 67]⟩, false)] := by
  have : k = 0 ∨ k = 1 ∨ k = 2 ∨ k = 3 ∨ k = 4 ∨ k = 5 ∨ k = 6 ∨ k = 7 ∨ k = 8 ∨ k = 9 ∨ k = 10 ∨ k = 11 := by omega
  rcases this with rfl | rfl | rfl | rfl | rfl | rfl | rfl | rfl | rfl | rfl | rfl | rfl <;> rfl
theorem cellsOf_op (k : Nat) (hk : k < 12) : cellsOf (tab.take (13 + (k + 1))) = cellsOf (tab.take (13 + k)) ++ [.int .i64 (4 + (k : Int)), .string (ops[k]'(by rw [ops_length]; exact hk)), .string ⟨#[65, 66, 67]⟩, .bool false] := by
  rw [tab_op k hk]; simp [cellsOf, rowCells]
/-- A row's cells lie four by four. -/
theorem cellsOf_at (l : List (Int × ByteArray × ByteArray × Bool)) (k : Nat) (hk : k < l.length) (j : Nat) (hj : j < 4) : (cellsOf l)[4 * k + j]? = (rowCells l[k])[j]? := by
  induction l generalizing k with
  | nil => simp at hk
  | cons r l ih =>
    cases k with
    | zero =>
      have : (rowCells r).length = 4 := rfl
      simp [cellsOf, List.getElem?_append_left, this, hj]
    | succ k =>
      have h4 : (rowCells r).length = 4 := rfl
      have := ih k (by simpa using hk)
      simp only [cellsOf, List.flatMap_cons] at this ⊢
      rw [List.getElem?_append_right (by omega), h4, show 4 * (k + 1) + j - 4 = 4 * k + j by omega, this]
      rfl
/-- The name of an Op. -/
def nameOf (op : Int) : ByteArray := match op with
  | 1 => ⟨#[109, 111, 118]⟩
  | 2 => ⟨#[109, 111, 118, 105]⟩
  | 3 => ⟨#[109, 111, 118, 104]⟩
  | 4 => ⟨#[97, 100, 100]⟩
  | 5 => ⟨#[115, 117, 98]⟩
  | 6 => ⟨#[109, 117, 108]⟩
  | 7 => ⟨#[104, 105, 103, 104]⟩
  | 8 => ⟨#[100, 105, 118]⟩
  | 9 => ⟨#[114, 101, 109]⟩
  | 10 => ⟨#[97, 110, 100]⟩
  | 11 => ⟨#[111, 114]⟩
  | 12 => ⟨#[120, 111, 114]⟩
  | 13 => ⟨#[108, 101, 115, 115]⟩
  | 14 => ⟨#[108, 111, 119]⟩
  | 15 => ⟨#[115, 97, 109, 101]⟩
  | 16 => ⟨#[97, 100, 100, 105]⟩
  | 17 => ⟨#[108, 111, 97, 100]⟩
  | 18 => ⟨#[115, 116, 111, 114, 101]⟩
  | 19 => ⟨#[106, 117, 109, 112]⟩
  | 20 => ⟨#[122, 101, 114, 111]⟩
  | 21 => ⟨#[99, 97, 108, 108]⟩
  | 22 => ⟨#[99, 97, 108, 108, 114]⟩
  | 23 => ⟨#[106, 117, 109, 112, 114]⟩
  | 24 => ⟨#[111, 117, 116]⟩
  | 25 => ⟨#[101, 120, 105, 116]⟩
  | _ => ⟨#[]⟩
def sgn : Nat → Bool | 2 => true | 4 => true | _ => false
theorem tab_row (k : Nat) (hk : k < 25) : (tab[k]'(by rw [tab_length]; exact hk)) = ((tab[k]'(by rw [tab_length]; exact hk)).1, nameOf (tab[k]'(by rw [tab_length]; exact hk)).1, fl (kind (tab[k]'(by rw [tab_length]; exact hk)).1), sgn (kind (tab[k]'(by rw [tab_length]; exact hk)).1)) ∧ kind (tab[k]'(by rw [tab_length]; exact hk)).1 ≠ 0 := by
  have : k = 0 ∨ k = 1 ∨ k = 2 ∨ k = 3 ∨ k = 4 ∨ k = 5 ∨ k = 6 ∨ k = 7 ∨ k = 8 ∨ k = 9 ∨ k = 10 ∨ k = 11 ∨ k = 12 ∨ k = 13 ∨ k = 14 ∨ k = 15 ∨ k = 16 ∨ k = 17 ∨ k = 18 ∨ k = 19 ∨ k = 20 ∨ k = 21 ∨ k = 22 ∨ k = 23 ∨ k = 24 := by omega
  rcases this with rfl | rfl | rfl | rfl | rfl | rfl | rfl | rfl | rfl | rfl | rfl | rfl | rfl | rfl | rfl | rfl | rfl | rfl | rfl | rfl | rfl | rfl | rfl | rfl | rfl <;> exact ⟨rfl, ne_of_beq_false rfl⟩
theorem tab_has (op : Int) (h : kind op ≠ 0) : ∃ k, ∃ hk : k < 25, (tab[k]'(by rw [tab_length]; exact hk)).1 = op := by
  have hop : 1 ≤ op ∧ op ≤ 25 := by
    revert h; unfold kind
    repeat' split
    all_goals omega
  have : op = 1 ∨ op = 2 ∨ op = 3 ∨ op = 4 ∨ op = 5 ∨ op = 6 ∨ op = 7 ∨ op = 8 ∨ op = 9 ∨ op = 10 ∨ op = 11 ∨ op = 12 ∨ op = 13 ∨ op = 14 ∨ op = 15 ∨ op = 16 ∨ op = 17 ∨ op = 18 ∨ op = 19 ∨ op = 20 ∨ op = 21 ∨ op = 22 ∨ op = 23 ∨ op = 24 ∨ op = 25 := by omega
  rcases this with rfl | rfl | rfl | rfl | rfl | rfl | rfl | rfl | rfl | rfl | rfl | rfl | rfl | rfl | rfl | rfl | rfl | rfl | rfl | rfl | rfl | rfl | rfl | rfl | rfl
  · exact ⟨0, by omega, rfl⟩
  · exact ⟨1, by omega, rfl⟩
  · exact ⟨2, by omega, rfl⟩
  · exact ⟨13, by omega, rfl⟩
  · exact ⟨14, by omega, rfl⟩
  · exact ⟨15, by omega, rfl⟩
  · exact ⟨16, by omega, rfl⟩
  · exact ⟨17, by omega, rfl⟩
  · exact ⟨18, by omega, rfl⟩
  · exact ⟨19, by omega, rfl⟩
  · exact ⟨20, by omega, rfl⟩
  · exact ⟨21, by omega, rfl⟩
  · exact ⟨22, by omega, rfl⟩
  · exact ⟨23, by omega, rfl⟩
  · exact ⟨24, by omega, rfl⟩
  · exact ⟨3, by omega, rfl⟩
  · exact ⟨4, by omega, rfl⟩
  · exact ⟨5, by omega, rfl⟩
  · exact ⟨6, by omega, rfl⟩
  · exact ⟨8, by omega, rfl⟩
  · exact ⟨7, by omega, rfl⟩
  · exact ⟨9, by omega, rfl⟩
  · exact ⟨10, by omega, rfl⟩
  · exact ⟨11, by omega, rfl⟩
  · exact ⟨12, by omega, rfl⟩
end Go.Proofs.Ythbhlmbhnidbhaa.M
