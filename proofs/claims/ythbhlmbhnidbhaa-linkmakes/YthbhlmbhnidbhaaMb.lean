/- Cells of rows of symbols, relocs and words. -/
import Derived.Test.YthbhlmbhnidbhaaLf
import Derived.Deep.RegionHeldLaw
import Derived.Deep.DeepCutAuto
namespace Go.Proofs.Ythbhlmbhnidbhaa.T
open Go.RowKit Go.Proofs.Ythbhlmbhnidbhaa.M
set_option linter.unusedVariables false
set_option linter.unusedSimpArgs false
/-- The cells of a symbol, in a row. -/
theorem sy_cells {w w' : World} {g o : Nat} {L : List Sy} (hg : g < w.heap.size) (E : ∀ j (h : j < L.length), ∃ cs, syC w L[j] cs ∧ ∀ i u, cs[i]? = some u → w.cell? ⟨g, o + j * 7 + i, none⟩ = some u) (hb : Below w.heap.size w w') (j : Nat) (hj : j < L.length) :
    w'.cell? ⟨g, o + j * 7, none⟩ = some (.string L[j].name) ∧ w'.cell? ⟨g, o + j * 7 + 1, none⟩ = some (.int .i64 L[j].kind) ∧ w'.cell? ⟨g, o + j * 7 + 2, none⟩ = some (.bool L[j].stat) ∧ w'.cell? ⟨g, o + j * 7 + 3, none⟩ = some (.int .i64 L[j].pl) ∧ w'.cell? ⟨g, o + j * 7 + 4, none⟩ = some (.int .i64 L[j].size) ∧ w'.cell? ⟨g, o + j * 7 + 5, none⟩ = some (.string L[j].sign) ∧ w'.cell? ⟨g, o + j * 7 + 6, none⟩ = some (.int .i64 L[j].frame) ∧ In64 L[j].kind ∧ In64 L[j].pl ∧ In64 L[j].size ∧ In64 L[j].frame ∧ L[j].name.size ≤ maxLen ∧ L[j].sign.size ≤ maxLen := by
  obtain ⟨cs, ⟨rfl, r⟩, q⟩ := E j hj
  have key : ∀ i u, ([.string L[j].name, .int .i64 L[j].kind, .bool L[j].stat, .int .i64 L[j].pl, .int .i64 L[j].size, .string L[j].sign, .int .i64 L[j].frame] : List Value)[i]? = some u → w'.cell? ⟨g, o + j * 7 + i, none⟩ = some u := fun i u hu => (hb.cell (p := ⟨g, o + j * 7 + i, none⟩) hg).trans (q i u hu)
  exact ⟨key 0 _ rfl, key 1 _ rfl, key 2 _ rfl, key 3 _ rfl, key 4 _ rfl, key 5 _ rfl, key 6 _ rfl, r⟩
theorem re_cells {w w' : World} {g o : Nat} {L : List Re} (hg : g < w.heap.size) (E : ∀ j (h : j < L.length), ∃ cs, reC w L[j] cs ∧ ∀ i u, cs[i]? = some u → w.cell? ⟨g, o + j * 3 + i, none⟩ = some u) (hb : Below w.heap.size w w') (j : Nat) (hj : j < L.length) :
    w'.cell? ⟨g, o + j * 3, none⟩ = some (.int .i64 L[j].pl) ∧ w'.cell? ⟨g, o + j * 3 + 1, none⟩ = some (.int .i64 L[j].sym) ∧ w'.cell? ⟨g, o + j * 3 + 2, none⟩ = some (.int .i64 L[j].add) ∧ In64 L[j].pl ∧ In64 L[j].sym ∧ In64 L[j].add := by
  obtain ⟨cs, ⟨rfl, r⟩, q⟩ := E j hj
  have key : ∀ i u, ([.int .i64 L[j].pl, .int .i64 L[j].sym, .int .i64 L[j].add] : List Value)[i]? = some u → w'.cell? ⟨g, o + j * 3 + i, none⟩ = some u := fun i u hu => (hb.cell (p := ⟨g, o + j * 3 + i, none⟩) hg).trans (q i u hu)
  exact ⟨key 0 _ rfl, key 1 _ rfl, key 2 _ rfl, r⟩
theorem nw_cells {w w' : World} {g o : Nat} {L : List Int} (hg : g < w.heap.size) (E : ∀ j (h : j < L.length), ∃ cs, u32C w L[j] cs ∧ ∀ i u, cs[i]? = some u → w.cell? ⟨g, o + j * 1 + i, none⟩ = some u) (hb : Below w.heap.size w w') (j : Nat) (hj : j < L.length) :
    w'.cell? ⟨g, o + j, none⟩ = some (.int .u32 L[j]) ∧ N4 L[j] := by
  obtain ⟨cs, ⟨rfl, r⟩, q⟩ := E j hj
  have := (hb.cell (p := ⟨g, o + j * 1 + 0, none⟩) hg).trans (q 0 _ rfl)
  simp only [Nat.mul_one, Nat.add_zero] at this
  exact ⟨this, r⟩
end Go.Proofs.Ythbhlmbhnidbhaa.T
