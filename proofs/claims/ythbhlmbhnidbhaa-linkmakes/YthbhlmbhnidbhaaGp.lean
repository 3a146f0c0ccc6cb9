/- Small laws of rows (of rounds 17 and 18) that the link asks for. -/
import Derived.Test.YthbhlmbhnidbhaaLf
namespace Go.Proofs.Ythbhlmbhnidbhaa.T
open Go.RowKit Go.Proofs.Ythbhlmbhnidbhaa.M
set_option linter.unusedVariables false
set_option linter.unusedSimpArgs false
/-- Bytes as cells. -/
def bc (l : List UInt8) : List Value := l.map fun b => Value.int .u8 b.toNat
theorem i32_cells {w w' : World} {g o : Nat} {L : List Int} (hg : g < w.heap.size) (E : ∀ j (h : j < L.length), ∃ cs, i32C w L[j] cs ∧ ∀ i u, cs[i]? = some u → w.cell? ⟨g, o + j * 1 + i, none⟩ = some u) (hb : Below w.heap.size w w') (j : Nat) (hj : j < L.length) :
    w'.cell? ⟨g, o + j, none⟩ = some (.int .i32 L[j]) ∧ -2147483648 ≤ L[j] ∧ L[j] ≤ 2147483647 := by
  obtain ⟨cs, ⟨rfl, r⟩, q⟩ := E j hj
  have := (hb.cell (p := ⟨g, o + j * 1 + 0, none⟩) hg).trans (q 0 _ rfl)
  simp only [Nat.mul_one, Nat.add_zero] at this
  exact ⟨this, r⟩
/-- Rows of cells, as what they are read as. -/
theorem row_u32 {w : World} {n0 n : Nat} {v : Value} {l : List Int} (h : w.ownsRow n0 34 1 v n (l.map (Value.int .u32))) (hl : ∀ x, x ∈ l → N4 x) : RowV u32C 1 w v l := by
  have e : l.length = n := by have := h.1; simpa using this
  subst e
  rcases h.2 with ⟨rfl, h0⟩ | ⟨g, cap, cur, rfl, hg, hh, a1, a2, a3, a4⟩
  · exact ⟨none, 0, by rw [h0], by omega, by omega, fun h => absurd h (by omega)⟩
  · refine ⟨_, _, rfl, a1, by unfold maxLen at a2; omega, fun h0 => ⟨g, 0, rfl, (Array.getElem?_eq_some_iff.1 hh).1, fun j hj => ⟨[.int .u32 l[j]], ⟨rfl, hl _ (List.getElem_mem hj)⟩, fun i u hu => ?_⟩⟩⟩
    obtain rfl : i = 0 := by
      cases i with
      | zero => rfl
      | succ i => simp at hu
    simp at hu
    subst hu
    have := h.cells (g := g) rfl j (.int .u32 l[j]) (by simp [hj])
    rw [Addr.add_lit] at this
    simpa using this
theorem row_i32 {w : World} {n0 n : Nat} {v : Value} {l : List Int} (h : w.ownsRow n0 21 1 v n (l.map (Value.int .i32))) (hl : ∀ x, x ∈ l → -2147483648 ≤ x ∧ x ≤ 2147483647) : RowV i32C 1 w v l := by
  have e : l.length = n := by have := h.1; simpa using this
  subst e
  rcases h.2 with ⟨rfl, h0⟩ | ⟨g, cap, cur, rfl, hg, hh, a1, a2, a3, a4⟩
  · exact ⟨none, 0, by rw [h0], by omega, by omega, fun h => absurd h (by omega)⟩
  · refine ⟨_, _, rfl, a1, by unfold maxLen at a2; omega, fun h0 => ⟨g, 0, rfl, (Array.getElem?_eq_some_iff.1 hh).1, fun j hj => ⟨[.int .i32 l[j]], ⟨rfl, hl _ (List.getElem_mem hj)⟩, fun i u hu => ?_⟩⟩⟩
    obtain rfl : i = 0 := by
      cases i with
      | zero => rfl
      | succ i => simp at hu
    simp at hu
    subst hu
    have := h.cells (g := g) rfl j (.int .i32 l[j]) (by simp [hj])
    rw [Addr.add_lit] at this
    simpa using this
theorem flat_k {α : Type} (f : α → List Value) (k : Nat) (hk : ∀ x, (f x).length = k) (L : List α) : (L.flatMap f).length = L.length * k := by
  induction L with
  | nil => simp
  | cons x L ih => rw [List.flatMap_cons, List.length_append, ih, hk, List.length_cons, Nat.succ_mul]; omega
theorem flat_at {α : Type} (f : α → List Value) (k : Nat) (hk : ∀ x, (f x).length = k) : ∀ (L : List α) (j : Nat) (hj : j < L.length) (i : Nat) (u : Value), (f L[j])[i]? = some u → (L.flatMap f)[j * k + i]? = some u
  | [], j, hj, _, _, _ => absurd hj (by simp)
  | x :: L, 0, hj, i, u, hu => by
    have hi : i < (f x).length := (List.getElem?_eq_some_iff.1 hu).1
    rw [List.flatMap_cons, Nat.zero_mul, Nat.zero_add, List.getElem?_append_left hi]
    exact hu
  | x :: L, j + 1, hj, i, u, hu => by
    have := flat_at f k hk L j (by simpa using hj) i u (by simpa using hu)
    rw [List.flatMap_cons, List.getElem?_append_right (by rw [hk]; rw [Nat.succ_mul]; omega), hk, show (j + 1) * k + i - k = j * k + i by rw [Nat.succ_mul]; omega]
    exact this
theorem row_flat {α : Type} {P : World → α → List Value → Prop} (f : α → List Value) (e : TypeId) (k : Nat) (hk : ∀ x, (f x).length = k) (hk0 : 0 < k) {w : World} {n0 n : Nat} {v : Value} {l : List α} (h : w.ownsRow n0 e k v n (l.flatMap f)) (hl : ∀ x, x ∈ l → P w x (f x)) : RowV P k w v l := by
  have e : l.length = n := by
    have := h.1
    rw [flat_k f k hk] at this
    exact Nat.eq_of_mul_eq_mul_right hk0 this
  subst e
  rcases h.2 with ⟨rfl, h0⟩ | ⟨g, cap, cur, rfl, hg, hh, a1, a2, a3, a4⟩
  · exact ⟨none, 0, by rw [h0], by omega, by omega, fun h => absurd h (by omega)⟩
  · refine ⟨_, _, rfl, a1, by unfold maxLen at a2; omega, fun h0 => ⟨g, 0, rfl, (Array.getElem?_eq_some_iff.1 hh).1, fun j hj => ⟨f l[j], hl _ (List.getElem_mem hj), fun i u hu => ?_⟩⟩⟩
    have := h.cells (g := g) rfl (j * k + i) u (flat_at f k hk l j hj i u hu)
    rw [Addr.add_lit] at this
    rw [show 0 + j * k + i = 0 + (j * k + i) by omega]
    exact this
theorem info34 : (Try.prog.info? 34).map (fun i => (i.zero, i.size, i.bytes)) = some (some (.int .u32 0), 1, 4) := by kernel_rfl
theorem info21 : (Try.prog.info? 21).map (fun i => (i.zero, i.size, i.bytes)) = some (some (.int .i32 0), 1, 4) := by kernel_rfl
end Go.Proofs.Ythbhlmbhnidbhaa.T
