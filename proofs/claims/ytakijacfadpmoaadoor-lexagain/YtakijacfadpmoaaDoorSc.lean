/- The program's scanner in the world; its method fail. -/
import Derived.Test.YtakijacfadpmoaaDoorPass
import Derived.Test.YtakijacfadpmoaaDoorPLeaf
import Derived.Carry
import Derived.Laws.Rows
namespace Go.Proofs.YtakijacfadpmoaaDoor.T
open Go.RowKit
set_option linter.unusedVariables false
set_option linter.unusedSimpArgs false
theorem cells_at {W : World} {b : Nat} {cur : Array Value} {t : TypeId} (h : W.heap[b]? = some (.cells cur t (0, 0))) : ∀ o, W.cell? ⟨b, o, none⟩ = cur[o]? := fun o => by simp [World.cell?, h]
theorem frozen_at {W : World} {b : Nat} {cur : Array Value} {t : TypeId} (h : W.heap[b]? = some (.cells cur t (0, 0))) : ∀ o, W.frozen? ⟨b, o, none⟩ = false := fun o => by simp only [World.frozen?, h]; rfl
/-- What the cells of a scanner hold. -/
def scArr (t : ByteArray) (c p : Int) (i : Nat) (v : Value) : Array Value := #[.int .i64 c, .int .i64 p, .string t, .int .i64 i, v]
/-- The scanner: its block b, its text, its fault, where it is, its tokens; w0: the world ahead of the call of Scan. -/
structure Sc (w0 w : World) (b : Nat) (t : ByteArray) (c p : Int) (i : Nat) (L : List Tok) : Prop where
  len : t.size ≤ 4000
  le : i ≤ t.size
  many : L.length ≤ i
  base : w0.heap.size ≤ b
  blk : ∃ v, w.heap[b]? = some (.cells #[.int .i64 c, .int .i64 p, .string t, .int .i64 i, v] 32 (0, 0)) ∧ w.ownsRow w0.heap.size 29 3 v L.length (toks L)
  below : Below w0.heap.size w0 w
variable {w0 w : World} {b : Nat} {t : ByteArray} {c p : Int} {i : Nat} {L : List Tok}
theorem Sc.lt (h : Sc w0 w b t c p i L) : b < w.heap.size := by
  obtain ⟨v, h1, _⟩ := h.blk
  exact (Array.getElem?_eq_some_iff.1 h1).1
/-- What is made beside it leaves it. -/
theorem Sc.kept (h : Sc w0 w b t c p i L) {w' : World} (hb : Below w.heap.size w w') : Sc w0 w' b t c p i L := by
  obtain ⟨v, h1, h2⟩ := h.blk
  exact ⟨h.len, h.le, h.many, h.base, ⟨v, (hb.block b h.lt).trans h1, own_below h2 hb⟩, h.below.trans (hb.mono h.below.size)⟩
theorem own_set {w : World} {ob : Nat} {v : Value} {n : Nat} {xs : List Value} {b o : Nat} {x : Value} {cur : Array Value} (h : w.ownsRow ob 29 3 v n xs) (hb : w.heap[b]? = some (.cells cur 32 (0, 0))) : (w.setCell ⟨b, o, none⟩ x).ownsRow ob 29 3 v n xs := by
  refine ⟨h.1, ?_⟩
  rcases h.2 with h2 | ⟨g, cap, cu, hv, hg, hh, r⟩
  · exact Or.inl h2
  · refine Or.inr ⟨g, cap, cu, hv, hg, (Below.heap_setCell _ _ _ g (fun e => ?_)).trans hh, r⟩
    have e' : g = b := e
    rw [e', hb] at hh
    simp at hh
theorem Sc.at (h : Sc w0 w b t c p i L) (j : Nat) (hj : j ≤ t.size) (hL : L.length ≤ j) : Sc w0 (w.setCell ⟨b, 3, none⟩ (.int .i64 j)) b t c p j L := by
  obtain ⟨v, h1, h2⟩ := h.blk
  exact ⟨h.len, hj, hL, h.base, ⟨v, (heap_setCell_same w b 3 _ 32 _ h1).trans rfl, own_set h2 h1⟩, h.below.setCell h.base _⟩
theorem Sc.fail (h : Sc w0 w b t c p i L) (c' : Int) : Sc w0 ((w.setCell ⟨b, 0, none⟩ (.int .i64 c')).setCell ⟨b, 1, none⟩ (.int .i64 i)) b t c' i i L := by
  obtain ⟨v, h1, h2⟩ := h.blk
  have k1 : (w.setCell ⟨b, 0, none⟩ (.int .i64 c')).heap[b]? = some (.cells #[.int .i64 c', .int .i64 p, .string t, .int .i64 i, v] 32 (0, 0)) := (heap_setCell_same w b 0 _ 32 _ h1).trans rfl
  exact ⟨h.len, h.le, h.many, h.base, ⟨v, (heap_setCell_same (w.setCell ⟨b, 0, none⟩ (.int .i64 c')) b 1 _ 32 _ k1).trans rfl, own_set (own_set h2 h1) k1⟩, (h.below.setCell h.base _).setCell h.base _⟩
theorem below_drew {B : Nat} {a w : World} (h : Below B a w) (n : Nat) : Below B a (w.drewN n) := ⟨h.os, h.tape, h.output, h.size, h.block⟩
set_option maxRecDepth 100000 in
set_option maxHeartbeats 1000000 in
theorem fail_any (h : Sc w0 w b t c p i L) (c' : Int) : Calls Tryd.prog 24 #[.pointer (some ⟨b, 0, none⟩), .int .i64 c'] w fun e w' => (∃ v, e = .returned v) ∧ Sc w0 w' b t c' i i L := by
  have HR := hide (h.fail c')
  obtain ⟨v, h1, h2⟩ := h.blk
  have hf := frozen_at h1
  have hc := cells_at h1
  clear h2 h h1
  go_enter Tryd.func24, Tryd.ntmps24
  go_wp2_with fail
  go_end0
  exact ⟨⟨_, rfl⟩, HR.out⟩
theorem note_call (k : Nat) (w : World) (hk : k < 256) : Calls Tryd.prog 15 #[.int .u8 k] w fun e w' => e = .returned (.bool (!decide (k = 10))) ∧ w' = w := by
  by_cases h : k = 10
  · rw [decide_eq_true h]
    have d : ((k : Int) != 10) = false := by simp; omega
    clear h
    go_enter Tryd.func15, Tryd.ntmps15
    go_wp2_with fail
    go_ret
    exact ⟨rfl, rfl⟩
  · rw [decide_eq_false h]
    have d : ((k : Int) != 10) = true := by simp; omega
    go_enter Tryd.func15, Tryd.ntmps15
    go_wp2_with fail
    go_ret
    exact ⟨rfl, rfl⟩
set_option maxRecDepth 100000 in
set_option maxHeartbeats 2000000 in
theorem row_ins_any (h : Sc w0 w b t c p i L) (g : Nat → Bool) (hg : g = insB) : Calls Tryd.prog 14 #[.pointer (some ⟨b, 0, none⟩), .func (.func 18) #[] #[]] w fun e w' => ∃ j, i ≤ j ∧ j ≤ t.size ∧ (∀ k, i ≤ k → k < j → g (byteAt t k) = true) ∧ (j = t.size ∨ g (byteAt t j) = false) ∧ e = .returned (.string (t.extract i j)) ∧ Below w.heap.size w w' := by
  have hin : ∀ (k : Nat) (w' : World), k < 256 → Calls Tryd.prog 18 #[.int .u8 k] w' fun e w'' => e = .returned (.bool (g k)) ∧ w'' = w' := fun k w' hk => by rw [hg]; exact pin_any k w' hk
  have HG := hide hg
  clear hg
  have hlen := h.len
  have hle := h.le
  obtain ⟨v, h1, h2⟩ := h.blk
  have hc := cells_at h1
  clear h2 h h1
  go_enter Tryd.func14, Tryd.ntmps14
  go_wp2_with fail
  go_loopw [5] (fun e' wr => ∃ j : Nat, i ≤ j ∧ j ≤ t.size ∧ e' = .int .i64 j ∧ wr = w ∧ Hid (∀ k, i ≤ k → k < j → g (byteAt t k) = true)) (fun e' _ => t.size - (intOf e').toNat)
  case atStart => exact ⟨i, Nat.le_refl _, hle, rfl, rfl, fun k _ _ => by omega⟩
  case round =>
    obtain ⟨j, hij, hjs, rfl, rfl, HE⟩ := hrel
    by_cases hjt : j < t.size
    · have hjt' : (j : Int) < t.size := by omega
      have hjid : (0 : Int) ≤ j ∧ (j : Int) < t.size := by omega
      have hj8 : t[j].toNat < 256 := UInt8.toNat_lt _
      have HB := hide (byteAt_get t j hjt)
      have hcall := fun w' => hin t[j].toNat w' hj8
      clear hin
      cases hI : g t[j].toNat with
      | true =>
        rw [hI] at hcall
        have HE3 : Hid (∀ k, i ≤ k → k < j + 1 → g (byteAt t k) = true) := fun k k1 k2 => by
          by_cases e : k = j
          · subst e; rw [HB.out]; exact hI
          · exact HE.out k k1 (by omega)
        clear hI
        go_wp2_with fail
        go_at_call 18
        refine (hcall _).mono ?_
        rintro e w1 ⟨rfl, rfl⟩
        go_wp2_with fail
        go_roundw
        case rel => exact ⟨j + 1, by omega, by omega, by go_num, trivial, HE3⟩
        case measure => simp [intOf]; omega
      | false =>
        rw [hI] at hcall
        have HF : Hid (g (byteAt t j) = false) := by show _ = _; rw [HB.out]; exact hI
        have hsl2 : (0 : Int) ≤ i ∧ (i : Int) ≤ j ∧ (j : Int) ≤ t.size := by omega
        clear hI
        go_wp2_with fail
        go_at_call 18
        refine (hcall _).mono ?_
        rintro e w1 ⟨rfl, rfl⟩
        go_wp2_with fail
        go_quiet (fail)
        generalize nq = q
        go_wp2_with fail
        go_ret
        exact ⟨j, hij, hjs, HE.out, Or.inr HF.out, rfl, below_drew (Below.refl _ _) _⟩
    · have HJ : Hid (j = t.size) := by show _ = _; omega
      have hjt' : ¬ (j : Int) < t.size := by omega
      have hsl2 : (0 : Int) ≤ i ∧ (i : Int) ≤ j ∧ (j : Int) ≤ t.size := by omega
      clear hin
      go_wp2_with fail
      go_quiet (fail)
      generalize nq = q
      go_wp2_with fail
      go_ret
      exact ⟨j, hij, hjs, HE.out, Or.inl HJ.out, rfl, below_drew (Below.refl _ _) _⟩
set_option maxRecDepth 100000 in
set_option maxHeartbeats 2000000 in
theorem row_note_any (h : Sc w0 w b t c p i L) (g : Nat → Bool) (hg : g = fun k => !decide (k = 10)) : Calls Tryd.prog 14 #[.pointer (some ⟨b, 0, none⟩), .func (.func 15) #[] #[]] w fun e w' => ∃ j, i ≤ j ∧ j ≤ t.size ∧ (∀ k, i ≤ k → k < j → g (byteAt t k) = true) ∧ (j = t.size ∨ g (byteAt t j) = false) ∧ e = .returned (.string (t.extract i j)) ∧ Below w.heap.size w w' := by
  have hin : ∀ (k : Nat) (w' : World), k < 256 → Calls Tryd.prog 15 #[.int .u8 k] w' fun e w'' => e = .returned (.bool (g k)) ∧ w'' = w' := fun k w' hk => by rw [hg]; exact note_call k w' hk
  have HG := hide hg
  clear hg
  have hlen := h.len
  have hle := h.le
  obtain ⟨v, h1, h2⟩ := h.blk
  have hc := cells_at h1
  clear h2 h h1
  go_enter Tryd.func14, Tryd.ntmps14
  go_wp2_with fail
  go_loopw [5] (fun e' wr => ∃ j : Nat, i ≤ j ∧ j ≤ t.size ∧ e' = .int .i64 j ∧ wr = w ∧ Hid (∀ k, i ≤ k → k < j → g (byteAt t k) = true)) (fun e' _ => t.size - (intOf e').toNat)
  case atStart => exact ⟨i, Nat.le_refl _, hle, rfl, rfl, fun k _ _ => by omega⟩
  case round =>
    obtain ⟨j, hij, hjs, rfl, rfl, HE⟩ := hrel
    by_cases hjt : j < t.size
    · have hjt' : (j : Int) < t.size := by omega
      have hjid : (0 : Int) ≤ j ∧ (j : Int) < t.size := by omega
      have hj8 : t[j].toNat < 256 := UInt8.toNat_lt _
      have HB := hide (byteAt_get t j hjt)
      have hcall := fun w' => hin t[j].toNat w' hj8
      clear hin
      cases hI : g t[j].toNat with
      | true =>
        rw [hI] at hcall
        have HE3 : Hid (∀ k, i ≤ k → k < j + 1 → g (byteAt t k) = true) := fun k k1 k2 => by
          by_cases e : k = j
          · subst e; rw [HB.out]; exact hI
          · exact HE.out k k1 (by omega)
        clear hI
        go_wp2_with fail
        go_at_call 15
        refine (hcall _).mono ?_
        rintro e w1 ⟨rfl, rfl⟩
        go_wp2_with fail
        go_roundw
        case rel => exact ⟨j + 1, by omega, by omega, by go_num, trivial, HE3⟩
        case measure => simp [intOf]; omega
      | false =>
        rw [hI] at hcall
        have HF : Hid (g (byteAt t j) = false) := by show _ = _; rw [HB.out]; exact hI
        have hsl2 : (0 : Int) ≤ i ∧ (i : Int) ≤ j ∧ (j : Int) ≤ t.size := by omega
        clear hI
        go_wp2_with fail
        go_at_call 15
        refine (hcall _).mono ?_
        rintro e w1 ⟨rfl, rfl⟩
        go_wp2_with fail
        go_quiet (fail)
        generalize nq = q
        go_wp2_with fail
        go_ret
        exact ⟨j, hij, hjs, HE.out, Or.inr HF.out, rfl, below_drew (Below.refl _ _) _⟩
    · have HJ : Hid (j = t.size) := by show _ = _; omega
      have hjt' : ¬ (j : Int) < t.size := by omega
      have hsl2 : (0 : Int) ≤ i ∧ (i : Int) ≤ j ∧ (j : Int) ≤ t.size := by omega
      clear hin
      go_wp2_with fail
      go_quiet (fail)
      generalize nq = q
      go_wp2_with fail
      go_ret
      exact ⟨j, hij, hjs, HE.out, Or.inl HJ.out, rfl, below_drew (Below.refl _ _) _⟩
end Go.Proofs.YtakijacfadpmoaaDoor.T
