/- The contracts of the reference's Rows and Find. -/
import Derived.Test.YthbhlmbhnidbhaaProg
import Derived.Test.YthbhlmbhnidbhaaTab
import Derived.LoopTactic
import Derived.Outline
import Derived.Maps.AppendAt
namespace Go.Proofs.Ythbhlmbhnidbhaa.W
open Go.RowKit Go.Proofs.Ythbhlmbhnidbhaa.M
set_option linter.unusedVariables false

theorem ret_int {k : IntKind} {a b : Int} (h : a = b) : Ending.returned (.int k a) = .returned (.int k b) := by rw [h]
theorem ret_bool {a b : Bool} (h : a = b) : Ending.returned (.bool a) = .returned (.bool b) := by rw [h]
theorem bcell {W w1 : World} (hb : Below W.heap.size W w1) : (∀ b o, b < W.heap.size → w1.cell? ⟨b, o, none⟩ = W.cell? ⟨b, o, none⟩) ∧ (∀ b o, b < W.heap.size → w1.frozen? ⟨b, o, none⟩ = W.frozen? ⟨b, o, none⟩) :=
  ⟨fun b o h => hb.cell (p := ⟨b, o, none⟩) h, fun b o h => hb.frozen (p := ⟨b, o, none⟩) h⟩
theorem info38 : (Try.prog.info? 70).map (fun i => (i.zero, i.size, i.bytes)) = some (some (.agg #[.int .i64 0, .string ⟨#[]⟩, .string ⟨#[]⟩, .bool false]), 4, 48) := by kernel_rfl

theorem ops_cells {w1 : World} {g : Nat} {t : TypeId} (h : w1.heap[g]? = some (.cells (ops.map Value.string).toArray t (0, 0))) (j : Nat) (hj : j < 12) : w1.cell? ⟨g, j, none⟩ = some (.string (ops[j]'(by rw [ops_length]; exact hj))) := by
  simp [World.cell?, h]
theorem rows_step {w wr w2 : World} {v v' : Value} {k : Nat} {o : Obj} (hk : k < 12) (hB : Below w.heap.size w wr) (hz : w.heap.size + 1 < wr.heap.size)
    (hown : wr.ownsRow w.heap.size 70 4 v (13 + k) (cellsOf (tab.take (13 + k)))) (hne : v.ownBlock ≠ some (w.heap.size + 1))
    (hop : ∀ j, (hj : j < 12) → wr.cell? ⟨w.heap.size + 1, j, none⟩ = some (.string (ops[j]'(by rw [ops_length]; exact hj))))
    (hg : (wr.alloc o).grownBy w2 v.ownBlock) (hb : v'.ownBlock = v.ownBlock ∨ v'.ownBlock = some (wr.heap.size + 1)) :
    v'.ownBlock ≠ some (w.heap.size + 1) ∧ (∀ j, (hj : j < 12) → w2.cell? ⟨w.heap.size + 1, j, none⟩ = some (.string (ops[j]'(by rw [ops_length]; exact hj)))) ∧ w.heap.size + 1 < w2.heap.size ∧ Below w.heap.size w w2 := by
  have hs := hg.size
  simp at hs
  refine ⟨?_, fun j hj => ?_, by omega, ?_⟩
  · rcases hb with h | h
    · rw [h]; exact hne
    · rw [h]; intro e; simp at e; omega
  · rw [World.cell?_of_block (w := wr.alloc o) (a := ⟨w.heap.size + 1, j, none⟩) (hg.block _ (by simp; omega) (fun e => hne e.symm))]
    exact (World.cell?_alloc_past _ _ _ hz).trans (hop j hj)
  · exact (hB.alloc (by omega) o).grown hg (by simp; omega) (fun q hq => (hown.lt q hq).1)

set_option maxRecDepth 100000 in
set_option maxHeartbeats 2000000 in
theorem rows_any (w : World) :
    Calls Try.prog 41 #[] w fun e w' => ∃ v, e = .returned v ∧ w'.ownsRow w.heap.size 70 4 v 25 (cellsOf tab) ∧ Below w.heap.size w w' := by
  obtain ⟨i0, hi, hz0, hz1, hz2⟩ := info_parts info38
  have hown0 : ((w.alloc (.cells (cellsOf (tab.take 13)).toArray 70)).alloc (.cells (ops.map Value.string).toArray 9)).ownsRow w.heap.size 70 4 (.slice (some ⟨w.heap.size, 0, none⟩) 13 13) 13 (cellsOf (tab.take 13)) :=
    (World.ownsRow_lit (base := w.heap.size) (e := 70) (size := 4) w (cellsOf (tab.take 13)).toArray 13 (Nat.le_refl _) (by unfold maxLen; omega) rfl).alloc _
  have hnm0 : ((w.alloc (.cells (cellsOf (tab.take 13)).toArray 70)).alloc (.cells (ops.map Value.string).toArray 9)).heap[w.heap.size + 1]? = some (.cells (ops.map Value.string).toArray 9 (0, 0)) := by
    have := heap_alloc_new (w.alloc (.cells (cellsOf (tab.take 13)).toArray 70)) (.cells (ops.map Value.string).toArray 9)
    simpa using this
  have hB0 : Below w.heap.size w ((w.alloc (.cells (cellsOf (tab.take 13)).toArray 70)).alloc (.cells (ops.map Value.string).toArray 9)) := ((Below.refl _ _).alloc (Nat.le_refl _) _).alloc (by simp) _
  have hsz : w.heap.size + 1 < ((w.alloc (.cells (cellsOf (tab.take 13)).toArray 70)).alloc (.cells (ops.map Value.string).toArray 9)).heap.size := by simp
  have HS := hide (And.intro hown0 (And.intro (ops_cells hnm0) (And.intro hB0 hsz)))
  clear hown0 hnm0 hB0 hsz
  go_enter Try.func41, Try.ntmps41
  go_wp2
  go_loopw [1, 3] (fun v i wr => ∃ k : Nat, k ≤ 12 ∧ i = .int .i64 k ∧ wr.ownsRow w.heap.size 70 4 v (13 + k) (cellsOf (tab.take (13 + k))) ∧ v.ownBlock ≠ some (w.heap.size + 1) ∧ (∀ j, (hj : j < 12) → wr.cell? ⟨w.heap.size + 1, j, none⟩ = some (.string (ops[j]'(by rw [ops_length]; exact hj)))) ∧ w.heap.size + 1 < wr.heap.size ∧ Below w.heap.size w wr) (fun _ i _ => 12 - (intOf i).toNat)
  case atStart =>
    obtain ⟨h1, h2, h3, h4⟩ := unhide HS
    exact ⟨0, by omega, rfl, h1, by simp [Value.ownBlock], h2, h4, h3⟩
  case round =>
    obtain ⟨k, hk, rfl, hown, hne, hop, hz, hB⟩ := hrel
    clear HS
    by_cases hlt : k < 12
    · have hc := hop k hlt
      have hc4 := cellsOf_op k hlt
      have HC4 := hide hc4
      clear hc4
      generalize hnm : ops[k]'(by rw [ops_length]; exact hlt) = nm at *
      go_wp2_with (at_builtin; refine wpList_append_own_at _ rfl _ _ 90 rfl w.heap.size 70 i0 (.agg #[.int .i64 0, .string ⟨#[]⟩, .string ⟨#[]⟩, .bool false]) 4 48 Try.underlying90 hi hz0 hz1 hz2 rfl (by decide) _ _ _ rfl (hown.alloc _) ⟨wr.heap.size, 0, none⟩ 1 1 [.int .i64 (4 + (k : Int)), .string nm, .string ⟨#[65, 66, 67]⟩, .bool false] rfl rfl ?c1 ?c2 ?c3 ?c4 ?c5 ?_)
      case c1 =>
        intro j u hj
        match j, hj with
        | 0, hj => simp at hj; subst hj; simp [Addr.add]
        | 1, hj => simp at hj; subst hj; simp [Addr.add]
        | 2, hj => simp at hj; subst hj; simp [Addr.add]
        | 3, hj => simp at hj; subst hj; simp [Addr.add]
      case c2 => intro u hu; simp at hu; rcases hu with rfl | rfl | rfl | rfl <;> rfl
      case c3 => unfold maxLen; omega
      case c4 => omega
      case c5 => simp; omega
      · intro v' w2 hown' hg _ hb
        have R := rows_step hlt hB hz hown hne hop hg hb
        have O : w2.ownsRow w.heap.size 70 4 v' (13 + (k + 1)) (cellsOf (tab.take (13 + (k + 1)))) := by rw [unhide HC4]; exact hown'
        have R2 := hide (And.intro O R)
        clear O R hown' hg hb hown hne hop hB hc
        go_wp2
        go_roundw
        case rel =>
          obtain ⟨h1, h2, h3, h4, h5⟩ := unhide R2
          exact ⟨k + 1, by omega, by go_num, h1, h2, h3, h4, h5⟩
        case measure => simp [intOf]; omega
    · have hk12 : k = 12 := by omega
      subst hk12
      go_wp2
      go_ret
      exact ⟨_, rfl, hown, hB⟩
end Go.Proofs.Ythbhlmbhnidbhaa.W
