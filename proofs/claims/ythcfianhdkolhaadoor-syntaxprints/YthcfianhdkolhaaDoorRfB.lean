/- The contracts of the reference's class, of, wants. -/
import Derived.Test.YthcfianhdkolhaaDoorRfA
namespace Go.Proofs.YthcfianhdkolhaaDoor.T
open Go.RowKit Go.Proofs.YthcfianhdkolhaaDoor.S
set_option linter.unusedVariables false
set_option linter.unusedSimpArgs false
theorem cls_lo {k : Int} (h : k < 2) : clsN k = 5 := by unfold clsN; repeat rw [if_neg (by omega)]
set_option maxRecDepth 100000 in
set_option maxHeartbeats 800000 in
theorem class_any (k : Int) (w : World) : Calls Tryd.prog 22 #[.int .i64 k] w fun e w' => e = .returned (.int .i64 (clsN k)) ∧ w' = w := by
  have hr : (k < 2) ∨ (k = 2) ∨ (k = 3) ∨ (4 ≤ k ∧ k ≤ 7) ∨ (k = 8) ∨ (9 ≤ k ∧ k ≤ 12) ∨ (k = 13) ∨ (14 ≤ k ∧ k ≤ 20) ∨ (21 ≤ k ∧ k ≤ 34) ∨ (35 ≤ k) := by omega
  rcases hr with h | h | h | h | h | h | h | h | h | h
  · have hc : clsN k = 5 := by unfold clsN; repeat' split <;> first | rfl | omega
    rw [hc]
    have hq : (k == 2) = false := by simp; omega
    have g4 : ¬ (4 : Int) ≤ k := by omega
    have g9 : ¬ (9 : Int) ≤ k := by omega
    have g14 : ¬ (14 : Int) ≤ k := by omega
    have g21 : ¬ (21 : Int) ≤ k := by omega
    have l7 : k ≤ (7 : Int) := by omega
    have l12 : k ≤ (12 : Int) := by omega
    have l20 : k ≤ (20 : Int) := by omega
    have l34 : k ≤ (34 : Int) := by omega
    clear hc h
    go_enter Tryd.func22, Tryd.ntmps22
    go_wp2_with fail
    go_ret
    exact ⟨rfl, rfl⟩
  · have hc : clsN k = 1 := by unfold clsN; repeat' split <;> first | rfl | omega
    rw [hc]
    have hq : (k == 2) = true := by simp; omega
    have g4 : ¬ (4 : Int) ≤ k := by omega
    have g9 : ¬ (9 : Int) ≤ k := by omega
    have g14 : ¬ (14 : Int) ≤ k := by omega
    have g21 : ¬ (21 : Int) ≤ k := by omega
    have l7 : k ≤ (7 : Int) := by omega
    have l12 : k ≤ (12 : Int) := by omega
    have l20 : k ≤ (20 : Int) := by omega
    have l34 : k ≤ (34 : Int) := by omega
    clear hc h
    go_enter Tryd.func22, Tryd.ntmps22
    go_wp2_with fail
    go_ret
    exact ⟨rfl, rfl⟩
  · have hc : clsN k = 5 := by unfold clsN; repeat' split <;> first | rfl | omega
    rw [hc]
    have hq : (k == 2) = false := by simp; omega
    have g4 : ¬ (4 : Int) ≤ k := by omega
    have g9 : ¬ (9 : Int) ≤ k := by omega
    have g14 : ¬ (14 : Int) ≤ k := by omega
    have g21 : ¬ (21 : Int) ≤ k := by omega
    have l7 : k ≤ (7 : Int) := by omega
    have l12 : k ≤ (12 : Int) := by omega
    have l20 : k ≤ (20 : Int) := by omega
    have l34 : k ≤ (34 : Int) := by omega
    clear hc h
    go_enter Tryd.func22, Tryd.ntmps22
    go_wp2_with fail
    go_ret
    exact ⟨rfl, rfl⟩
  · have hc : clsN k = 1 := by unfold clsN; repeat' split <;> first | rfl | omega
    rw [hc]
    have hq : (k == 2) = false := by simp; omega
    have g4 : (4 : Int) ≤ k := by omega
    have g9 : ¬ (9 : Int) ≤ k := by omega
    have g14 : ¬ (14 : Int) ≤ k := by omega
    have g21 : ¬ (21 : Int) ≤ k := by omega
    have l7 : k ≤ (7 : Int) := by omega
    have l12 : k ≤ (12 : Int) := by omega
    have l20 : k ≤ (20 : Int) := by omega
    have l34 : k ≤ (34 : Int) := by omega
    clear hc h
    go_enter Tryd.func22, Tryd.ntmps22
    go_wp2_with fail
    go_ret
    exact ⟨rfl, rfl⟩
  · have hc : clsN k = 5 := by unfold clsN; repeat' split <;> first | rfl | omega
    rw [hc]
    have hq : (k == 2) = false := by simp; omega
    have g4 : (4 : Int) ≤ k := by omega
    have g9 : ¬ (9 : Int) ≤ k := by omega
    have g14 : ¬ (14 : Int) ≤ k := by omega
    have g21 : ¬ (21 : Int) ≤ k := by omega
    have l7 : ¬ k ≤ (7 : Int) := by omega
    have l12 : k ≤ (12 : Int) := by omega
    have l20 : k ≤ (20 : Int) := by omega
    have l34 : k ≤ (34 : Int) := by omega
    clear hc h
    go_enter Tryd.func22, Tryd.ntmps22
    go_wp2_with fail
    go_ret
    exact ⟨rfl, rfl⟩
  · have hc : clsN k = 2 := by unfold clsN; repeat' split <;> first | rfl | omega
    rw [hc]
    have hq : (k == 2) = false := by simp; omega
    have g4 : (4 : Int) ≤ k := by omega
    have g9 : (9 : Int) ≤ k := by omega
    have g14 : ¬ (14 : Int) ≤ k := by omega
    have g21 : ¬ (21 : Int) ≤ k := by omega
    have l7 : ¬ k ≤ (7 : Int) := by omega
    have l12 : k ≤ (12 : Int) := by omega
    have l20 : k ≤ (20 : Int) := by omega
    have l34 : k ≤ (34 : Int) := by omega
    clear hc h
    go_enter Tryd.func22, Tryd.ntmps22
    go_wp2_with fail
    go_ret
    exact ⟨rfl, rfl⟩
  · have hc : clsN k = 5 := by unfold clsN; repeat' split <;> first | rfl | omega
    rw [hc]
    have hq : (k == 2) = false := by simp; omega
    have g4 : (4 : Int) ≤ k := by omega
    have g9 : (9 : Int) ≤ k := by omega
    have g14 : ¬ (14 : Int) ≤ k := by omega
    have g21 : ¬ (21 : Int) ≤ k := by omega
    have l7 : ¬ k ≤ (7 : Int) := by omega
    have l12 : ¬ k ≤ (12 : Int) := by omega
    have l20 : k ≤ (20 : Int) := by omega
    have l34 : k ≤ (34 : Int) := by omega
    clear hc h
    go_enter Tryd.func22, Tryd.ntmps22
    go_wp2_with fail
    go_ret
    exact ⟨rfl, rfl⟩
  · have hc : clsN k = 3 := by unfold clsN; repeat' split <;> first | rfl | omega
    rw [hc]
    have hq : (k == 2) = false := by simp; omega
    have g4 : (4 : Int) ≤ k := by omega
    have g9 : (9 : Int) ≤ k := by omega
    have g14 : (14 : Int) ≤ k := by omega
    have g21 : ¬ (21 : Int) ≤ k := by omega
    have l7 : ¬ k ≤ (7 : Int) := by omega
    have l12 : ¬ k ≤ (12 : Int) := by omega
    have l20 : k ≤ (20 : Int) := by omega
    have l34 : k ≤ (34 : Int) := by omega
    clear hc h
    go_enter Tryd.func22, Tryd.ntmps22
    go_wp2_with fail
    go_ret
    exact ⟨rfl, rfl⟩
  · have hc : clsN k = 4 := by unfold clsN; repeat' split <;> first | rfl | omega
    rw [hc]
    have hq : (k == 2) = false := by simp; omega
    have g4 : (4 : Int) ≤ k := by omega
    have g9 : (9 : Int) ≤ k := by omega
    have g14 : (14 : Int) ≤ k := by omega
    have g21 : (21 : Int) ≤ k := by omega
    have l7 : ¬ k ≤ (7 : Int) := by omega
    have l12 : ¬ k ≤ (12 : Int) := by omega
    have l20 : ¬ k ≤ (20 : Int) := by omega
    have l34 : k ≤ (34 : Int) := by omega
    clear hc h
    go_enter Tryd.func22, Tryd.ntmps22
    go_wp2_with fail
    go_ret
    exact ⟨rfl, rfl⟩
  · have hc : clsN k = 5 := by unfold clsN; repeat' split <;> first | rfl | omega
    rw [hc]
    have hq : (k == 2) = false := by simp; omega
    have g4 : (4 : Int) ≤ k := by omega
    have g9 : (9 : Int) ≤ k := by omega
    have g14 : (14 : Int) ≤ k := by omega
    have g21 : (21 : Int) ≤ k := by omega
    have l7 : ¬ k ≤ (7 : Int) := by omega
    have l12 : ¬ k ≤ (12 : Int) := by omega
    have l20 : ¬ k ≤ (20 : Int) := by omega
    have l34 : ¬ k ≤ (34 : Int) := by omega
    clear hc h
    go_enter Tryd.func22, Tryd.ntmps22
    go_wp2_with fail
    go_ret
    exact ⟨rfl, rfl⟩
def shpV (s : Bool × Int × Int × Int) : Value := .agg #[.bool s.1, .int .i64 s.2.1, .int .i64 s.2.2.1, .int .i64 s.2.2.2]
theorem info41 : (Tryd.prog.info? 41).map (·.size) = some 4 := by kernel_rfl
theorem results_cell_tmp {P : Program} {fn : Func} {t u : Tmp} {ty : TypeId} {q : Addr} {v : Value} (h : fn.results = #[.cell t ty, .tmp u]) (tmps : Array Value) (ht : tmps.getD t undef = .pointer (some q)) (w : World) (hr : (loadVar ty q).run P w = .ok v w) : (results fn tmps).run P w = .ok (.tuple #[v, tmps.getD u undef]) w := by
  have ht' : tmps[t]?.getD undef = .pointer (some q) := by simpa using ht
  simp [results, h, asAddr, ht', hr]
/-- Four cells of a shape, read. -/
theorem load41 {w : World} {b : Nat} {x : Bool} {m l u : Int} (h : w.heap[b]? = some (.cells #[.bool x, .int .i64 m, .int .i64 l, .int .i64 u] 41 (0, 0))) : (loadVar 41 ⟨b, 0, none⟩).run Tryd.prog w = .ok (shpV (x, m, l, u)) w :=
  run_loadVar_mid w b 0 41 [.bool x, .int .i64 m, .int .i64 l, .int .i64 u] _ (fun i v hv => by rw [Nat.zero_add, cells_at h]; simpa using hv) Tryd.underlying41 rfl info41
theorem set41 {w : World} {b : Nat} {c0 c1 c2 c3 : Value} (a0 a1 a2 a3 : Value) (h : w.heap[b]? = some (.cells #[c0, c1, c2, c3] 41 (0, 0))) : ((((w.setCell ⟨b, 0, none⟩ a0).setCell ⟨b, 1, none⟩ a1).setCell ⟨b, 2, none⟩ a2).setCell ⟨b, 3, none⟩ a3).heap[b]? = some (.cells #[a0, a1, a2, a3] 41 (0, 0)) := by
  have k0 : (w.setCell ⟨b, 0, none⟩ a0).heap[b]? = some (.cells #[a0, c1, c2, c3] 41 (0, 0)) := (heap_setCell_same w b 0 _ 41 _ h).trans rfl
  have k1 : ((w.setCell ⟨b, 0, none⟩ a0).setCell ⟨b, 1, none⟩ a1).heap[b]? = some (.cells #[a0, a1, c2, c3] 41 (0, 0)) := (heap_setCell_same _ b 1 _ 41 _ k0).trans rfl
  have k2 : (((w.setCell ⟨b, 0, none⟩ a0).setCell ⟨b, 1, none⟩ a1).setCell ⟨b, 2, none⟩ a2).heap[b]? = some (.cells #[a0, a1, a2, c3] 41 (0, 0)) := (heap_setCell_same _ b 2 _ 41 _ k1).trans rfl
  exact (heap_setCell_same _ b 3 _ 41 _ k2).trans rfl
set_option maxRecDepth 100000 in
set_option maxHeartbeats 800000 in
theorem of_k1 (w : World) : Calls Tryd.prog 17 #[.int .i64 1] w fun e w' => e = .returned (.tuple #[shpV (false, 0, 0, -1), .bool true]) ∧ Below w.heap.size w w' := by
  have hb : Below w.heap.size w (w.alloc (.cells #[.bool false, .int .i64 0, .int .i64 0, .int .i64 (-1)] 41)) := (Below.refl _ _).alloc (Nat.le_refl _) _
  have hn := heap_new w #[.bool false, .int .i64 0, .int .i64 0, .int .i64 (-1)] 41
  have HB := hide hb
  have HN := hide hn
  clear hb hn
  go_enter Tryd.func17, Tryd.ntmps17
  go_wp2_with fail
  refine bodyPost_ret (results_cell_tmp rfl _ rfl _ (load41 HN.out)) rfl ?_
  exact ⟨rfl, HB.out⟩
set_option maxRecDepth 100000 in
set_option maxHeartbeats 800000 in
theorem of_k13 (w : World) : Calls Tryd.prog 17 #[.int .i64 13] w fun e w' => e = .returned (.tuple #[shpV (false, 0, 0, -1), .bool true]) ∧ Below w.heap.size w w' := by
  have hb : Below w.heap.size w (w.alloc (.cells #[.bool false, .int .i64 0, .int .i64 0, .int .i64 (-1)] 41)) := (Below.refl _ _).alloc (Nat.le_refl _) _
  have hn := heap_new w #[.bool false, .int .i64 0, .int .i64 0, .int .i64 (-1)] 41
  have HB := hide hb
  have HN := hide hn
  clear hb hn
  go_enter Tryd.func17, Tryd.ntmps17
  go_wp2_with fail
  refine bodyPost_ret (results_cell_tmp rfl _ rfl _ (load41 HN.out)) rfl ?_
  exact ⟨rfl, HB.out⟩
set_option maxRecDepth 100000 in
set_option maxHeartbeats 800000 in
theorem of_k2 (w : World) : Calls Tryd.prog 17 #[.int .i64 2] w fun e w' => e = .returned (.tuple #[shpV (true, 0, 1, -1), .bool true]) ∧ Below w.heap.size w w' := by
  have hb : Below w.heap.size w (w.alloc (.cells #[.bool true, .int .i64 0, .int .i64 1, .int .i64 (-1)] 41)) := (Below.refl _ _).alloc (Nat.le_refl _) _
  have hn := heap_new w #[.bool true, .int .i64 0, .int .i64 1, .int .i64 (-1)] 41
  have HB := hide hb
  have HN := hide hn
  clear hb hn
  go_enter Tryd.func17, Tryd.ntmps17
  go_wp2_with fail
  refine bodyPost_ret (results_cell_tmp rfl _ rfl _ (load41 HN.out)) rfl ?_
  exact ⟨rfl, HB.out⟩
set_option maxRecDepth 100000 in
set_option maxHeartbeats 800000 in
theorem of_k3 (w : World) : Calls Tryd.prog 17 #[.int .i64 3] w fun e w' => e = .returned (.tuple #[shpV (true, 0, 1, 1), .bool true]) ∧ Below w.heap.size w w' := by
  have hb : Below w.heap.size w (w.alloc (.cells #[.bool true, .int .i64 0, .int .i64 1, .int .i64 1] 41)) := (Below.refl _ _).alloc (Nat.le_refl _) _
  have hn := heap_new w #[.bool true, .int .i64 0, .int .i64 1, .int .i64 1] 41
  have HB := hide hb
  have HN := hide hn
  clear hb hn
  go_enter Tryd.func17, Tryd.ntmps17
  go_wp2_with fail
  refine bodyPost_ret (results_cell_tmp rfl _ rfl _ (load41 HN.out)) rfl ?_
  exact ⟨rfl, HB.out⟩
set_option maxRecDepth 100000 in
set_option maxHeartbeats 800000 in
theorem of_k5 (w : World) : Calls Tryd.prog 17 #[.int .i64 5] w fun e w' => e = .returned (.tuple #[shpV (true, 0, 1, 1), .bool true]) ∧ Below w.heap.size w w' := by
  have hb : Below w.heap.size w (w.alloc (.cells #[.bool true, .int .i64 0, .int .i64 1, .int .i64 1] 41)) := (Below.refl _ _).alloc (Nat.le_refl _) _
  have hn := heap_new w #[.bool true, .int .i64 0, .int .i64 1, .int .i64 1] 41
  have HB := hide hb
  have HN := hide hn
  clear hb hn
  go_enter Tryd.func17, Tryd.ntmps17
  go_wp2_with fail
  refine bodyPost_ret (results_cell_tmp rfl _ rfl _ (load41 HN.out)) rfl ?_
  exact ⟨rfl, HB.out⟩
set_option maxRecDepth 100000 in
set_option maxHeartbeats 800000 in
theorem of_k8 (w : World) : Calls Tryd.prog 17 #[.int .i64 8] w fun e w' => e = .returned (.tuple #[shpV (true, 0, 1, 1), .bool true]) ∧ Below w.heap.size w w' := by
  have hb : Below w.heap.size w (w.alloc (.cells #[.bool true, .int .i64 0, .int .i64 1, .int .i64 1] 41)) := (Below.refl _ _).alloc (Nat.le_refl _) _
  have hn := heap_new w #[.bool true, .int .i64 0, .int .i64 1, .int .i64 1] 41
  have HB := hide hb
  have HN := hide hn
  clear hb hn
  go_enter Tryd.func17, Tryd.ntmps17
  go_wp2_with fail
  refine bodyPost_ret (results_cell_tmp rfl _ rfl _ (load41 HN.out)) rfl ?_
  exact ⟨rfl, HB.out⟩
set_option maxRecDepth 100000 in
set_option maxHeartbeats 800000 in
theorem of_k24 (w : World) : Calls Tryd.prog 17 #[.int .i64 24] w fun e w' => e = .returned (.tuple #[shpV (true, 0, 1, 1), .bool true]) ∧ Below w.heap.size w w' := by
  have hb : Below w.heap.size w (w.alloc (.cells #[.bool true, .int .i64 0, .int .i64 1, .int .i64 1] 41)) := (Below.refl _ _).alloc (Nat.le_refl _) _
  have hn := heap_new w #[.bool true, .int .i64 0, .int .i64 1, .int .i64 1] 41
  have HB := hide hb
  have HN := hide hn
  clear hb hn
  go_enter Tryd.func17, Tryd.ntmps17
  go_wp2_with fail
  refine bodyPost_ret (results_cell_tmp rfl _ rfl _ (load41 HN.out)) rfl ?_
  exact ⟨rfl, HB.out⟩
set_option maxRecDepth 100000 in
set_option maxHeartbeats 800000 in
theorem of_k4 (w : World) : Calls Tryd.prog 17 #[.int .i64 4] w fun e w' => e = .returned (.tuple #[shpV (true, 1, 1, -1), .bool true]) ∧ Below w.heap.size w w' := by
  have hb : Below w.heap.size w (w.alloc (.cells #[.bool true, .int .i64 1, .int .i64 1, .int .i64 (-1)] 41)) := (Below.refl _ _).alloc (Nat.le_refl _) _
  have hn := heap_new w #[.bool true, .int .i64 1, .int .i64 1, .int .i64 (-1)] 41
  have HB := hide hb
  have HN := hide hn
  clear hb hn
  go_enter Tryd.func17, Tryd.ntmps17
  go_wp2_with fail
  refine bodyPost_ret (results_cell_tmp rfl _ rfl _ (load41 HN.out)) rfl ?_
  exact ⟨rfl, HB.out⟩
set_option maxRecDepth 100000 in
set_option maxHeartbeats 800000 in
theorem of_k6 (w : World) : Calls Tryd.prog 17 #[.int .i64 6] w fun e w' => e = .returned (.tuple #[shpV (true, 1, 2, 2), .bool true]) ∧ Below w.heap.size w w' := by
  have hb : Below w.heap.size w (w.alloc (.cells #[.bool true, .int .i64 1, .int .i64 2, .int .i64 2] 41)) := (Below.refl _ _).alloc (Nat.le_refl _) _
  have hn := heap_new w #[.bool true, .int .i64 1, .int .i64 2, .int .i64 2] 41
  have HB := hide hb
  have HN := hide hn
  clear hb hn
  go_enter Tryd.func17, Tryd.ntmps17
  go_wp2_with fail
  refine bodyPost_ret (results_cell_tmp rfl _ rfl _ (load41 HN.out)) rfl ?_
  exact ⟨rfl, HB.out⟩
set_option maxRecDepth 100000 in
set_option maxHeartbeats 800000 in
theorem of_k7 (w : World) : Calls Tryd.prog 17 #[.int .i64 7] w fun e w' => e = .returned (.tuple #[shpV (true, 3, 2, -1), .bool true]) ∧ Below w.heap.size w w' := by
  have hb : Below w.heap.size w (w.alloc (.cells #[.bool true, .int .i64 3, .int .i64 2, .int .i64 (-1)] 41)) := (Below.refl _ _).alloc (Nat.le_refl _) _
  have hn := heap_new w #[.bool true, .int .i64 3, .int .i64 2, .int .i64 (-1)] 41
  have HB := hide hb
  have HN := hide hn
  clear hb hn
  go_enter Tryd.func17, Tryd.ntmps17
  go_wp2_with fail
  refine bodyPost_ret (results_cell_tmp rfl _ rfl _ (load41 HN.out)) rfl ?_
  exact ⟨rfl, HB.out⟩
set_option maxRecDepth 100000 in
set_option maxHeartbeats 800000 in
theorem of_k9 (w : World) : Calls Tryd.prog 17 #[.int .i64 9] w fun e w' => e = .returned (.tuple #[shpV (false, 0, 0, 0), .bool true]) ∧ Below w.heap.size w w' := by
  have hb : Below w.heap.size w (w.alloc (.cells #[.bool false, .int .i64 0, .int .i64 0, .int .i64 0] 41)) := (Below.refl _ _).alloc (Nat.le_refl _) _
  have hn := heap_new w #[.bool false, .int .i64 0, .int .i64 0, .int .i64 0] 41
  have HB := hide hb
  have HN := hide hn
  clear hb hn
  go_enter Tryd.func17, Tryd.ntmps17
  go_wp2_with fail
  refine bodyPost_ret (results_cell_tmp rfl _ rfl _ (load41 HN.out)) rfl ?_
  exact ⟨rfl, HB.out⟩
set_option maxRecDepth 100000 in
set_option maxHeartbeats 800000 in
theorem of_k10 (w : World) : Calls Tryd.prog 17 #[.int .i64 10] w fun e w' => e = .returned (.tuple #[shpV (false, 0, 0, 0), .bool true]) ∧ Below w.heap.size w w' := by
  have hb : Below w.heap.size w (w.alloc (.cells #[.bool false, .int .i64 0, .int .i64 0, .int .i64 0] 41)) := (Below.refl _ _).alloc (Nat.le_refl _) _
  have hn := heap_new w #[.bool false, .int .i64 0, .int .i64 0, .int .i64 0] 41
  have HB := hide hb
  have HN := hide hn
  clear hb hn
  go_enter Tryd.func17, Tryd.ntmps17
  go_wp2_with fail
  refine bodyPost_ret (results_cell_tmp rfl _ rfl _ (load41 HN.out)) rfl ?_
  exact ⟨rfl, HB.out⟩
set_option maxRecDepth 100000 in
set_option maxHeartbeats 800000 in
theorem of_k33 (w : World) : Calls Tryd.prog 17 #[.int .i64 33] w fun e w' => e = .returned (.tuple #[shpV (false, 0, 0, 0), .bool true]) ∧ Below w.heap.size w w' := by
  have hb : Below w.heap.size w (w.alloc (.cells #[.bool false, .int .i64 0, .int .i64 0, .int .i64 0] 41)) := (Below.refl _ _).alloc (Nat.le_refl _) _
  have hn := heap_new w #[.bool false, .int .i64 0, .int .i64 0, .int .i64 0] 41
  have HB := hide hb
  have HN := hide hn
  clear hb hn
  go_enter Tryd.func17, Tryd.ntmps17
  go_wp2_with fail
  refine bodyPost_ret (results_cell_tmp rfl _ rfl _ (load41 HN.out)) rfl ?_
  exact ⟨rfl, HB.out⟩
set_option maxRecDepth 100000 in
set_option maxHeartbeats 800000 in
theorem of_k11 (w : World) : Calls Tryd.prog 17 #[.int .i64 11] w fun e w' => e = .returned (.tuple #[shpV (true, 0, 0, 0), .bool true]) ∧ Below w.heap.size w w' := by
  have hb : Below w.heap.size w (w.alloc (.cells #[.bool true, .int .i64 0, .int .i64 0, .int .i64 0] 41)) := (Below.refl _ _).alloc (Nat.le_refl _) _
  have hn := heap_new w #[.bool true, .int .i64 0, .int .i64 0, .int .i64 0] 41
  have HB := hide hb
  have HN := hide hn
  clear hb hn
  go_enter Tryd.func17, Tryd.ntmps17
  go_wp2_with fail
  refine bodyPost_ret (results_cell_tmp rfl _ rfl _ (load41 HN.out)) rfl ?_
  exact ⟨rfl, HB.out⟩
set_option maxRecDepth 100000 in
set_option maxHeartbeats 800000 in
theorem of_k23 (w : World) : Calls Tryd.prog 17 #[.int .i64 23] w fun e w' => e = .returned (.tuple #[shpV (true, 0, 0, 0), .bool true]) ∧ Below w.heap.size w w' := by
  have hb : Below w.heap.size w (w.alloc (.cells #[.bool true, .int .i64 0, .int .i64 0, .int .i64 0] 41)) := (Below.refl _ _).alloc (Nat.le_refl _) _
  have hn := heap_new w #[.bool true, .int .i64 0, .int .i64 0, .int .i64 0] 41
  have HB := hide hb
  have HN := hide hn
  clear hb hn
  go_enter Tryd.func17, Tryd.ntmps17
  go_wp2_with fail
  refine bodyPost_ret (results_cell_tmp rfl _ rfl _ (load41 HN.out)) rfl ?_
  exact ⟨rfl, HB.out⟩
set_option maxRecDepth 100000 in
set_option maxHeartbeats 800000 in
theorem of_k26 (w : World) : Calls Tryd.prog 17 #[.int .i64 26] w fun e w' => e = .returned (.tuple #[shpV (true, 0, 0, 0), .bool true]) ∧ Below w.heap.size w w' := by
  have hb : Below w.heap.size w (w.alloc (.cells #[.bool true, .int .i64 0, .int .i64 0, .int .i64 0] 41)) := (Below.refl _ _).alloc (Nat.le_refl _) _
  have hn := heap_new w #[.bool true, .int .i64 0, .int .i64 0, .int .i64 0] 41
  have HB := hide hb
  have HN := hide hn
  clear hb hn
  go_enter Tryd.func17, Tryd.ntmps17
  go_wp2_with fail
  refine bodyPost_ret (results_cell_tmp rfl _ rfl _ (load41 HN.out)) rfl ?_
  exact ⟨rfl, HB.out⟩
set_option maxRecDepth 100000 in
set_option maxHeartbeats 800000 in
theorem of_k12 (w : World) : Calls Tryd.prog 17 #[.int .i64 12] w fun e w' => e = .returned (.tuple #[shpV (false, 1, 1, -1), .bool true]) ∧ Below w.heap.size w w' := by
  have hb : Below w.heap.size w (w.alloc (.cells #[.bool false, .int .i64 1, .int .i64 1, .int .i64 (-1)] 41)) := (Below.refl _ _).alloc (Nat.le_refl _) _
  have hn := heap_new w #[.bool false, .int .i64 1, .int .i64 1, .int .i64 (-1)] 41
  have HB := hide hb
  have HN := hide hn
  clear hb hn
  go_enter Tryd.func17, Tryd.ntmps17
  go_wp2_with fail
  refine bodyPost_ret (results_cell_tmp rfl _ rfl _ (load41 HN.out)) rfl ?_
  exact ⟨rfl, HB.out⟩
set_option maxRecDepth 100000 in
set_option maxHeartbeats 800000 in
theorem of_k14 (w : World) : Calls Tryd.prog 17 #[.int .i64 14] w fun e w' => e = .returned (.tuple #[shpV (true, 0, 2, 2), .bool true]) ∧ Below w.heap.size w w' := by
  have hb : Below w.heap.size w (w.alloc (.cells #[.bool true, .int .i64 0, .int .i64 2, .int .i64 2] 41)) := (Below.refl _ _).alloc (Nat.le_refl _) _
  have hn := heap_new w #[.bool true, .int .i64 0, .int .i64 2, .int .i64 2] 41
  have HB := hide hb
  have HN := hide hn
  clear hb hn
  go_enter Tryd.func17, Tryd.ntmps17
  go_wp2_with fail
  refine bodyPost_ret (results_cell_tmp rfl _ rfl _ (load41 HN.out)) rfl ?_
  exact ⟨rfl, HB.out⟩
set_option maxRecDepth 100000 in
set_option maxHeartbeats 800000 in
theorem of_k15 (w : World) : Calls Tryd.prog 17 #[.int .i64 15] w fun e w' => e = .returned (.tuple #[shpV (false, 0, 2, 2), .bool true]) ∧ Below w.heap.size w w' := by
  have hb : Below w.heap.size w (w.alloc (.cells #[.bool false, .int .i64 0, .int .i64 2, .int .i64 2] 41)) := (Below.refl _ _).alloc (Nat.le_refl _) _
  have hn := heap_new w #[.bool false, .int .i64 0, .int .i64 2, .int .i64 2] 41
  have HB := hide hb
  have HN := hide hn
  clear hb hn
  go_enter Tryd.func17, Tryd.ntmps17
  go_wp2_with fail
  refine bodyPost_ret (results_cell_tmp rfl _ rfl _ (load41 HN.out)) rfl ?_
  exact ⟨rfl, HB.out⟩
set_option maxRecDepth 100000 in
set_option maxHeartbeats 800000 in
theorem of_k17 (w : World) : Calls Tryd.prog 17 #[.int .i64 17] w fun e w' => e = .returned (.tuple #[shpV (false, 0, 2, 2), .bool true]) ∧ Below w.heap.size w w' := by
  have hb : Below w.heap.size w (w.alloc (.cells #[.bool false, .int .i64 0, .int .i64 2, .int .i64 2] 41)) := (Below.refl _ _).alloc (Nat.le_refl _) _
  have hn := heap_new w #[.bool false, .int .i64 0, .int .i64 2, .int .i64 2] 41
  have HB := hide hb
  have HN := hide hn
  clear hb hn
  go_enter Tryd.func17, Tryd.ntmps17
  go_wp2_with fail
  refine bodyPost_ret (results_cell_tmp rfl _ rfl _ (load41 HN.out)) rfl ?_
  exact ⟨rfl, HB.out⟩
set_option maxRecDepth 100000 in
set_option maxHeartbeats 800000 in
theorem of_k16 (w : World) : Calls Tryd.prog 17 #[.int .i64 16] w fun e w' => e = .returned (.tuple #[shpV (false, 0, 2, 3), .bool true]) ∧ Below w.heap.size w w' := by
  have hb : Below w.heap.size w (w.alloc (.cells #[.bool false, .int .i64 0, .int .i64 2, .int .i64 3] 41)) := (Below.refl _ _).alloc (Nat.le_refl _) _
  have hn := heap_new w #[.bool false, .int .i64 0, .int .i64 2, .int .i64 3] 41
  have HB := hide hb
  have HN := hide hn
  clear hb hn
  go_enter Tryd.func17, Tryd.ntmps17
  go_wp2_with fail
  refine bodyPost_ret (results_cell_tmp rfl _ rfl _ (load41 HN.out)) rfl ?_
  exact ⟨rfl, HB.out⟩
set_option maxRecDepth 100000 in
set_option maxHeartbeats 800000 in
theorem of_k18 (w : World) : Calls Tryd.prog 17 #[.int .i64 18] w fun e w' => e = .returned (.tuple #[shpV (false, 0, 1, 1), .bool true]) ∧ Below w.heap.size w w' := by
  have hb : Below w.heap.size w (w.alloc (.cells #[.bool false, .int .i64 0, .int .i64 1, .int .i64 1] 41)) := (Below.refl _ _).alloc (Nat.le_refl _) _
  have hn := heap_new w #[.bool false, .int .i64 0, .int .i64 1, .int .i64 1] 41
  have HB := hide hb
  have HN := hide hn
  clear hb hn
  go_enter Tryd.func17, Tryd.ntmps17
  go_wp2_with fail
  refine bodyPost_ret (results_cell_tmp rfl _ rfl _ (load41 HN.out)) rfl ?_
  exact ⟨rfl, HB.out⟩
set_option maxRecDepth 100000 in
set_option maxHeartbeats 800000 in
theorem of_k19 (w : World) : Calls Tryd.prog 17 #[.int .i64 19] w fun e w' => e = .returned (.tuple #[shpV (false, 0, 1, 1), .bool true]) ∧ Below w.heap.size w w' := by
  have hb : Below w.heap.size w (w.alloc (.cells #[.bool false, .int .i64 0, .int .i64 1, .int .i64 1] 41)) := (Below.refl _ _).alloc (Nat.le_refl _) _
  have hn := heap_new w #[.bool false, .int .i64 0, .int .i64 1, .int .i64 1] 41
  have HB := hide hb
  have HN := hide hn
  clear hb hn
  go_enter Tryd.func17, Tryd.ntmps17
  go_wp2_with fail
  refine bodyPost_ret (results_cell_tmp rfl _ rfl _ (load41 HN.out)) rfl ?_
  exact ⟨rfl, HB.out⟩
set_option maxRecDepth 100000 in
set_option maxHeartbeats 800000 in
theorem of_k20 (w : World) : Calls Tryd.prog 17 #[.int .i64 20] w fun e w' => e = .returned (.tuple #[shpV (false, 0, 1, 1), .bool true]) ∧ Below w.heap.size w w' := by
  have hb : Below w.heap.size w (w.alloc (.cells #[.bool false, .int .i64 0, .int .i64 1, .int .i64 1] 41)) := (Below.refl _ _).alloc (Nat.le_refl _) _
  have hn := heap_new w #[.bool false, .int .i64 0, .int .i64 1, .int .i64 1] 41
  have HB := hide hb
  have HN := hide hn
  clear hb hn
  go_enter Tryd.func17, Tryd.ntmps17
  go_wp2_with fail
  refine bodyPost_ret (results_cell_tmp rfl _ rfl _ (load41 HN.out)) rfl ?_
  exact ⟨rfl, HB.out⟩
set_option maxRecDepth 100000 in
set_option maxHeartbeats 800000 in
theorem of_k28 (w : World) : Calls Tryd.prog 17 #[.int .i64 28] w fun e w' => e = .returned (.tuple #[shpV (false, 0, 1, 1), .bool true]) ∧ Below w.heap.size w w' := by
  have hb : Below w.heap.size w (w.alloc (.cells #[.bool false, .int .i64 0, .int .i64 1, .int .i64 1] 41)) := (Below.refl _ _).alloc (Nat.le_refl _) _
  have hn := heap_new w #[.bool false, .int .i64 0, .int .i64 1, .int .i64 1] 41
  have HB := hide hb
  have HN := hide hn
  clear hb hn
  go_enter Tryd.func17, Tryd.ntmps17
  go_wp2_with fail
  refine bodyPost_ret (results_cell_tmp rfl _ rfl _ (load41 HN.out)) rfl ?_
  exact ⟨rfl, HB.out⟩
set_option maxRecDepth 100000 in
set_option maxHeartbeats 800000 in
theorem of_k29 (w : World) : Calls Tryd.prog 17 #[.int .i64 29] w fun e w' => e = .returned (.tuple #[shpV (false, 0, 1, 1), .bool true]) ∧ Below w.heap.size w w' := by
  have hb : Below w.heap.size w (w.alloc (.cells #[.bool false, .int .i64 0, .int .i64 1, .int .i64 1] 41)) := (Below.refl _ _).alloc (Nat.le_refl _) _
  have hn := heap_new w #[.bool false, .int .i64 0, .int .i64 1, .int .i64 1] 41
  have HB := hide hb
  have HN := hide hn
  clear hb hn
  go_enter Tryd.func17, Tryd.ntmps17
  go_wp2_with fail
  refine bodyPost_ret (results_cell_tmp rfl _ rfl _ (load41 HN.out)) rfl ?_
  exact ⟨rfl, HB.out⟩
set_option maxRecDepth 100000 in
set_option maxHeartbeats 800000 in
theorem of_k30 (w : World) : Calls Tryd.prog 17 #[.int .i64 30] w fun e w' => e = .returned (.tuple #[shpV (false, 0, 1, 1), .bool true]) ∧ Below w.heap.size w w' := by
  have hb : Below w.heap.size w (w.alloc (.cells #[.bool false, .int .i64 0, .int .i64 1, .int .i64 1] 41)) := (Below.refl _ _).alloc (Nat.le_refl _) _
  have hn := heap_new w #[.bool false, .int .i64 0, .int .i64 1, .int .i64 1] 41
  have HB := hide hb
  have HN := hide hn
  clear hb hn
  go_enter Tryd.func17, Tryd.ntmps17
  go_wp2_with fail
  refine bodyPost_ret (results_cell_tmp rfl _ rfl _ (load41 HN.out)) rfl ?_
  exact ⟨rfl, HB.out⟩
set_option maxRecDepth 100000 in
set_option maxHeartbeats 800000 in
theorem of_k31 (w : World) : Calls Tryd.prog 17 #[.int .i64 31] w fun e w' => e = .returned (.tuple #[shpV (false, 0, 1, 1), .bool true]) ∧ Below w.heap.size w w' := by
  have hb : Below w.heap.size w (w.alloc (.cells #[.bool false, .int .i64 0, .int .i64 1, .int .i64 1] 41)) := (Below.refl _ _).alloc (Nat.le_refl _) _
  have hn := heap_new w #[.bool false, .int .i64 0, .int .i64 1, .int .i64 1] 41
  have HB := hide hb
  have HN := hide hn
  clear hb hn
  go_enter Tryd.func17, Tryd.ntmps17
  go_wp2_with fail
  refine bodyPost_ret (results_cell_tmp rfl _ rfl _ (load41 HN.out)) rfl ?_
  exact ⟨rfl, HB.out⟩
set_option maxRecDepth 100000 in
set_option maxHeartbeats 800000 in
theorem of_k34 (w : World) : Calls Tryd.prog 17 #[.int .i64 34] w fun e w' => e = .returned (.tuple #[shpV (false, 0, 1, 1), .bool true]) ∧ Below w.heap.size w w' := by
  have hb : Below w.heap.size w (w.alloc (.cells #[.bool false, .int .i64 0, .int .i64 1, .int .i64 1] 41)) := (Below.refl _ _).alloc (Nat.le_refl _) _
  have hn := heap_new w #[.bool false, .int .i64 0, .int .i64 1, .int .i64 1] 41
  have HB := hide hb
  have HN := hide hn
  clear hb hn
  go_enter Tryd.func17, Tryd.ntmps17
  go_wp2_with fail
  refine bodyPost_ret (results_cell_tmp rfl _ rfl _ (load41 HN.out)) rfl ?_
  exact ⟨rfl, HB.out⟩
set_option maxRecDepth 100000 in
set_option maxHeartbeats 800000 in
theorem of_k21 (w : World) : Calls Tryd.prog 17 #[.int .i64 21] w fun e w' => e = .returned (.tuple #[shpV (false, -1, 0, 0), .bool true]) ∧ Below w.heap.size w w' := by
  have hb : Below w.heap.size w (w.alloc (.cells #[.bool false, .int .i64 (-1), .int .i64 0, .int .i64 0] 41)) := (Below.refl _ _).alloc (Nat.le_refl _) _
  have hn := heap_new w #[.bool false, .int .i64 (-1), .int .i64 0, .int .i64 0] 41
  have HB := hide hb
  have HN := hide hn
  clear hb hn
  go_enter Tryd.func17, Tryd.ntmps17
  go_wp2_with fail
  refine bodyPost_ret (results_cell_tmp rfl _ rfl _ (load41 HN.out)) rfl ?_
  exact ⟨rfl, HB.out⟩
set_option maxRecDepth 100000 in
set_option maxHeartbeats 800000 in
theorem of_k22 (w : World) : Calls Tryd.prog 17 #[.int .i64 22] w fun e w' => e = .returned (.tuple #[shpV (false, -1, 0, 0), .bool true]) ∧ Below w.heap.size w w' := by
  have hb : Below w.heap.size w (w.alloc (.cells #[.bool false, .int .i64 (-1), .int .i64 0, .int .i64 0] 41)) := (Below.refl _ _).alloc (Nat.le_refl _) _
  have hn := heap_new w #[.bool false, .int .i64 (-1), .int .i64 0, .int .i64 0] 41
  have HB := hide hb
  have HN := hide hn
  clear hb hn
  go_enter Tryd.func17, Tryd.ntmps17
  go_wp2_with fail
  refine bodyPost_ret (results_cell_tmp rfl _ rfl _ (load41 HN.out)) rfl ?_
  exact ⟨rfl, HB.out⟩
set_option maxRecDepth 100000 in
set_option maxHeartbeats 800000 in
theorem of_k25 (w : World) : Calls Tryd.prog 17 #[.int .i64 25] w fun e w' => e = .returned (.tuple #[shpV (false, 0, 1, -1), .bool true]) ∧ Below w.heap.size w w' := by
  have hb : Below w.heap.size w (w.alloc (.cells #[.bool false, .int .i64 0, .int .i64 1, .int .i64 (-1)] 41)) := (Below.refl _ _).alloc (Nat.le_refl _) _
  have hn := heap_new w #[.bool false, .int .i64 0, .int .i64 1, .int .i64 (-1)] 41
  have HB := hide hb
  have HN := hide hn
  clear hb hn
  go_enter Tryd.func17, Tryd.ntmps17
  go_wp2_with fail
  refine bodyPost_ret (results_cell_tmp rfl _ rfl _ (load41 HN.out)) rfl ?_
  exact ⟨rfl, HB.out⟩
set_option maxRecDepth 100000 in
set_option maxHeartbeats 800000 in
theorem of_k27 (w : World) : Calls Tryd.prog 17 #[.int .i64 27] w fun e w' => e = .returned (.tuple #[shpV (true, 0, 0, -1), .bool true]) ∧ Below w.heap.size w w' := by
  have hb : Below w.heap.size w (w.alloc (.cells #[.bool true, .int .i64 0, .int .i64 0, .int .i64 (-1)] 41)) := (Below.refl _ _).alloc (Nat.le_refl _) _
  have hn := heap_new w #[.bool true, .int .i64 0, .int .i64 0, .int .i64 (-1)] 41
  have HB := hide hb
  have HN := hide hn
  clear hb hn
  go_enter Tryd.func17, Tryd.ntmps17
  go_wp2_with fail
  refine bodyPost_ret (results_cell_tmp rfl _ rfl _ (load41 HN.out)) rfl ?_
  exact ⟨rfl, HB.out⟩
set_option maxRecDepth 100000 in
set_option maxHeartbeats 800000 in
theorem of_k32 (w : World) : Calls Tryd.prog 17 #[.int .i64 32] w fun e w' => e = .returned (.tuple #[shpV (false, 12, 2, 2), .bool true]) ∧ Below w.heap.size w w' := by
  have hb : Below w.heap.size w (w.alloc (.cells #[.bool false, .int .i64 12, .int .i64 2, .int .i64 2] 41)) := (Below.refl _ _).alloc (Nat.le_refl _) _
  have hn := heap_new w #[.bool false, .int .i64 12, .int .i64 2, .int .i64 2] 41
  have HB := hide hb
  have HN := hide hn
  clear hb hn
  go_enter Tryd.func17, Tryd.ntmps17
  go_wp2_with fail
  refine bodyPost_ret (results_cell_tmp rfl _ rfl _ (load41 HN.out)) rfl ?_
  exact ⟨rfl, HB.out⟩
set_option maxRecDepth 100000 in
set_option maxHeartbeats 800000 in
theorem of_none (k : Int) (k1 : ¬ k = 1) (k2 : ¬ k = 2) (k3 : ¬ k = 3) (k4 : ¬ k = 4) (k5 : ¬ k = 5) (k6 : ¬ k = 6) (k7 : ¬ k = 7) (k8 : ¬ k = 8) (k9 : ¬ k = 9) (k10 : ¬ k = 10) (k11 : ¬ k = 11) (k12 : ¬ k = 12) (k13 : ¬ k = 13) (k14 : ¬ k = 14) (k15 : ¬ k = 15) (k16 : ¬ k = 16) (k17 : ¬ k = 17) (k18 : ¬ k = 18) (k19 : ¬ k = 19) (k20 : ¬ k = 20) (k21 : ¬ k = 21) (k22 : ¬ k = 22) (k23 : ¬ k = 23) (k24 : ¬ k = 24) (k25 : ¬ k = 25) (k26 : ¬ k = 26) (k27 : ¬ k = 27) (k28 : ¬ k = 28) (k29 : ¬ k = 29) (k30 : ¬ k = 30) (k31 : ¬ k = 31) (k32 : ¬ k = 32) (k33 : ¬ k = 33) (k34 : ¬ k = 34) (w : World) : Calls Tryd.prog 17 #[.int .i64 k] w fun e w' => e = .returned (.tuple #[shpV (false, 0, 0, 0), .bool false]) ∧ Below w.heap.size w w' := by
  have hb : Below w.heap.size w (w.alloc (.cells #[.bool false, .int .i64 0, .int .i64 0, .int .i64 0] 41)) := (Below.refl _ _).alloc (Nat.le_refl _) _
  have hn := heap_new w #[.bool false, .int .i64 0, .int .i64 0, .int .i64 0] 41
  have HB := hide hb
  have HN := hide hn
  clear hb hn
  have k1' : (k == 1) = false := by simpa using k1
  have k2' : (k == 2) = false := by simpa using k2
  have k3' : (k == 3) = false := by simpa using k3
  have k4' : (k == 4) = false := by simpa using k4
  have k5' : (k == 5) = false := by simpa using k5
  have k6' : (k == 6) = false := by simpa using k6
  have k7' : (k == 7) = false := by simpa using k7
  have k8' : (k == 8) = false := by simpa using k8
  have k9' : (k == 9) = false := by simpa using k9
  have k10' : (k == 10) = false := by simpa using k10
  have k11' : (k == 11) = false := by simpa using k11
  have k12' : (k == 12) = false := by simpa using k12
  have k13' : (k == 13) = false := by simpa using k13
  have k14' : (k == 14) = false := by simpa using k14
  have k15' : (k == 15) = false := by simpa using k15
  have k16' : (k == 16) = false := by simpa using k16
  have k17' : (k == 17) = false := by simpa using k17
  have k18' : (k == 18) = false := by simpa using k18
  have k19' : (k == 19) = false := by simpa using k19
  have k20' : (k == 20) = false := by simpa using k20
  have k21' : (k == 21) = false := by simpa using k21
  have k22' : (k == 22) = false := by simpa using k22
  have k23' : (k == 23) = false := by simpa using k23
  have k24' : (k == 24) = false := by simpa using k24
  have k25' : (k == 25) = false := by simpa using k25
  have k26' : (k == 26) = false := by simpa using k26
  have k27' : (k == 27) = false := by simpa using k27
  have k28' : (k == 28) = false := by simpa using k28
  have k29' : (k == 29) = false := by simpa using k29
  have k30' : (k == 30) = false := by simpa using k30
  have k31' : (k == 31) = false := by simpa using k31
  have k32' : (k == 32) = false := by simpa using k32
  have k33' : (k == 33) = false := by simpa using k33
  have k34' : (k == 34) = false := by simpa using k34
  clear k1 k2 k3 k4 k5 k6 k7 k8 k9 k10 k11 k12 k13 k14 k15 k16 k17 k18 k19 k20 k21 k22 k23 k24 k25 k26 k27 k28 k29 k30 k31 k32 k33 k34
  go_enter Tryd.func17, Tryd.ntmps17
  go_wp2_with fail
  refine bodyPost_ret (results_cell_tmp rfl _ rfl _ (load41 HN.out)) rfl ?_
  exact ⟨rfl, HB.out⟩
/-- Whatever the kind. -/
theorem of_any (k : Int) (w : World) : Calls Tryd.prog 17 #[.int .i64 k] w fun e w' => (∃ s, shpN k = some s ∧ e = .returned (.tuple #[shpV s, .bool true]) ∨ shpN k = none ∧ e = .returned (.tuple #[shpV (false, 0, 0, 0), .bool false])) ∧ Below w.heap.size w w' := by
  by_cases k1 : k = 1
  · subst k1; exact (of_k1 w).mono fun e w' ⟨h1, h2⟩ => ⟨⟨_, Or.inl ⟨rfl, h1⟩⟩, h2⟩
  by_cases k13 : k = 13
  · subst k13; exact (of_k13 w).mono fun e w' ⟨h1, h2⟩ => ⟨⟨_, Or.inl ⟨rfl, h1⟩⟩, h2⟩
  by_cases k2 : k = 2
  · subst k2; exact (of_k2 w).mono fun e w' ⟨h1, h2⟩ => ⟨⟨_, Or.inl ⟨rfl, h1⟩⟩, h2⟩
  by_cases k3 : k = 3
  · subst k3; exact (of_k3 w).mono fun e w' ⟨h1, h2⟩ => ⟨⟨_, Or.inl ⟨rfl, h1⟩⟩, h2⟩
  by_cases k5 : k = 5
  · subst k5; exact (of_k5 w).mono fun e w' ⟨h1, h2⟩ => ⟨⟨_, Or.inl ⟨rfl, h1⟩⟩, h2⟩
  by_cases k8 : k = 8
  · subst k8; exact (of_k8 w).mono fun e w' ⟨h1, h2⟩ => ⟨⟨_, Or.inl ⟨rfl, h1⟩⟩, h2⟩
  by_cases k24 : k = 24
  · subst k24; exact (of_k24 w).mono fun e w' ⟨h1, h2⟩ => ⟨⟨_, Or.inl ⟨rfl, h1⟩⟩, h2⟩
  by_cases k4 : k = 4
  · subst k4; exact (of_k4 w).mono fun e w' ⟨h1, h2⟩ => ⟨⟨_, Or.inl ⟨rfl, h1⟩⟩, h2⟩
  by_cases k6 : k = 6
  · subst k6; exact (of_k6 w).mono fun e w' ⟨h1, h2⟩ => ⟨⟨_, Or.inl ⟨rfl, h1⟩⟩, h2⟩
  by_cases k7 : k = 7
  · subst k7; exact (of_k7 w).mono fun e w' ⟨h1, h2⟩ => ⟨⟨_, Or.inl ⟨rfl, h1⟩⟩, h2⟩
  by_cases k9 : k = 9
  · subst k9; exact (of_k9 w).mono fun e w' ⟨h1, h2⟩ => ⟨⟨_, Or.inl ⟨rfl, h1⟩⟩, h2⟩
  by_cases k10 : k = 10
  · subst k10; exact (of_k10 w).mono fun e w' ⟨h1, h2⟩ => ⟨⟨_, Or.inl ⟨rfl, h1⟩⟩, h2⟩
  by_cases k33 : k = 33
  · subst k33; exact (of_k33 w).mono fun e w' ⟨h1, h2⟩ => ⟨⟨_, Or.inl ⟨rfl, h1⟩⟩, h2⟩
  by_cases k11 : k = 11
  · subst k11; exact (of_k11 w).mono fun e w' ⟨h1, h2⟩ => ⟨⟨_, Or.inl ⟨rfl, h1⟩⟩, h2⟩
  by_cases k23 : k = 23
  · subst k23; exact (of_k23 w).mono fun e w' ⟨h1, h2⟩ => ⟨⟨_, Or.inl ⟨rfl, h1⟩⟩, h2⟩
  by_cases k26 : k = 26
  · subst k26; exact (of_k26 w).mono fun e w' ⟨h1, h2⟩ => ⟨⟨_, Or.inl ⟨rfl, h1⟩⟩, h2⟩
  by_cases k12 : k = 12
  · subst k12; exact (of_k12 w).mono fun e w' ⟨h1, h2⟩ => ⟨⟨_, Or.inl ⟨rfl, h1⟩⟩, h2⟩
  by_cases k14 : k = 14
  · subst k14; exact (of_k14 w).mono fun e w' ⟨h1, h2⟩ => ⟨⟨_, Or.inl ⟨rfl, h1⟩⟩, h2⟩
  by_cases k15 : k = 15
  · subst k15; exact (of_k15 w).mono fun e w' ⟨h1, h2⟩ => ⟨⟨_, Or.inl ⟨rfl, h1⟩⟩, h2⟩
  by_cases k17 : k = 17
  · subst k17; exact (of_k17 w).mono fun e w' ⟨h1, h2⟩ => ⟨⟨_, Or.inl ⟨rfl, h1⟩⟩, h2⟩
  by_cases k16 : k = 16
  · subst k16; exact (of_k16 w).mono fun e w' ⟨h1, h2⟩ => ⟨⟨_, Or.inl ⟨rfl, h1⟩⟩, h2⟩
  by_cases k18 : k = 18
  · subst k18; exact (of_k18 w).mono fun e w' ⟨h1, h2⟩ => ⟨⟨_, Or.inl ⟨rfl, h1⟩⟩, h2⟩
  by_cases k19 : k = 19
  · subst k19; exact (of_k19 w).mono fun e w' ⟨h1, h2⟩ => ⟨⟨_, Or.inl ⟨rfl, h1⟩⟩, h2⟩
  by_cases k20 : k = 20
  · subst k20; exact (of_k20 w).mono fun e w' ⟨h1, h2⟩ => ⟨⟨_, Or.inl ⟨rfl, h1⟩⟩, h2⟩
  by_cases k28 : k = 28
  · subst k28; exact (of_k28 w).mono fun e w' ⟨h1, h2⟩ => ⟨⟨_, Or.inl ⟨rfl, h1⟩⟩, h2⟩
  by_cases k29 : k = 29
  · subst k29; exact (of_k29 w).mono fun e w' ⟨h1, h2⟩ => ⟨⟨_, Or.inl ⟨rfl, h1⟩⟩, h2⟩
  by_cases k30 : k = 30
  · subst k30; exact (of_k30 w).mono fun e w' ⟨h1, h2⟩ => ⟨⟨_, Or.inl ⟨rfl, h1⟩⟩, h2⟩
  by_cases k31 : k = 31
  · subst k31; exact (of_k31 w).mono fun e w' ⟨h1, h2⟩ => ⟨⟨_, Or.inl ⟨rfl, h1⟩⟩, h2⟩
  by_cases k34 : k = 34
  · subst k34; exact (of_k34 w).mono fun e w' ⟨h1, h2⟩ => ⟨⟨_, Or.inl ⟨rfl, h1⟩⟩, h2⟩
  by_cases k21 : k = 21
  · subst k21; exact (of_k21 w).mono fun e w' ⟨h1, h2⟩ => ⟨⟨_, Or.inl ⟨rfl, h1⟩⟩, h2⟩
  by_cases k22 : k = 22
  · subst k22; exact (of_k22 w).mono fun e w' ⟨h1, h2⟩ => ⟨⟨_, Or.inl ⟨rfl, h1⟩⟩, h2⟩
  by_cases k25 : k = 25
  · subst k25; exact (of_k25 w).mono fun e w' ⟨h1, h2⟩ => ⟨⟨_, Or.inl ⟨rfl, h1⟩⟩, h2⟩
  by_cases k27 : k = 27
  · subst k27; exact (of_k27 w).mono fun e w' ⟨h1, h2⟩ => ⟨⟨_, Or.inl ⟨rfl, h1⟩⟩, h2⟩
  by_cases k32 : k = 32
  · subst k32; exact (of_k32 w).mono fun e w' ⟨h1, h2⟩ => ⟨⟨_, Or.inl ⟨rfl, h1⟩⟩, h2⟩
  refine (of_none k k1 k2 k3 k4 k5 k6 k7 k8 k9 k10 k11 k12 k13 k14 k15 k16 k17 k18 k19 k20 k21 k22 k23 k24 k25 k26 k27 k28 k29 k30 k31 k32 k33 k34 w).mono fun e w' ⟨h1, h2⟩ => ⟨⟨(false, 0, 0, 0), Or.inr ⟨?_, h1⟩⟩, h2⟩
  unfold shpN
  repeat rw [if_neg (by omega)]
end Go.Proofs.YthcfianhdkolhaaDoor.T
