/- The library's Delete, of one move. -/
import Derived.Test.YtejionmgpplniaaK
import Derived.Deep.RegionLaw
namespace Go.Proofs.Ytejionmgpplniaa.T
open Go.RowKit
set_option linter.unusedVariables false
set_option linter.unusedSimpArgs false
/-- Cells laid one behind the other. -/
def setAll (cur : Array Value) : Nat → List Value → Array Value
  | _, [] => cur
  | o, v :: r => setAll (cur.setIfInBounds o v) (o + 1) r
theorem setAll_size : ∀ (vs : List Value) (o : Nat) (cur : Array Value), (setAll cur o vs).size = cur.size
  | [], _, _ => rfl
  | v :: r, o, cur => by rw [setAll, setAll_size r]; simp
theorem setAll_out : ∀ (vs : List Value) (o : Nat) (cur : Array Value) (k : Nat), k < o ∨ o + vs.length ≤ k → (setAll cur o vs)[k]? = cur[k]?
  | [], _, _, _, _ => rfl
  | v :: r, o, cur, k, h => by
    rw [setAll, setAll_out r (o + 1) _ k (by simp at h; omega), Array.getElem?_setIfInBounds_ne (by simp at h; omega)]
theorem setAll_in : ∀ (vs : List Value) (o : Nat) (cur : Array Value) (k : Nat), o ≤ k → k < o + vs.length → k < cur.size → (setAll cur o vs)[k]? = vs[k - o]?
  | [], o, _, k, h1, h2, _ => by simp at h2; omega
  | v :: r, o, cur, k, h1, h2, h3 => by
    by_cases e : k = o
    · subst e
      rw [setAll, setAll_out r (k + 1) _ k (by omega)]
      simp [h3]
    · rw [setAll, setAll_in r (o + 1) _ k (by omega) (by simp at h2; omega) (by simpa using h3)]
      rw [show k - o = (k - (o + 1)) + 1 by omega, List.getElem?_cons_succ]
theorem heap_setCells {g : Nat} {T : TypeId} : ∀ (vs : List Value) (o : Nat) (w : World) (cur : Array Value), w.heap[g]? = some (.cells cur T (0, 0)) → (w.setCells g o vs).heap[g]? = some (.cells (setAll cur o vs) T (0, 0))
  | [], _, _, _, h => h
  | v :: r, o, w, cur, h => by
    rw [World.setCells, setAll]
    exact heap_setCells r (o + 1) _ _ (heap_setCell_same w g o _ _ _ h)
theorem grown_trans {w w1 w2 : World} {r : Option Nat} (h1 : w.grownBy w1 r) (h2 : w1.grownBy w2 r) : w.grownBy w2 r :=
  ⟨h2.os.trans h1.os, h2.tape.trans h1.tape, h2.output.trans h1.output, Nat.le_trans h1.size h2.size, fun k hk hr => (h2.block k (Nat.lt_of_lt_of_le hk h1.size) hr).trans (h1.block k hk hr)⟩
theorem grown_cell (w : World) (g o : Nat) (v : Value) : w.grownBy (w.setCell ⟨g, o, none⟩ v) (some g) := by
  have hb := (Below.refl g w).setCell (p := ⟨g, o, none⟩) (Nat.le_refl _) v
  exact ⟨hb.os, hb.tape, hb.output, hb.size, fun k _ hk => heap_setCell_other _ _ _ _ (fun e => hk (by rw [e]))⟩
theorem grown_cells {g : Nat} : ∀ (vs : List Value) (o : Nat) (w : World), w.grownBy (w.setCells g o vs) (some g)
  | [], _, w => ⟨rfl, rfl, rfl, Nat.le_refl _, fun _ _ _ => rfl⟩
  | v :: r, o, w => grown_trans (grown_cell w g o v) (grown_cells r (o + 1) _)
theorem grown_drew {w w' : World} {r : Option Nat} (h : w.drew.grownBy w' r) : w.grownBy w' r := ⟨h.os, h.tape, h.output, h.size, h.block⟩
theorem prV_append (L K : List (Lc × Lc)) : prV (L ++ K) = prV L ++ prV K := by simp [prV]
theorem prV_one (L : List (Lc × Lc)) : ∀ u, u ∈ prV L → u.oneCell' = true := by
  intro u hu
  unfold prV at hu
  obtain ⟨m, _, hm⟩ := List.mem_flatMap.1 hu
  simp at hm
  rcases hm with rfl | rfl | rfl | rfl <;> rfl
theorem prV_drop (M : List (Lc × Lc)) (k : Nat) : (prV M).drop (k * 4) = prV (M.drop k) := by
  have h : prV M = prV (M.take k) ++ prV (M.drop k) := by rw [← prV_append, List.take_append_drop]
  by_cases hk : k ≤ M.length
  · rw [h, List.drop_append_of_le_length (by rw [prV_len]; simp; omega), List.drop_eq_nil_of_le (by rw [prV_len]; simp; omega), List.nil_append]
  · rw [List.drop_eq_nil_of_le (by rw [prV_len]; omega), List.drop_eq_nil_of_le (by omega)]; rfl
theorem prV_take (M : List (Lc × Lc)) (k : Nat) (hk : k ≤ M.length) : (prV M).take (k * 4) = prV (M.take k) := by
  have h : prV M = prV (M.take k) ++ prV (M.drop k) := by rw [← prV_append, List.take_append_drop]
  rw [h, List.take_append_of_le_length (by rw [prV_len]; simp; omega), List.take_of_length_le (by rw [prV_len]; simp; omega)]
def zero4 : List Value := [.bool false, .int .i64 0, .bool false, .int .i64 0]
/-- What lies there behind it. -/
theorem del_cells {cur : Array Value} {M : List (Lc × Lc)} {n cap i : Nat} (hn : M.length = n) (hi : i < n) (hc : n ≤ cap) (hs : cur.size = cap * 4) (ht : cur.toList.take (n * 4) = prV M) :
    (setAll (setAll cur (i * 4) (prV (M.drop (i + 1)))) ((n - 1) * 4) zero4).toList.take ((n - 1) * 4) = prV (M.eraseIdx i) := by
  have hcell : ∀ k, k < n * 4 → cur[k]? = (prV M)[k]? := fun k hk => by rw [← ht, List.getElem?_take_of_lt hk, Array.getElem?_toList]
  have hdl : (prV (M.drop (i + 1))).length = (n - (i + 1)) * 4 := by rw [prV_len]; simp [hn]
  have e : prV (M.eraseIdx i) = prV (M.take i) ++ prV (M.drop (i + 1)) := by rw [List.eraseIdx_eq_take_drop_succ, prV_append]
  have htl : (prV (M.take i)).length = i * 4 := by rw [prV_len]; simp; omega
  rw [e]
  apply List.ext_getElem?
  intro k
  by_cases hk : k < (n - 1) * 4
  · rw [List.getElem?_take_of_lt hk, Array.getElem?_toList, setAll_out _ _ _ _ (Or.inl hk)]
    by_cases h2 : k < i * 4
    · rw [setAll_out _ _ _ _ (Or.inl h2), hcell k (by omega), List.getElem?_append_left (by omega), ← prV_take M i (by omega), List.getElem?_take_of_lt h2]
    · rw [setAll_in _ _ _ _ (by omega) (by omega) (by omega), List.getElem?_append_right (by omega), htl]
  · rw [List.getElem?_take_eq_none (by omega), List.getElem?_eq_none (by rw [List.length_append, htl, hdl]; omega)]
theorem zero33 (w : World) : (zeroValue 33).run Try.prog w = .ok (.agg #[.bool false, .int .i64 0, .bool false, .int .i64 0]) w := by kernel_rfl
theorem clear_one {g o c : Nat} {cur : Array Value} {W : World} (h : W.heap[g]? = some (.cells cur 33 (0, 0))) (ho : o + 4 ≤ cur.size) (ty : TypeId) : (Builtin.clear_ #[22] ty #[.slice (some ⟨g, o, none⟩) 1 c]).run Try.prog W = .ok (.tuple #[]) (W.setCells g o zero4) := by
  have hst := run_storeCells_cells (P := Try.prog) g o zero4 0 W (fun j hj => by
    have hj' : j < 4 := hj
    rw [fr_cells h]
    simp
    omega) (fun j hj => fr_frozen h _) (by decide)
  have hz : (Builtin.zeroCells #[.bool false, .int .i64 0, .bool false, .int .i64 0] 1).toList = zero4 := by simp [Builtin.zeroCells, zero4, Array.range, List.range, List.range.loop]
  simp [Builtin.clear_, run_underlying Try.underlying22, zero33, Value.cells, hz, Result.andThen, hst]
set_option maxRecDepth 100000 in
set_option maxHeartbeats 2000000 in
theorem del_any (g n cap i : Nat) (cur : Array Value) (M : List (Lc × Lc)) (w : World) (hg : w.heap[g]? = some (.cells cur 33 (0, 0))) (hn : M.length = n) (hi : i < n) (hc : n ≤ cap) (hm : cap ≤ 9223372036854775807) (hn1 : n ≤ 100) (hs : cur.size = cap * 4) (ht : cur.toList.take (n * 4) = prV M) :
    Calls Try.prog 19 #[.slice (some ⟨g, 0, none⟩) n cap, .int .i64 i, .int .i64 ((i : Int) + 1)] w fun e w' => e = .returned (.slice (some ⟨g, 0, none⟩) (n - 1) cap) ∧ w'.heap[g]? = some (.cells (setAll (setAll cur (i * 4) (prV (M.drop (i + 1)))) ((n - 1) * 4) zero4) 33 (0, 0)) ∧ w.grownBy w' (some g) := by
  obtain ⟨i0, hi0, hz0, hz1, hz2⟩ := info_parts info33
  have hcell : ∀ k, k < n * 4 → cur[k]? = (prV M)[k]? := fun k hk => by rw [← ht, List.getElem?_take_of_lt hk, Array.getElem?_toList]
  have hml : (prV (M.drop (i + 1))).length = (n - (i + 1)) * 4 := by rw [prV_len]; simp [hn]
  obtain ⟨A, hA, hnews⟩ : ∃ A : Addr, (if cap = i + 1 then some (⟨g, 0, none⟩ : Addr) else some ⟨g, (i + 1) * 4, none⟩) = some A ∧ Hid (∀ j u, (prV (M.drop (i + 1)))[j]? = some u → w.drew.cell? (A.add j) = some u) := by
    by_cases h : cap = i + 1
    · refine ⟨⟨g, 0, none⟩, by simp [h], fun j u hu => ?_⟩
      have h0 : (prV (M.drop (i + 1))).length = 0 := by rw [hml]; omega
      rw [List.length_eq_zero_iff.1 h0] at hu
      simp at hu
    · refine ⟨⟨g, (i + 1) * 4, none⟩, by simp [h], fun j u hu => ?_⟩
      have hj : j < (n - (i + 1)) * 4 := by
        have := (List.getElem?_eq_some_iff.1 hu).1
        rwa [hml] at this
      rw [Addr.add_lit]
      show w.cell? _ = _
      rw [fr_cells hg, hcell _ (by omega), ← hu, ← prV_drop, List.getElem?_drop]
  have s1 := hide hml
  have s2 : Hid (∀ u ∈ prV (M.drop (i + 1)), u.oneCell' = true) := prV_one _
  have s3 : Hid (∀ j, j < (prV (M.drop (i + 1))).length → (w.drew.cell? ⟨g, 0 + i * 4 + j, none⟩).isSome = true ∧ w.drew.frozen? ⟨g, 0 + i * 4 + j, none⟩ = false) := by
    intro j hj
    rw [hml] at hj
    refine ⟨?_, fr_frozen hg _⟩
    show (w.cell? _).isSome = true
    rw [fr_cells hg]
    simp
    omega
  have HW : Hid ((w.drew.setCells g (0 + i * 4) (prV (M.drop (i + 1)))).heap[g]? = some (.cells (setAll cur (i * 4) (prV (M.drop (i + 1)))) 33 (0, 0))) := by
    have := heap_setCells (prV (M.drop (i + 1))) (0 + i * 4) w.drew cur hg
    rw [Nat.zero_add] at this ⊢
    exact this
  have HG : Hid (w.grownBy (w.drew.setCells g (0 + i * 4) (prV (M.drop (i + 1)))) (some g)) := grown_drew (grown_cells _ _ _)
  have HSZ : Hid ((n - 1) * 4 + 4 ≤ (setAll cur (i * 4) (prV (M.drop (i + 1)))).size) := by show _ ≤ _; rw [setAll_size, hs]; omega
  have hic : i ≤ cap := by omega
  have hwr : IntKind.i64.wrap ((i : Int) + 1) = (i : Int) + 1 := by rw [IntKind.wrap_i64]; omega
  have hp0 : (0 : Int) ≤ (i : Int) + 1 := by omega
  have hp1 : (i : Int) + 1 ≤ (n : Int) := by omega
  have hp2 : ((i : Int) + 1).toNat = i + 1 := by omega
  have hp3 : (i : Int) ≤ (i : Int) + 1 := by omega
  have hp4 : (n : Int) ≤ cap := by omega
  have hne : ((i : Int) == (i : Int) + 1) = false := by rw [beq_eq_false_iff_ne]; omega
  have hne' : ¬ (i : Int) = (i : Int) + 1 := by omega
  have hcell2 := hide hcell
  clear hcell hml ht hg hs
  generalize hmv : prV (M.drop (i + 1)) = mv at *
  go_enter Try.func19, Try.ntmps19
  go_wp2_with fail
  go_region_law (refine step_append_room rfl (.tmp 22) (.tmp 25) 22 rfl 33 i0 4 Try.underlying22 hi0 hz1 g 0 i cap (by simp [Act.eval, Act.put]) A (n - (i + 1)) (cap - (i + 1)) mv (by simp [Act.eval, Act.put]) s1.out hnews.out s2.out (by omega) s3.out ?_)
  clear hA hwr hp0 hp1 hp2 hp3 hne hne' hnews s1 s2 s3 hi0 hz0 hz1 hz2
  have hr : i + (n - (i + 1)) = n - 1 := by omega
  rw [hr]
  obtain ⟨r, HR⟩ : ∃ r, Hid (n = r + 1) := ⟨n - 1, by show n = n - 1 + 1; omega⟩
  have hr1 : n - 1 = r := by rw [HR.out]; rfl
  rw [hr1]
  rw [hr1] at HSZ
  have q0 : (0 : Int) ≤ (r : Int) := by omega
  have q1 : (r : Int) ≤ n := by omega
  have q2 : n - r = 1 := by omega
  have q3 : ¬ cap = r := by omega
  have q4 : r ≤ n := by omega
  have hcl := clear_one (c := cap - r) HW.out HSZ.out
  have HGo := hide (grown_trans HG.out (grown_cells zero4 (r * 4) _))
  have HWo := hide (heap_setCells zero4 (r * 4) _ _ HW.out)
  clear hr hr1 HG HW HSZ
  simp only [Nat.zero_add] at hcl HGo HWo ⊢
  generalize w.drew.setCells g (i * 4) mv = W at *
  go_wp2_with (simp only [hcl])
  go_ret
  obtain rfl : r = n - 1 := by omega
  exact ⟨rfl, HWo.out, HGo.out⟩
end Go.Proofs.Ytejionmgpplniaa.T
