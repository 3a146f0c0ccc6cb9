/- The contract of the reference's At. -/
import Derived.Test.YtejionmgpplniaaA
namespace Go.Proofs.Ytejionmgpplniaa.T
open Go.RowKit
set_option linter.unusedVariables false
set_option linter.unusedSimpArgs false
theorem rt2 {fn : Func} {t : Tmp} {q : Nat} {s : Bool} {n : Int} {tmps : Array Value} {w : World} (h : fn.results = #[.cell t 31]) (ht : tmps.getD t undef = .pointer (some ⟨q, 0, none⟩)) (hb : w.heap[q]? = some (.cells #[.bool s, .int .i64 n] 31 (0, 0))) : (results fn tmps).run Try.prog w = .ok (.agg #[.bool s, .int .i64 n]) w := by
  have ht' : tmps[t]?.getD undef = .pointer (some ⟨q, 0, none⟩) := by simpa using ht
  have hc := fr_cells hb
  have hl := (Array.getElem?_eq_some_iff.1 hb).1
  simp [results, h, asAddr, ht', loadVar, go_sem, hc, hl]
theorem dr {w wr : World} {m : Nat} (h : wr = w.drewN m) {a : Addr} {v : Option Value} (e : w.cell? a = v) : wr.cell? a = v := by subst h; exact e
theorem below_drewN' (w : World) (n : Nat) : Below w.heap.size w (w.drewN n) := ⟨rfl, rfl, rfl, Nat.le_refl _, fun _ _ => rfl⟩
set_option maxRecDepth 100000 in
set_option maxHeartbeats 1000000 in
theorem at_any (v : Value) (L : List (Lc × Lc)) (s : Bool) (x : Int) (w : World) (hL : Prs w v L) (hl : L.length ≤ 10000) :
    Calls Try.prog 8 #[v, .agg #[.bool s, .int .i64 x]] w fun e w' => e = .returned (.agg #[.bool (atN L (s, x)).1, .int .i64 (atN L (s, x)).2]) ∧ Below w.heap.size w w' := by
  obtain ⟨a, c, rfl, H⟩ := hL
  have HF := hide (((Fr.start w).alloc rfl #[.bool s, .int .i64 x] 31).alloc (q := w.heap.size + 1) (by simp) #[.bool false, .int .i64 0] 31)
  have HH : Hid (0 < L.length → ∃ g o, a = some ⟨g, o, none⟩ ∧ ∀ w', Below w.heap.size w w' → ∀ j (h : j < L.length), w'.cell? ⟨g, o + j * 4, none⟩ = some (.bool L[j].1.1) ∧ w'.cell? ⟨g, o + j * 4 + 1, none⟩ = some (.int .i64 L[j].1.2) ∧ w'.cell? ⟨g, o + j * 4 + 2, none⟩ = some (.bool L[j].2.1) ∧ w'.cell? ⟨g, o + j * 4 + 3, none⟩ = some (.int .i64 L[j].2.2)) := fun h => by
    obtain ⟨g, o, e1, e2, e3⟩ := H h
    exact ⟨g, o, e1, fun w' hb j hj => ⟨(hb.cell (p := ⟨g, o + j * 4, none⟩) e2).trans (e3 j hj).1, (hb.cell (p := ⟨g, o + j * 4 + 1, none⟩) e2).trans (e3 j hj).2.1, (hb.cell (p := ⟨g, o + j * 4 + 2, none⟩) e2).trans (e3 j hj).2.2.1, (hb.cell (p := ⟨g, o + j * 4 + 3, none⟩) e2).trans (e3 j hj).2.2.2⟩⟩
  obtain ⟨R, HR⟩ : ∃ R, Hid (atN L (s, x) = R) := ⟨atN L (s, x), rfl⟩
  rw [HR.out]
  clear H
  go_enter Try.func8, Try.ntmps8
  go_wp2_with fail
  generalize hW : (w.alloc _).alloc _ = W at *
  clear hW
  generalize hb1 : w.heap.size + 1 = b1 at *
  clear hb1
  go_loopw [5] (fun i wr => ∃ k m : Nat, k ≤ L.length ∧ i = .int .i64 ((k : Int) - 1) ∧ Hid (wr = W.drewN m) ∧ Hid (∀ y, y ∈ L.drop k → y.1 ≠ (s, x))) (fun i _ => (intOf i + 1).toNat)
  case atStart => exact ⟨L.length, 0, Nat.le_refl _, by first | rfl | go_num, rfl, fun y hy => by simp at hy⟩
  case round =>
    obtain ⟨k, m, hk, rfl, HB, HN⟩ := hrel
    have HF1 : Hid (Fr w.heap.size w wr [.blk b1 #[.bool false, .int .i64 0] 31, .blk w.heap.size #[.bool s, .int .i64 x] 31]) := by rw [HB.out]; exact HF.out.call (below_drewN' _ m)
    have c1 := HF1.out.cell 1 rfl
    have c0 := HF1.out.cell 0 rfl
    have f0 := HF1.out.frz 0 rfl
    rcases Nat.eq_zero_or_pos k with rfl | hpos
    · have HRe : Hid (R = (s, x)) := HR.out.symm.trans (at_none (fun y hy => HN.out y (by simpa using hy)))
      have hneg : ¬ (0 : Int) ≤ ((0 : Nat) : Int) - 1 := by omega
      go_wp2_with fail
      have HG := hide ((HF1.out.set 0 rfl 0 (.bool s)).set 0 rfl 1 (.int .i64 x))
      refine bodyPost_ret (rt2 Try.results8 rfl (HG.out.get (i := 0) rfl).2) rfl ?_
      exact ⟨by rw [HRe.out], HG.out.below⟩
    · obtain ⟨j, rfl⟩ : ∃ j, k = j + 1 := ⟨k - 1, by omega⟩
      rw [show (((j + 1 : Nat) : Int) - 1) = (j : Int) by omega]
      have hjl : j < L.length := by omega
      have hge : (0 : Int) ≤ j := by omega
      have hidx : (0 : Int) ≤ j ∧ (j : Int) < L.length := by omega
      obtain ⟨g, o, rfl, E⟩ := HH.out (by omega)
      have HE := hide E
      clear E
      obtain ⟨d0, d1, d2, d3⟩ := HE.out _ HF1.out.below j hjl
      have HD : Hid (L.drop j = L[j] :: L.drop (j + 1)) := List.drop_eq_getElem_cons hjl
      have HS : Hid (L = L.take j ++ L[j] :: L.drop (j + 1)) := by show _ = _; rw [← List.drop_eq_getElem_cons hjl, List.take_append_drop]
      generalize L[j] = y at *
      obtain ⟨⟨s1, x1⟩, ⟨s2, x2⟩⟩ := y
      simp only at d0 d1 d2 d3
      by_cases hq : (s1, x1) = (s, x)
      · obtain ⟨rfl, rfl⟩ := Prod.mk.injEq .. ▸ hq
        have HRe : Hid (R = (s2, x2)) := by
          have := at_last (L := L.take j) (x := ((s1, x1), (s2, x2))) rfl HN.out
          rw [← HS.out, HR.out] at this
          exact this
        go_wp2_with fail
        go_quiet (fail)
        generalize nq = q
        have HF2 := hide (HF1.out.call (below_drewN' _ q))
        go_wp2_with fail
        have HG := hide ((HF2.out.set 0 rfl 0 (.bool s2)).set 0 rfl 1 (.int .i64 x2))
        refine bodyPost_ret (rt2 Try.results8 rfl (HG.out.get (i := 0) rfl).2) rfl ?_
        exact ⟨by rw [HRe.out], HG.out.below⟩
      · have HN2 : Hid (∀ y, y ∈ L.drop j → y.1 ≠ (s, x)) := fun y hy => by
          rw [HD.out] at hy
          rcases List.mem_cons.1 hy with rfl | hy
          · exact hq
          · exact HN.out y hy
        by_cases hs : s1 = s
        focus
          subst hs
          have hx : ¬ x1 = x := fun h => hq (by rw [h])
          have hx' : (x1 == x) = false := by simpa using hx
          go_wp2_with fail
          go_quiet (fail)
          generalize nq = q
          go_wp2_with fail
        rotate_left
        focus
          have hs' : (s1 == s) = false := by simpa using hs
          go_wp2_with fail
          go_quiet (fail)
          generalize nq = q
          go_wp2_with fail
        rotate_left
        all_goals
          go_roundw
          case rel => exact ⟨j, m + q, by omega, by go_num, by rw [HB.out, World.drewN_drewN]; rfl, HN2⟩
          case measure => simp [intOf]; try omega
end Go.Proofs.Ytejionmgpplniaa.T
