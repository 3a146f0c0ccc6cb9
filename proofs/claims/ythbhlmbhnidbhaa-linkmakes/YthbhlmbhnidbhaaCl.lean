/- The contract of the reference's Check of what is linked. -/
import Derived.Test.YthbhlmbhnidbhaaCk
import Derived.Test.YthbhlmbhnidbhaaMa
namespace Go.Proofs.Ythbhlmbhnidbhaa.T
open Go.RowKit Go.Proofs.Ythbhlmbhnidbhaa.M
set_option linter.unusedVariables false
set_option linter.unusedSimpArgs false
set_option maxRecDepth 100000 in
set_option maxHeartbeats 8000000 in
theorem chkl_any (a : Option Addr) (n c : Nat) (l : List Ob) (w : World) (hv : Obs w (.slice a n c) l) : Calls Try.prog 8 #[.slice a n c] w fun e w' => e = .returned (.agg #[.int .i64 (chkL l).1, .int .i64 (chkL l).2.1, .int .i64 (chkL l).2.2]) ∧ Below w.heap.size w w' := by
  obtain ⟨hnl, hlc, hc63, HA⟩ := hv.at
  have HA := hide HA
  have HN : Hid (l.length = n) := hnl.symm
  have HHm := hide (fun (w' : World) (hb : Below w.heap.size w w') (nm : ByteArray) => home_any a n c l nm w' (hv.below hb))
  obtain ⟨R, HR⟩ : ∃ R, Hid (chkL l = R) := ⟨_, rfl⟩
  rw [HR.out]
  have HZ : Hid (∀ (w' : World) (p : Int × Int × Int), R = p → Below w.heap.size w w' → Ending.returned (.agg #[.int .i64 p.1, .int .i64 p.2.1, .int .i64 p.2.2]) = .returned (.agg #[.int .i64 R.1, .int .i64 R.2.1, .int .i64 R.2.2]) ∧ Below w.heap.size w w') := fun w' p h hb => by rw [h]; exact ⟨rfl, hb⟩
  have HF := hide ((Fr.start w).alloc (q := w.heap.size) rfl #[.int .i64 0, .int .i64 0, .int .i64 0] 30)
  clear hv hnl
  by_cases h1 : n < 1
  · have h1' : (n : Int) < 1 := by omega
    have HRes : Hid (R = (0, 1, 0)) := (by show R = _; rw [← HR.out]; unfold chkL; rw [if_pos (Or.inl (by rw [HN.out]; exact h1))])
    go_enter Try.func8, Try.ntmps8
    have HGr := hide ((Fr.start w).alloc (q := w.heap.size) rfl #[.int .i64 0, .int .i64 1, .int .i64 0] 30)
    go_wp2_with fail
    refine bodyPost_ret (rtT Try.results8 rfl (HGr.out.get (i := 0) rfl).2 rfl) rfl ?_
    exact HZ.out _ _ HRes.out HGr.out.below
  have h1' : ¬ (n : Int) < 1 := by omega
  by_cases h2 : 4 < n
  · have h2' : (4 : Int) < n := by omega
    have HRes : Hid (R = (0, 1, 0)) := (by show R = _; rw [← HR.out]; unfold chkL; rw [if_pos (Or.inr (by rw [HN.out]; exact h2))])
    go_enter Try.func8, Try.ntmps8
    have HGr := hide ((Fr.start w).alloc (q := w.heap.size) rfl #[.int .i64 0, .int .i64 1, .int .i64 0] 30)
    go_wp2_with fail
    refine bodyPost_ret (rtT Try.results8 rfl (HGr.out.get (i := 0) rfl).2 rfl) rfl ?_
    exact HZ.out _ _ HRes.out HGr.out.below
  have h2' : ¬ (4 : Int) < n := by omega
  have HL : Hid (¬ (l.length < 1 ∨ 4 < l.length)) := (by rw [HN.out]; show ¬ _; omega)
  go_enter Try.func8, Try.ntmps8
  go_wp2_with fail
  clear h1' h2'
  go_loopw [3] (fun i wr => ∃ u : Nat, u ≤ n ∧ i = .int .i64 u ∧ Hid (Fr w.heap.size w wr [.blk w.heap.size #[.int .i64 0, .int .i64 0, .int .i64 0] 30]) ∧ Hid (∀ j (hj : j < l.length), j < u → mayO l[j] = true)) (fun i _ => n - (intOf i).toNat)
  case atStart => exact ⟨0, Nat.zero_le _, rfl, HF, fun j _ hj => absurd hj (by omega)⟩
  case round =>
    clear HF
    obtain ⟨u, hu, rfl, HF, HQ⟩ := hrel
    by_cases hlt : u < n
    · have hlt' : (u : Int) < n := by omega
      have hidx : (0 : Int) ≤ u ∧ (u : Int) < n := by omega
      have hul : u < l.length := by rw [HN.out]; exact hlt
      obtain ⟨g, oo, rfl, HE⟩ := HA.out (by omega)
      obtain ⟨ca, cc, da, dc, sa, sc, ra, rc, e0, e1, e2, e3, HO⟩ := HE.out _ HF.out.below u hul
      have HM := hide (mayr_any l[u] _ _ HO.out)
      have HYu : Hid (mayO l[u] = false → l.findIdx? (fun o => !mayO o) = some u) := fun h => find_yes hul (by simp [h]) fun j hj => by simp [HQ.out j (by omega) hj]
      have HQu : Hid (mayO l[u] = true → ∀ j (hj : j < l.length), j < u + 1 → mayO l[j] = true) := fun h j hj hju => by
        by_cases q : j = u
        · subst q; exact h
        · exact HQ.out j hj (by omega)
      generalize mayO l[u] = M at *
      clear HQ HE HO
      go_wp2_with fail
      go_at_call 22
      refine HM.out.mono ?_
      rintro e w1 ⟨rfl, hb⟩
      replace HF := hide (HF.out.call hb)
      clear hb HM e0 e1 e2 e3
      cases M
      · have HRes : Hid (R = ((u : Int), 2, 0)) := (by show R = _; rw [← HR.out]; exact chk_A HL.out (HYu.out rfl))
        have q0 := HF.out.cell 0 rfl
        have q1 := HF.out.frz 0 rfl
        have HGr := hide (((HF.out.set 0 rfl 0 (.int .i64 u)).set 0 rfl 1 (.int .i64 2)).set 0 rfl 2 (.int .i64 0))
        go_wp2_with fail
        refine bodyPost_ret (rtT Try.results8 rfl (HGr.out.get (i := 0) rfl).2 rfl) rfl ?_
        exact HZ.out _ _ HRes.out HGr.out.below
      · have HQn := hide (HQu.out rfl)
        go_wp2_with fail
        go_roundw
        case rel => exact ⟨u + 1, by omega, by go_num, HF, HQn⟩
        case measure => simp [intOf]; omega
    · have hlt' : ¬ (u : Int) < n := by omega
      have HNA : Hid (l.findIdx? (fun o => !mayO o) = none) := find_no fun j hj => by simp [HQ.out j hj (by have := HN.out; omega)]
      clear HQ
      go_wp2_with fail
      have HFs := HF
      clear HF
      have HF := HFs
      clear HFs
      go_loopw [4] (fun i wr => ∃ u : Nat, u ≤ n ∧ i = .int .i64 u ∧ Hid (Fr w.heap.size w wr [.blk w.heap.size #[.int .i64 0, .int .i64 0, .int .i64 0] 30]) ∧ Hid (∀ v (hv : v < l.length), v < u → l[v].syms.findIdx? ((twiceP l) v) = none)) (fun i _ => n - (intOf i).toNat)
      case atStart => exact ⟨0, Nat.zero_le _, rfl, HF, fun v _ hv => absurd hv (by omega)⟩
      case round =>
        clear HF
        obtain ⟨u, hu, rfl, HF, HQ⟩ := hrel
        by_cases hlt : u < n
        · have hlt' : (u : Int) < n := by omega
          have hidx : (0 : Int) ≤ u ∧ (u : Int) < n := by omega
          have hul : u < l.length := by rw [HN.out]; exact hlt
          obtain ⟨g, oo, rfl, HE⟩ := HA.out (by omega)
          have HYu := hide (fun (i : Nat) h => find2_yes0 (p := (twiceP l)) (i := i) hul h (fun v hv => HQ.out v (by omega) hv))
          have HQu : Hid (l[u].syms.findIdx? ((twiceP l) u) = none → ∀ v (hv : v < l.length), v < u + 1 → l[v].syms.findIdx? ((twiceP l) v) = none) := fun h v hv hvu => by
            by_cases q : v = u
            · subst q; exact h
            · exact HQ.out v hv (by omega)
          have HEu := hide (fun w' hw => HE.out w' hw u hul)
          have HSO : Hid (∀ k (hk : k < l[u].syms.length), symO l ((u : Int), (k : Int)) = l[u].syms[k]) := fun k hk => symO_at hul hk
          generalize l[u] = O at *
          clear HQ
          go_wp2_with fail
          go_loopw [5] (fun i wr => ∃ k : Nat, k ≤ O.syms.length ∧ i = .int .i64 k ∧ Hid (Fr w.heap.size w wr [.blk w.heap.size #[.int .i64 0, .int .i64 0, .int .i64 0] 30]) ∧ Hid (∀ j (hj : j < O.syms.length), j < k → (twiceP l) u O.syms[j] = false)) (fun i _ => O.syms.length - (intOf i).toNat)
          case atStart => exact ⟨0, Nat.zero_le _, rfl, HF, fun v _ hv => absurd hv (by omega)⟩
          case round =>
            clear HF
            obtain ⟨k, hk, rfl, HF, HJ⟩ := hrel
            obtain ⟨ca, cc, da, dc, sa, sc, ra, rc, e0, e1, e2, e3, HO⟩ := HEu.out _ HF.out.below
            obtain ⟨-, hs63, HS⟩ := HO.out.syms
            by_cases hk2 : k < O.syms.length
            · have hk2' : (k : Int) < O.syms.length := by omega
              have hidx2 : (0 : Int) ≤ k ∧ (k : Int) < O.syms.length := by omega
              obtain ⟨gs, os, rfl, HSE⟩ := HS (by omega)
              obtain ⟨r0, r1, r2, r3, r4, r5, r6⟩ := HSE.out _ (Below.refl _ _) k hk2
              have HYk : Hid ((twiceP l) u O.syms[k] = true → find2 (twiceP l) l 0 = some (u, k)) := fun h => HYu.out k (find_yes hk2 h fun j hj => HJ.out j (by omega) hj)
              have HJk : Hid ((twiceP l) u O.syms[k] = false → ∀ j (hj : j < O.syms.length), j < k + 1 → (twiceP l) u O.syms[j] = false) := fun h j hj hjk => by
                by_cases q : j = k
                · subst q; exact h
                · exact HJ.out j hj (by omega)
              have HSk := hide (HSO.out k hk2)
              generalize O.syms[k] = S at *
              obtain ⟨nm, kd, st, pl, sz, sg, fr⟩ := S
              simp only at r0 r1 r2 r3 r4 r5 r6
              have HFa := hide (HF.out.alloc (q := wr.heap.size) rfl #[.string nm, .int .i64 kd, .bool st, .int .i64 pl, .int .i64 sz, .string sg, .int .i64 fr] 59)
              have HOw := hide (own_any nm kd st pl sz sg fr (wr.alloc (.cells #[.string nm, .int .i64 kd, .bool st, .int .i64 pl, .int .i64 sz, .string sg, .int .i64 fr] 59)))
              have HOB : Hid (ownB ⟨nm, kd, st, pl, sz, sg, fr⟩ = (decide (kd = 1) || decide (kd = 2))) := rfl
              generalize hK : (decide (kd = 1) || decide (kd = 2)) = K at *
              clear HJ HYu HS HSE HO HSO
              go_wp2_with fail
              go_at_call 23
              refine HOw.out.mono ?_
              rintro e w1 ⟨rfl, hb⟩
              replace HFa := hide (HFa.out.call hb)
              have s0 := HFa.out.cell 0 rfl
              clear hb HOw
              have HTw : Hid (twiceP l u ⟨nm, kd, st, pl, sz, sg, fr⟩ = (K && !st && decide ((homeO l nm).1 < u))) := (by show _ = _; unfold twiceP; rw [HOB.out])
              cases K
              · have HJn := hide (HJk.out (HTw.out.trans (by simp)))
                go_wp2_with fail
                go_roundw
                case rel => exact ⟨k + 1, by omega, by go_num, HFa.out.tail, HJn⟩
                case measure => simp [intOf]; omega
              · cases st
                · obtain ⟨x, hx⟩ : ∃ x, (homeO l nm).1 = x := ⟨_, rfl⟩
                  obtain ⟨y, hy⟩ : ∃ y, (homeO l nm).2 = y := ⟨_, rfl⟩
                  have HHn := hide (HHm.out _ HFa.out.below nm)
                  rw [hx, hy] at HHn
                  rw [hx] at HTw
                  clear hx hy
                  go_wp2_with fail
                  go_at_call 9
                  refine HHn.out.mono ?_
                  rintro e w2 ⟨rfl, hb⟩
                  replace HFa := hide (HFa.out.call hb)
                  clear hb HHn s0
                  by_cases hxu : x < (u : Int)
                  · have HRes : Hid (R = ((u : Int), 5, (k : Int))) := (by show R = _; rw [← HR.out]; exact chk_B HL.out HNA.out (HYk.out (HTw.out.trans (by simp [hxu]))))
                    have q0 := HFa.out.cell 1 rfl
                    have q1 := HFa.out.frz 1 rfl
                    have HGr := hide (((HFa.out.set 1 rfl 0 (.int .i64 u)).set 1 rfl 1 (.int .i64 5)).set 1 rfl 2 (.int .i64 k))
                    go_wp2_with fail
                    refine bodyPost_ret (rtT Try.results8 rfl (HGr.out.get (i := 1) rfl).2 rfl) rfl ?_
                    exact HZ.out _ _ HRes.out HGr.out.below
                  · have HJn := hide (HJk.out (HTw.out.trans (by simp [hxu])))
                    go_wp2_with fail
                    go_roundw
                    case rel => exact ⟨k + 1, by omega, by go_num, HFa.out.tail, HJn⟩
                    case measure => simp [intOf]; omega
                · have HJn := hide (HJk.out (HTw.out.trans (by simp)))
                  go_wp2_with fail
                  go_roundw
                  case rel => exact ⟨k + 1, by omega, by go_num, HFa.out.tail, HJn⟩
                  case measure => simp [intOf]; omega
            · have hk2' : ¬ (k : Int) < O.syms.length := by omega
              have HQn := hide (HQu.out (find_no fun j hj => HJ.out j hj (by omega)))
              clear HQu HYu HJ HS HO
              go_wp2_with fail
              go_roundw
              case rel => exact ⟨u + 1, by omega, by go_num, HF, HQn⟩
              case measure => simp [intOf]; omega
        · have hlt' : ¬ (u : Int) < n := by omega
          have HNone := hide (find2_no0 (p := (twiceP l)) (l := l) fun v hv => HQ.out v hv (by have := HN.out; omega))
          clear HQ
          have HNB := HNone
          clear HNone
          go_wp2_with fail
          have HFs := HF
          clear HF
          have HF := HFs
          clear HFs
          go_loopw [9] (fun i wr => ∃ u : Nat, u ≤ n ∧ i = .int .i64 u ∧ Hid (Fr w.heap.size w wr [.blk w.heap.size #[.int .i64 0, .int .i64 0, .int .i64 0] 30]) ∧ Hid (∀ v (hv : v < l.length), v < u → l[v].syms.findIdx? ((fun _ s => decide (outC l s ≠ 0)) v) = none)) (fun i _ => n - (intOf i).toNat)
          case atStart => exact ⟨0, Nat.zero_le _, rfl, HF, fun v _ hv => absurd hv (by omega)⟩
          case round =>
            clear HF
            obtain ⟨u, hu, rfl, HF, HQ⟩ := hrel
            by_cases hlt : u < n
            · have hlt' : (u : Int) < n := by omega
              have hidx : (0 : Int) ≤ u ∧ (u : Int) < n := by omega
              have hul : u < l.length := by rw [HN.out]; exact hlt
              obtain ⟨g, oo, rfl, HE⟩ := HA.out (by omega)
              have HYu := hide (fun (i : Nat) h => find2_yes0 (p := (fun _ s => decide (outC l s ≠ 0))) (i := i) hul h (fun v hv => HQ.out v (by omega) hv))
              have HQu : Hid (l[u].syms.findIdx? ((fun _ s => decide (outC l s ≠ 0)) u) = none → ∀ v (hv : v < l.length), v < u + 1 → l[v].syms.findIdx? ((fun _ s => decide (outC l s ≠ 0)) v) = none) := fun h v hv hvu => by
                by_cases q : v = u
                · subst q; exact h
                · exact HQ.out v hv (by omega)
              have HEu := hide (fun w' hw => HE.out w' hw u hul)
              have HSO : Hid (∀ k (hk : k < l[u].syms.length), symO l ((u : Int), (k : Int)) = l[u].syms[k]) := fun k hk => symO_at hul hk
              generalize l[u] = O at *
              clear HQ
              go_wp2_with fail
              go_loopw [10] (fun i wr => ∃ k : Nat, k ≤ O.syms.length ∧ i = .int .i64 k ∧ Hid (Fr w.heap.size w wr [.blk w.heap.size #[.int .i64 0, .int .i64 0, .int .i64 0] 30]) ∧ Hid (∀ j (hj : j < O.syms.length), j < k → (fun _ s => decide (outC l s ≠ 0)) u O.syms[j] = false)) (fun i _ => O.syms.length - (intOf i).toNat)
              case atStart => exact ⟨0, Nat.zero_le _, rfl, HF, fun v _ hv => absurd hv (by omega)⟩
              case round =>
                clear HF
                obtain ⟨k, hk, rfl, HF, HJ⟩ := hrel
                obtain ⟨ca, cc, da, dc, sa, sc, ra, rc, e0, e1, e2, e3, HO⟩ := HEu.out _ HF.out.below
                obtain ⟨-, hs63, HS⟩ := HO.out.syms
                by_cases hk2 : k < O.syms.length
                · have hk2' : (k : Int) < O.syms.length := by omega
                  have hidx2 : (0 : Int) ≤ k ∧ (k : Int) < O.syms.length := by omega
                  obtain ⟨gs, os, rfl, HSE⟩ := HS (by omega)
                  obtain ⟨r0, r1, r2, r3, r4, r5, r6⟩ := HSE.out _ (Below.refl _ _) k hk2
                  have HYk : Hid ((fun _ s => decide (outC l s ≠ 0)) u O.syms[k] = true → find2 (fun _ s => decide (outC l s ≠ 0)) l 0 = some (u, k)) := fun h => HYu.out k (find_yes hk2 h fun j hj => HJ.out j (by omega) hj)
                  have HJk : Hid ((fun _ s => decide (outC l s ≠ 0)) u O.syms[k] = false → ∀ j (hj : j < O.syms.length), j < k + 1 → (fun _ s => decide (outC l s ≠ 0)) u O.syms[j] = false) := fun h j hj hjk => by
                    by_cases q : j = k
                    · subst q; exact h
                    · exact HJ.out j hj (by omega)
                  have HSk := hide (HSO.out k hk2)
                  generalize O.syms[k] = S at *
                  obtain ⟨nm, kd, st, pl, sz, sg, fr⟩ := S
                  simp only at r0 r1 r2 r3 r4 r5 r6
                  have HFa := hide (HF.out.alloc (q := wr.heap.size) rfl #[.string nm, .int .i64 kd, .bool st, .int .i64 pl, .int .i64 sz, .string sg, .int .i64 fr] 59)
                  have HOw := hide (own_any nm kd st pl sz sg fr (wr.alloc (.cells #[.string nm, .int .i64 kd, .bool st, .int .i64 pl, .int .i64 sz, .string sg, .int .i64 fr] 59)))
                  have HOB : Hid (ownB ⟨nm, kd, st, pl, sz, sg, fr⟩ = (decide (kd = 1) || decide (kd = 2))) := rfl
                  generalize hK : (decide (kd = 1) || decide (kd = 2)) = K at *
                  clear HJ HYu HS HSE HO HSO
                  go_wp2_with fail
                  go_at_call 23
                  refine HOw.out.mono ?_
                  rintro e w1 ⟨rfl, hb⟩
                  replace HFa := hide (HFa.out.call hb)
                  have s0 := HFa.out.cell 0 rfl
                  clear hb HOw
                  have HOC0 : Hid (outC l ⟨nm, kd, st, pl, sz, sg, fr⟩ = if K then 0 else if (homeO l nm).1 < 0 then 4 else if (kd = 3 ∧ (symO l (homeO l nm)).kind ≠ 1) ∨ (kd = 4 ∧ (symO l (homeO l nm)).kind ≠ 2) ∨ (symO l (homeO l nm)).sign ≠ sg then 3 else 0) := (by show _ = _; unfold outC; rw [HOB.out])
                  cases K
                  · simp only [Bool.false_eq_true, if_false] at HOC0
                    have HHn := hide (HHm.out _ HFa.out.below nm)
                    rcases home_sound l nm with hh | ⟨v, j, hvl, hj, hh, -⟩
                    · rw [hh] at HHn HOC0
                      simp only at HHn HOC0
                      have HRes : Hid (R = ((u : Int), 4, (k : Int))) := (by
                        show R = _
                        have h4 : outC l ⟨nm, kd, st, pl, sz, sg, fr⟩ = 4 := HOC0.out.trans (by simp)
                        rw [← HR.out, chk_C HL.out HNA.out HNB.out (HYk.out (by simp [h4])), HSk.out, h4])
                      go_wp2_with fail
                      go_at_call 9
                      refine HHn.out.mono ?_
                      rintro e w2 ⟨rfl, hb⟩
                      replace HFa := hide (HFa.out.call hb)
                      clear hb HHn s0
                      have q0 := HFa.out.cell 1 rfl
                      have q1 := HFa.out.frz 1 rfl
                      have HGr := hide (((HFa.out.set 1 rfl 0 (.int .i64 u)).set 1 rfl 1 (.int .i64 4)).set 1 rfl 2 (.int .i64 k))
                      go_wp2_with fail
                      refine bodyPost_ret (rtT Try.results8 rfl (HGr.out.get (i := 1) rfl).2 rfl) rfl ?_
                      exact HZ.out _ _ HRes.out HGr.out.below
                    · rw [hh] at HHn HOC0
                      rw [symO_at hvl hj] at HOC0
                      simp only at HHn HOC0
                      obtain ⟨ca2, cc2, da2, dc2, sa2, sc2, ra2, rc2, -, -, e22, -, HO2⟩ := HE.out _ (Below.refl _ _) v hvl
                      clear e22
                      have HEv := hide (fun w' hw => HE.out w' hw v hvl)
                      have hvn : (0 : Int) ≤ v ∧ (v : Int) < n := by have := HN.out; omega
                      have hjn : (0 : Int) ≤ j ∧ (j : Int) < l[v].syms.length := by omega
                      have HJl := hide hj
                      go_wp2_with fail
                      go_at_call 9
                      refine HHn.out.mono ?_
                      rintro e w2 ⟨rfl, hb⟩
                      replace HFa := hide (HFa.out.call hb)
                      clear hb HHn s0 HO2
                      obtain ⟨ca3, cc3, da3, dc3, sa3, sc3, ra3, rc3, -, -, e32, -, HO3⟩ := HEv.out _ HFa.out.below
                      obtain ⟨-, hs63b, HS3⟩ := HO3.out.syms
                      obtain ⟨gs3, os3, rfl, HSE3⟩ := HS3 (by omega)
                      obtain ⟨t0, t1, t2, t3, t4, t5, t6⟩ := HSE3.out _ (Below.refl _ _) j hj
                      have HOC := HOC0
                      clear HOC0
                      generalize l[v].syms[j] = S2 at *
                      obtain ⟨nm2, kd2, st2, pl2, sz2, sg2, fr2⟩ := S2
                      simp only at t0 t1 t2 t3 t4 t5 t6 HOC
                      have hv0 : ¬ (v : Int) < 0 := by omega
                      simp only [hv0, if_false] at HOC
                      clear HEv HS3 HSE3 HO3
                      replace HFa := hide (HFa.out.alloc (q := w2.heap.size) rfl #[.string nm2, .int .i64 kd2, .bool st2, .int .i64 pl2, .int .i64 sz2, .string sg2, .int .i64 fr2] 59)
                      generalize hb3 : w2.heap.size = b3 at *
                      clear hb3
                      have s0 := HFa.out.cell 1 rfl
                      have s1 := HFa.out.cell 0 rfl
                      by_cases h3 : kd = 3
                      · subst h3
                        by_cases h21 : kd2 = 1
                        · subst h21
                          by_cases hsg : sg2 = sg
                          · subst hsg
                            have HJn := hide (HJk.out (by simp [HOC.out, ]))
                            go_wp2_with fail
                            go_roundw
                            case rel => exact ⟨k + 1, by omega, by go_num, HFa.out.tail.tail, HJn⟩
                            case measure => simp [intOf]; omega
                          · have hsg' : (sg2.toList == sg.toList) = false := by rw [str_eq]; simpa using hsg
                            have HRes : Hid (R = ((u : Int), 3, (k : Int))) := (by
                              show R = _
                              have hw3 := HOC.out.trans (show _ = (3 : Int) by simp [hsg])
                              rw [← HR.out, chk_C HL.out HNA.out HNB.out (HYk.out (by simp [hw3])), HSk.out, hw3])
                            have q0 := HFa.out.cell 2 rfl
                            have q1 := HFa.out.frz 2 rfl
                            have HGr := hide (((HFa.out.set 2 rfl 0 (.int .i64 u)).set 2 rfl 1 (.int .i64 3)).set 2 rfl 2 (.int .i64 k))
                            go_wp2_with fail
                            refine bodyPost_ret (rtT Try.results8 rfl (HGr.out.get (i := 2) rfl).2 rfl) rfl ?_
                            exact HZ.out _ _ HRes.out HGr.out.below
                        · have h21' : (kd2 == 1) = false := by simpa using h21
                          have HRes : Hid (R = ((u : Int), 3, (k : Int))) := (by
                            show R = _
                            have hw3 := HOC.out.trans (show _ = (3 : Int) by simp [h21])
                            rw [← HR.out, chk_C HL.out HNA.out HNB.out (HYk.out (by simp [hw3])), HSk.out, hw3])
                          have q0 := HFa.out.cell 2 rfl
                          have q1 := HFa.out.frz 2 rfl
                          have HGr := hide (((HFa.out.set 2 rfl 0 (.int .i64 u)).set 2 rfl 1 (.int .i64 3)).set 2 rfl 2 (.int .i64 k))
                          go_wp2_with fail
                          refine bodyPost_ret (rtT Try.results8 rfl (HGr.out.get (i := 2) rfl).2 rfl) rfl ?_
                          exact HZ.out _ _ HRes.out HGr.out.below
                      · have h3' : (kd == 3) = false := by simpa using h3
                        by_cases h4 : kd = 4
                        · subst h4
                          by_cases h22 : kd2 = 2
                          · subst h22
                            by_cases hsg : sg2 = sg
                            · subst hsg
                              have HJn := hide (HJk.out (by simp [HOC.out, ]))
                              go_wp2_with fail
                              go_roundw
                              case rel => exact ⟨k + 1, by omega, by go_num, HFa.out.tail.tail, HJn⟩
                              case measure => simp [intOf]; omega
                            · have hsg' : (sg2.toList == sg.toList) = false := by rw [str_eq]; simpa using hsg
                              have HRes : Hid (R = ((u : Int), 3, (k : Int))) := (by
                                show R = _
                                have hw3 := HOC.out.trans (show _ = (3 : Int) by simp [hsg])
                                rw [← HR.out, chk_C HL.out HNA.out HNB.out (HYk.out (by simp [hw3])), HSk.out, hw3])
                              have q0 := HFa.out.cell 2 rfl
                              have q1 := HFa.out.frz 2 rfl
                              have HGr := hide (((HFa.out.set 2 rfl 0 (.int .i64 u)).set 2 rfl 1 (.int .i64 3)).set 2 rfl 2 (.int .i64 k))
                              go_wp2_with fail
                              refine bodyPost_ret (rtT Try.results8 rfl (HGr.out.get (i := 2) rfl).2 rfl) rfl ?_
                              exact HZ.out _ _ HRes.out HGr.out.below
                          · have h22' : (kd2 == 2) = false := by simpa using h22
                            have HRes : Hid (R = ((u : Int), 3, (k : Int))) := (by
                              show R = _
                              have hw3 := HOC.out.trans (show _ = (3 : Int) by simp [h22])
                              rw [← HR.out, chk_C HL.out HNA.out HNB.out (HYk.out (by simp [hw3])), HSk.out, hw3])
                            have q0 := HFa.out.cell 2 rfl
                            have q1 := HFa.out.frz 2 rfl
                            have HGr := hide (((HFa.out.set 2 rfl 0 (.int .i64 u)).set 2 rfl 1 (.int .i64 3)).set 2 rfl 2 (.int .i64 k))
                            go_wp2_with fail
                            refine bodyPost_ret (rtT Try.results8 rfl (HGr.out.get (i := 2) rfl).2 rfl) rfl ?_
                            exact HZ.out _ _ HRes.out HGr.out.below
                        · have h4' : (kd == 4) = false := by simpa using h4
                          by_cases hsg : sg2 = sg
                          · subst hsg
                            have HJn := hide (HJk.out (by simp [HOC.out, h3, h4]))
                            go_wp2_with fail
                            go_roundw
                            case rel => exact ⟨k + 1, by omega, by go_num, HFa.out.tail.tail, HJn⟩
                            case measure => simp [intOf]; omega
                          · have hsg' : (sg2.toList == sg.toList) = false := by rw [str_eq]; simpa using hsg
                            have HRes : Hid (R = ((u : Int), 3, (k : Int))) := (by
                              show R = _
                              have hw3 := HOC.out.trans (show _ = (3 : Int) by simp [hsg])
                              rw [← HR.out, chk_C HL.out HNA.out HNB.out (HYk.out (by simp [hw3])), HSk.out, hw3])
                            have q0 := HFa.out.cell 2 rfl
                            have q1 := HFa.out.frz 2 rfl
                            have HGr := hide (((HFa.out.set 2 rfl 0 (.int .i64 u)).set 2 rfl 1 (.int .i64 3)).set 2 rfl 2 (.int .i64 k))
                            go_wp2_with fail
                            refine bodyPost_ret (rtT Try.results8 rfl (HGr.out.get (i := 2) rfl).2 rfl) rfl ?_
                            exact HZ.out _ _ HRes.out HGr.out.below
                  · have HJn := hide (HJk.out (by simp [HOC0.out]))
                    go_wp2_with fail
                    go_roundw
                    case rel => exact ⟨k + 1, by omega, by go_num, HFa.out.tail, HJn⟩
                    case measure => simp [intOf]; omega
                · have hk2' : ¬ (k : Int) < O.syms.length := by omega
                  have HQn := hide (HQu.out (find_no fun j hj => HJ.out j hj (by omega)))
                  clear HQu HYu HJ HS HO
                  go_wp2_with fail
                  go_roundw
                  case rel => exact ⟨u + 1, by omega, by go_num, HF, HQn⟩
                  case measure => simp [intOf]; omega
            · have hlt' : ¬ (u : Int) < n := by omega
              have HNone := hide (find2_no0 (p := (fun _ s => decide (outC l s ≠ 0))) (l := l) fun v hv => HQ.out v hv (by have := HN.out; omega))
              clear HQ
              have HNC := HNone
              clear HNone
              have HRm : Hid (R = (0, mainC l, 0)) := (by show R = _; rw [← HR.out]; exact chk_form HL.out HNA.out HNB.out HNC.out)
              have HHn := hide (HHm.out _ HF.out.below mainN)
              rcases home_sound l mainN with hh | ⟨v, j, hvl, hj, hh, -⟩
              · have HRes : Hid (R = (0, 4, 0)) := (by
                  show R = _
                  rw [HRm.out]
                  unfold mainC
                  rw [hh]
                  simp)
                rw [hh] at HHn
                simp only at HHn
                unfold mainN at HHn
                go_wp2_with fail
                go_at_call 9
                refine HHn.out.mono ?_
                rintro e w2 ⟨rfl, hb⟩
                replace HF := hide (HF.out.call hb)
                clear hb HHn
                have q0 := HF.out.cell 0 rfl
                have q1 := HF.out.frz 0 rfl
                have HGr := hide (((HF.out.set 0 rfl 0 (.int .i64 0)).set 0 rfl 1 (.int .i64 4)).set 0 rfl 2 (.int .i64 0))
                go_wp2_with fail
                refine bodyPost_ret (rtT Try.results8 rfl (HGr.out.get (i := 0) rfl).2 rfl) rfl ?_
                exact HZ.out _ _ HRes.out HGr.out.below
              · have HMC : Hid (mainC l = if l[v].syms[j].kind ≠ 1 then 4 else if l[v].syms[j].sign ≠ mainS then 3 else 0) := (by
                  show _ = _
                  unfold mainC
                  rw [hh, symO_at hvl hj]
                  have h0 : ¬ ((v : Int) < 0) := by omega
                  simp [h0])
                rw [hh] at HHn
                simp only at HHn
                unfold mainN at HHn
                obtain ⟨g, oo, rfl, HE⟩ := HA.out (by omega)
                have HEv := hide (fun w' hw => HE.out w' hw v hvl)
                have hvn : (0 : Int) ≤ v ∧ (v : Int) < n := by have := HN.out; omega
                have hjn : (0 : Int) ≤ j ∧ (j : Int) < l[v].syms.length := by omega
                have hv0 : ¬ (v : Int) < 0 := by omega
                go_wp2_with fail
                go_at_call 9
                refine HHn.out.mono ?_
                rintro e w2 ⟨rfl, hb⟩
                replace HF := hide (HF.out.call hb)
                clear hb HHn
                obtain ⟨ca3, cc3, da3, dc3, sa3, sc3, ra3, rc3, -, -, e32, -, HO3⟩ := HEv.out _ HF.out.below
                obtain ⟨-, hs63b, HS3⟩ := HO3.out.syms
                obtain ⟨gs3, os3, rfl, HSE3⟩ := HS3 (by omega)
                obtain ⟨t0, t1, t2, t3, t4, t5, t6⟩ := HSE3.out _ (Below.refl _ _) j hj
                generalize l[v].syms[j] = S2 at *
                obtain ⟨nm2, kd2, st2, pl2, sz2, sg2, fr2⟩ := S2
                simp only at t0 t1 t2 t3 t4 t5 t6 HMC
                clear HEv HS3 HSE3 HO3 HE
                by_cases h21 : kd2 = 1
                · subst h21
                  by_cases hsg : sg2 = mainS
                  · subst hsg
                    have HRes : Hid (R = (0, 0, 0)) := (by show R = _; rw [HRm.out, HMC.out]; simp)
                    unfold mainS at t5
                    have q0 := HF.out.cell 0 rfl
                    have q1 := HF.out.frz 0 rfl
                    have HGr := hide (((HF.out.set 0 rfl 0 (.int .i64 0)).set 0 rfl 1 (.int .i64 0)).set 0 rfl 2 (.int .i64 0))
                    go_wp2_with fail
                    refine bodyPost_ret (rtT Try.results8 rfl (HGr.out.get (i := 0) rfl).2 rfl) rfl ?_
                    exact HZ.out _ _ HRes.out HGr.out.below
                  · have hsg' : (sg2.toList == mainS.toList) = false := by rw [str_eq]; simpa using hsg
                    have HRes : Hid (R = (0, 3, 0)) := (by show R = _; rw [HRm.out, HMC.out]; simp [hsg])
                    unfold mainS at hsg'
                    have hsg3 : (⟨#[102, 110, 40, 41, 105, 110, 116]⟩ : ByteArray).toList = [102, 110, 40, 41, 105, 110, 116] := by rw [ByteArray.toList_eq]
                    have hsg2 : (sg2.toList == [102, 110, 40, 41, 105, 110, 116]) = false := by rw [← hsg3]; exact hsg'
                    clear hsg3
                    have q0 := HF.out.cell 0 rfl
                    have q1 := HF.out.frz 0 rfl
                    have HGr := hide (((HF.out.set 0 rfl 0 (.int .i64 0)).set 0 rfl 1 (.int .i64 3)).set 0 rfl 2 (.int .i64 0))
                    go_wp2_with fail
                    refine bodyPost_ret (rtT Try.results8 rfl (HGr.out.get (i := 0) rfl).2 rfl) rfl ?_
                    exact HZ.out _ _ HRes.out HGr.out.below
                · have h21' : (kd2 == 1) = false := by simpa using h21
                  have HRes : Hid (R = (0, 4, 0)) := (by show R = _; rw [HRm.out, HMC.out]; simp [h21])
                  have q0 := HF.out.cell 0 rfl
                  have q1 := HF.out.frz 0 rfl
                  have HGr := hide (((HF.out.set 0 rfl 0 (.int .i64 0)).set 0 rfl 1 (.int .i64 4)).set 0 rfl 2 (.int .i64 0))
                  go_wp2_with fail
                  all_goals first | (exfalso; have hx : 0 ≤ (v : Int) ∧ (kd2 != 1) = false := (by assumption); exact absurd hx.2 (by simp [h21])) | skip
                  refine bodyPost_ret (rtT Try.results8 rfl (HGr.out.get (i := 0) rfl).2 rfl) rfl ?_
                  exact HZ.out _ _ HRes.out HGr.out.below
end Go.Proofs.Ythbhlmbhnidbhaa.T
