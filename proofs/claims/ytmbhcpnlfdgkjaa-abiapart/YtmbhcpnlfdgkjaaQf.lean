/- The program's Places, where all may be. -/
import Derived.Test.YtmbhcpnlfdgkjaaQe
import Derived.Deep.RegionHeldLaw
namespace Go.Proofs.Ytmbhcpnlfdgkjaa.T
open Go.RowKit
set_option linter.unusedVariables false
set_option linter.unusedSimpArgs false
set_option maxRecDepth 100000 in
set_option maxHeartbeats 4000000 in
theorem pl_good (name : ByteArray) (nn : Nat) (names : Nat → ByteArray) (l : Nat) (parts : Nat → Ty) (many : Bool) (v : Value) (ba : Option Addr) (bn bc : Nat) (bs : Nat → Ty) (w : World) (hv : TyV w (.mk 4 name nn names (l + 1) parts many) v) (hm : mayN 4 (.mk 4 name nn names (l + 1) parts many) = true) (hbs : Tys w (.slice ba bn bc) bn bs) (he : errP (.mk 4 name nn names (l + 1) parts many) bn bs = 0) (hgood : (List.range bn).any (fun i => badB (bs i)) = false) (hbn : bn ≤ 6) : Calls Try.prog 5 #[v, .slice ba bn bc] w (PostP w (.mk 4 name nn names (l + 1) parts many) bn bs) := by
  obtain ⟨hp1, hp7, hpm⟩ := good_mk hm
  obtain ⟨na, nc, pa, pc, rfl, hS, q1, q2, q3, q4, q5, q6, q7, HP⟩ := hv.part
  obtain ⟨pb, po, rfl, hpb, hpc⟩ := HP.out (by omega)
  have HE := hide he
  have HF := hide (((Fr.start w).alloc rfl #[.int .i64 4, .string name, .slice na nn nc, .slice (some ⟨pb, po, none⟩) (l + 1) pc, .bool many] 25).alloc (q := w.heap.size + 1) (by simp) z7 30)
  have hcal := wrong_any _ _ ba bn bc bs _ (hv.below HF.out.below) (hbs.below HF.out.below)
  rw [he] at hcal
  have HC := hide hcal
  have HPA : Hid (∀ w', Below w.heap.size w w' → ∀ j, j < l + 1 → _) := fun w' hb j hj => part_at hpb hpc hb j hj
  have HFm : Hid (∀ j, j < l + 1 → mayN 4 (parts j) = true) := fun j hj => may_up 3 _ (hpm j hj)
  have HSz : Hid (∀ j, j < l + 1 → sizeT (parts j) ≤ 12 ∧ 1 ≤ sizeT (parts j)) := fun j hj => ⟨(sizeT_le (hpm j hj)).2, size_pos (hpm j hj)⟩
  have HCO : Hid (∀ w', Below w.heap.size w w' → Calls Try.prog 16 #[.slice ba bn bc] w' fun e w'' => e = .returned (.int .i64 (sumN bs bn)) ∧ Below w'.heap.size w' w'') := fun w' hb => wof_any ba bn bc bs w' (hbs.below hb) hbn hgood
  have hsum := sum_le hgood
  have hl6 : l ≤ 6 := by omega
  have hs1 : (0 : Int) ≤ l ∧ (l : Int) ≤ pc := by omega
  have hlast : (0 : Int) ≤ l ∧ (l : Int) < (l + 1 : Nat) := by omega
  clear he hv hS hm hcal HP hpc hpm hbs hgood q1 q2 q3 q4 q5 q6 q7 hp1 hp7
  go_enter Try.func5, Try.ntmps5
  go_wp2_with fail
  go_at_call 9
  refine HC.out.mono ?_
  rintro e w1 ⟨rfl, hb⟩
  replace HF := hide (HF.out.call hb)
  clear hb HC
  have c1 := HF.out.cell 1 rfl
  obtain ⟨kind, nm, xa, xn, xc, ya, yn, yc, mn, G0, G1, G2, G3, G4, HT5, -⟩ := HPA.out _ HF.out.below l (by omega)
  have HCR := hide (res_any (parts l) _ _ (HT5.out.below HF.out.below) (HFm.out l (by omega)))
  have hs12 := HSz.out l (by omega)
  generalize hRe : sizeT (parts l) = res at *
  have hRe' := hide hRe
  clear hRe
  go_wp2_with fail
  go_at_call 10
  refine HCR.out.mono ?_
  rintro e w2 ⟨rv, rfl, hb, hown⟩
  obtain ⟨ra, rc, rfl, -⟩ := own1 hown
  have HRL : Hid ((resL res).length = if 2 < res then 0 else res) := by show _ = _; unfold resL; split <;> simp
  have HRD : Hid (Rs.ok w1.heap.size w2 (.row (.slice ra (resL res).length rc) 3 1 (resL res).length ((resL res).map fun (n : Nat) => Value.int .i64 n))) := hown
  replace HF := hide (((HF.out.take hb hown).alloc (q := w2.heap.size) rfl #[.int .i64 0, .int .i64 0, .slice none 0 0, .slice none 0 0, .slice ra (resL res).length rc, .int .i64 0, .int .i64 0] 30).alloc (q := w2.heap.size + 1) (by simp) (ly 0 0) 43)
  clear hb hown HCR G0 G1 G2 G3 G4 HT5 c1 HRD
  obtain ⟨c1, hc1⟩ : ∃ c, c = decide (2 < res) := ⟨_, rfl⟩
  have hrl : (((resL res).length : Nat) : Int) = 0 ↔ 2 < res := by rw [HRL.out]; split <;> omega
  have ez2 : decide ((((resL res).length : Nat) : Int) = 0) = c1 := by rw [hc1]; exact decide_eq_decide.2 hrl
  have ez1 : ((((resL res).length : Nat) : Int) == 0) = c1 := ez2
  have HC1 := hide hc1
  have HRows : Hid (∀ n0 w', Rs.ok n0 w' (.row (.slice ra (resL res).length rc) 3 1 (resL res).length ((resL res).map fun (n : Nat) => Value.int .i64 n)) → Ints w' (.slice ra (resL res).length rc) (if 2 < res then [] else if res = 2 then [0, 1] else [0])) := fun n0 w' h => by
    have := ints_of h
    have e : resL res = if 2 < res then [] else if res = 2 then [0, 1] else [0] := by
      unfold resL
      by_cases h2 : 2 < res
      · simp [h2]
      · have : res = 1 ∨ res = 2 := by omega
        rcases this with rfl | rfl <;> rfl
    rw [e] at this ⊢
    exact this
  clear hc1 hrl
  generalize hrl' : (resL res).length = rl at *
  have HCH1 := hide (hid_any c1 (w2.heap.size + 1) 0 0 _ (HF.out.get (i := 0) rfl).2 (by decide))
  have cb := HF.out.cell 1 rfl
  go_wp2_with fail
  go_at_call 11
  refine HCH1.out.mono ?_
  rintro e w3 ⟨rfl, h1, h2⟩
  replace HF := hide (HF.out.via 0 rfl h2 h1)
  clear h1 h2 HCH1 cb
  have HR : Hid ((if c1 = true then ((0 : Nat) : Int) else -1) = if 2 < res then 0 else -1) := by show _ = _; rw [HC1.out]; by_cases h : 2 < res <;> simp [h]
  generalize hRR : (if c1 = true then ((0 : Nat) : Int) else -1) = RR at *
  generalize hr1 : (if c1 = true then 0 + 1 else 0) = r1 at *
  have hr14 : r1 ≤ 1 := by rw [← hr1]; split <;> omega
  have fb := HF.out.frz 1 rfl
  have cb := HF.out.cell 1 rfl
  have HG := hide (HF.out.set 1 rfl 0 (.int .i64 RR))
  have ct := HG.out.cell 4 rfl
  have HCH2 := hide (hid_any many (w2.heap.size + 1) r1 0 _ (HG.out.get (i := 0) rfl).2 (by omega))
  clear HF
  go_wp2_with fail
  go_at_call 11
  refine HCH2.out.mono ?_
  rintro e w4 ⟨rfl, h1, h2⟩
  replace HG := hide (HG.out.via 0 rfl h2 h1)
  clear h1 h2 HCH2 ct fb cb
  have HCC : Hid ((if many = true then (r1 : Int) else -1) = if many = true then (if 2 < res then 1 else 0) else -1) := by show _ = _; rw [← hr1, HC1.out]; by_cases h : 2 < res <;> simp [h]
  have HR0 : Hid ((if many = true then r1 + 1 else r1) = r0N res many) := by show _ = _; rw [← hr1, HC1.out]; unfold r0N; by_cases h : 2 < res <;> cases many <;> simp [h]
  generalize (if many = true then (r1 : Int) else -1) = CC at *
  generalize (if many = true then r1 + 1 else r1) = r2 at *
  clear hRR hr1 ez1 ez2 HC1 hr14 hrl'
  have fb := HG.out.frz 1 rfl
  have cb := HG.out.cell 1 rfl
  replace HG := hide (HG.out.set 1 rfl 1 (.int .i64 CC))
  have ct := HG.out.cell 4 rfl
  go_wp2_with fail
  have HZ := hide ((HG.out.nil 4 1).nil 36 1)
  have hbl : w.heap.size ≤ w2.heap.size + 1 := (HG.out.get (i := 0) rfl).1
  generalize hbp : w2.heap.size = bp at *
  generalize hbl' : bp + 1 = bl at *
  generalize hbr : w.heap.size + 1 = br at *
  clear hbp hbl' hbr HG fb cb ct
  go_loopw [50] (fun i w4 => ∃ j : Nat, j ≤ l ∧ i = .int .i64 j ∧ ∃ vp vc ps r p, Hid (Had (hads (had0 res many) parts j) r p) ∧ p ≤ 7 * j ∧ Hid (Fr w.heap.size w w4 (.row vp 36 1 j (ps.map (·.1)) :: .row vc 4 1 j ((List.range j).map fun i => Value.bool (decide (4 < sizeT (parts i)))) :: .blk bl (ly r p) 43 :: .blk bp #[.int .i64 RR, .int .i64 CC, vp, vc, .slice ra rl rc, .int .i64 0, .int .i64 0] 30 :: .row (.slice ra rl rc) 3 1 rl ((resL res).map fun (n : Nat) => Value.int .i64 n) :: .blk br z7 30 :: .blk w.heap.size #[.int .i64 4, .string name, .slice na nn nc, .slice (some ⟨pb, po, none⟩) (l + 1) pc, .bool many] 25 :: prL ps)) ∧ Hid (ps.map (·.2) = (List.range j).map fun i => stepL (hads (had0 res many) parts i) (parts i))) (fun i _ => l - (intOf i).toNat)
  case atStart => exact ⟨0, Nat.zero_le _, rfl, _, _, [], r2, 0, by rw [HR0.out]; exact Had.start_eq res many, by omega, HZ, rfl⟩
  case round =>
    clear HZ
    obtain ⟨j, hj, rfl, vp, vc, ps, r, p, HHad, hpj, HF, HPS⟩ := hrel
    have HPL : Hid (ps.length = j) := by have hx := congrArg List.length HPS.out; simp only [List.length_map, List.length_range] at hx; exact hx
    have hr4 := HHad.out.le
    by_cases hlj : j < l
    · have hlj' : (j : Int) < l := by omega
      have hidx : (0 : Int) ≤ j ∧ (j : Int) < l := by omega
      obtain ⟨kind, nm, xa, xn, xc, ya, yn, yc, mn, G0, G1, G2, G3, G4, HT5, -⟩ := HPA.out _ HF.out.below j (by omega)
      have HF2 := hide (HF.out.alloc rfl #[.int .i64 kind, .string nm, .slice xa xn xc, .slice ya yn yc, .bool mn] 25)
      have HCW := hide (pWords_t (parts j) _ _ (HFm.out j (by omega)) (HT5.out.below HF2.out.below))
      have hsj := HSz.out j (by omega)
      obtain ⟨cp, hcp⟩ : ∃ c, c = decide (4 < sizeT (parts j)) := ⟨_, rfl⟩
      have HCOP : Hid ((List.range (j + 1)).map (fun i => Value.bool (decide (4 < sizeT (parts i)))) = (List.range j).map (fun i => Value.bool (decide (4 < sizeT (parts i)))) ++ [.bool cp]) := by show _ = _; rw [List.range_succ, List.map_append, hcp]; rfl
      have ez3 : decide ((4 : Int) < (sizeT (parts j) : Nat)) = cp := by rw [hcp]; exact decide_eq_decide.2 (by omega)
      have HN1 : Hid (1 ≤ parN (parts j)) := by show 1 ≤ _; unfold parN; split; omega; exact hsj.2
      have hpw4 := par_le (t := parts j)
      have HHN := hide (HHad.out.par (parts j) HN1.out)
      have HSL := hide (step_lay HHad.out (parts j))
      have hab := (adv_bounds (aT r (parts j)) (qT r p (parts j)) (parN (parts j))).2.1
      have hq3 := q_le r p (parts j)
      have HCP : Hid (∀ w', Below w.heap.size w w' → w'.heap[bl]? = some (.cells (ly r p) 43 (0, 0)) → Calls Try.prog 14 #[.pointer (some ⟨bl, 0, none⟩), .agg #[.int .i64 kind, .string nm, .slice xa xn xc, .slice ya yn yc, .bool mn], .bool cp] w' fun e w'' => ∃ lv, e = .returned lv ∧ w''.ownsRow w'.heap.size 39 2 lv (parN (parts j)) (locV (lay (aT r (parts j)) (qT r p (parts j)) (parN (parts j)))) ∧ w''.heap[bl]? = some (.cells (ly (adv (aT r (parts j)) (qT r p (parts j)) (parN (parts j))).1 (adv (aT r (parts j)) (qT r p (parts j)) (parN (parts j))).2) 43 (0, 0)) ∧ w'.grownBy w'' (some bl)) := fun w' hb hh => par_any bl r p (parts j) cp _ w' w hh hcp hr4 (by omega) ⟨_, _, _, _, _, rfl⟩ HT5.out (HFm.out j (by omega)) hb hbl
      have HST : Hid (stepL (hads (had0 res many) parts j) (parts j) = lay (aT r (parts j)) (qT r p (parts j)) (parN (parts j))) := HSL
      have HHD : Hid (hads (had0 res many) parts (j + 1) = hads (had0 res many) parts j ++ stepL (hads (had0 res many) parts j) (parts j)) := rfl
      rw [← HHD.out] at HHN
      clear hcp HSL HHD HT5
      generalize hr' : (adv (aT r (parts j)) (qT r p (parts j)) (parN (parts j))).1 = r' at *
      generalize hp'' : (adv (aT r (parts j)) (qT r p (parts j)) (parN (parts j))).2 = p' at *
      have hp' : p' ≤ 7 * (j + 1) := by omega
      generalize hWd : lay (aT r (parts j)) (qT r p (parts j)) (parN (parts j)) = Wd at *
      generalize hpw : parN (parts j) = pw at *
      have HWl : Hid (Wd.length = pw) := by subst hWd; exact lay_len _ _ _
      clear hr' hp'' hWd hpw hab hq3
      generalize sizeT (parts j) = sz at *
      go_wp2_with fail
      go_at_call 13
      refine HCW.out.mono ?_
      rintro e w5 ⟨rfl, hb⟩
      replace HF2 := hide (HF2.out.call hb)
      clear hb HCW G0 G1 G2 G3 G4 HF
      generalize hbq : wr.heap.size = bq at *
      have c4 := HF2.out.cell 4 rfl
      have f4 := HF2.out.frz 4 rfl
      go_wp2_with (at_builtin; first | (have HAl := HF2.out.alloc rfl #[.bool cp] 4; refine Fr.one 27 info4 Try.underlying27 rfl (by decide) (by decide) HAl 2 (v := vc) (n := j) rfl (by omega) _ _ rfl rfl rfl rfl rfl rfl ?_; intro g6 cap6 w6 h6 _; have HF6 := hide h6; clear h6; have d6 := HF6.out.cell 4 rfl; have e6 := HF6.out.frz 4 rfl))
      have HF7 := hide (HF6.out.set 4 rfl 3 (.slice (some ⟨g6, 0, none⟩) (j + 1) cap6))
      generalize hW7 : w6.setCell ⟨bp, 3, none⟩ (.slice (some ⟨g6, 0, none⟩) (j + 1) cap6) = w7 at *
      clear hW7 c4 f4 d6 e6 HF6 HF2 hbq
      have HD := hide HF7.out.drew
      have hcq := HD.out.cell 0 rfl
      have hcb := HD.out.cell 4 rfl
      refine wp_region_held_drew (S := fun w' => ∀ o, w'.cell? ⟨bq, o, none⟩ = (#[Value.int .i64 kind, .string nm, .slice xa xn xc, .slice ya yn yc, .bool mn])[o]?) (by kernel_rfl) hcq (fun hHeld => ?_)
      refine wpAnyH_take (i := 0) (v := ?_) rfl (by kernel_rfl) (by kernel_rfl) (by kernel_rfl) (fun _ _ _ h => h) (Or.inl ⟨by rfl, ?_⟩) (by assumption) ?_
      rotate_left
      · (intro w hSw; (try dsimp only at hSw); go_simp) <;> with_reducible rfl
      (simp only [Act.put, List.getElem_toArray, List.getElem_cons_zero, List.getElem_cons_succ, List.setIfInBounds_toArray, List.set_cons_zero, List.set_cons_succ])
      refine wpAnyH_take (i := 2) (v := ?_) rfl (by kernel_rfl) (by kernel_rfl) (by kernel_rfl) (fun _ _ _ h => h) (Or.inl ⟨by rfl, ?_⟩) (by assumption) ?_
      rotate_left
      · (intro w hSw; (try dsimp only at hSw); go_simp) <;> with_reducible rfl
      (simp only [Act.put, List.getElem_toArray, List.getElem_cons_zero, List.getElem_cons_succ, List.setIfInBounds_toArray, List.set_cons_zero, List.set_cons_succ])
      refine wpAnyH_take (i := 3) (v := ?_) rfl (by kernel_rfl) (by kernel_rfl) (by kernel_rfl) (fun _ _ _ h => h) (Or.inl ⟨by rfl, ?_⟩) (by assumption) ?_
      rotate_left
      · (intro w hSw; (try dsimp only at hSw); go_simp) <;> with_reducible rfl
      (simp only [Act.put, List.getElem_toArray, List.getElem_cons_zero, List.getElem_cons_succ, List.setIfInBounds_toArray, List.set_cons_zero, List.set_cons_succ])
      refine wpAnyH_ready (rs := [1, 4]) (by kernel_rfl) (by simp) ?_
      refine AllReadyH.cons rfl (fun K hK => ?_) (AllReadyH.cons rfl (fun K hK => ?_) AllReadyH.nil)
      · have hcw := hcb
        go_simp
        refine hK.out _ _ hcq (fun hHeld1 => ?_)
        clear hK K
        (try (simp only [Act.put, List.getElem_toArray, List.getElem_cons_zero, List.getElem_cons_succ, List.setIfInBounds_toArray, List.set_cons_zero, List.set_cons_succ]))
        clear hcw
        refine wpAnyH_ready (rs := [4]) (by kernel_rfl) (by simp) ?_
        refine AllReadyH.cons rfl (fun K hK => ?_) AllReadyH.nil
        go_simp
        refine (HCP.out _ HD.out.below (HD.out.get (i := 3) rfl).2).mono ?_
        rintro e w8 ⟨lv, rfl, hown, h1, h2⟩
        obtain ⟨lg, lc, rfl⟩ : ∃ lg lc, lv = .slice (some ⟨lg, 0, none⟩) pw lc := by
          rcases hown.2 with ⟨-, h0⟩ | ⟨g, cap, cur, h, -⟩
          · exact absurd h0 (by have := HN1.out; omega)
          · exact ⟨_, _, h⟩
        have HF8 := hide (HD.out.viaTake 3 rfl h2 h1 hown)
        clear hown h1 h2
        have hcq8 := HF8.out.cell 1 rfl
        have hcb8 := HF8.out.cell 5 rfl
        refine hK.out _ _ hcq8 (fun hHeld2 => ?_)
        clear hK K
        (try (simp only [Act.put, List.getElem_toArray, List.getElem_cons_zero, List.getElem_cons_succ, List.setIfInBounds_toArray, List.set_cons_zero, List.set_cons_succ]))
        refine wpAnyH_ready (rs := [5]) (by kernel_rfl) (by simp) ?_
        refine AllReadyH.cons rfl (fun K hK => ?_) AllReadyH.nil
        go_simp
        have HF9 := hide (HF8.out.alloc (q := w8.heap.size) rfl #[.slice (some ⟨lg, 0, none⟩) pw lc] 36)
        have hcq9 := HF9.out.cell 2 rfl
        have hcb9 := HF9.out.cell 6 rfl
        refine hK.out _ _ hcq9 (fun hHeld3 => ?_)
        clear hK K
        (try (simp only [Act.put, List.getElem_toArray, List.getElem_cons_zero, List.getElem_cons_succ, List.setIfInBounds_toArray, List.set_cons_zero, List.set_cons_succ]))
        refine wpAnyH_ready (rs := [6]) (by kernel_rfl) (by simp) ?_
        refine AllReadyH.cons rfl (fun K hK => ?_) AllReadyH.nil
        have HA9 := HF9.out
        refine Fr.stepOne 26 info36 Try.underlying26 rfl (by decide) (by decide) HA9 2 (v := vp) (n := j) rfl (by omega) (.tmp 64) (.tmp 68) rfl rfl rfl rfl rfl rfl ?_
        intro g10 cap10 w10 h10 _
        have HFa := hide h10
        clear h10
        have hcqa := HFa.out.cell 1 rfl
        have hcba := HFa.out.cell 5 rfl
        have hfba := HFa.out.frz 5 rfl
        refine hK.out _ _ hcqa (fun hHeld4 => ?_)
        clear hK K
        (try (simp only [Act.put, List.getElem_toArray, List.getElem_cons_zero, List.getElem_cons_succ, List.setIfInBounds_toArray, List.set_cons_zero, List.set_cons_succ]))
        refine wpAnyH_take (i := 7) (v := ?_) rfl (by kernel_rfl) (by kernel_rfl) (by kernel_rfl) (fun _ _ _ h => h) (Or.inl ⟨by rfl, ?_⟩) (by assumption) ?_
        rotate_left
        · (intro w hSw; (try dsimp only at hSw); go_simp) <;> with_reducible rfl
        (simp only [Act.put, List.getElem_toArray, List.getElem_cons_zero, List.getElem_cons_succ, List.setIfInBounds_toArray, List.set_cons_zero, List.set_cons_succ])
        refine wpAnyH_ready (rs := [8]) (by kernel_rfl) (by simp) ?_
        refine AllReadyH.cons rfl (fun K hK => ?_) AllReadyH.nil
        go_simp
        have HFb := hide (HFa.out.set 5 rfl 2 (.slice (some ⟨g10, 0, none⟩) (j + 1) cap10))
        have hcqb := HFb.out.cell 1 rfl
        refine hK.out _ _ hcqb (fun hHeld5 => ?_)
        clear hK K
        (try (simp only [Act.put, List.getElem_toArray, List.getElem_cons_zero, List.getElem_cons_succ, List.setIfInBounds_toArray, List.set_cons_zero, List.set_cons_succ]))
        refine wpAnyH_done (by kernel_rfl) ?_ _
        go_wp2_with fail
        go_roundw
        case rel =>
          refine ⟨j + 1, by omega, by go_num, .slice (some ⟨g10, 0, none⟩) (j + 1) cap10, .slice (some ⟨g6, 0, none⟩) (j + 1) cap6, ps ++ [(.slice (some ⟨lg, 0, none⟩) pw lc, Wd)], r', p', HHN, hp', ?_, ?_⟩
          · have hx := (HFb.out.last).tail
            show Fr _ _ _ _
            rw [HCOP.out, List.map_append, prL_snoc, HWl.out]
            exact hx
          · show List.map _ _ = _
            rw [List.map_append, HPS.out, List.range_succ, List.map_append, List.map_singleton, List.map_singleton, HST.out]
        case measure => simp [intOf]; omega
      · go_simp
        refine (HCP.out _ HD.out.below (HD.out.get (i := 3) rfl).2).mono ?_
        rintro e w8 ⟨lv, rfl, hown, h1, h2⟩
        obtain ⟨lg, lc, rfl⟩ : ∃ lg lc, lv = .slice (some ⟨lg, 0, none⟩) pw lc := by
          rcases hown.2 with ⟨-, h0⟩ | ⟨g, cap, cur, h, -⟩
          · exact absurd h0 (by have := HN1.out; omega)
          · exact ⟨_, _, h⟩
        have HF8 := hide (HD.out.viaTake 3 rfl h2 h1 hown)
        clear hown h1 h2
        have hcq8 := HF8.out.cell 1 rfl
        have hcb8 := HF8.out.cell 5 rfl
        refine hK.out _ _ hcq8 (fun hHeld6 => ?_)
        clear hK K
        (try (simp only [Act.put, List.getElem_toArray, List.getElem_cons_zero, List.getElem_cons_succ, List.setIfInBounds_toArray, List.set_cons_zero, List.set_cons_succ]))
        refine wpAnyH_ready (rs := [1, 5]) (by kernel_rfl) (by simp) ?_
        refine AllReadyH.cons rfl (fun K hK => ?_) (AllReadyH.cons rfl (fun K hK => ?_) AllReadyH.nil)
        · have hcw := hcb8
          go_simp
          refine hK.out _ _ hcq8 (fun hHeld7 => ?_)
          clear hK K
          (try (simp only [Act.put, List.getElem_toArray, List.getElem_cons_zero, List.getElem_cons_succ, List.setIfInBounds_toArray, List.set_cons_zero, List.set_cons_succ]))
          clear hcw
          refine wpAnyH_ready (rs := [5]) (by kernel_rfl) (by simp) ?_
          refine AllReadyH.cons rfl (fun K hK => ?_) AllReadyH.nil
          go_simp
          have HF9 := hide (HF8.out.alloc (q := w8.heap.size) rfl #[.slice (some ⟨lg, 0, none⟩) pw lc] 36)
          have hcq9 := HF9.out.cell 2 rfl
          have hcb9 := HF9.out.cell 6 rfl
          refine hK.out _ _ hcq9 (fun hHeld8 => ?_)
          clear hK K
          (try (simp only [Act.put, List.getElem_toArray, List.getElem_cons_zero, List.getElem_cons_succ, List.setIfInBounds_toArray, List.set_cons_zero, List.set_cons_succ]))
          refine wpAnyH_ready (rs := [6]) (by kernel_rfl) (by simp) ?_
          refine AllReadyH.cons rfl (fun K hK => ?_) AllReadyH.nil
          have HA9 := HF9.out
          refine Fr.stepOne 26 info36 Try.underlying26 rfl (by decide) (by decide) HA9 2 (v := vp) (n := j) rfl (by omega) (.tmp 64) (.tmp 68) rfl rfl rfl rfl rfl rfl ?_
          intro g10 cap10 w10 h10 _
          have HFa := hide h10
          clear h10
          have hcqa := HFa.out.cell 1 rfl
          have hcba := HFa.out.cell 5 rfl
          have hfba := HFa.out.frz 5 rfl
          refine hK.out _ _ hcqa (fun hHeld9 => ?_)
          clear hK K
          (try (simp only [Act.put, List.getElem_toArray, List.getElem_cons_zero, List.getElem_cons_succ, List.setIfInBounds_toArray, List.set_cons_zero, List.set_cons_succ]))
          refine wpAnyH_take (i := 7) (v := ?_) rfl (by kernel_rfl) (by kernel_rfl) (by kernel_rfl) (fun _ _ _ h => h) (Or.inl ⟨by rfl, ?_⟩) (by assumption) ?_
          rotate_left
          · (intro w hSw; (try dsimp only at hSw); go_simp) <;> with_reducible rfl
          (simp only [Act.put, List.getElem_toArray, List.getElem_cons_zero, List.getElem_cons_succ, List.setIfInBounds_toArray, List.set_cons_zero, List.set_cons_succ])
          refine wpAnyH_ready (rs := [8]) (by kernel_rfl) (by simp) ?_
          refine AllReadyH.cons rfl (fun K hK => ?_) AllReadyH.nil
          go_simp
          have HFb := hide (HFa.out.set 5 rfl 2 (.slice (some ⟨g10, 0, none⟩) (j + 1) cap10))
          have hcqb := HFb.out.cell 1 rfl
          refine hK.out _ _ hcqb (fun hHeld10 => ?_)
          clear hK K
          (try (simp only [Act.put, List.getElem_toArray, List.getElem_cons_zero, List.getElem_cons_succ, List.setIfInBounds_toArray, List.set_cons_zero, List.set_cons_succ]))
          refine wpAnyH_done (by kernel_rfl) ?_ _
          go_wp2_with fail
          go_roundw
          case rel =>
            refine ⟨j + 1, by omega, by go_num, .slice (some ⟨g10, 0, none⟩) (j + 1) cap10, .slice (some ⟨g6, 0, none⟩) (j + 1) cap6, ps ++ [(.slice (some ⟨lg, 0, none⟩) pw lc, Wd)], r', p', HHN, hp', ?_, ?_⟩
            · have hx := (HFb.out.last).tail
              show Fr _ _ _ _
              rw [HCOP.out, List.map_append, prL_snoc, HWl.out]
              exact hx
            · show List.map _ _ = _
              rw [List.map_append, HPS.out, List.range_succ, List.map_append, List.map_singleton, List.map_singleton, HST.out]
          case measure => simp [intOf]; omega
        · go_simp
          have HF9 := hide (HF8.out.alloc (q := w8.heap.size) rfl #[.slice (some ⟨lg, 0, none⟩) pw lc] 36)
          have hcq9 := HF9.out.cell 2 rfl
          have hcb9 := HF9.out.cell 6 rfl
          refine hK.out _ _ hcq9 (fun hHeld11 => ?_)
          clear hK K
          (try (simp only [Act.put, List.getElem_toArray, List.getElem_cons_zero, List.getElem_cons_succ, List.setIfInBounds_toArray, List.set_cons_zero, List.set_cons_succ]))
          refine wpAnyH_ready (rs := [1]) (by kernel_rfl) (by simp) ?_
          refine AllReadyH.cons rfl (fun K hK => ?_) AllReadyH.nil
          have hcw := hcb9
          go_simp
          refine hK.out _ _ hcq9 (fun hHeld12 => ?_)
          clear hK K
          (try (simp only [Act.put, List.getElem_toArray, List.getElem_cons_zero, List.getElem_cons_succ, List.setIfInBounds_toArray, List.set_cons_zero, List.set_cons_succ]))
          clear hcw
          refine wpAnyH_ready (rs := [6]) (by kernel_rfl) (by simp) ?_
          refine AllReadyH.cons rfl (fun K hK => ?_) AllReadyH.nil
          have HA9 := HF9.out
          refine Fr.stepOne 26 info36 Try.underlying26 rfl (by decide) (by decide) HA9 2 (v := vp) (n := j) rfl (by omega) (.tmp 64) (.tmp 68) rfl rfl rfl rfl rfl rfl ?_
          intro g10 cap10 w10 h10 _
          have HFa := hide h10
          clear h10
          have hcqa := HFa.out.cell 1 rfl
          have hcba := HFa.out.cell 5 rfl
          have hfba := HFa.out.frz 5 rfl
          refine hK.out _ _ hcqa (fun hHeld13 => ?_)
          clear hK K
          (try (simp only [Act.put, List.getElem_toArray, List.getElem_cons_zero, List.getElem_cons_succ, List.setIfInBounds_toArray, List.set_cons_zero, List.set_cons_succ]))
          refine wpAnyH_take (i := 7) (v := ?_) rfl (by kernel_rfl) (by kernel_rfl) (by kernel_rfl) (fun _ _ _ h => h) (Or.inl ⟨by rfl, ?_⟩) (by assumption) ?_
          rotate_left
          · (intro w hSw; (try dsimp only at hSw); go_simp) <;> with_reducible rfl
          (simp only [Act.put, List.getElem_toArray, List.getElem_cons_zero, List.getElem_cons_succ, List.setIfInBounds_toArray, List.set_cons_zero, List.set_cons_succ])
          refine wpAnyH_ready (rs := [8]) (by kernel_rfl) (by simp) ?_
          refine AllReadyH.cons rfl (fun K hK => ?_) AllReadyH.nil
          go_simp
          have HFb := hide (HFa.out.set 5 rfl 2 (.slice (some ⟨g10, 0, none⟩) (j + 1) cap10))
          have hcqb := HFb.out.cell 1 rfl
          refine hK.out _ _ hcqb (fun hHeld14 => ?_)
          clear hK K
          (try (simp only [Act.put, List.getElem_toArray, List.getElem_cons_zero, List.getElem_cons_succ, List.setIfInBounds_toArray, List.set_cons_zero, List.set_cons_succ]))
          refine wpAnyH_done (by kernel_rfl) ?_ _
          go_wp2_with fail
          go_roundw
          case rel =>
            refine ⟨j + 1, by omega, by go_num, .slice (some ⟨g10, 0, none⟩) (j + 1) cap10, .slice (some ⟨g6, 0, none⟩) (j + 1) cap6, ps ++ [(.slice (some ⟨lg, 0, none⟩) pw lc, Wd)], r', p', HHN, hp', ?_, ?_⟩
            · have hx := (HFb.out.last).tail
              show Fr _ _ _ _
              rw [HCOP.out, List.map_append, prL_snoc, HWl.out]
              exact hx
            · show List.map _ _ = _
              rw [List.map_append, HPS.out, List.range_succ, List.map_append, List.map_singleton, List.map_singleton, HST.out]
          case measure => simp [intOf]; omega
    · obtain rfl : j = l := by omega
      have hlj' : ¬ (j : Int) < j := by omega
      have cl := HF.out.cell 2 rfl
      have cb := HF.out.cell 3 rfl
      have fb := HF.out.frz 3 rfl
      have ct := HF.out.cell 6 rfl
      have hpl : p ≤ 100 := by omega
      obtain ⟨a1, n1, z1, rfl⟩ : ∃ a n c, vp = .slice a n c := by obtain ⟨a, c, h, -⟩ := own1 (HF.out.get (i := 0) rfl); exact ⟨_, _, _, h⟩
      obtain ⟨a2, n2, z2, rfl⟩ : ∃ a n c, vc = .slice a n c := by obtain ⟨a, c, h, -⟩ := own1 (HF.out.get (i := 1) rfl); exact ⟨_, _, _, h⟩
      have HAll : Hid (plN (allN (j + 1) parts many) = p) := by show plN (hads (had0 (sizeT (parts j)) many) parts j) = _; rw [hRe'.out]; exact HHad.out.pl
      have hup := up_le p
      cases many
      · go_wp2_with fail
        go_at_call 15
        refine (pev_any p _ (by omega)).mono ?_
        rintro e w5 ⟨rfl, hw5⟩
        obtain rfl : wr = w5 := hw5.symm
        have HG := hide (HF.out.set 3 rfl 5 (.int .i64 (upN p)))
        clear cl ct hw5
        have gg4 := HG.out.cell 3 rfl
        have gg5 := HG.out.cell 5 rfl
        have jj5 := HG.out.frz 5 rfl
        go_wp2_with fail
        replace HG := hide ((((((((HG.out.set 5 rfl 0 (.int .i64 RR)).set 5 rfl 1 (.int .i64 CC)).set 5 rfl 2 (.slice a1 n1 z1)).set 5 rfl 3 (.slice a2 n2 z2)).set 5 rfl 4 (.slice ra rl rc)).set 5 rfl 5 (.int .i64 (upN p : Nat))).set 5 rfl 6 (.int .i64 (0 : Nat))))
        refine bodyPost_ret (rt7 Try.results5 rfl (HG.out.get (i := 5) rfl).2) rfl ?_
        have e1 : (plT (pnT (.mk 4 name nn names (j + 1) parts false)) (partsT (.mk 4 name nn names (j + 1) parts false)) false (sumN bs bn)).result = RR := by show (if 2 < sizeT (parts j) then (0 : Int) else -1) = _; rw [hRe'.out, HR.out]
        have e2 : (plT (pnT (.mk 4 name nn names (j + 1) parts false)) (partsT (.mk 4 name nn names (j + 1) parts false)) false (sumN bs bn)).count = CC := by show (if false = true then (if 2 < sizeT (parts j) then (1 : Int) else 0) else -1) = _; rw [hRe'.out, HCC.out]; try simp
        have e3 : (plT (pnT (.mk 4 name nn names (j + 1) parts false)) (partsT (.mk 4 name nn names (j + 1) parts false)) false (sumN bs bn)).results = if 2 < res then [] else if res = 2 then [0, 1] else [0] := by show (if 2 < sizeT (parts j) then [] else if sizeT (parts j) = 2 then [0, 1] else [0]) = _; rw [hRe'.out]
        have e4 : (plT (pnT (.mk 4 name nn names (j + 1) parts false)) (partsT (.mk 4 name nn names (j + 1) parts false)) false (sumN bs bn)).params = ps.map (·.2) := by rw [HPS.out]; show (List.range j).map (fun i => stepL (hads (had0 (sizeT (parts j)) false) parts i) (parts i)) = _; rw [hRe'.out]
        have e5 : (plT (pnT (.mk 4 name nn names (j + 1) parts false)) (partsT (.mk 4 name nn names (j + 1) parts false)) false (sumN bs bn)).area = upN p := by show upN (if false = true then upN (plN (allN (j + 1) parts false)) + sumN bs bn else plN (allN (j + 1) parts false)) = _; rw [HAll.out]; simp
        have e6 : (plT (pnT (.mk 4 name nn names (j + 1) parts false)) (partsT (.mk 4 name nn names (j + 1) parts false)) false (sumN bs bn)).extra = 0 := by show (if false = true then upN (plN (allN (j + 1) parts false)) else 0) = _; rw [HAll.out]; simp
        refine PostP.ok HE.out ⟨.slice a1 n1 z1, .slice a2 n2 z2, .slice ra rl rc, ?_, ?_, ?_, ?_⟩ HG.out.below
        · show Value.agg _ = Value.agg #[.int .i64 (plT (pnT (.mk 4 name nn names (j + 1) parts false)) (partsT (.mk 4 name nn names (j + 1) parts false)) false (sumN bs bn)).result, .int .i64 (plT (pnT (.mk 4 name nn names (j + 1) parts false)) (partsT (.mk 4 name nn names (j + 1) parts false)) false (sumN bs bn)).count, _, _, _, .int .i64 (plT (pnT (.mk 4 name nn names (j + 1) parts false)) (partsT (.mk 4 name nn names (j + 1) parts false)) false (sumN bs bn)).area, .int .i64 (plT (pnT (.mk 4 name nn names (j + 1) parts false)) (partsT (.mk 4 name nn names (j + 1) parts false)) false (sumN bs bn)).extra]
          rw [e1, e2, e5, e6]
          try rfl
        · show Rows' _ _ (plT (pnT (.mk 4 name nn names (j + 1) parts false)) (partsT (.mk 4 name nn names (j + 1) parts false)) false (sumN bs bn)).params
          rw [e4]
          exact rows_of (n0 := w.heap.size) (by rw [HPL.out]; exact HG.out.get (i := 0) rfl) (fun r hr => HG.out.ok r (by exact List.mem_of_mem_drop (i := 7) hr))
        · exact bools_of (n0 := w.heap.size) (HG.out.get (i := 1) rfl)
        · show Ints _ _ (plT (pnT (.mk 4 name nn names (j + 1) parts false)) (partsT (.mk 4 name nn names (j + 1) parts false)) false (sumN bs bn)).results
          rw [e3]
          exact HRows.out w.heap.size _ (HG.out.get (i := 4) rfl)
      · go_wp2_with fail
        go_at_call 15
        refine (pev_any p _ (by omega)).mono ?_
        rintro e w5 ⟨rfl, hw5⟩
        obtain rfl : wr = w5 := hw5.symm
        have HG := hide (HF.out.set 3 rfl 6 (.int .i64 (upN p)))
        clear cl ct hw5
        generalize hue : upN p = ue at *
        have HUE := hide hue
        clear hue
        go_wp2_with fail
        generalize hW7 : wr.setCell ⟨bp, 6, none⟩ (.int .i64 ue) = w7 at *
        clear hW7 cb fb
        have HD := hide HG.out.drew
        have cb := HD.out.cell 3 rfl
        have fl := HD.out.frz 2 rfl
        have cl := HD.out.cell 2 rfl
        have hsm : sumN bs bn ≤ 100 := by omega
        have HCX := hide (HCO.out _ HD.out.below)
        generalize hsu : sumN bs bn = su at *
        have HSU := hide hsu
        clear hsu
        go_region_with (go_at_call 16; refine HCX.out.mono ?_; rintro e w8 ⟨rfl, hb⟩; have HK := hide (HD.out.call hb); clear hb; have cb8 := HK.out.cell 3 rfl; have fl8 := HK.out.frz 2 rfl; have cl8 := HK.out.cell 2 rfl)
        all_goals
          have HG := hide (HK.out.set 2 rfl 1 (.int .i64 ((ue : Int) + su)))
          have cl9 := HG.out.cell 2 rfl
          have cb9 := HG.out.cell 3 rfl
          have fb9 := HG.out.frz 3 rfl
          have HCE := hide (pev_any (ue + su) (w8.setCell ⟨bl, 1, none⟩ (.int .i64 ((ue : Int) + su))) (by omega))
          go_wp2_with fail
          go_at_call 15
          refine HCE.out.mono ?_
          rintro e w9 ⟨rfl, hw9⟩
          subst hw9
          replace HG := hide (HG.out.set 3 rfl 5 (.int .i64 (upN (ue + su))))
          have gg4 := HG.out.cell 3 rfl
          have gg5 := HG.out.cell 5 rfl
          have jj5 := HG.out.frz 5 rfl
          go_wp2_with fail
          replace HG := hide ((((((((HG.out.set 5 rfl 0 (.int .i64 RR)).set 5 rfl 1 (.int .i64 CC)).set 5 rfl 2 (.slice a1 n1 z1)).set 5 rfl 3 (.slice a2 n2 z2)).set 5 rfl 4 (.slice ra rl rc)).set 5 rfl 5 (.int .i64 (upN (ue + su) : Nat))).set 5 rfl 6 (.int .i64 (ue : Nat))))
          refine bodyPost_ret (rt7 Try.results5 rfl (HG.out.get (i := 5) rfl).2) rfl ?_
          have e1 : (plT (pnT (.mk 4 name nn names (j + 1) parts true)) (partsT (.mk 4 name nn names (j + 1) parts true)) true (sumN bs bn)).result = RR := by show (if 2 < sizeT (parts j) then (0 : Int) else -1) = _; rw [hRe'.out, HR.out]
          have e2 : (plT (pnT (.mk 4 name nn names (j + 1) parts true)) (partsT (.mk 4 name nn names (j + 1) parts true)) true (sumN bs bn)).count = CC := by show (if true = true then (if 2 < sizeT (parts j) then (1 : Int) else 0) else -1) = _; rw [hRe'.out, HCC.out]; try simp
          have e3 : (plT (pnT (.mk 4 name nn names (j + 1) parts true)) (partsT (.mk 4 name nn names (j + 1) parts true)) true (sumN bs bn)).results = if 2 < res then [] else if res = 2 then [0, 1] else [0] := by show (if 2 < sizeT (parts j) then [] else if sizeT (parts j) = 2 then [0, 1] else [0]) = _; rw [hRe'.out]
          have e4 : (plT (pnT (.mk 4 name nn names (j + 1) parts true)) (partsT (.mk 4 name nn names (j + 1) parts true)) true (sumN bs bn)).params = ps.map (·.2) := by rw [HPS.out]; show (List.range j).map (fun i => stepL (hads (had0 (sizeT (parts j)) true) parts i) (parts i)) = _; rw [hRe'.out]
          have e5 : (plT (pnT (.mk 4 name nn names (j + 1) parts true)) (partsT (.mk 4 name nn names (j + 1) parts true)) true (sumN bs bn)).area = upN (ue + su) := by show upN (if true = true then upN (plN (allN (j + 1) parts true)) + sumN bs bn else plN (allN (j + 1) parts true)) = _; rw [HAll.out, HUE.out, HSU.out]; simp
          have e6 : (plT (pnT (.mk 4 name nn names (j + 1) parts true)) (partsT (.mk 4 name nn names (j + 1) parts true)) true (sumN bs bn)).extra = ue := by show (if true = true then upN (plN (allN (j + 1) parts true)) else 0) = _; rw [HAll.out, HUE.out]; simp
          refine PostP.ok HE.out ⟨.slice a1 n1 z1, .slice a2 n2 z2, .slice ra rl rc, ?_, ?_, ?_, ?_⟩ HG.out.below
          · show Value.agg _ = Value.agg #[.int .i64 (plT (pnT (.mk 4 name nn names (j + 1) parts true)) (partsT (.mk 4 name nn names (j + 1) parts true)) true (sumN bs bn)).result, .int .i64 (plT (pnT (.mk 4 name nn names (j + 1) parts true)) (partsT (.mk 4 name nn names (j + 1) parts true)) true (sumN bs bn)).count, _, _, _, .int .i64 (plT (pnT (.mk 4 name nn names (j + 1) parts true)) (partsT (.mk 4 name nn names (j + 1) parts true)) true (sumN bs bn)).area, .int .i64 (plT (pnT (.mk 4 name nn names (j + 1) parts true)) (partsT (.mk 4 name nn names (j + 1) parts true)) true (sumN bs bn)).extra]
            rw [e1, e2, e5, e6]
            try rfl
          · show Rows' _ _ (plT (pnT (.mk 4 name nn names (j + 1) parts true)) (partsT (.mk 4 name nn names (j + 1) parts true)) true (sumN bs bn)).params
            rw [e4]
            exact rows_of (n0 := w.heap.size) (by rw [HPL.out]; exact HG.out.get (i := 0) rfl) (fun r hr => HG.out.ok r (by exact List.mem_of_mem_drop (i := 7) hr))
          · exact bools_of (n0 := w.heap.size) (HG.out.get (i := 1) rfl)
          · show Ints _ _ (plT (pnT (.mk 4 name nn names (j + 1) parts true)) (partsT (.mk 4 name nn names (j + 1) parts true)) true (sumN bs bn)).results
            rw [e3]
            exact HRows.out w.heap.size _ (HG.out.get (i := 4) rfl)
end Go.Proofs.Ytmbhcpnlfdgkjaa.T
