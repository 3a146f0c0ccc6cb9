/- The reference's Places, where the types may be. -/
import Derived.Test.YtmbhcpnlfdgkjaaPf
namespace Go.Proofs.Ytmbhcpnlfdgkjaa.T
open Go.RowKit
set_option linter.unusedVariables false
set_option linter.unusedSimpArgs false
set_option maxRecDepth 100000 in
set_option maxHeartbeats 4000000 in
theorem places_af (name : ByteArray) (nn : Nat) (names : Nat → ByteArray) (l : Nat) (parts : Nat → Ty) (v : Value) (ba : Option Addr) (bn bc : Nat) (bs : Nat → Ty) (w : World) (hv : TyV w (.mk 4 name nn names (l + 1) parts false) v) (hm : mayN 4 (.mk 4 name nn names (l + 1) parts false) = true) (hbs : Tys w (.slice ba bn bc) bn bs) (h6 : ¬ 6 < bn) (h00 : bn = 0) (hres : 2 < sizeT (parts l)) : Calls Try.prog 6 #[v, .slice ba bn bc] w (PostP w (.mk 4 name nn names (l + 1) parts false) bn bs) := by
  obtain ⟨hp1, hp7, hpm⟩ := good_mk hm
  obtain ⟨na, nc, pa, pc, rfl, hS, q1, q2, q3, q4, q5, q6, q7, HP⟩ := hv.part
  obtain ⟨pb, po, rfl, hpb, hpc⟩ := HP.out (by omega)
  have hE : errP (.mk 4 name nn names (l + 1) parts false) bn bs = if ((List.range bn).any fun i => badB (bs i)) = true then 3 else 0 := by unfold errP; rw [if_neg (by rw [hm]; simp [kindT]), if_neg (by simp [manyT]; omega)]
  have HE := hide hE
  have HF := hide (((Fr.start w).alloc rfl #[.int .i64 4, .string name, .slice na nn nc, .slice (some ⟨pb, po, none⟩) (l + 1) pc, .bool false] 25).alloc (q := w.heap.size + 1) (by simp) z7 30)
  have hcal := may_any _ _ _ (hv.below HF.out.below)
  rw [hm] at hcal
  have HC := hide hcal
  have HPA : Hid (∀ w', Below w.heap.size w w' → ∀ j, j < l + 1 → _) := fun w' hb j hj => part_at hpb hpc hb j hj
  have HFm := hide hpm
  have HFew : Hid (∀ j, j < l + 1 → Few (parts j) ∧ sizeT (parts j) ≤ 12) := fun j hj => sizeT_le (hpm j hj)
  obtain ⟨ba', bc', eb, hb1, hb2, HB⟩ := hbs
  obtain ⟨rfl, rfl⟩ : ba' = ba ∧ bc' = bc := by cases eb; exact ⟨rfl, rfl⟩
  have HBs := hide HB
  have hl6 : l ≤ 6 := by omega
  have HRS := hide hres
  clear hres
  clear hE hv hS hm hcal eb HB HP hpc hpm q1 q2 q3 q4 q5 q6 q7 hp1 hp7
  go_enter Try.func6, Try.ntmps6
  go_wp2_with fail
  go_at_call 17
  refine HC.out.mono ?_
  rintro e w1 ⟨rfl, hb⟩
  replace HF := hide (HF.out.call hb)
  have c0 := HF.out.cell 0 rfl
  have f0 := HF.out.frz 0 rfl
  have c1 := HF.out.cell 1 rfl
  clear hb HC
  have h6' : ¬ (6 : Int) < bn := by omega
  have H00 := hide h00
  clear h00
  have h0' : ¬ (0 : Int) < bn := by have := H00.out; omega
  go_wp2_with fail
  clear h0'
  all_goals clear c0 f0 c1
  all_goals
    go_loopw [6, 7] (fun x i wr => ∃ k : Nat, k ≤ bn ∧ x = .int .i64 (sumN bs k) ∧ i = .int .i64 k ∧ Hid ((List.range k).any (fun i => badB (bs i)) = false) ∧ Hid (Fr w.heap.size w wr [.blk (w.heap.size + 1) z7 30, .blk w.heap.size #[.int .i64 4, .string name, .slice na nn nc, .slice (some ⟨pb, po, none⟩) (l + 1) pc, .bool false] 25])) (fun _ i _ => bn - (intOf i).toNat)
    case atStart => exact ⟨0, Nat.zero_le _, rfl, rfl, rfl, HF⟩
    case round =>
      clear HF
      obtain ⟨k, hk, rfl, rfl, HG, HF⟩ := hrel
      by_cases hlt : k < bn
      · exact absurd hlt (by have := H00.out; omega)
      · obtain rfl : k = bn := by omega
        have hlt' : ¬ (k : Int) < k := by omega
        have HE0 : Hid (errP (.mk 4 name nn names (l + 1) parts false) k bs = 0) := HE.out.trans (if_neg (by rw [HG.out]; simp))
        have hsum := sum_le HG.out
        clear HE HG
        have HF2 := hide (HF.out.alloc rfl #[.int .i64 (-1), .int .i64 (-1), .slice none 0 0, .slice none 0 0, .slice none 0 0, .int .i64 0, .int .i64 0] 30)
        clear HF
        have c2 := HF2.out.cell 0 rfl
        have c3 := HF2.out.cell 2 rfl
        obtain ⟨kind, nm, xa, xn, xc, ya, yn, yc, mn, G0, G1, G2, G3, G4, HT5, -⟩ := HPA.out _ HF2.out.below l (by omega)
        have HCS := hide (size_any (parts l) (HFew.out l (by omega)).1 _ _ (HT5.out.below HF2.out.below))
        have hs12 := (HFew.out l (by omega)).2
        generalize hRe : sizeT (parts l) = res at *
        have hRe' := hide hRe
        clear hRe
        go_wp2_with fail
        go_at_call 18
        refine HCS.out.mono ?_
        rintro e w3 ⟨rfl, hb⟩
        replace HF2 := hide (HF2.out.call hb)
        clear hb c2 c3 G0 G1 G2 G3 G4 HCS HT5
        have c2 := HF2.out.cell 0 rfl
        have f2 := HF2.out.frz 0 rfl
        replace HF2 := hide ((HF2.out.nil 3 1).nil 39 2)
        have hres' : (2 : Int) < res := by have := HRS.out; omega
        have HR2 : Hid (2 < res) := HRS
        have HFa := hide ((HF2.out.set 2 rfl 0 (.int .i64 0)).alloc (q := w3.heap.size) (by simp) #[.bool false, .int .i64 0] 39)
        go_wp2_with (at_builtin; first | (refine Fr.one 36 info39 Try.underlying36 rfl (by decide) (by decide) HFa.out 0 rfl (by decide) _ _ rfl rfl rfl rfl rfl rfl ?_; intro g5 cap5 w5 h5 _; have HF5 := hide h5; clear h5; have c5 := HF5.out.cell 4 rfl; have d5 := HF5.out.cell 2 rfl; have f5 := HF5.out.frz 2 rfl))
        generalize hbp : wr.heap.size = bp at *
        generalize hbr : w.heap.size + 1 = br at *
        clear hbp hbr
        clear hres' HFa
        have HH0 : Hid (had0 res false = [(false, 0)]) := by show _ = _; simp [had0, HR2.out]
        have HZ := hide ((HF5.out.nil 4 1).nil 36 1)
        go_loopw [10, 13] (fun hv i w4 => ∃ j : Nat, j ≤ l ∧ i = .int .i64 j ∧ ∃ vp vc ps, Hid (Fr w.heap.size w w4 (.row vp 36 1 j (ps.map (·.1)) :: .row vc 4 1 j ((List.range j).map fun i => Value.bool (decide (4 < sizeT (parts i)))) :: .row hv 39 2 (hads (had0 res false) parts j).length (locV (hads (had0 res false) parts j)) :: .row (.slice none 0 0) 3 1 0 [] :: .blk bp #[.int .i64 0, .int .i64 (-1), vp, vc, (.slice none 0 0), .int .i64 0, .int .i64 0] 30 :: .blk br z7 30 :: .blk w.heap.size #[.int .i64 4, .string name, .slice na nn nc, .slice (some ⟨pb, po, none⟩) (l + 1) pc, .bool false] 25 :: prL ps)) ∧ Hid (ps.map (·.2) = (List.range j).map fun i => stepL (hads (had0 res false) parts i) (parts i))) (fun _ i _ => l - (intOf i).toNat)
        case atStart => exact ⟨0, Nat.zero_le _, rfl, _, _, [], by rw [show hads (had0 res false) parts 0 = had0 res false from rfl, HH0.out]; exact HZ, rfl⟩
        case round =>
          clear HZ
          obtain ⟨j, hj, rfl, vp, vc, ps, HF, HPS⟩ := hrel
          have HPL : Hid (ps.length = j) := by have hx := congrArg List.length HPS.out; simp only [List.length_map, List.length_range] at hx; exact hx
          by_cases hlj : j < l
          · have hlj' : (j : Int) < l := by omega
            have hidx : (0 : Int) ≤ j ∧ (j : Int) < (l + 1 : Nat) := by omega
            have c6 := HF.out.cell 6 rfl
            obtain ⟨kind, nm, xa, xn, xc, ya, yn, yc, mn, G0, G1, G2, G3, G4, HT5, HKD⟩ := HPA.out _ HF.out.below j (by omega)
            have HCS := hide (size_any (parts j) (HFew.out j (by omega)).1 _ _ (HT5.out.below HF.out.below))
            have hs12 := (HFew.out j (by omega)).2
            go_wp2_with fail
            go_at_call 18
            refine HCS.out.mono ?_
            rintro e w5 ⟨rfl, hb⟩
            replace HF := hide (HF.out.call hb)
            clear hb c6 G0 G1 G2 G3 G4 HCS
            have c6 := HF.out.cell 6 rfl
            obtain ⟨kind', nm', xa', xn', xc', ya', yn', yc', mn', G0, G1, G2, G3, G4, HT6, HKD'⟩ := HPA.out _ HF.out.below j (by omega)
            have HCE := hide (even_any (parts j) _ _ (HT6.out.below HF.out.below))
            go_wp2_with fail
            go_at_call 19
            refine HCE.out.mono ?_
            rintro e w6 ⟨rfl, hb⟩
            replace HF := hide (HF.out.call hb)
            clear hb c6 G0 G1 G2 G3 G4 HCE HT5 HT6 HKD HKD'
            have c6 := HF.out.cell 6 rfl
            obtain ⟨kind, nm, xa, xn, xc, ya, yn, yc, mn, G0, G1, G2, G3, G4, -, HKD⟩ := HPA.out _ HF.out.below j (by omega)
            have HSP := hide (size_pos (HFm.out j (by omega)))
            obtain ⟨rN, pN, HHad, hpN⟩ := hads_had res false parts j
            have hHl := hads_len res false parts j
            have HCW := hide (words_at u10 (hads (had0 res false) parts j) (parN (parts j)) (parE (parts j)) (decide (kindT (parts j) = 2)) rN pN w6 (Locs.of (HF.out.get (i := 2) rfl)) HHad (by omega) (by omega) (by have := par_le (t := parts j); omega) long_even)
            have e2 : decide (kindT (parts j) = 2) = (kind == 2) := by rw [← HKD.out]; rfl
            rw [e2] at HCW
            have hN4 := par_le (t := parts j)
            have HN1 : Hid (1 ≤ parN (parts j)) := by show 1 ≤ _; unfold parN; split; omega; exact HSP.out
            have HCO : Hid ((List.range (j + 1)).map (fun i => Value.bool (decide (4 < sizeT (parts i)))) = (List.range j).map (fun i => Value.bool (decide (4 < sizeT (parts i)))) ++ [.bool (decide (4 < sizeT (parts j)))]) := by show _ = _; rw [List.range_succ, List.map_append]; rfl
            have HEN : Hid (parN (parts j) = if 4 < sizeT (parts j) then 1 else sizeT (parts j)) := rfl
            have HEE : Hid (parE (parts j) = (evenT (parts j) && !decide (4 < sizeT (parts j)))) := rfl
            have HST : Hid (stepL (hads (had0 res false) parts j) (parts j) = wordsL (hads (had0 res false) parts j) (parN (parts j)) (parE (parts j)) (kind == 2)) := by show stepL _ _ = _; unfold stepL; rw [e2]
            clear e2 HHad hpN
            generalize sizeT (parts j) = sz at *
            generalize evenT (parts j) = ev at *
            generalize parN (parts j) = pw at *
            generalize parE (parts j) = pe at *
            generalize hW : wordsL (hads (had0 res false) parts j) pw pe (kind == 2) = Wd at *
            have HWl : Hid (Wd.length = pw) := by subst hW; exact lay_len _ _ _
            clear hW
            have HC4 : Hid (4 < sz ∧ pw = 1 ∧ pe = false ∨ ¬ 4 < sz ∧ pw = sz ∧ pe = ev) := by
              by_cases h4 : 4 < sz
              · exact Or.inl ⟨h4, by rw [HEN.out, if_pos h4], by rw [HEE.out]; simp [h4]⟩
              · exact Or.inr ⟨h4, by rw [HEN.out, if_neg h4], by rw [HEE.out]; simp [h4]⟩
            clear HEN HEE
            rcases HC4.out with ⟨h4, rfl, rfl⟩ | ⟨h4, rfl, rfl⟩
            · have h4' : (4 : Int) < sz := by omega
              cases ev
              focus
                go_wp2_with fail
              rotate_left
              focus
                go_wp2_with fail
              rotate_left
              all_goals
                go_at_call 20
                refine HCW.out.mono ?_
                rintro e w7 ⟨lv, rfl, hown, hb⟩
                obtain ⟨lg, lc, rfl⟩ : ∃ lg lc, lv = .slice (some ⟨lg, 0, none⟩) 1 lc := by
                  rcases hown.2 with ⟨-, h0⟩ | ⟨g, cap, cur, h, -⟩
                  · exact absurd h0 (by have := HN1.out; omega)
                  · exact ⟨_, _, h⟩
                have HT7 := hide (HF.out.take hb hown)
                clear hown hb HCW c6 G0 G1 G2 G3 G4 HF
                have c5 := HT7.out.cell 5 rfl
                have f5 := HT7.out.frz 5 rfl
                go_wp2_with (at_builtin; first | (have HA := HT7.out.alloc (q := w7.heap.size) rfl #[.slice (some ⟨lg, 0, none⟩) 1 lc] 36; refine Fr.one 26 info36 Try.underlying26 rfl (by decide) (by decide) HA 1 (v := vp) (n := j) rfl (by omega) _ _ rfl rfl rfl rfl rfl rfl ?_; intro g8 cap8 w8 h8 _; have HF8 := hide h8; clear h8; have d8 := HF8.out.cell 5 rfl; have f8 := HF8.out.frz 5 rfl; have HS8 := hide (HF8.out.set 5 rfl 2 (.slice (some ⟨g8, 0, none⟩) (j + 1) cap8)); have e8 := HS8.out.cell 5 rfl; have i8 := HS8.out.frz 5 rfl) | (have HA := HS8.out.alloc (q := w8.heap.size) (by simp) #[.bool true] 4; refine Fr.one 27 info4 Try.underlying27 rfl (by decide) (by decide) HA 2 (v := vc) (n := j) rfl (by omega) _ _ rfl rfl rfl rfl rfl rfl ?_; intro g9 cap9 w9 h9 _; have HF9 := hide h9; clear h9; have d9 := HF9.out.cell 5 rfl; have f9 := HF9.out.frz 5 rfl; have HS9 := hide (HF9.out.set 5 rfl 3 (.slice (some ⟨g9, 0, none⟩) (j + 1) cap9)); have e9 := HS9.out.cell 5 rfl; have i9 := HS9.out.frz 5 rfl) | (refine Fr.list 36 info39 Try.underlying36 rfl (by decide) (by decide) HS9.out 3 (v := u10) (n := (hads (had0 res false) parts j).length) rfl (by omega) _ _ rfl rfl rfl ⟨lg, 0, none⟩ 1 lc (locV Wd) rfl (by rw [locV_len, HWl.out]) (World.ownsRow.cells (HS9.out.get (i := 0) rfl) rfl) (locV_one Wd) HN1.out (by omega) ?_; intro g10 cap10 w10 h10 _; have HF10 := hide h10; clear h10))
                go_roundw
                case rel =>
                  refine ⟨j + 1, by omega, by go_num, .slice (some ⟨g8, 0, none⟩) (j + 1) cap8, .slice (some ⟨g9, 0, none⟩) (j + 1) cap9, ps ++ [(.slice (some ⟨lg, 0, none⟩) 1 lc, Wd)], ?_, ?_⟩
                  · have hx := HF10.out.last
                    have hy : hads (had0 res false) parts (j + 1) = hads (had0 res false) parts j ++ Wd := by rw [hads, HST.out]
                    have hz : (decide (4 < sz)) = true := by simpa using h4
                    show Fr _ _ _ _
                    rw [HCO.out, hz, List.map_append, prL_snoc, hy, List.length_append, locV_append, HWl.out]
                    exact hx
                  · show List.map _ _ = _
                    rw [List.map_append, HPS.out, List.range_succ, List.map_append, List.map_singleton, List.map_singleton, HST.out]
                case measure => simp [intOf]; omega
            · have h4' : ¬ (4 : Int) < pw := by omega
              have hd4 : decide ((4 : Int) < pw) = false := by simpa using h4'
              cases pe
              focus
                go_wp2_with fail
              rotate_left
              focus
                go_wp2_with fail
              rotate_left
              all_goals
                go_at_call 20
                refine HCW.out.mono ?_
                rintro e w7 ⟨lv, rfl, hown, hb⟩
                obtain ⟨lg, lc, rfl⟩ : ∃ lg lc, lv = .slice (some ⟨lg, 0, none⟩) pw lc := by
                  rcases hown.2 with ⟨-, h0⟩ | ⟨g, cap, cur, h, -⟩
                  · exact absurd h0 (by have := HN1.out; omega)
                  · exact ⟨_, _, h⟩
                have HT7 := hide (HF.out.take hb hown)
                clear hown hb HCW c6 G0 G1 G2 G3 G4 HF
                have c5 := HT7.out.cell 5 rfl
                have f5 := HT7.out.frz 5 rfl
                go_wp2_with (at_builtin; first | (have HA := HT7.out.alloc (q := w7.heap.size) rfl #[.slice (some ⟨lg, 0, none⟩) pw lc] 36; refine Fr.one 26 info36 Try.underlying26 rfl (by decide) (by decide) HA 1 (v := vp) (n := j) rfl (by omega) _ _ rfl rfl rfl rfl rfl rfl ?_; intro g8 cap8 w8 h8 _; have HF8 := hide h8; clear h8; have d8 := HF8.out.cell 5 rfl; have f8 := HF8.out.frz 5 rfl; have HS8 := hide (HF8.out.set 5 rfl 2 (.slice (some ⟨g8, 0, none⟩) (j + 1) cap8)); have e8 := HS8.out.cell 5 rfl; have i8 := HS8.out.frz 5 rfl) | (have HA := HS8.out.alloc (q := w8.heap.size) (by simp) #[.bool false] 4; refine Fr.one 27 info4 Try.underlying27 rfl (by decide) (by decide) HA 2 (v := vc) (n := j) rfl (by omega) _ _ rfl rfl rfl rfl rfl rfl ?_; intro g9 cap9 w9 h9 _; have HF9 := hide h9; clear h9; have d9 := HF9.out.cell 5 rfl; have f9 := HF9.out.frz 5 rfl; have HS9 := hide (HF9.out.set 5 rfl 3 (.slice (some ⟨g9, 0, none⟩) (j + 1) cap9)); have e9 := HS9.out.cell 5 rfl; have i9 := HS9.out.frz 5 rfl) | (have HA := HS8.out.alloc (q := w8.heap.size) (by simp) #[.bool (decide ((4 : Int) < pw))] 4; refine Fr.one 27 info4 Try.underlying27 rfl (by decide) (by decide) HA 2 (v := vc) (n := j) rfl (by omega) _ _ rfl rfl rfl rfl rfl rfl ?_; intro g9 cap9 w9 h9 _; have HF9 := hide h9; clear h9; have d9 := HF9.out.cell 5 rfl; have f9 := HF9.out.frz 5 rfl; have HS9 := hide (HF9.out.set 5 rfl 3 (.slice (some ⟨g9, 0, none⟩) (j + 1) cap9)); have e9 := HS9.out.cell 5 rfl; have i9 := HS9.out.frz 5 rfl) | (refine Fr.list 36 info39 Try.underlying36 rfl (by decide) (by decide) HS9.out 3 (v := u10) (n := (hads (had0 res false) parts j).length) rfl (by omega) _ _ rfl rfl rfl ⟨lg, 0, none⟩ pw lc (locV Wd) rfl (by rw [locV_len, HWl.out]) (World.ownsRow.cells (HS9.out.get (i := 0) rfl) rfl) (locV_one Wd) HN1.out (by omega) ?_; intro g10 cap10 w10 h10 _; have HF10 := hide h10; clear h10))
                go_roundw
                case rel =>
                  refine ⟨j + 1, by omega, by go_num, .slice (some ⟨g8, 0, none⟩) (j + 1) cap8, .slice (some ⟨g9, 0, none⟩) (j + 1) cap9, ps ++ [(.slice (some ⟨lg, 0, none⟩) pw lc, Wd)], ?_, ?_⟩
                  · have hx := HF10.out.last
                    have hy : hads (had0 res false) parts (j + 1) = hads (had0 res false) parts j ++ Wd := by rw [hads, HST.out]
                    have hz : (decide (4 < pw)) = false := by simpa using h4
                    have hq : (decide (4 < pw)) = decide ((4 : Int) < pw) := by rw [hz]; simpa using h4'
                    show Fr _ _ _ _
                    first | (rw [HCO.out, hz, List.map_append, prL_snoc, hy, List.length_append, locV_append, HWl.out]; exact hx) | (rw [HCO.out, hq, List.map_append, prL_snoc, hy, List.length_append, locV_append, HWl.out]; exact hx)
                  · show List.map _ _ = _
                    rw [List.map_append, HPS.out, List.range_succ, List.map_append, List.map_singleton, List.map_singleton, HST.out]
                case measure => simp [intOf]; omega
          · obtain rfl : j = l := by omega
            have hlj' : ¬ (j : Int) < j := by omega
            obtain ⟨rN, pN, HHad, hpN⟩ := hads_had res false parts j
            have hHl := hads_len res false parts j
            have HCP := hide (place_from u10 (hads (had0 res false) parts j) wr (Locs.of (HF.out.get (i := 2) rfl)) (by omega) (fun x hx => by have := HHad.small x hx; omega))
            have hpl : plN (hads (had0 res false) parts j) ≤ 100 := by rw [HHad.pl]; omega
            have c6 := HF.out.cell 6 rfl
            have c4 := HF.out.cell 4 rfl
            have f4 := HF.out.frz 4 rfl
            obtain ⟨a1, n1, z1, rfl⟩ : ∃ a n c, vp = .slice a n c := by obtain ⟨a, c, h, -⟩ := own1 (HF.out.get (i := 0) rfl); exact ⟨_, _, _, h⟩
            obtain ⟨a2, n2, z2, rfl⟩ : ∃ a n c, vc = .slice a n c := by obtain ⟨a, c, h, -⟩ := own1 (HF.out.get (i := 1) rfl); exact ⟨_, _, _, h⟩
            have HAll : Hid (allN (j + 1) parts false = hads (had0 res false) parts j) := by show hads (had0 (sizeT (parts j)) false) parts j = _; rw [hRe'.out]
            clear HHad hpN
            generalize hpe : plN (hads (had0 res false) parts j) = pl at *
            have HPE := hide hpe
            clear hpe
            go_wp2_with fail
            go_at_call 21
            refine HCP.out.mono ?_
            rintro e w5 ⟨rfl, hw5⟩
            obtain rfl : wr = w5 := hw5.symm
            clear hw5
            go_wp2_with fail
            go_at_call 22
            refine (up_any pl _ (by omega)).mono ?_
            rintro e w5 ⟨rfl, hw5⟩
            obtain rfl := hw5
            clear c6
            have HG := hide (HF.out.set 4 rfl 5 (.int .i64 (upN pl)))
            have gg4 := HG.out.cell 4 rfl
            have gg5 := HG.out.cell 5 rfl
            have jj5 := HG.out.frz 5 rfl
            go_wp2_with fail
            replace HG := hide ((((((((HG.out.set 5 rfl 0 (.int .i64 0)).set 5 rfl 1 (.int .i64 (-1))).set 5 rfl 2 (.slice a1 n1 z1)).set 5 rfl 3 (.slice a2 n2 z2)).set 5 rfl 4 (.slice none 0 0)).set 5 rfl 5 (.int .i64 (upN pl : Nat))).set 5 rfl 6 (.int .i64 (0 : Nat))))
            refine bodyPost_ret (rt7 Try.results6 rfl (HG.out.get (i := 5) rfl).2) rfl ?_
            have e1 : (plT (pnT (.mk 4 name nn names (j + 1) parts false)) (partsT (.mk 4 name nn names (j + 1) parts false)) false (sumN bs k)).result = 0 := by show (if 2 < sizeT (parts j) then (0 : Int) else -1) = _; rw [hRe'.out]; simp [HR2.out]
            have e2 : (plT (pnT (.mk 4 name nn names (j + 1) parts false)) (partsT (.mk 4 name nn names (j + 1) parts false)) false (sumN bs k)).count = (-1) := by show (if false = true then (if 2 < sizeT (parts j) then (1 : Int) else 0) else -1) = _; rw [hRe'.out]; simp [HR2.out]
            have e3 : (plT (pnT (.mk 4 name nn names (j + 1) parts false)) (partsT (.mk 4 name nn names (j + 1) parts false)) false (sumN bs k)).results = [] := by show (if 2 < sizeT (parts j) then [] else if sizeT (parts j) = 2 then [0, 1] else [0]) = _; rw [hRe'.out]; simp [HR2.out]
            have e4 : (plT (pnT (.mk 4 name nn names (j + 1) parts false)) (partsT (.mk 4 name nn names (j + 1) parts false)) false (sumN bs k)).params = ps.map (·.2) := by rw [HPS.out]; show (List.range j).map (fun i => stepL (hads (had0 (sizeT (parts j)) false) parts i) (parts i)) = _; rw [hRe'.out]
            have e5 : (plT (pnT (.mk 4 name nn names (j + 1) parts false)) (partsT (.mk 4 name nn names (j + 1) parts false)) false (sumN bs k)).area = upN pl := by show upN (if false = true then upN (plN (allN (j + 1) parts false)) + sumN bs k else plN (allN (j + 1) parts false)) = _; rw [HAll.out, HPE.out]; simp
            have e6 : (plT (pnT (.mk 4 name nn names (j + 1) parts false)) (partsT (.mk 4 name nn names (j + 1) parts false)) false (sumN bs k)).extra = 0 := by show (if false = true then upN (plN (allN (j + 1) parts false)) else 0) = _; rw [HAll.out, HPE.out]; simp
            refine PostP.ok HE0.out ⟨.slice a1 n1 z1, .slice a2 n2 z2, .slice none 0 0, ?_, ?_, ?_, ?_⟩ HG.out.below
            · show Value.agg _ = Value.agg #[.int .i64 (plT (pnT (.mk 4 name nn names (j + 1) parts false)) (partsT (.mk 4 name nn names (j + 1) parts false)) false (sumN bs k)).result, .int .i64 (plT (pnT (.mk 4 name nn names (j + 1) parts false)) (partsT (.mk 4 name nn names (j + 1) parts false)) false (sumN bs k)).count, _, _, _, .int .i64 (plT (pnT (.mk 4 name nn names (j + 1) parts false)) (partsT (.mk 4 name nn names (j + 1) parts false)) false (sumN bs k)).area, .int .i64 (plT (pnT (.mk 4 name nn names (j + 1) parts false)) (partsT (.mk 4 name nn names (j + 1) parts false)) false (sumN bs k)).extra]
              rw [e1, e2, e5, e6]
              try rfl
            · show Rows' _ _ (plT (pnT (.mk 4 name nn names (j + 1) parts false)) (partsT (.mk 4 name nn names (j + 1) parts false)) false (sumN bs k)).params
              rw [e4]
              exact rows_of (n0 := w.heap.size) (by rw [HPL.out]; exact HG.out.get (i := 0) rfl) (fun r hr => HG.out.ok r (by exact List.mem_of_mem_drop (i := 7) hr))
            · exact bools_of (n0 := w.heap.size) (HG.out.get (i := 1) rfl)
            · show Ints _ _ (plT (pnT (.mk 4 name nn names (j + 1) parts false)) (partsT (.mk 4 name nn names (j + 1) parts false)) false (sumN bs k)).results
              rw [e3]
              exact ints_of (n0 := w.heap.size) (l := []) (HG.out.get (i := 3) rfl)
end Go.Proofs.Ytmbhcpnlfdgkjaa.T
