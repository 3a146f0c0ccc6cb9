/- The contract of the reference's Link, where nothing is wrong with the objects. -/
import Derived.Test.YthbhlmbhnidbhaaLo
import Derived.Test.YthbhlmbhnidbhaaLq
import Derived.Deep.RegionWith
import Derived.Test.YthbhlmbhnidbhaaGp
namespace Go.Proofs.Ythbhlmbhnidbhaa.T
open Go.RowKit Go.Proofs.Ythbhlmbhnidbhaa.M
set_option linter.unusedVariables false
set_option linter.unusedSimpArgs false
theorem ck_call (x : Int) (h0 : 0 ≤ x) (h1 : x ≤ 65535) : ckN 21 0 0 0 x = 0 := by
  have hk : kind 21 = 5 := by decide
  unfold ckN
  rw [hk]
  simp [okI, okL, has_5_65, has_5_66, has_5_67, has_5_73, lo, hi, h0, h1]
theorem ck_exit : ckN 25 0 0 0 0 = 0 := by decide
theorem info36 : (Try.prog.info? 36).map (fun i => (i.zero, i.size, i.bytes)) = some (some (.agg #[.string ⟨#[]⟩, .int .i64 0, .int .i64 0, .int .i64 0, .int .i64 0]), 5, 48) := by kernel_rfl
theorem ObV.codes {w : World} {o : Ob} {ca da sa ra : Option Addr} {nc cc nd dc ns sc nr rc : Nat} (h : ObV w o (.agg #[.slice ca nc cc, .slice da nd dc, .slice sa ns sc, .slice ra nr rc])) : ∀ w', Below w.heap.size w w' → 0 < o.code.length → ∃ a0, ca = some a0 ∧ ∀ j u, (o.code.map (Value.int .u32))[j]? = some u → w'.cell? (a0.add j) = some u := by
  obtain ⟨cv', dv', sv', rv', e, ⟨ca', cc', rfl, h1, h2, H⟩, -⟩ := h
  simp at e
  obtain ⟨⟨rfl, rfl, rfl⟩, -⟩ := e
  intro w' hw h0
  obtain ⟨g, oo, e1, hg, E⟩ := H h0
  refine ⟨_, e1, fun j u hu => ?_⟩
  rw [List.getElem?_map] at hu
  by_cases hj : j < o.code.length
  · rw [List.getElem?_eq_getElem hj] at hu
    simp at hu
    subst hu
    have := (nw_cells hg E hw j hj).1
    rw [Addr.add_lit]
    exact this
  · rw [List.getElem?_eq_none (by omega)] at hu
    cases hu
theorem ObV.datas {w : World} {o : Ob} {ca da sa ra : Option Addr} {nc cc nd dc ns sc nr rc : Nat} (h : ObV w o (.agg #[.slice ca nc cc, .slice da nd dc, .slice sa ns sc, .slice ra nr rc])) : ∀ w', Below w.heap.size w w' → 0 < o.data.length → ∃ a0, da = some a0 ∧ ∀ j u, (o.data.map (Value.int .i32))[j]? = some u → w'.cell? (a0.add j) = some u := by
  obtain ⟨cv', dv', sv', rv', e, -, ⟨ca', cc', rfl, h1, h2, H⟩, -⟩ := h
  simp at e
  obtain ⟨-, ⟨rfl, rfl, rfl⟩, -⟩ := e
  intro w' hw h0
  obtain ⟨g, oo, e1, hg, E⟩ := H h0
  refine ⟨_, e1, fun j u hu => ?_⟩
  rw [List.getElem?_map] at hu
  by_cases hj : j < o.data.length
  · rw [List.getElem?_eq_getElem hj] at hu
    simp at hu
    subst hu
    have := (i32_cells hg E hw j hj).1
    rw [Addr.add_lit]
    exact this
  · rw [List.getElem?_eq_none (by omega)] at hu
    cases hu
theorem u32_one (L : List Int) : ∀ u ∈ L.map (Value.int .u32), u.oneCell' = true := fun u hu => by
  obtain ⟨x, -, rfl⟩ := List.mem_map.1 hu
  rfl
theorem i32_one (L : List Int) : ∀ u ∈ L.map (Value.int .i32), u.oneCell' = true := fun u hu => by
  obtain ⟨x, -, rfl⟩ := List.mem_map.1 hu
  rfl
set_option maxRecDepth 100000 in
set_option maxHeartbeats 4000000 in
theorem linkr_fine (a : Option Addr) (n c : Nat) (l : List Ob) (mem : Int) (w : World) (hv : Obs w (.slice a n c) l) (hm0 : -9223372036854775808 ≤ mem) (hm1 : mem ≤ 9223372036854775807) (hf : Fine l) : Calls Try.prog 5 #[.slice a n c, .int .i64 mem] w (PLink w l mem) := by
  have HC := hide (fun (w' : World) (hb : Below w.heap.size w w') => chkl_any a n c l w' (hv.below hb))
  rw [hf.res] at HC
  simp only at HC
  obtain ⟨v, k, hvl, hk, hh, hown⟩ := hf.main
  have HHm := hide (fun (w' : World) (hb : Below w.heap.size w w') => home_any a n c l mainN w' (hv.below hb))
  rw [hh] at HHm
  unfold mainN at HHm
  have HAd := hide (fun (w' : World) (hb : Below w.heap.size w w') (u i : Nat) (hu : u < l.length) (hi : i < l[u].syms.length) => address_any a n c l u i w' (hv.below hb) hf hu hi)
  have HBf := hide (fun (w' : World) (hb : Below w.heap.size w w') (u : Nat) (hu : u ≤ n) => before_any a n c l u w' (hv.below hb) hf.oks hu)
  have HAm := hide (fun w' hb => HAd.out w' hb v k hvl hk)
  have hAr := adrA_le hf hvl hk
  have HCW : Hid (callW l = encN 21 0 0 0 (adrA l v l[v].syms[k] % 65536)) := (by show _ = _; unfold callW; rw [hh, symO_at hvl hk]; rfl)
  have HF := hide (((((Fr.start w).nil 36 5).nil 21 1).alloc (q := w.heap.size) rfl #[.slice none 0 0, .slice none 0 0, .int .i64 0] 26).alloc (q := w.heap.size + 1) (by simp) #[.int .i64 0, .int .i64 0, .int .i64 0] 30)
  generalize adrA l v l[v].syms[k] = AM at *
  obtain ⟨AM, rfl⟩ : ∃ m : Nat, AM = m := ⟨AM.toNat, by omega⟩
  have HCn4 : Hid (N4 (callW l)) := (by show N4 _; rw [HCW.out]; exact enc_n4 (ck_call _ (by omega) (by omega)))
  have HEc := hide (fun w' => W.rencode_ok 21 0 0 0 ((AM : Int) % 65536) w' (ck_call _ (by omega) (by omega)))
  have HEx := hide (fun w' => W.rencode_ok 25 0 0 0 0 w' ck_exit)
  go_enter Try.func5, Try.ntmps5
  go_wp2_with fail
  go_at_call 8
  refine (HC.out _ HF.out.below).mono ?_
  rintro e w1 ⟨rfl, hb⟩
  replace HF := hide ((HF.out.call hb).alloc (q := w1.heap.size) rfl #[.int .i64 0, .int .i64 0, .int .i64 0] 30)
  clear hb HC
  have s0 := HF.out.cell 0 rfl
  go_wp2_with fail
  go_at_call 9
  refine (HHm.out _ HF.out.below).mono ?_
  rintro e w2 ⟨rfl, hb⟩
  replace HF := hide (HF.out.call hb)
  clear hb HHm s0
  go_wp2_with fail
  go_at_call 10
  refine (HAm.out _ HF.out.below).mono ?_
  rintro e w3 ⟨rfl, hb⟩
  replace HF := hide (HF.out.call hb)
  clear hb HAm
  go_wp2_with fail
  go_at_call 11
  refine (HEc.out _).mono ?_
  rintro e w4 ⟨rfl, hb⟩
  replace HF := hide (HF.out.call hb)
  clear hb HEc
  rw [← HCW.out]
  clear HCW
  go_wp2_with fail
  go_at_call 11
  refine (HEx.out _).mono ?_
  rintro e w5 ⟨rfl, hb⟩
  replace HF := hide (HF.out.call hb)
  clear hb HEx
  rw [show encN 25 0 0 0 0 = exitW from rfl]
  have HG := hide ((HF.out.alloc (q := w5.heap.size) rfl #[.int .u32 (callW l), .int .u32 exitW] 34).alloc (q := w5.heap.size + 1) (by simp) #[.slice (some ⟨w5.heap.size, 0, none⟩) 2 2, .slice none 0 0, .int .i64 mem] 26)
  replace HF := hide (HG.out.shut 1 (g := w5.heap.size) (cap := 2) (n := 2) (z := 1) (cur := #[.int .u32 (callW l), .int .u32 exitW]) (e := 34) (xs := [.int .u32 (callW l), .int .u32 exitW]) rfl (Nat.le_refl _) (by unfold maxLen; omega) rfl rfl rfl)
  clear HG
  go_wp2_with fail
  generalize hbm : w5.heap.size + 1 = bm at *
  generalize hbc : w5.heap.size = bc at *
  generalize hbt : w1.heap.size = bt at *
  generalize hb1 : w.heap.size + 1 = b1 at *
  clear hbm hbc hbt hb1
  obtain ⟨hnl, hlc, hc63, HA⟩ := hv.at
  have HA := hide HA
  have HA2 := hide hv.at2
  have HWf := hide hv.wf
  have HN : Hid (l.length = n) := hnl.symm
  have h4 : n ≤ 4 := by have := hf.oks.1; omega
  have HLn := hide (fun u hu => hf.oks.len u hu)
  have HSm : Hid (∀ u, u ≤ n → (cdL l u).length ≤ 24002 ∧ (daL l u).length ≤ 64000 ∧ (rgL l u).length ≤ 1600) := fun u hu => by
    have h1 := hf.oks.sums u (by omega)
    have h2 := rgL_len hf.oks u (by omega)
    have h3 : (cdL l u).length = 2 + cS l u := cdL_len
    have h4 : (daL l u).length = dS l u := daL_len
    omega
  have HCn : Hid (∀ u (hu : u < l.length), cdL l (u + 1) = cdL l u ++ l[u].code) := fun u hu => cdL_next hu
  have HDn : Hid (∀ u (hu : u < l.length), daL l (u + 1) = daL l u ++ l[u].data) := fun u hu => daL_next hu
  have HRn : Hid (∀ u (hu : u < l.length), rgL l (u + 1) = rgL l u ++ rgU l u l[u] l[u].syms.length) := fun u hu => rgL_next hu
  have HC0 : Hid (([callW l, exitW] : List Int) = cdL l 0) := (by show _ = _; unfold cdL; simp)
  clear hnl hv hvl hk hown hh hAr
  go_loopw [16, 17] (fun rg i wr => ∃ (u : Nat) (ca da ra : Option Addr) (cc dc rc : Nat) (CL DL : List Int) (RL : List Rg), u ≤ n ∧ i = .int .i64 u ∧ rg = .slice ra RL.length rc ∧ Hid (CL = cdL l u) ∧ Hid (DL = daL l u) ∧ Hid (RL = rgL l u) ∧ Hid (Fr w.heap.size w wr [.blk bm #[.slice ca CL.length cc, .slice da DL.length dc, .int .i64 mem] 26, .row (.slice ca CL.length cc) 34 1 CL.length (CL.map (Value.int .u32)), .blk bt #[.int .i64 0, .int .i64 0, .int .i64 0] 30, .blk b1 #[.int .i64 0, .int .i64 0, .int .i64 0] 30, .blk w.heap.size #[.slice none 0 0, .slice none 0 0, .int .i64 0] 26, .row (.slice da DL.length dc) 21 1 DL.length (DL.map (Value.int .i32)), .row (.slice ra RL.length rc) 36 5 RL.length (RL.flatMap rgV)])) (fun _ i _ => n - (intOf i).toNat)
  case atStart => exact ⟨0, some ⟨bc, 0, none⟩, none, none, 2, 0, 0, [callW l, exitW], [], [], Nat.zero_le _, rfl, rfl, HC0, rfl, rfl, HF⟩
  case round =>
    clear HF HC0
    obtain ⟨u, ca, da, ra, cc, dc, rc, CL, DL, RL, hu, rfl, rfl, HCL, HDL, HRL, HF⟩ := hrel
    have hsm := HSm.out u hu
    rw [← HCL.out, ← HDL.out, ← HRL.out] at hsm
    obtain ⟨hs1, hs2, hs3⟩ := hsm
    by_cases hlt : u < n
    · have hlt' : (u : Int) < n := by omega
      have hidx : (0 : Int) ≤ u ∧ (u : Int) < n := by omega
      have hul : u < l.length := by rw [HN.out]; exact hlt
      obtain ⟨g, oo, rfl, HE⟩ := HA.out (by omega)
      have HEu := hide (fun w' hw => HE.out w' hw u hul)
      obtain ⟨oca, occ, oda, odc, osa, osc, ora, orc, e0, e1, e2, e3, HO⟩ := HEu.out _ HF.out.below
      have hln := HLn.out u hul
      have HNc := hide (HO.out.codes _ (Below.refl _ _).drew)
      obtain ⟨CL2, HCL2⟩ : ∃ C, Hid (CL ++ l[u].code = C) := ⟨_, hide rfl⟩
      obtain ⟨DL2, HDL2⟩ : ∃ C, Hid (DL ++ l[u].data = C) := ⟨_, hide rfl⟩
      go_upto_region 13 with fail
      go_cut [77] from 70 to 78 (fun _ wx => ∃ (ca2 : Option Addr) (cc2 : Nat), Hid (Fr w.heap.size w wx [.blk bm #[.slice ca2 CL2.length cc2, .slice da DL.length dc, .int .i64 mem] 26, .row (.slice ca2 CL2.length cc2) 34 1 CL2.length (CL2.map (Value.int .u32)), .blk bt #[.int .i64 0, .int .i64 0, .int .i64 0] 30, .blk b1 #[.int .i64 0, .int .i64 0, .int .i64 0] 30, .blk w.heap.size #[.slice none 0 0, .slice none 0 0, .int .i64 0] 26, .row (.slice da DL.length dc) 21 1 DL.length (DL.map (Value.int .i32)), .row (.slice ra RL.length rc) 36 5 RL.length (RL.flatMap rgV)]))
      case first =>
        have c0 := HF.out.cell 0 rfl
        have f0 := HF.out.frz 0 rfl
        go_region_law (refine Fr.stepRows 23 info34 Try.underlying23 rfl (by decide) (by decide) HF.out.drew 1 (v := .slice ca CL.length cc) (n := CL.length) rfl (by omega) (.tmp 71) (.tmp 76) rfl rfl rfl oca l[u].code.length occ (l[u].code.map (Value.int .u32)) rfl (by simp) HNc.out (u32_one _) (by omega) ?_; intro ad7 cap7 w7 h7 _; have HF7 := hide h7; clear h7; have f7 := HF7.out.frz 0 rfl; have b7 := HF7.out.cell 0 rfl)
        all_goals
          go_wp2_with fail
          go_meet
          case rel =>
            have h := HF7.out.set 0 rfl 0 (.slice ad7 (CL.length + l[u].code.length) cap7)
            refine ⟨ad7, cap7, ?_⟩
            rw [← HCL2.out, List.length_append, List.map_append]
            exact h
      case rest =>
        clear HF HNc e0 e1 e2 e3 HO
        obtain ⟨ca2, cc2, HF⟩ := hcut
        obtain ⟨oca, occ, oda, odc, osa, osc, ora, orc, e0, e1, e2, e3, HO⟩ := HEu.out _ HF.out.below
        have HNd := hide (HO.out.datas _ (Below.refl _ _).drew)
        go_upto_region 14 with fail
        go_cut [86] from 79 to 87 (fun _ wx => ∃ (da2 : Option Addr) (dc2 : Nat), Hid (Fr w.heap.size w wx [.blk bm #[.slice ca2 CL2.length cc2, .slice da2 DL2.length dc2, .int .i64 mem] 26, .row (.slice ca2 CL2.length cc2) 34 1 CL2.length (CL2.map (Value.int .u32)), .blk bt #[.int .i64 0, .int .i64 0, .int .i64 0] 30, .blk b1 #[.int .i64 0, .int .i64 0, .int .i64 0] 30, .blk w.heap.size #[.slice none 0 0, .slice none 0 0, .int .i64 0] 26, .row (.slice da2 DL2.length dc2) 21 1 DL2.length (DL2.map (Value.int .i32)), .row (.slice ra RL.length rc) 36 5 RL.length (RL.flatMap rgV)]))
        case first =>
          have c0 := HF.out.cell 0 rfl
          have f0 := HF.out.frz 0 rfl
          go_region_law (refine Fr.stepRows 24 info21 Try.underlying24 rfl (by decide) (by decide) HF.out.drew 5 (v := .slice da DL.length dc) (n := DL.length) rfl (by omega) (.tmp 80) (.tmp 85) rfl rfl rfl oda l[u].data.length odc (l[u].data.map (Value.int .i32)) rfl (by simp) HNd.out (i32_one _) (by omega) ?_; intro ad7 cap7 w7 h7 _; have HF7 := hide h7; clear h7; have f7 := HF7.out.frz 0 rfl; have b7 := HF7.out.cell 0 rfl)
          all_goals
            go_wp2_with fail
            go_meet
            case rel =>
              have h := HF7.out.set 0 rfl 1 (.slice ad7 (DL.length + l[u].data.length) cap7)
              refine ⟨ad7, cap7, ?_⟩
              rw [← HDL2.out, List.length_append, List.map_append]
              exact h
        case rest =>
          clear HF HNd e0 e1 e2 e3 HO
          obtain ⟨da2, dc2, HF⟩ := hcut
          go_wp2_with fail
          have HAu := hide (fun w' hb i hi => HAd.out w' hb u i hul hi)
          have HRy : Hid (∀ k (hk : k < l[u].syms.length), l[u].syms[k].kind = 1 → rgU l u l[u] (k + 1) = rgU l u l[u] k ++ [⟨l[u].syms[k].name, u, adrA l u l[u].syms[k], adrA l u l[u].syms[k] + l[u].syms[k].size, l[u].syms[k].frame⟩]) := fun k hk h => by
            rw [rgU_yes hk h, show adrA l u l[u].syms[k] = adrS l u l[u].syms[k] by unfold adrA; rw [if_pos (by unfold ownB; simp [h])]]
          have HRo : Hid (∀ k (hk : k < l[u].syms.length), l[u].syms[k].kind ≠ 1 → rgU l u l[u] (k + 1) = rgU l u l[u] k) := fun k hk h => rgU_no hk h
          have HRl : Hid (∀ k, (rgU l u l[u] k).length ≤ k) := fun k => rgU_len _ _ _ _
          have HAl : Hid (∀ k (hk : k < l[u].syms.length), 0 ≤ adrA l u l[u].syms[k] ∧ adrA l u l[u].syms[k] ≤ 4300000000) := fun k hk => adrA_le hf hul hk
          have HN4 : Hid (∀ k (hk : k < l[u].syms.length), N4 l[u].syms[k].size ∧ N4 l[u].syms[k].frame) := fun k hk => by
            have := mayO_n4 (hf.oks.2 _ (List.getElem_mem hul)) k hk
            exact ⟨this.2.2.1, this.2.2.2.1⟩
          have HC2 : Hid (CL2 = cdL l (u + 1)) := (by show _ = _; rw [HCn.out u hul, ← HCL2.out, HCL.out])
          have HD2 : Hid (DL2 = daL l (u + 1)) := (by show _ = _; rw [HDn.out u hul, ← HDL2.out, HDL.out])
          have HRz : Hid (∀ R, R = RL ++ rgU l u l[u] l[u].syms.length → R = rgL l (u + 1)) := fun R h => by rw [HRn.out u hul, h, HRL.out]
          have hk400 := hln.2.2.1
          obtain ⟨NS, HNS⟩ : ∃ N, Hid (l[u].syms.length = N) := ⟨_, hide rfl⟩
          rw [HNS.out] at hk400
          clear HCL HDL HRL HCL2 HDL2
          go_loopw [16, 18] (fun rg i wr => ∃ (k : Nat) (ra : Option Addr) (rc : Nat) (RL2 : List Rg), k ≤ NS ∧ i = .int .i64 k ∧ rg = .slice ra RL2.length rc ∧ Hid (RL2 = RL ++ rgU l u l[u] k) ∧ Hid (Fr w.heap.size w wr [.blk bm #[.slice ca2 CL2.length cc2, .slice da2 DL2.length dc2, .int .i64 mem] 26, .row (.slice ca2 CL2.length cc2) 34 1 CL2.length (CL2.map (Value.int .u32)), .blk bt #[.int .i64 0, .int .i64 0, .int .i64 0] 30, .blk b1 #[.int .i64 0, .int .i64 0, .int .i64 0] 30, .blk w.heap.size #[.slice none 0 0, .slice none 0 0, .int .i64 0] 26, .row (.slice da2 DL2.length dc2) 21 1 DL2.length (DL2.map (Value.int .i32)), .row (.slice ra RL2.length rc) 36 5 RL2.length (RL2.flatMap rgV)])) (fun _ i _ => NS - (intOf i).toNat)
          case atStart => exact ⟨0, ra, rc, RL, Nat.zero_le _, rfl, rfl, (by show _ = _; rw [rgU_zero, List.append_nil]), HF⟩
          case round =>
            clear HF
            obtain ⟨k, ra, rc, RL2, hk, rfl, rfl, HR2, HF⟩ := hrel
            obtain ⟨oca, occ, oda, odc, osa, osc, ora, orc, e0, e1, e2, e3, HO⟩ := HEu.out _ HF.out.below
            obtain ⟨-, hs63, HS⟩ := HO.out.syms
            rw [HNS.out] at e2 hs63
            clear e0 e1 e3 HO
            by_cases hk2 : k < NS
            · have hk2' : (k : Int) < NS := by omega
              have hidx2 : (0 : Int) ≤ k ∧ (k : Int) < NS := by omega
              have hkl : k < l[u].syms.length := by rw [HNS.out]; exact hk2
              obtain ⟨gs, os, rfl, HSE⟩ := HS (Nat.lt_of_le_of_lt (Nat.zero_le _) hkl)
              obtain ⟨r0, r1, r2, r3, r4, r5, r6⟩ := HSE.out _ (Below.refl _ _) k hkl
              have HAk := hide (fun w' hb => HAu.out w' hb k hkl)
              have hal := HAl.out k hkl
              obtain ⟨hn4, hn5⟩ := HN4.out k hkl
              have HRyk := hide (HRy.out k hkl)
              have HRok := hide (HRo.out k hkl)
              have hrl : RL2.length ≤ 1600 + k := by rw [HR2.out, List.length_append]; have := HRl.out k; omega
              generalize adrA l u l[u].syms[k] = AK at *
              generalize l[u].syms[k] = S at *
              obtain ⟨nm, kd, st, pl, sz, sg, fr⟩ := S
              simp only at r0 r1 r2 r3 r4 r5 r6 HRyk HRok hn4 hn5
              have HFa := hide (HF.out.alloc (q := wr.heap.size) rfl #[.string nm, .int .i64 kd, .bool st, .int .i64 pl, .int .i64 sz, .string sg, .int .i64 fr] 59)
              have q0 := HFa.out.cell 0 rfl
              clear HS HSE HF
              by_cases hkd : kd = 1
              · subst hkd
                unfold N4 at hn4 hn5
                obtain ⟨z0, z1⟩ := hn4
                obtain ⟨z2, z3⟩ := hn5
                obtain ⟨y0, y1⟩ := hal
                go_wp2_with fail
                go_at_call 10
                refine (HAk.out _ HFa.out.below).mono ?_
                rintro e w7 ⟨rfl, hb⟩
                replace HFa := hide (HFa.out.call hb)
                clear hb HAk q0
                have q0 := HFa.out.cell 0 rfl
                have HFb := hide (HFa.out.alloc (q := w7.heap.size) rfl #[.string nm, .int .i64 u, .int .i64 AK, .int .i64 (AK + sz), .int .i64 fr] 36)
                go_wp2_with (at_builtin; refine Fr.oneBig 27 info36 Try.underlying27 rfl (by decide) (by decide) HFb.out 7 rfl (by omega) (.tmp 113) (.tmp 125) rfl rfl rfl rfl rfl rfl ?_; intro g7 cap7 w8 h7 _; have HF7 := hide h7; clear h7)
                go_roundw
                case rel =>
                  refine ⟨k + 1, some ⟨g7, 0, none⟩, cap7, RL2 ++ [⟨nm, u, AK, AK + sz, fr⟩], by omega, by go_num, by rw [List.length_append]; rfl, ?_, ?_⟩
                  · show _ = _
                    rw [HRyk.out trivial, HR2.out, List.append_assoc]
                  · rw [List.length_append, List.flatMap_append, List.flatMap_singleton]
                    exact HF7.out.tail
                case measure => simp [intOf]; omega
              · have hkd' : (kd == 1) = false := by simpa using hkd
                clear HAk
                go_wp2_with fail
                go_roundw
                case rel => exact ⟨k + 1, ra, rc, RL2, by omega, by go_num, rfl, (by show _ = _; rw [HRok.out hkd, HR2.out]), HFa.out.tail⟩
                case measure => simp [intOf]; omega
            · have hk2' : ¬ (k : Int) < NS := by omega
              obtain rfl : k = NS := by omega
              clear HS
              go_wp2_with fail
              go_roundw
              case rel => exact ⟨u + 1, ca2, da2, ra, cc2, dc2, rc, CL2, DL2, RL2, by omega, by go_num, rfl, HC2, HD2, HRz.out _ (by rw [HR2.out, HNS.out]), HF⟩
              case measure => simp [intOf]; omega
    · have hlt' : ¬ (u : Int) < n := by omega
      obtain rfl : n = u := by omega
      have HM := hide (fun w' => may_img ca da CL.length cc DL.length dc mem w' (by omega) (by omega) hm0 hm1)
      have c0 := HF.out.cell 0 rfl
      go_wp2_with fail
      go_at_call 12
      refine (HM.out _).mono ?_
      rintro e w7 ⟨rfl, hb⟩
      replace HF := hide (HF.out.call hb)
      clear hb HM c0
      have HMy : Hid (mayI (2 + cS l l.length) (dS l l.length) mem = mayI CL.length DL.length mem) := (by show _ = _; rw [HCL.out, HDL.out, HN.out, cdL_len, daL_len])
      generalize mayI CL.length DL.length mem = B at *
      cases B
      · have HR : Hid (∀ w', Below w.heap.size w w' → PLink w l mem _ w') := fun w' hb => PLink.no (show linkO l mem = noL (0, 1, 1) by unfold linkO; rw [if_neg (by rw [hf.res]; simp), if_pos HMy.out]) hb
        have c3 := HF.out.cell 3 rfl
        have f3 := HF.out.frz 3 rfl
        have c4 := HF.out.cell 4 rfl
        have f4 := HF.out.frz 4 rfl
        have n34 := HF.out.apart 3 4 rfl rfl (by decide)
        have n43 := n34.symm
        have HG := hide ((((((HF.out.set 4 rfl 0 (.slice none 0 0)).set 4 rfl 1 (.slice none 0 0)).set 4 rfl 2 (.int .i64 0)).set 3 rfl 0 (.int .i64 0)).set 3 rfl 1 (.int .i64 1)).set 3 rfl 2 (.int .i64 1))
        go_wp2_with fail
        refine bodyPost_ret (rtL Try.results5 rfl rfl rfl (HG.out.get (i := 4) rfl).2 (HG.out.get (i := 3) rfl).2 rfl) rfl ?_
        exact HR.out _ HG.out.below
      · have hCl : CL.length = 2 + cS l n := by rw [HCL.out, cdL_len]
        obtain ⟨gC, cap, cur, hcv, hcc1, hcc2, hcsz, hctk, -, HF1⟩ := HF.out.opened 1 rfl (show 0 < CL.length by omega)
        cases hcv
        replace HF := hide HF1
        clear HF1
        have HP0 : Hid (CL = patL l 0) := (by show _ = _; rw [HCL.out]; show cdL l n = cdL l l.length; rw [HN.out])
        generalize hNC : CL.length = NC at *
        rw [Nat.mul_one] at hctk hcsz
        rw [HP0.out] at hctk
        go_wp2_with fail
        go_loopw [21] (fun i wr => ∃ (u : Nat) (cur : Array Value), u ≤ n ∧ i = .int .i64 u ∧ cur.size = cc ∧ Hid (cur.toList.take NC = (patL l u).map (Value.int .u32)) ∧ Hid (∀ v (hv : v < l.length), v < u → l[v].rels.findIdx? (badP l v l[v]) = none) ∧ Hid (Fr w.heap.size w wr [.blk bm #[.slice (some ⟨gC, 0, none⟩) NC cc, .slice da DL.length dc, .int .i64 mem] 26, .blk gC cur 34, .blk bt #[.int .i64 0, .int .i64 0, .int .i64 0] 30, .blk b1 #[.int .i64 0, .int .i64 0, .int .i64 0] 30, .blk w.heap.size #[.slice none 0 0, .slice none 0 0, .int .i64 0] 26, .row (.slice da DL.length dc) 21 1 DL.length (DL.map (Value.int .i32)), .row (.slice ra RL.length rc) 36 5 RL.length (RL.flatMap rgV)])) (fun i _ => n - (intOf i).toNat)
        case atStart => exact ⟨0, cur, Nat.zero_le _, rfl, hcsz, hctk, fun v _ h => absurd h (by omega), HF⟩
        case round =>
          clear HF hctk hcsz
          obtain ⟨u, cur, hu, rfl, hcsz, HTk, HNb, HF⟩ := hrel
          by_cases hlt : u < n
          · have hlt' : (u : Int) < n := by omega
            have hidx : (0 : Int) ≤ u ∧ (u : Int) < n := by omega
            have hul : u < l.length := by rw [HN.out]; exact hlt
            obtain ⟨g, oo, rfl, HE⟩ := HA2.out (by omega)
            obtain ⟨oca, occ, oda, odc, osa, osc, ora, orc, HE4, HO⟩ := HE u hul
            clear HE
            have hnl := HN.out
            have hcs := (hf.oks.sums u (by omega)).1
            have hcs2 : cS l (u + 1) ≤ cS l n := by
              have := cS_mono (l := l) (u := u + 1) (n - (u + 1)) (by omega)
              rw [show u + 1 + (n - (u + 1)) = n by omega] at this
              exact this
            have hcs3 := cS_next hul
            have hln := HLn.out u hul
            obtain ⟨-, -, hk4, hk6⟩ := hln
            have HAu := hide (fun w' hb i hi => HAd.out w' hb u i hul hi)
            have HAl : Hid (∀ k (hk : k < l[u].syms.length), 0 ≤ adrA l u l[u].syms[k] ∧ adrA l u l[u].syms[k] ≤ 4300000000) := fun k hk => adrA_le hf hul hk
            have HRf := hide (rel_facts (hf.oks.2 _ (List.getElem_mem hul)))
            have HPn : Hid (∀ P, P = patU l u l[u] (patL l u) l[u].rels.length → P = patL l (u + 1)) := fun P h => by rw [patL_next hul, h]
            have HPk : Hid (∀ k (hk : k < l[u].rels.length), patU l u l[u] (patL l u) (k + 1) = (patU l u l[u] (patL l u) k).set (2 + cS l u + l[u].rels[k].pl.toNat) (rWd l u l[u] l[u].rels[k])) := fun k hk => patU_next hk
            have HNu : Hid (l[u].rels.findIdx? (badP l u l[u]) = none → ∀ v (hv : v < l.length), v < u + 1 → l[v].rels.findIdx? (badP l v l[v]) = none) := fun h v hv hvu => by
              by_cases q : v = u
              · subst q; exact h
              · exact HNb.out v hv (by omega)
            have HBd : Hid (∀ i, l[u].rels.findIdx? (badP l u l[u]) = some i → linkO l mem = noL ((u : Int), 6, (i : Int))) := fun i h => by
              have hb : badR l = some (u, i) := by
                have := find3_yes (badP l) l 0 u i hul (by rw [Nat.zero_add]; exact h) (fun v hv => by rw [Nat.zero_add]; exact HNb.out v (by omega) hv)
                rw [Nat.zero_add] at this
                exact this
              unfold linkO
              rw [if_neg (by rw [hf.res]; simp), if_neg (by rw [HMy.out]; simp), hb]
            obtain ⟨NR, HNR⟩ : ∃ N, Hid (l[u].rels.length = N) := ⟨_, hide rfl⟩
            rw [HNR.out] at hk6
            go_wp2_with fail
            go_at_call 13
            refine (HBf.out _ HF.out.below u (by omega)).mono ?_
            rintro e w8 ⟨rfl, rfl⟩
            go_wp2_with fail
            go_loopw [24] (fun i wr => ∃ (k : Nat) (cur : Array Value), k ≤ NR ∧ i = .int .i64 k ∧ cur.size = cc ∧ Hid (cur.toList.take NC = (patU l u l[u] (patL l u) k).map (Value.int .u32)) ∧ Hid (∀ j (hj : j < l[u].rels.length), j < k → badP l u l[u] l[u].rels[j] = false) ∧ Hid (Fr w.heap.size w wr [.blk bm #[.slice (some ⟨gC, 0, none⟩) NC cc, .slice da DL.length dc, .int .i64 mem] 26, .blk gC cur 34, .blk bt #[.int .i64 0, .int .i64 0, .int .i64 0] 30, .blk b1 #[.int .i64 0, .int .i64 0, .int .i64 0] 30, .blk w.heap.size #[.slice none 0 0, .slice none 0 0, .int .i64 0] 26, .row (.slice da DL.length dc) 21 1 DL.length (DL.map (Value.int .i32)), .row (.slice ra RL.length rc) 36 5 RL.length (RL.flatMap rgV)])) (fun i _ => NR - (intOf i).toNat)
            case atStart => exact ⟨0, cur, Nat.zero_le _, rfl, hcsz, HTk, fun v _ h => absurd h (by omega), HF⟩
            case round =>
              clear HF HTk hcsz
              obtain ⟨k, cur, hk, rfl, hcsz, HTk, HNk, HF⟩ := hrel
              obtain ⟨e0, e1, e2, e3⟩ := HE4.out _ HF.out.below
              rw [HNR.out] at e3
              by_cases hk2 : k < NR
              · have hk2' : (k : Int) < NR := by omega
                have hidx2 : (0 : Int) ≤ k ∧ (k : Int) < NR := by omega
                have hkl : k < l[u].rels.length := by rw [HNR.out]; exact hk2
                obtain ⟨gr, orr, rfl, HRE⟩ := HO.out.rels (Nat.lt_of_le_of_lt (Nat.zero_le _) hkl)
                obtain ⟨r0, r1, r2⟩ := HRE.out _ HF.out.below k hkl
                obtain ⟨pn, sn, an, hp, hs, ep, es, ea, han, hdk⟩ := HRf.out k hkl
                obtain ⟨hcv, him⟩ := rCk_at (l := l) (u := u) hkl hp hs ep es
                obtain ⟨gc, oc, rfl, HCE⟩ := HO.out.code1 (Nat.lt_of_le_of_lt (Nat.zero_le _) hp)
                rw [ep] at r0
                rw [es] at r1
                rw [ea] at r2 him
                have HAk := hide (fun w' hb => HAu.out w' hb sn hs)
                obtain ⟨hal0, hal1⟩ := HAl.out sn hs
                obtain ⟨AN, hAN⟩ : ∃ m : Nat, adrA l u l[u].syms[sn] = m := ⟨(adrA l u l[u].syms[sn]).toNat, by omega⟩
                rw [hAN] at HAk hal0 hal1 him
                have HCk : Hid (badP l u l[u] l[u].rels[k] = decide (rCk l u l[u] l[u].rels[k] ≠ 0)) := rfl
                have HCd : Hid (rCk l u l[u] l[u].rels[k] = ckN (l[u].code[pn] / 16777216) (l[u].code[pn] / 1048576 % 16) (l[u].code[pn] / 65536 % 16) (dC (kind (l[u].code[pn] / 16777216)) (l[u].code[pn] % 65536)) ((AN : Int) + an)) := (by show _ = _; unfold rCk; rw [hcv, him])
                have HWd : Hid (rWd l u l[u] l[u].rels[k] = encN (l[u].code[pn] / 16777216) (l[u].code[pn] / 1048576 % 16) (l[u].code[pn] / 65536 % 16) (dC (kind (l[u].code[pn] / 16777216)) (l[u].code[pn] % 65536)) ((AN : Int) + an)) := (by show _ = _; unfold rWd; rw [hcv, him])
                have HPk1 := hide (HPk.out k hkl)
                rw [ep, Int.toNat_natCast] at HPk1
                have hpc : pn < l[u].code.length := hp
                have HCE1 := hide (fun w' hb => HCE.out w' hb pn hp)
                have hN4 := (HCE.out _ HF.out.below pn hp).2
                unfold N4 at hN4
                have HDec := hide (fun w' => W.rdecode_ok l[u].code[pn] w' hN4.1 (by have := hN4.2; omega) hdk)
                have hpn' : (0 : Int) ≤ pn ∧ (pn : Int) < l[u].code.length := by omega
                generalize l[u].code[pn] = V at *
                have HFa := hide (HF.out.alloc (q := wr.heap.size) rfl #[.int .i64 pn, .int .i64 sn, .int .i64 an] 63)
                have q0 := HFa.out.cell 0 rfl
                go_wp2_with fail
                go_at_call 10
                refine (HAk.out _ HFa.out.below).mono ?_
                rintro e w9 ⟨rfl, hb⟩
                replace HFa := hide (HFa.out.call hb)
                clear hb HAk q0
                obtain ⟨e0, e1, e2, e3⟩ := HE4.out _ HFa.out.below
                have hv0 := (HCE1.out _ HFa.out.below).1
                have q0 := HFa.out.cell 0 rfl
                generalize hbr : wr.heap.size = br at *
                clear hbr
                have HFd := hide HFa.out.drew
                have HFe0 := hide (HFa.out.alloc (q := w9.heap.size) rfl #[.int .i64 0, .int .i64 0, .int .i64 0, .int .i64 0, .int .i64 0] 53)
                have HFe := hide HFe0.out.drew
                go_upto_region 33 with fail
                go_cut [27, 28] from 167 to 179 (fun p t wx => ∃ bx, p = .pointer (some ⟨bx, 0, none⟩) ∧ t = .bool true ∧ Hid (Fr w.heap.size w wx [.blk bx #[.int .i64 (V / 16777216), .int .i64 (V / 1048576 % 16), .int .i64 (V / 65536 % 16), .int .i64 (dC (kind (V / 16777216)) (V % 65536)), .int .i64 (dM (kind (V / 16777216)) (V % 65536))] 53, .blk br #[.int .i64 pn, .int .i64 sn, .int .i64 an] 63, .blk bm #[.slice (some ⟨gC, 0, none⟩) NC cc, .slice da DL.length dc, .int .i64 mem] 26, .blk gC cur 34, .blk bt #[.int .i64 0, .int .i64 0, .int .i64 0] 30, .blk b1 #[.int .i64 0, .int .i64 0, .int .i64 0] 30, .blk w.heap.size #[.slice none 0 0, .slice none 0 0, .int .i64 0] 26, .row (.slice da DL.length dc) 21 1 DL.length (DL.map (Value.int .i32)), .row (.slice ra RL.length rc) 36 5 RL.length (RL.flatMap rgV)]))
                case first =>
                  obtain ⟨y0, y1, y2, y3⟩ := HE4.out _ HFe0.out.below
                  have hv1 := (HCE1.out _ HFe0.out.below).1
                  have q1 := HFe0.out.cell 1 rfl
                  go_region_with (first | (go_at_call 14; refine (HDec.out _).mono ?_; rintro e wD ⟨rfl, hbD⟩; have HFD := hide ((HFd.out.call hbD).alloc (q := wD.heap.size) rfl #[.int .i64 (V / 16777216), .int .i64 (V / 1048576 % 16), .int .i64 (V / 65536 % 16), .int .i64 (dC (kind (V / 16777216)) (V % 65536)), .int .i64 (dM (kind (V / 16777216)) (V % 65536))] 53); clear hbD) | (go_at_call 14; refine (HDec.out _).mono ?_; rintro e wD ⟨rfl, hbD⟩; have HFD := hide (HFe.out.call hbD); clear hbD; have c9 := HFD.out.cell 0 rfl; have f9 := HFD.out.frz 0 rfl))
                  all_goals go_wp2_with fail
                  all_goals go_meet
                  all_goals first | exact ⟨_, rfl, rfl, HFD⟩ | exact ⟨_, rfl, rfl, (((((HFD.out.set 0 rfl 0 (.int .i64 (V / 16777216))).set 0 rfl 1 (.int .i64 (V / 1048576 % 16))).set 0 rfl 2 (.int .i64 (V / 65536 % 16))).set 0 rfl 3 (.int .i64 (dC (kind (V / 16777216)) (V % 65536)))).set 0 rfl 4 (.int .i64 (dM (kind (V / 16777216)) (V % 65536))))⟩
                case rest =>
                  obtain ⟨bx, rfl, rfl, HF2⟩ := hcut
                  clear HFd HFe HFe0 HFa HF q0 e0 e1 e2 e3 hv0 HDec r0 r1 r2
                  have HF := HF2
                  clear HF2
                  have q0 := HF.out.cell 0 rfl
                  have q1 := HF.out.cell 1 rfl
                  have f0 := HF.out.frz 0 rfl
                  have HFs := hide (HF.out.set 0 rfl 4 (.int .i64 ((AN : Int) + an)))
                  have q2 := HFs.out.cell 0 rfl
                  have hal2 : (AN : Int) ≤ 4300000000 := hal1
                  generalize dM (kind (V / 16777216)) (V % 65536) = DM at *
                  generalize dC (kind (V / 16777216)) (V % 65536) = DC at *
                  generalize V / 16777216 = V0 at *
                  generalize V / 1048576 % 16 = V1 at *
                  generalize V / 65536 % 16 = V2 at *
                  by_cases hck : ckN V0 V1 V2 DC ((AN : Int) + an) = 0
                  · have HEn := hide (fun w' => W.rencode_ok V0 V1 V2 DC ((AN : Int) + an) w' hck)
                    rw [← HWd.out] at HEn
                    go_wp2_with fail
                    go_at_call 11
                    refine (HEn.out _).mono ?_
                    rintro e wE ⟨rfl, hb⟩
                    replace HFs := hide (HFs.out.call hb)
                    clear hb HEn q0 q1 q2 f0 HF
                    have p1 := HFs.out.cell 1 rfl
                    have p2 := HFs.out.cell 2 rfl
                    have p3 := HFs.out.cell 3 rfl
                    have p4 := HFs.out.frz 3 rfl
                    obtain ⟨xv, hxv⟩ : ∃ xv, cur[2 + cS l u + pn]? = some xv := ⟨_, Array.getElem?_eq_getElem (by omega)⟩
                    have HG := hide (HFs.out.set 3 rfl (2 + cS l u + pn) (.int .u32 (rWd l u l[u] l[u].rels[k])))
                    have HN1 : Hid (∀ j (hj : j < l[u].rels.length), j < k + 1 → badP l u l[u] l[u].rels[j] = false) := fun j hj hjk => by
                      by_cases q : j = k
                      · subst q; rw [HCk.out, HCd.out, hck]; rfl
                      · exact HNk.out j hj (by omega)
                    go_wp2_with fail
                    all_goals
                      go_roundw
                      case rel => exact ⟨k + 1, _, by omega, by go_num, by simp [hcsz], (by rw [HPk1.out]; exact take_set_map HTk.out), HN1, HG.out.tail.tail⟩
                      case measure => simp [intOf]; omega
                  · obtain ⟨ck, hckv⟩ : ∃ c, ckN V0 V1 V2 DC ((AN : Int) + an) = c := ⟨_, rfl⟩
                    rw [hckv] at hck
                    have hck' : (ck == 0) = false := by simpa using hck
                    have hck2 : (ck != 0) = true := by simpa using hck
                    have HEn := hide (fun w' => W.rencode_bad V0 V1 V2 DC ((AN : Int) + an) ck w' hckv hck')
                    have HR : Hid (∀ w', Below w.heap.size w w' → PLink w l mem _ w') := fun w' hb => PLink.no (HBd.out k (find_yes hkl (by rw [HCk.out, HCd.out, hckv]; simpa using hck) (fun j hj => HNk.out j (by omega) hj))) hb
                    go_wp2_with fail
                    go_at_call 11
                    refine (HEn.out _).mono ?_
                    rintro e wE ⟨rfl, hb⟩
                    replace HFs := hide (HFs.out.call hb)
                    clear hb HEn q0 q1 q2 f0 HF
                    have c3 := HFs.out.cell 5 rfl
                    have f3 := HFs.out.frz 5 rfl
                    have c4 := HFs.out.cell 6 rfl
                    have f4 := HFs.out.frz 6 rfl
                    have n34 := HFs.out.apart 5 6 rfl rfl (by decide)
                    have n43 := n34.symm
                    have HG := hide ((((((HFs.out.set 6 rfl 0 (.slice none 0 0)).set 6 rfl 1 (.slice none 0 0)).set 6 rfl 2 (.int .i64 0)).set 5 rfl 0 (.int .i64 u)).set 5 rfl 1 (.int .i64 6)).set 5 rfl 2 (.int .i64 k))
                    go_wp2_with fail
                    refine bodyPost_ret (rtL Try.results5 rfl rfl rfl (HG.out.get (i := 6) rfl).2 (HG.out.get (i := 5) rfl).2 rfl) rfl ?_
                    exact HR.out _ HG.out.below
              · have hk2' : ¬ (k : Int) < NR := by omega
                obtain rfl : k = NR := by omega
                have HTu : Hid (cur.toList.take NC = (patL l (u + 1)).map (Value.int .u32)) := (by show _ = _; rw [← HPn.out _ rfl, HNR.out]; exact HTk.out)
                have HNn := hide (HNu.out (find_no fun j hj => HNk.out j hj (by rw [← HNR.out]; exact hj)))
                go_wp2_with fail
                go_roundw
                case rel => exact ⟨u + 1, cur, by omega, by go_num, hcsz, HTu, HNn, HF⟩
                case measure => simp [intOf]; omega
          · have hlt' : ¬ (u : Int) < n := by omega
            obtain rfl : n = u := by omega
            have HRes : Hid (linkO l mem = ⟨patL l n, DL, mem, RL, (0, 0, 0)⟩) := (by
              show _ = _
              unfold linkO
              rw [if_neg (by rw [hf.res]; simp), if_neg (by rw [HMy.out]; simp), badR_none (fun v hv => HNb.out v hv (by rw [← HN.out]; exact hv)), HDL.out, HRL.out, HN.out])
            have HP4 : Hid (∀ x, x ∈ patL l n → N4 x) := patL_n4 (fun o ho => (HWf.out o ho).1) HCn4.out (fun u hu k hk => enc_n4 (bad_none hu (HNb.out u hu (by rw [← HN.out]; exact hu)) k hk)) n (by rw [HN.out]; exact Nat.le_refl _)
            have HD4 : Hid (∀ x, x ∈ DL → -2147483648 ≤ x ∧ x ≤ 2147483647) := (by show ∀ x, x ∈ DL → _; rw [HDL.out]; exact daL_ok HWf.out n)
            have HR4 : Hid (∀ (w' : World) x, x ∈ RL → rgC w' x (rgV x)) := (by show ∀ (w' : World) x, x ∈ RL → _; rw [HRL.out]; exact fun w' => rgL_ok hf.oks w' n (by rw [HN.out]; exact Nat.le_refl _))
            have HPl : Hid ((patL l n).length = NC) := (by show _ = _; rw [patL_len l n (by rw [HN.out]; exact Nat.le_refl _), HN.out]; omega)
            clear hCl
            have c0 := HF.out.cell 0 rfl
            have c3 := HF.out.cell 3 rfl
            have f3 := HF.out.frz 3 rfl
            have c4 := HF.out.cell 4 rfl
            have f4 := HF.out.frz 4 rfl
            have n34 := HF.out.apart 3 4 rfl rfl (by decide)
            have n43 := n34.symm
            have n03 := HF.out.apart 0 3 rfl rfl (by decide)
            have n30 := n03.symm
            have n04 := HF.out.apart 0 4 rfl rfl (by decide)
            have n40 := n04.symm
            have HG := hide ((((((HF.out.set 4 rfl 0 (.slice (some ⟨gC, 0, none⟩) NC cc)).set 4 rfl 1 (.slice da DL.length dc)).set 4 rfl 2 (.int .i64 mem)).set 3 rfl 0 (.int .i64 0)).set 3 rfl 1 (.int .i64 0)).set 3 rfl 2 (.int .i64 0))
            go_wp2_with fail
            refine bodyPost_ret (rtL Try.results5 rfl rfl rfl (HG.out.get (i := 4) rfl).2 (HG.out.get (i := 3) rfl).2 rfl) rfl ?_
            refine ⟨HG.out.below, _, rfl, ?_⟩
            rw [HRes.out]
            have HS := HG.out.shut 1 (g := gC) (cap := cc) (n := NC) (z := 1) (cur := cur) (e := 34) (xs := (patL l n).map (Value.int .u32)) rfl hcc1 hcc2 (by omega) (by rw [Nat.mul_one]; exact HTk.out) (by rw [List.length_map, HPl.out]; omega)
            exact ⟨_, _, _, rfl, row_u32 (HS.get (i := 1) rfl) HP4.out, row_i32 (HG.out.get (i := 5) rfl) HD4.out, row_flat rgV 36 5 rgV_len (by decide) (HG.out.get (i := 6) rfl) (HR4.out _)⟩
theorem linkr_any (a : Option Addr) (n c : Nat) (l : List Ob) (mem : Int) (w : World) (hv : Obs w (.slice a n c) l) (hm0 : -9223372036854775808 ≤ mem) (hm1 : mem ≤ 9223372036854775807) : Calls Try.prog 5 #[.slice a n c, .int .i64 mem] w (PLink w l mem) := by
  by_cases h : (chkL l).2.1 = 0
  · exact linkr_fine a n c l mem w hv hm0 hm1 (chk_fine h)
  · exact linkr_bad a n c l mem w hv h
end Go.Proofs.Ythbhlmbhnidbhaa.T
