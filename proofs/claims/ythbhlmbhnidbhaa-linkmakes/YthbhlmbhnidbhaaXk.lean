/- The contract of the linker's lay. -/
import Derived.Test.YthbhlmbhnidbhaaXj
import Derived.Test.YthbhlmbhnidbhaaXh
namespace Go.Proofs.Ythbhlmbhnidbhaa.T
open Go.RowKit Go.Proofs.Ythbhlmbhnidbhaa.M
set_option linter.unusedVariables false
set_option linter.unusedSimpArgs false
def layT (l : List Ob) (mem : Int) : Int × Int × Int := if mayI (2 + cS l l.length) (dS l l.length) mem then (0, 0, 0) else (0, 1, 1)
set_option maxRecDepth 100000 in
set_option maxHeartbeats 16000000 in
theorem lay_any {W w : World} {b mb : Nat} {a : Option Addr} {n c : Nat} {mem : Int} {k : Nat} {L : List Rs} (l : List Ob) (hO : Obs W (.slice a n c) l) (hf : Fine l) (hmc : mainC l = 0) (hm0 : -9223372036854775808 ≤ mem) (hm1 : mem ≤ 9223372036854775807) (h : LS W.heap.size W w b mb a n c mem [] [] [] [] k (homeQ l) L) :
    Calls Try.prog 20 #[.pointer (some ⟨b, 0, none⟩)] w fun e w' => e = .returned (trV (layT l mem)) ∧ LS W.heap.size W w' b mb a n c mem (cdL l l.length) (daL l l.length) (stL l) (rgL l l.length) k (homeQ l) L := by
  obtain ⟨hnl, hlc, hc63, -⟩ := hO.at
  have h1 := hf.one
  obtain ⟨g, oo, rfl, HE⟩ := hO.at2 (by omega)
  have HE := hide HE
  have HN : Hid (l.length = n) := hnl.symm
  have hn4 : n ≤ 4 := by have := hf.oks.1; omega
  have HMe := hide (fun w' L' h' => measure_any (W := W) (w := w') (b := b) (mb := mb) (mem := mem) (CO := []) (DA := []) (RG := []) (k := k) (f := homeQ l) (L := L') l hO hf.oks h1 h')
  have HTe := hide (fun w' CO' DA' RG' L' (u : Nat) hul hr h' => tell_any (W := W) (w := w') (b := b) (mb := mb) (mem := mem) (CO := CO') (DA := DA') (RG := RG') (k := k) (L := L') l hO hf.oks u hul hr h')
  obtain ⟨v, kk, hvl, hkk, hh, hown⟩ := hf.main
  have hq := homeQ_of hh
  have hkd : l[v].syms[kk].kind = 1 := by
    rw [mainC_some hq hvl hkk] at hmc
    by_cases e : l[v].syms[kk].kind = 1
    · exact e
    · simp [e] at hmc
  have HAd := hide (fun w' L' h' => padr_any (W := W) (w := w') (b := b) (mb := mb) (mem := mem) (CO := []) (DA := []) (RG := []) (k := k) (L := L') l hO hf h' v kk hvl hkk)
  have hAM : 0 ≤ adrA l v l[v].syms[kk] ∧ adrA l v l[v].syms[kk] ≤ 65535 := by
    have e : adrA l v l[v].syms[kk] = 2 + cS l v + l[v].syms[kk].pl := by
      unfold adrA
      rw [if_pos hown]
      unfold adrS
      rw [if_pos hkd]
    have h2 := pl_lt (hf.oks.2 _ (List.getElem_mem hvl)) hkk hkd
    have h3 := (hf.oks.len v hvl).1
    have h4 := (hf.oks.sums v (by omega)).1
    have h5 := (adrA_le hf hvl hkk).1
    omega
  have HCW : Hid (callW l = encN 21 0 0 0 (adrA l v l[v].syms[kk])) := (by
    show _ = _
    unfold callW
    rw [hh, symO_at hvl hkk, Int.toNat_natCast, Int.emod_eq_of_lt hAM.1 (by omega)])
  have HCk := hide (ck_call _ hAM.1 hAM.2)
  have HSm : Hid (∀ u, u ≤ n → (cdL l u).length ≤ 24002 ∧ (daL l u).length ≤ 64000 ∧ (rgL l u).length ≤ 1600) := fun u hu => by
    have h1 := hf.oks.sums u (by omega)
    have h2 := rgL_len hf.oks u (by omega)
    have h3 : (cdL l u).length = 2 + cS l u := cdL_len
    have h4 : (daL l u).length = dS l u := daL_len
    omega
  have HCn : Hid (∀ u (hu : u < l.length), cdL l (u + 1) = cdL l u ++ l[u].code) := fun u hu => cdL_next hu
  have HDn : Hid (∀ u (hu : u < l.length), daL l (u + 1) = daL l u ++ l[u].data) := fun u hu => daL_next hu
  have HRn : Hid (∀ u (hu : u < l.length), rgL l (u + 1) = rgL l u ++ rgU l u l[u] l[u].syms.length) := fun u hu => rgL_next hu
  have HC0 : Hid (([] ++ [callW l]) ++ [exitW] = cdL l 0) := (by show _ = _; unfold cdL; simp)
  have HLn := hide (fun u hu => hf.oks.len u hu)
  have HT : Hid (layT l mem = if mayI (cdL l n).length (daL l n).length mem then (0, 0, 0) else (0, 1, 1)) := (by show _ = _; unfold layT; rw [cdL_len, daL_len, HN.out])
  have HL := hide ((h.allocQ (q := w.heap.size) rfl #[.pointer (some ⟨b, 0, none⟩)] 38).allocQ (q := w.heap.size + 1) (by simp) #[.int .i64 0, .int .i64 0, .int .i64 0] 30)
  rw [HN.out]
  clear h hO hf hmc hnl hown hkd
  generalize layT l mem = T at *
  generalize adrA l v l[v].syms[kk] = AM at *
  have q1 := HL.out.cell 1 rfl
  have hmf : ∀ (fn : Fn) (first cap : Array Value) (w : World), (Instr.makeFunc fn first cap).run Try.prog w = .ok (.func fn first cap) w := fun _ _ _ _ => rfl
  go_enter Try.func20, Try.ntmps20
  go_wp2_with fail
  go_at_call 31
  refine (HMe.out _ _ HL.out).mono ?_
  rintro e w1 ⟨rfl, hL1⟩
  have HL1 := hide hL1
  clear hL1 HMe q1 HL
  generalize hbq : w.heap.size + 1 = bq at *
  generalize hbk : w.heap.size = bk at *
  clear hbq hbk
  have q1 := HL1.out.cell 1 rfl
  obtain ⟨c3, c4⟩ := HL1.out.look
  have hlk := HL1.out.drew.look1 mainN (by unfold mainN maxLen; decide)
  rw [hq] at hlk
  simp only [plV] at hlk
  unfold mainN at hlk
  have HAm := hide (HAd.out _ _ HL1.out.drew)
  have HCl := hide (fun w' L' (j : Nat) hj h' => lay1_any (W := W) (w := w') (b := b) (mb := mb) (a := some ⟨g, oo, none⟩) (n := n) (c := c) (mem := mem) (CO := []) (DA := []) (ST := stL l) (RG := []) (k := k) (f := homeQ l) (L := L') (j := j) (bk := bk) 21 0 0 0 AM HCk.out (by simp) hj h')
  have HCx := hide (fun w' L' (j : Nat) hj h' => lay1_any (W := W) (w := w') (b := b) (mb := mb) (a := some ⟨g, oo, none⟩) (n := n) (c := c) (mem := mem) (CO := [] ++ [callW l]) (DA := []) (ST := stL l) (RG := []) (k := k) (f := homeQ l) (L := L') (j := j) (bk := bk) 25 0 0 0 0 ck_exit (by simp) hj h')
  rw [← HCW.out] at HCl
  clear HAd hq HCW HCk
  go_upto_region 3 with fail
  go_cut [] from 9 to 19 (fun wx => Hid (LS W.heap.size W wx b mb (some ⟨g, oo, none⟩) n c mem ([] ++ [callW l]) [] (stL l) [] k (homeQ l) (.blk bq #[.int .i64 0, .int .i64 0, .int .i64 0] 30 :: .blk bk #[.pointer (some ⟨b, 0, none⟩)] 38 :: L)))
  case first =>
    go_region_with (first | (go_at_call 34; refine HAm.out.mono ?_; rintro e w3 ⟨rfl, hb⟩; have HL3 := hide (HL1.out.drew.call hb); clear hb; have q3 := HL3.out.cell 1 rfl) | (go_at_call 32; refine (HCl.out _ _ 1 rfl HL3.out).mono ?_; rintro e w4 ⟨rfl, hL4⟩; have HL4 := hide hL4; clear hL4))
    all_goals
      go_wp2_with fail
      go_meet
      case rel => exact HL4
  case rest =>
  clear HAm HCl hlk c3 c4 q1 HL1
  have HL1 := hcut
  clear hcut
  go_wp2_with fail
  go_at_call 32
  refine (HCx.out _ _ 1 rfl HL1.out).mono ?_
  rintro e w4 ⟨rfl, hL4⟩
  have HL4 := hide hL4
  clear hL4 HCx HL1
  rw [show encN 25 0 0 0 0 = exitW from rfl, HC0.out] at HL4
  clear HC0
  have q1 := HL4.out.cell 1 rfl
  obtain ⟨c3, c4⟩ := HL4.out.look
  go_wp2_with fail
  clear q1 c3 c4
  go_loopw [27] (fun i wr => ∃ u : Nat, u ≤ n ∧ i = .int .i64 u ∧ Hid (LS W.heap.size W wr b mb (some ⟨g, oo, none⟩) n c mem (cdL l u) (daL l u) (stL l) (rgL l u) k (homeQ l) (.blk bq #[.int .i64 0, .int .i64 0, .int .i64 0] 30 :: .blk bk #[.pointer (some ⟨b, 0, none⟩)] 38 :: L))) (fun i _ => n - (intOf i).toNat)
  case atStart => exact ⟨0, Nat.zero_le _, rfl, HL4⟩
  case round =>
    clear HL4
    obtain ⟨u, hu, rfl, HL⟩ := hrel
    obtain ⟨hs1, hs2, hs3⟩ := HSm.out u hu
    by_cases hlt : u < n
    · have hlt' : (u : Int) < n := by omega
      have hidx : (0 : Int) ≤ u ∧ (u : Int) < n := by omega
      have hul : u < l.length := by rw [HN.out]; exact hlt
      obtain ⟨oca, occ, oda, odc, osa, osc, ora, orc, HC, HO⟩ := HE.out u hul
      obtain ⟨e0, e1, e2, e3⟩ := HC.out _ HL.out.below
      obtain ⟨hl1, hl2, -, -⟩ := HLn.out u hul
      obtain ⟨CL2, HCL2⟩ : ∃ C, Hid (cdL l u ++ l[u].code = C) := ⟨_, hide rfl⟩
      obtain ⟨DL2, HDL2⟩ : ∃ C, Hid (daL l u ++ l[u].data = C) := ⟨_, hide rfl⟩
      have HC2 : Hid (CL2 = cdL l (u + 1)) := (by show _ = _; rw [HCn.out u hul, ← HCL2.out])
      have HD2 : Hid (DL2 = daL l (u + 1)) := (by show _ = _; rw [HDn.out u hul, ← HDL2.out])
      have HR2 : Hid (rgL l u ++ rgU l u l[u] l[u].syms.length = rgL l (u + 1)) := (HRn.out u hul).symm
      have HTk := hide (fun w' CO' DA' L' h' => HTe.out w' CO' DA' (rgL l u) L' u hul (by omega) h')
      have HLa := hide (HL.out.alloc #[.slice oca l[u].code.length occ, .slice oda l[u].data.length odc, .slice osa l[u].syms.length osc, .slice ora l[u].rels.length orc] 57)
      have q0 := HLa.out.cell 0 rfl
      clear HL HC
      generalize cdL l u = CL at *
      generalize daL l u = DL at *
      generalize rgL l u = RL at *
      go_upto_region 8 with fail
      clear q0 e0 e1 e2 e3
      generalize wr.alloc (.cells #[.slice oca l[u].code.length occ, .slice oda l[u].data.length odc, .slice osa l[u].syms.length osc, .slice ora l[u].rels.length orc] 57) = wb at *
      generalize hbo : wr.heap.size = bo at *
      clear hbo
      obtain ⟨ca, cc, da, dc, sa, sc, ra, rc, hF⟩ := HLa.out
      have HF := hide hF
      clear hF HLa
      go_cut [43] from 32 to 44 (fun _ wx => ∃ (ca2 : Option Addr) (cc2 : Nat), Hid (Fr W.heap.size W wx (.blk b #[.slice ca2 CL2.length cc2, .slice da DL.length dc, .int .i64 mem, .slice (some ⟨g, oo, none⟩) n c, .map (some mb), .slice sa (stL l).length sc, .slice ra RL.length rc] 42 :: .row (.slice ca2 CL2.length cc2) 34 1 CL2.length (CL2.map (Value.int .u32)) :: .row (.slice da DL.length dc) 21 1 DL.length (DL.map (Value.int .i32)) :: .row (.slice sa (stL l).length sc) 85 2 (stL l).length ((stL l).flatMap stV) :: .row (.slice ra RL.length rc) 36 5 RL.length (RL.flatMap rgV) :: .ob mb (pm mb k (homeQ l)) :: .blk bo #[.slice oca l[u].code.length occ, .slice oda l[u].data.length odc, .slice osa l[u].syms.length osc, .slice ora l[u].rels.length orc] 57 :: .blk bq #[.int .i64 0, .int .i64 0, .int .i64 0] 30 :: .blk bk #[.pointer (some ⟨b, 0, none⟩)] 38 :: L)))
      case first =>
        have c0 := HF.out.cell 0 rfl
        have f0 := HF.out.frz 0 rfl
        have k0 := HF.out.cell 8 rfl
        have q0 := HF.out.cell 6 rfl
        have HNc := hide (HO.out.codes _ HF.out.drew.below)
        go_region_law (refine Fr.stepRows 23 info34 Try.underlying23 rfl (by decide) (by decide) HF.out.drew 1 (v := .slice ca CL.length cc) (n := CL.length) rfl (by omega) (.tmp 37) (.tmp 39) rfl rfl rfl oca l[u].code.length occ (l[u].code.map (Value.int .u32)) rfl (by simp) HNc.out (u32_one _) (by omega) ?_; intro ad7 cap7 w7 h7 _; have HF7 := hide h7; clear h7; have f7 := HF7.out.frz 0 rfl; have b7 := HF7.out.cell 0 rfl; have k7 := HF7.out.cell 8 rfl; have q7 := HF7.out.cell 6 rfl)
        all_goals
          go_wp2_with fail
          go_meet
          case rel =>
            have h := HF7.out.set 0 rfl 0 (.slice ad7 (CL.length + l[u].code.length) cap7)
            refine ⟨ad7, cap7, ?_⟩
            rw [← HCL2.out, List.length_append, List.map_append]
            exact h
      case rest =>
        clear HF
        obtain ⟨ca2, cc2, HF⟩ := hcut
        go_upto_region 9 with fail
        go_cut [55] from 44 to 56 (fun _ wx => ∃ (da2 : Option Addr) (dc2 : Nat), Hid (Fr W.heap.size W wx (.blk b #[.slice ca2 CL2.length cc2, .slice da2 DL2.length dc2, .int .i64 mem, .slice (some ⟨g, oo, none⟩) n c, .map (some mb), .slice sa (stL l).length sc, .slice ra RL.length rc] 42 :: .row (.slice ca2 CL2.length cc2) 34 1 CL2.length (CL2.map (Value.int .u32)) :: .row (.slice da2 DL2.length dc2) 21 1 DL2.length (DL2.map (Value.int .i32)) :: .row (.slice sa (stL l).length sc) 85 2 (stL l).length ((stL l).flatMap stV) :: .row (.slice ra RL.length rc) 36 5 RL.length (RL.flatMap rgV) :: .ob mb (pm mb k (homeQ l)) :: .blk bo #[.slice oca l[u].code.length occ, .slice oda l[u].data.length odc, .slice osa l[u].syms.length osc, .slice ora l[u].rels.length orc] 57 :: .blk bq #[.int .i64 0, .int .i64 0, .int .i64 0] 30 :: .blk bk #[.pointer (some ⟨b, 0, none⟩)] 38 :: L)))
        case first =>
          have c0 := HF.out.cell 0 rfl
          have f0 := HF.out.frz 0 rfl
          have k0 := HF.out.cell 8 rfl
          have q0 := HF.out.cell 6 rfl
          have HNd := hide (HO.out.datas _ HF.out.drew.below)
          go_region_law (refine Fr.stepRows 24 info21 Try.underlying24 rfl (by decide) (by decide) HF.out.drew 2 (v := .slice da DL.length dc) (n := DL.length) rfl (by omega) (.tmp 49) (.tmp 51) rfl rfl rfl oda l[u].data.length odc (l[u].data.map (Value.int .i32)) rfl (by simp) HNd.out (i32_one _) (by omega) ?_; intro ad7 cap7 w7 h7 _; have HF7 := hide h7; clear h7; have f7 := HF7.out.frz 0 rfl; have b7 := HF7.out.cell 0 rfl; have k7 := HF7.out.cell 8 rfl; have q7 := HF7.out.cell 6 rfl)
          all_goals
            go_wp2_with fail
            go_meet
            case rel =>
              have h := HF7.out.set 0 rfl 1 (.slice ad7 (DL.length + l[u].data.length) cap7)
              refine ⟨ad7, cap7, ?_⟩
              rw [← HDL2.out, List.length_append, List.map_append]
              exact h
        case rest =>
          clear HF
          obtain ⟨da2, dc2, HF⟩ := hcut
          have HLs : Hid (LS W.heap.size W _ b mb (some ⟨g, oo, none⟩) n c mem CL2 DL2 (stL l) RL k (homeQ l) (.blk bo #[.slice oca l[u].code.length occ, .slice oda l[u].data.length odc, .slice osa l[u].syms.length osc, .slice ora l[u].rels.length orc] 57 :: .blk bq #[.int .i64 0, .int .i64 0, .int .i64 0] 30 :: .blk bk #[.pointer (some ⟨b, 0, none⟩)] 38 :: L)) := ⟨ca2, cc2, da2, dc2, sa, sc, ra, rc, HF.out⟩
          clear HF HCL2 HDL2 HO
          have k0 := HLs.out.cell 2 rfl
          go_wp2_with fail
          go_at_call 35
          refine (HTk.out _ _ _ _ HLs.out).mono ?_
          rintro e w9 ⟨rfl, hL9⟩
          rw [HC2.out, HD2.out, HR2.out] at hL9
          have HL9 := hide hL9.tail
          clear hL9 HLs HTk k0 HC2 HD2 HR2
          go_wp2_with fail
          go_roundw
          case rel => exact ⟨u + 1, by omega, by go_num, HL9⟩
          case measure => simp [intOf]; omega
    · have hlt' : ¬ (u : Int) < n := by omega
      obtain rfl : n = u := by omega
      have HLz := HL
      obtain ⟨ca, cc, da, dc, sa, sc, ra, rc, hF⟩ := HL.out
      have HM := hide (fun w' => check_img ca da (cdL l n).length cc (daL l n).length dc mem w' (by omega) (by omega) hm0 hm1)
      have c0 := hF.cell 0 rfl
      have k0 := hF.cell 7 rfl
      clear hF HL
      generalize hCL : (cdL l n).length = CLn at *
      generalize hDL : (daL l n).length = DLn at *
      have HCLn := hide hCL
      have HDLn := hide hDL
      clear hCL hDL
      generalize mayI CLn DLn mem = B at *
      go_wp2_with fail
      go_at_call 36
      refine (HM.out _).mono ?_
      rintro e w9 ⟨rfl, hb⟩
      have HL9 := hide (HLz.out.call hb)
      clear hb HM c0 k0 HLz
      have q0 := HL9.out.cell 0 rfl
      have f0 := HL9.out.frz 0 rfl
      cases B with
      | true =>
        obtain rfl : T = (0, 0, 0) := HT.out.trans (by simp)
        have HG := hide (HL9.out.tr 0 rfl 0 0 0)
        clear HT
        go_wp2_with fail
        refine bodyPost_ret (rtT Try.results20 rfl (HG.out.fr.get (i := 0) rfl).2 rfl) rfl ?_
        exact ⟨rfl, HG.out.tail.tail⟩
      | false =>
        obtain rfl : T = (0, 1, 1) := HT.out.trans (by simp)
        have HG := hide (HL9.out.tr 0 rfl 0 1 1)
        clear HT
        go_wp2_with fail
        refine bodyPost_ret (rtT Try.results20 rfl (HG.out.fr.get (i := 0) rfl).2 rfl) rfl ?_
        exact ⟨rfl, HG.out.tail.tail⟩
end Go.Proofs.Ythbhlmbhnidbhaa.T
