/- The law ObjectBack, given what the program answers. -/
import Derived.Test.YtnjcknlfecednaaBk
namespace Go.Proofs.Ytnjcknlfecednaa.T
open Go.RowKit Go.Proofs.Ytnjcknlfecednaa.M
set_option linter.unusedVariables false
set_option linter.unusedSimpArgs false
set_option maxRecDepth 100000 in
set_option maxHeartbeats 4000000 in
theorem back_law (P : Pr17) (o : Ob) (v : Value) (ix by' : Int) (w : World) (hv : ObV w o v) (hy0 : 0 ≤ by') (hy1 : by' < 256) (hx0 : -9223372036854775808 ≤ ix) (hx1 : ix ≤ 9223372036854775807) : Calls Try.prog 5 #[v, .int .i64 ix, .int .u8 by'] w fun e w' => e = .returned (.bool true) ∧ Below w.heap.size w w' := by
  have HWf := hide hv.wf
  have HV0 := hide hv
  obtain ⟨cv, dv, sv, rv, rfl, ⟨ca, cc, rfl, -⟩, ⟨da, dc, rfl, -⟩, ⟨sa, sc, rfl, -⟩, ⟨ra, rc, rfl, -⟩⟩ := hv
  have HV := hide (fun (w' : World) (hb : Below w.heap.size w w') => HV0.out.below hb)
  clear HV0
  obtain ⟨nc, HNC⟩ : ∃ n, Hid (o.code.length = n) := ⟨_, rfl⟩
  obtain ⟨nd, HND⟩ : ∃ n, Hid (o.data.length = n) := ⟨_, rfl⟩
  obtain ⟨ns, HNS⟩ : ∃ n, Hid (o.syms.length = n) := ⟨_, rfl⟩
  obtain ⟨nr, HNR⟩ : ∃ n, Hid (o.rels.length = n) := ⟨_, rfl⟩
  rw [HNC.out, HND.out, HNS.out, HNR.out] at HV
  rw [HNC.out, HND.out, HNS.out, HNR.out]
  have HF := hide ((Fr.start w).alloc (q := w.heap.size) rfl #[.slice ca nc cc, .slice da nd dc, .slice sa ns sc, .slice ra nr rc] 27)
  cases hm : mayO o with
  | false =>
    have HC : Hid (∀ w', Below w.heap.size w w' → Calls Try.prog 6 _ w' _) := fun w' hb => P.putBad o _ w' (HV.out w' hb) hm
    go_enter Try.func5, Try.ntmps5
    go_wp2_with fail
    go_at_call 6
    refine (HC.out _ HF.out.below).mono ?_
    rintro e w1 ⟨u1, rfl, ⟨a1, c1, rfl, -⟩, hb1⟩
    replace HF := hide (HF.out.call hb1)
    go_wp2_with fail
    go_ret
    exact ⟨by simp, HF.out.below⟩
  | true =>
    obtain ⟨raw, HR⟩ : ∃ r, Hid (putO o = r) := ⟨_, rfl⟩
    obtain ⟨l16, l2m⟩ := putO_len hm
    rw [HR.out] at l16 l2m
    obtain ⟨N, HN⟩ : ∃ N, Hid (raw.length = N) := ⟨_, rfl⟩
    rw [HN.out] at l16 l2m
    have HC : Hid (∀ w' v', ObV w' o v' → Calls Try.prog 6 #[v'] w' fun e w'' => ∃ a c, e = .returned (.tuple #[.slice a N c, .int .i64 0]) ∧ Hid (Bys w'' (.slice a N c) raw) ∧ Below w'.heap.size w' w'') := fun w' v' h => (P.putOk o _ w' h hm).mono fun e w'' hh => by
      rw [HR.out] at hh
      obtain ⟨u, he, hy, hb⟩ := hh
      have hy2 := hy
      obtain ⟨a, c, rfl, -⟩ := hy
      rw [HN.out] at he hy2
      exact ⟨a, c, he, hy2, hb⟩
    have hGo : getO raw = some o := by rw [← HR.out]; exact getO_put HWf.out hm
    have HG : Hid (∀ w' a c, Bys w' (.slice a N c) raw → Calls Try.prog 10 #[.slice a N c] w' fun e w'' => ∃ v, e = .returned (.tuple #[v, .int .i64 0]) ∧ ObV w'' o v ∧ Below w'.heap.size w' w'') := fun w' a c h => (P.get a N c raw w' h).mono fun e w'' hh => by
      have := hh.form
      rw [hGo] at this
      exact this
    clear hGo HWf
    go_enter Try.func5, Try.ntmps5
    go_wp2_with fail
    go_at_call 6
    refine (HC.out _ _ (HV.out _ HF.out.below)).mono ?_
    rintro e w1 ⟨a1, c1, rfl, HY1, hb1⟩
    replace HF := hide (HF.out.call hb1)
    clear hb1 HV
    go_wp2_with fail
    go_at_call 10
    refine (HG.out _ _ _ HY1.out).mono ?_
    rintro e w2 ⟨v2, rfl, hv2, hb2⟩
    have HV2 := hide hv2
    obtain ⟨cv2, dv2, sv2, rv2, rfl, ⟨ca2, cc2, rfl, -⟩, ⟨da2, dc2, rfl, -⟩, ⟨sa2, sc2, rfl, -⟩, ⟨ra2, rc2, rfl, -⟩⟩ := hv2
    simp only [HNC.out, HND.out, HNS.out, HNR.out] at HV2 ⊢
    replace HY1 := hide (HY1.out.keep hb2)
    have HBa := hide ((Below.refl w2.heap.size w2).alloc (Nat.le_refl _) (.cells #[.slice ca2 nc cc2, .slice da2 nd dc2, .slice sa2 ns sc2, .slice ra2 nr rc2] 27))
    replace HV2 := hide (HV2.out.below HBa.out)
    replace HY1 := hide (HY1.out.keep HBa.out)
    replace HF := hide ((HF.out.call hb2).alloc (q := w2.heap.size) rfl #[.slice ca2 nc cc2, .slice da2 nd dc2, .slice sa2 ns sc2, .slice ra2 nr rc2] 27)
    clear hb2 HG HBa
    have d9 := HF.out.cell 0 rfl
    go_wp2_with fail
    go_at_call 6
    refine (HC.out _ _ HV2.out).mono ?_
    rintro e w3 ⟨a3, c3, rfl, HY3, hb3⟩
    replace HF := hide (HF.out.call hb3)
    replace HY1 := hide (HY1.out.keep hb3)
    clear hb3 HC HV2 d9
    generalize hb9 : w2.heap.size = b9 at *
    clear hb9
    have hcv1 := HY1.out.conv.2
    have hcv3 := HY3.out.conv.2
    generalize strOf raw = SR at *
    have hN0 : ((N : Int) == 0) = false := by simp; omega
    have hN1 : ¬ (N : Int) = 0 := by omega
    have hN2 : ¬ N = 0 := by omega
    have ht1 : ix.tmod N < N := Int.tmod_lt_of_pos ix (by omega)
    have ht2 : -(N : Int) < ix.tmod N := by
      have := Int.tmod_lt_of_pos (-ix) (show (0 : Int) < N by omega)
      rw [Int.neg_tmod] at this
      omega
    generalize hr : ix.tmod (N : Int) = r at *
    have XR : Hid (∀ x : Nat, x < 256 → ∃ y : UInt8, bits .xor .u8 (x : Int) by' = y.toNat) := fun x hx => xor_u8 x by' (by omega) (by omega) hy0 hy1
    by_cases hrn : r < 0
    · obtain ⟨k, hk⟩ : ∃ k : Nat, r + (N : Int) = k := ⟨(r + N).toNat, by omega⟩
      have hkN : k < N := by omega
      have hkl : k < raw.length := by rw [HN.out]; exact hkN
      have hidx : (0 : Int) ≤ k ∧ (k : Int) < N := by omega
      by_cases hby : by' = 0
      · subst hby
        go_wp2_with fail
        go_ret
        exact ⟨rfl, HF.out.below⟩
      · have hby' : (by' == 0) = false := by simpa using hby
        obtain ⟨-, HAt⟩ := HY1.out.at
        obtain ⟨g, oo, rfl, HCc⟩ := HAt (by omega)
        have HFe := hide (HF.out.empty (T := 5) (q := w3.heap.size) rfl)
        have HNw : Hid (∀ j u, (bc raw)[j]? = some u → (w3.alloc (.cells #[] 5)).cell? ((⟨g, oo, none⟩ : Addr).add j) = some u) := fun j u hu => by
          have hj : j < raw.length := by have := (List.getElem?_eq_some_iff.1 hu).1; rw [bc_length] at this; exact this
          have h1 := HCc _ ((Below.refl w3.heap.size w3).alloc (Nat.le_refl _) (.cells #[] 5)) j hj
          unfold bc at hu
          rw [List.getElem?_map, List.getElem?_eq_getElem hj] at hu
          simp at hu
          rw [Addr.add_lit, h1, ← hu]
        have HLn : Hid ((bc raw).length = N * 1) := (by show _ = _; rw [bc_length, HN.out, Nat.mul_one])
        clear HCc HAt HY1 HY3
        have HBy : Hid (∀ (W : World) (L : List Rs) (gd cd : Nat), Fr w.heap.size w W (.row (.slice (some ⟨gd, 0, none⟩) (0 + N) cd) 5 1 (0 + N) ([] ++ bc raw) :: L) → W.cell? ⟨gd, k, none⟩ = some (.int .u8 (raw[k]'hkl).toNat) ∧ W.frozen? ⟨gd, k, none⟩ = false ∧ gd < W.heap.size) := fun W L gd cd h => by
          have h1 := h.get (i := 0) rfl
          rw [Nat.zero_add, List.nil_append] at h1
          exact ⟨(row_byte h1 k hkl).1, (row_byte h1 k hkl).2, (h.lt 0 rfl rfl).2⟩
        have hux := (raw[k]'hkl).toNat_lt
        generalize hxx : (raw[k]'hkl).toNat = xx at *
        clear hxx
        obtain ⟨y, hy⟩ := XR.out xx hux
        clear XR
        go_wp2_with (at_builtin; refine Fr.listBig 28 info5 Try.underlying28 rfl (by decide) (by decide) HFe.out 0 rfl (by omega) (.tmp 64) (.tmp 65) rfl rfl rfl ⟨g, oo, none⟩ N c1 (bc raw) rfl HLn.out HNw.out (bc_one raw) (by omega) (by omega) ?_; intro gd cd wd hFd _; obtain ⟨e0, f0, hgd⟩ := HBy.out _ _ _ _ hFd; have HFd := hide hFd; clear hFd)
        have HFt : Hid (Fr w.heap.size w (wd.setCell ⟨gd, k, none⟩ (.int .u8 y.toNat)) [.row (.slice (some ⟨gd, 0, none⟩) N cd) 5 1 N (bc (raw.set k y)), .blk b9 #[.slice ca2 nc cc2, .slice da2 nd dc2, .slice sa2 ns sc2, .slice ra2 nr rc2] 27, .blk w.heap.size #[.slice ca nc cc, .slice da nd dc, .slice sa ns sc, .slice ra nr rc] 27]) := (by
          have h := HFd.out
          simp only [Nat.zero_add, List.nil_append, List.set_cons_zero] at h
          exact h.turnByte 0 rfl k hkl y)
        clear HFd HFe HBy HNw HLn HF e0 f0 hgd hcv1 hcv3 hy
        have hl2 : (raw.set k y).length = N := by rw [List.length_set, HN.out]
        generalize hr2 : raw.set k y = raw2 at *
        clear hr2
        generalize wd.setCell ⟨gd, k, none⟩ (.int .u8 y.toNat) = W at *
        have HY := hide (Bys.of_row (HFt.out.get (i := 0) rfl))
        have d9 := HFt.out.cell 1 rfl
        have f9 := HFt.out.frz 1 rfl
        cases hg2 : getO raw2 with
        | none =>
          have HC : Hid (Calls Try.prog 10 #[.slice (some ⟨gd, 0, none⟩) N cd] W fun e w'' => ∃ v, e = .returned (.tuple #[v, .int .i64 2]) ∧ ObV w'' ⟨[], [], [], []⟩ v ∧ Below W.heap.size W w'') := (P.get _ N cd raw2 W HY.out).mono fun e w'' hh => by
            have := hh.form
            rw [hg2] at this
            exact this
          refine HC.out.mono ?_
          rintro e w6 ⟨v6, rfl, ⟨cv6, dv6, sv6, rv6, rfl, ⟨ca6, cc6, rfl, -⟩, ⟨da6, dc6, rfl, -⟩, ⟨sa6, sc6, rfl, -⟩, ⟨ra6, rc6, rfl, -⟩⟩, hb6⟩
          replace HFt := hide (HFt.out.call hb6)
          replace d9 := HFt.out.cell 1 rfl
          replace f9 := HFt.out.frz 1 rfl
          have HFu := hide ((((HFt.out.set 1 rfl 0 (.slice ca6 0 cc6)).set 1 rfl 1 (.slice da6 0 dc6)).set 1 rfl 2 (.slice sa6 0 sc6)).set 1 rfl 3 (.slice ra6 0 rc6))
          clear hb6 HC
          go_wp2_with fail
          go_ret
          exact ⟨rfl, HFu.out.below⟩
        | some o2 =>
          obtain ⟨hm2, hp2⟩ := getO_some hg2
          have HC : Hid (Calls Try.prog 10 #[.slice (some ⟨gd, 0, none⟩) N cd] W fun e w'' => ∃ v, e = .returned (.tuple #[v, .int .i64 0]) ∧ ObV w'' o2 v ∧ Below W.heap.size W w'') := (P.get _ N cd raw2 W HY.out).mono fun e w'' hh => by
            have := hh.form
            rw [hg2] at this
            exact this
          have HC7 : Hid (∀ w' v', ObV w' o2 v' → Calls Try.prog 6 #[v'] w' fun e w'' => ∃ a c, e = .returned (.tuple #[.slice a N c, .int .i64 0]) ∧ Hid (Bys w'' (.slice a N c) raw2) ∧ Below w'.heap.size w' w'') := fun w' v' h => (P.putOk o2 _ w' h hm2).mono fun e w'' hh => by
            rw [hp2] at hh
            obtain ⟨u, he, hy, hb⟩ := hh
            have hy2 := hy
            obtain ⟨a, c, rfl, -⟩ := hy
            rw [hl2] at he hy2
            exact ⟨a, c, he, hy2, hb⟩
          clear hg2 hm2 hp2
          refine HC.out.mono ?_
          rintro e w6 ⟨v6, rfl, hv6, hb6⟩
          have HV6 := hide hv6
          obtain ⟨cv6, dv6, sv6, rv6, rfl, ⟨ca6, cc6, rfl, -⟩, ⟨da6, dc6, rfl, -⟩, ⟨sa6, sc6, rfl, -⟩, ⟨ra6, rc6, rfl, -⟩⟩ := hv6
          obtain ⟨mc, HMC⟩ : ∃ n, Hid (o2.code.length = n) := ⟨_, rfl⟩
          obtain ⟨md, HMD⟩ : ∃ n, Hid (o2.data.length = n) := ⟨_, rfl⟩
          obtain ⟨ms, HMS⟩ : ∃ n, Hid (o2.syms.length = n) := ⟨_, rfl⟩
          obtain ⟨mr, HMR⟩ : ∃ n, Hid (o2.rels.length = n) := ⟨_, rfl⟩
          simp only [HMC.out, HMD.out, HMS.out, HMR.out] at HV6 ⊢
          replace HFt := hide (HFt.out.call hb6)
          replace d9 := HFt.out.cell 1 rfl
          replace f9 := HFt.out.frz 1 rfl
          have HFu := hide ((((HFt.out.set 1 rfl 0 (.slice ca6 mc cc6)).set 1 rfl 1 (.slice da6 md dc6)).set 1 rfl 2 (.slice sa6 ms sc6)).set 1 rfl 3 (.slice ra6 mr rc6))
          have HV7 : Hid (ObV ((((w6.setCell ⟨b9, 0, none⟩ (.slice ca6 mc cc6)).setCell ⟨b9, 1, none⟩ (.slice da6 md dc6)).setCell ⟨b9, 2, none⟩ (.slice sa6 ms sc6)).setCell ⟨b9, 3, none⟩ (.slice ra6 mr rc6)) o2 (.agg #[.slice ca6 mc cc6, .slice da6 md dc6, .slice sa6 ms sc6, .slice ra6 mr rc6])) := (HV6.out.off (b := b9) (fun i u hu => four_slices i u (by rw [← d9]; exact hu)) (fun q hq => by
            rw [heap_setCell_other _ _ _ _ hq, heap_setCell_other _ _ _ _ hq, heap_setCell_other _ _ _ _ hq, heap_setCell_other _ _ _ _ hq]) (by simp))
          have d9u := HFu.out.cell 1 rfl
          clear hb6 HC HY HV6
          go_wp2_with fail
          go_at_call 6
          refine (HC7.out _ _ HV7.out).mono ?_
          rintro e w8 ⟨a8, c8, rfl, HY8, hb8⟩
          replace HFu := hide (HFu.out.call hb8)
          have hcv1 := HY8.out.conv.2
          have hcv2 := HFu.out.conv 0 rfl
          generalize strOf raw2 = SR2 at *
          clear hb8 HV7 HC7 d9u
          go_wp2_with fail
          go_ret
          exact ⟨rfl, HFu.out.below⟩
    · obtain ⟨k, rfl⟩ : ∃ k : Nat, r = k := ⟨r.toNat, by omega⟩
      have hkN : k < N := by omega
      have hkl : k < raw.length := by rw [HN.out]; exact hkN
      have hidx : (0 : Int) ≤ k ∧ (k : Int) < N := by omega
      by_cases hby : by' = 0
      · subst hby
        go_wp2_with fail
        go_ret
        exact ⟨rfl, HF.out.below⟩
      · have hby' : (by' == 0) = false := by simpa using hby
        obtain ⟨-, HAt⟩ := HY1.out.at
        obtain ⟨g, oo, rfl, HCc⟩ := HAt (by omega)
        have HFe := hide (HF.out.empty (T := 5) (q := w3.heap.size) rfl)
        have HNw : Hid (∀ j u, (bc raw)[j]? = some u → (w3.alloc (.cells #[] 5)).cell? ((⟨g, oo, none⟩ : Addr).add j) = some u) := fun j u hu => by
          have hj : j < raw.length := by have := (List.getElem?_eq_some_iff.1 hu).1; rw [bc_length] at this; exact this
          have h1 := HCc _ ((Below.refl w3.heap.size w3).alloc (Nat.le_refl _) (.cells #[] 5)) j hj
          unfold bc at hu
          rw [List.getElem?_map, List.getElem?_eq_getElem hj] at hu
          simp at hu
          rw [Addr.add_lit, h1, ← hu]
        have HLn : Hid ((bc raw).length = N * 1) := (by show _ = _; rw [bc_length, HN.out, Nat.mul_one])
        clear HCc HAt HY1 HY3
        have HBy : Hid (∀ (W : World) (L : List Rs) (gd cd : Nat), Fr w.heap.size w W (.row (.slice (some ⟨gd, 0, none⟩) (0 + N) cd) 5 1 (0 + N) ([] ++ bc raw) :: L) → W.cell? ⟨gd, k, none⟩ = some (.int .u8 (raw[k]'hkl).toNat) ∧ W.frozen? ⟨gd, k, none⟩ = false ∧ gd < W.heap.size) := fun W L gd cd h => by
          have h1 := h.get (i := 0) rfl
          rw [Nat.zero_add, List.nil_append] at h1
          exact ⟨(row_byte h1 k hkl).1, (row_byte h1 k hkl).2, (h.lt 0 rfl rfl).2⟩
        have hux := (raw[k]'hkl).toNat_lt
        generalize hxx : (raw[k]'hkl).toNat = xx at *
        clear hxx
        obtain ⟨y, hy⟩ := XR.out xx hux
        clear XR
        go_wp2_with (at_builtin; refine Fr.listBig 28 info5 Try.underlying28 rfl (by decide) (by decide) HFe.out 0 rfl (by omega) (.tmp 64) (.tmp 65) rfl rfl rfl ⟨g, oo, none⟩ N c1 (bc raw) rfl HLn.out HNw.out (bc_one raw) (by omega) (by omega) ?_; intro gd cd wd hFd _; obtain ⟨e0, f0, hgd⟩ := HBy.out _ _ _ _ hFd; have HFd := hide hFd; clear hFd)
        have HFt : Hid (Fr w.heap.size w (wd.setCell ⟨gd, k, none⟩ (.int .u8 y.toNat)) [.row (.slice (some ⟨gd, 0, none⟩) N cd) 5 1 N (bc (raw.set k y)), .blk b9 #[.slice ca2 nc cc2, .slice da2 nd dc2, .slice sa2 ns sc2, .slice ra2 nr rc2] 27, .blk w.heap.size #[.slice ca nc cc, .slice da nd dc, .slice sa ns sc, .slice ra nr rc] 27]) := (by
          have h := HFd.out
          simp only [Nat.zero_add, List.nil_append, List.set_cons_zero] at h
          exact h.turnByte 0 rfl k hkl y)
        clear HFd HFe HBy HNw HLn HF e0 f0 hgd hcv1 hcv3 hy
        have hl2 : (raw.set k y).length = N := by rw [List.length_set, HN.out]
        generalize hr2 : raw.set k y = raw2 at *
        clear hr2
        generalize wd.setCell ⟨gd, k, none⟩ (.int .u8 y.toNat) = W at *
        have HY := hide (Bys.of_row (HFt.out.get (i := 0) rfl))
        have d9 := HFt.out.cell 1 rfl
        have f9 := HFt.out.frz 1 rfl
        cases hg2 : getO raw2 with
        | none =>
          have HC : Hid (Calls Try.prog 10 #[.slice (some ⟨gd, 0, none⟩) N cd] W fun e w'' => ∃ v, e = .returned (.tuple #[v, .int .i64 2]) ∧ ObV w'' ⟨[], [], [], []⟩ v ∧ Below W.heap.size W w'') := (P.get _ N cd raw2 W HY.out).mono fun e w'' hh => by
            have := hh.form
            rw [hg2] at this
            exact this
          refine HC.out.mono ?_
          rintro e w6 ⟨v6, rfl, ⟨cv6, dv6, sv6, rv6, rfl, ⟨ca6, cc6, rfl, -⟩, ⟨da6, dc6, rfl, -⟩, ⟨sa6, sc6, rfl, -⟩, ⟨ra6, rc6, rfl, -⟩⟩, hb6⟩
          replace HFt := hide (HFt.out.call hb6)
          replace d9 := HFt.out.cell 1 rfl
          replace f9 := HFt.out.frz 1 rfl
          have HFu := hide ((((HFt.out.set 1 rfl 0 (.slice ca6 0 cc6)).set 1 rfl 1 (.slice da6 0 dc6)).set 1 rfl 2 (.slice sa6 0 sc6)).set 1 rfl 3 (.slice ra6 0 rc6))
          clear hb6 HC
          go_wp2_with fail
          go_ret
          exact ⟨rfl, HFu.out.below⟩
        | some o2 =>
          obtain ⟨hm2, hp2⟩ := getO_some hg2
          have HC : Hid (Calls Try.prog 10 #[.slice (some ⟨gd, 0, none⟩) N cd] W fun e w'' => ∃ v, e = .returned (.tuple #[v, .int .i64 0]) ∧ ObV w'' o2 v ∧ Below W.heap.size W w'') := (P.get _ N cd raw2 W HY.out).mono fun e w'' hh => by
            have := hh.form
            rw [hg2] at this
            exact this
          have HC7 : Hid (∀ w' v', ObV w' o2 v' → Calls Try.prog 6 #[v'] w' fun e w'' => ∃ a c, e = .returned (.tuple #[.slice a N c, .int .i64 0]) ∧ Hid (Bys w'' (.slice a N c) raw2) ∧ Below w'.heap.size w' w'') := fun w' v' h => (P.putOk o2 _ w' h hm2).mono fun e w'' hh => by
            rw [hp2] at hh
            obtain ⟨u, he, hy, hb⟩ := hh
            have hy2 := hy
            obtain ⟨a, c, rfl, -⟩ := hy
            rw [hl2] at he hy2
            exact ⟨a, c, he, hy2, hb⟩
          clear hg2 hm2 hp2
          refine HC.out.mono ?_
          rintro e w6 ⟨v6, rfl, hv6, hb6⟩
          have HV6 := hide hv6
          obtain ⟨cv6, dv6, sv6, rv6, rfl, ⟨ca6, cc6, rfl, -⟩, ⟨da6, dc6, rfl, -⟩, ⟨sa6, sc6, rfl, -⟩, ⟨ra6, rc6, rfl, -⟩⟩ := hv6
          obtain ⟨mc, HMC⟩ : ∃ n, Hid (o2.code.length = n) := ⟨_, rfl⟩
          obtain ⟨md, HMD⟩ : ∃ n, Hid (o2.data.length = n) := ⟨_, rfl⟩
          obtain ⟨ms, HMS⟩ : ∃ n, Hid (o2.syms.length = n) := ⟨_, rfl⟩
          obtain ⟨mr, HMR⟩ : ∃ n, Hid (o2.rels.length = n) := ⟨_, rfl⟩
          simp only [HMC.out, HMD.out, HMS.out, HMR.out] at HV6 ⊢
          replace HFt := hide (HFt.out.call hb6)
          replace d9 := HFt.out.cell 1 rfl
          replace f9 := HFt.out.frz 1 rfl
          have HFu := hide ((((HFt.out.set 1 rfl 0 (.slice ca6 mc cc6)).set 1 rfl 1 (.slice da6 md dc6)).set 1 rfl 2 (.slice sa6 ms sc6)).set 1 rfl 3 (.slice ra6 mr rc6))
          have HV7 : Hid (ObV ((((w6.setCell ⟨b9, 0, none⟩ (.slice ca6 mc cc6)).setCell ⟨b9, 1, none⟩ (.slice da6 md dc6)).setCell ⟨b9, 2, none⟩ (.slice sa6 ms sc6)).setCell ⟨b9, 3, none⟩ (.slice ra6 mr rc6)) o2 (.agg #[.slice ca6 mc cc6, .slice da6 md dc6, .slice sa6 ms sc6, .slice ra6 mr rc6])) := (HV6.out.off (b := b9) (fun i u hu => four_slices i u (by rw [← d9]; exact hu)) (fun q hq => by
            rw [heap_setCell_other _ _ _ _ hq, heap_setCell_other _ _ _ _ hq, heap_setCell_other _ _ _ _ hq, heap_setCell_other _ _ _ _ hq]) (by simp))
          have d9u := HFu.out.cell 1 rfl
          clear hb6 HC HY HV6
          go_wp2_with fail
          go_at_call 6
          refine (HC7.out _ _ HV7.out).mono ?_
          rintro e w8 ⟨a8, c8, rfl, HY8, hb8⟩
          replace HFu := hide (HFu.out.call hb8)
          have hcv1 := HY8.out.conv.2
          have hcv2 := HFu.out.conv 0 rfl
          generalize strOf raw2 = SR2 at *
          clear hb8 HV7 HC7 d9u
          go_wp2_with fail
          go_ret
          exact ⟨rfl, HFu.out.below⟩
end Go.Proofs.Ytnjcknlfecednaa.T
