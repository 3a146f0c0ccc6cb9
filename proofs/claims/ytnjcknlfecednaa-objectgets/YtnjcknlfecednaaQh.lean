/- The contract of the program's Put. -/
import Derived.Test.YtnjcknlfecednaaQf
import Derived.Test.YtnjcknlfecednaaQg
namespace Go.Proofs.Ytnjcknlfecednaa.T
open Go.RowKit Go.Proofs.Ytnjcknlfecednaa.M
set_option linter.unusedVariables false
set_option linter.unusedSimpArgs false
set_option maxRecDepth 100000 in
set_option maxHeartbeats 2000000 in
theorem pput_bad (o : Ob) (v : Value) (w : World) (hv : ObV w o v) (hm : mayO o = false) : Calls Try.prog 6 #[v] w fun e w' => e = .returned (.tuple #[.slice none 0 0, .int .i64 2]) ∧ Below w.heap.size w w' := by
  have HV := hide hv
  obtain ⟨cv, dv, sv, rv, rfl, ⟨ca, cc, rfl, -⟩, ⟨da, dc, rfl, -⟩, ⟨sa, sc, rfl, -⟩, ⟨ra, rc, rfl, -⟩⟩ := hv
  generalize o.code.length = nc at *
  generalize o.data.length = nd at *
  generalize o.syms.length = ns at *
  generalize o.rels.length = nr at *
  have HF := hide ((Fr.start w).alloc (q := w.heap.size) rfl #[.slice ca nc cc, .slice da nd dc, .slice sa ns sc, .slice ra nr rc] 27)
  have c0 := HF.out.cell 0 rfl
  have HM := hide (pmay_any o _ _ (HV.out.below HF.out.below))
  rw [hm] at HM
  clear HV hm
  go_enter Try.func6, Try.ntmps6
  go_wp2_with fail
  go_at_call 8
  refine HM.out.mono ?_
  rintro e w1 ⟨rfl, hb⟩
  replace HF := hide (HF.out.call hb)
  clear hb c0 HM
  go_wp2_with fail
  go_ret2
  exact ⟨rfl, HF.out.below⟩
theorem free_mod {x : Int} (h0 : -2147483648 ≤ x) (h1 : x ≤ 2147483647) : x % 4294967296 = free x := by
  unfold free
  split <;> omega
set_option maxRecDepth 100000 in
set_option maxHeartbeats 8000000 in
theorem pput_ok (o : Ob) (v : Value) (w : World) (hv : ObV w o v) (hm : mayO o = true) : Calls Try.prog 6 #[v] w fun e w' => ∃ u, e = .returned (.tuple #[u, .int .i64 0]) ∧ Bys w' u (putO o) ∧ Below w.heap.size w w' := by
  have HV := hide hv
  have HN4 := hide (fun k hk => mayO_n4 hm k hk)
  have HR4 := hide (fun k hk => mayO_r4 hm k hk)
  have hlen : o.code.length ≤ 6000 ∧ o.data.length ≤ 16000 ∧ o.syms.length ≤ 400 ∧ o.rels.length ≤ 6000 := by unfold mayO at hm; simp at hm; omega
  have HP : Hid (∀ m1 m2 m3, m1 = four o.code.length ++ o.code.flatMap four → m2 = m1 ++ four o.data.length ++ o.data.flatMap (fun x => four (free x)) → m3 = m2 ++ four o.syms.length ++ o.syms.flatMap symP → putO o = m3 ++ four o.rels.length ++ o.rels.flatMap relP) := fun m1 m2 m3 e1 e2 e3 => by
    subst e3 e2 e1
    unfold putO
    simp only [List.append_assoc]
  have HL1 : Hid (∀ k, k ≤ o.code.length → (o.code.take k).flatMap four = (o.code.take k).flatMap (fun x => four (id x))) := fun k hk => rfl
  have HSL : Hid (∀ k, k ≤ o.syms.length → ((o.syms.take k).flatMap symP).length ≤ 2100 * k) := flat_bound symP o.syms fun x hx => by
    obtain ⟨k, hk, rfl⟩ := List.getElem_of_mem hx
    obtain ⟨a1, a2, a3, a4, a5, a6⟩ := mayO_n4 hm k hk
    exact sym_len a5 a6
  obtain ⟨cv, dv, sv, rv, rfl, ⟨ca, cc, rfl, -, -, HC⟩, ⟨da, dc, rfl, -, -, HD⟩, ⟨sa, sc, rfl, -, -, HS⟩, ⟨ra, rc, rfl, -, -, HR⟩⟩ := hv
  have hC := hide HC
  have hD := hide HD
  have hS := hide HS
  have hR := hide HR
  clear HC HD HS HR
  obtain ⟨nc, HNC⟩ : ∃ n, Hid (o.code.length = n) := ⟨_, rfl⟩
  obtain ⟨nd, HND⟩ : ∃ n, Hid (o.data.length = n) := ⟨_, rfl⟩
  obtain ⟨ns, HNS⟩ : ∃ n, Hid (o.syms.length = n) := ⟨_, rfl⟩
  obtain ⟨nr, HNR⟩ : ∃ n, Hid (o.rels.length = n) := ⟨_, rfl⟩
  have HC0 : Hid (0 < nc → ∃ g oo, ca = some ⟨g, oo, none⟩ ∧ Hid (∀ w', Below w.heap.size w w' → ∀ j (hj : j < o.code.length), _)) := fun h => by
    obtain ⟨g, oo, r, hg, E⟩ := hC.out (by rw [HNC.out]; exact h)
    exact ⟨g, oo, r, fun w' hw => nw_cells hg E hw⟩
  have HD0 : Hid (0 < nd → ∃ g oo, da = some ⟨g, oo, none⟩ ∧ Hid (∀ w', Below w.heap.size w w' → ∀ j (hj : j < o.data.length), _)) := fun h => by
    obtain ⟨g, oo, r, hg, E⟩ := hD.out (by rw [HND.out]; exact h)
    exact ⟨g, oo, r, fun w' hw => i32_cells hg E hw⟩
  have HS0 : Hid (0 < ns → ∃ g oo, sa = some ⟨g, oo, none⟩ ∧ Hid (∀ w', Below w.heap.size w w' → ∀ j (hj : j < o.syms.length), _)) := fun h => by
    obtain ⟨g, oo, r, hg, E⟩ := hS.out (by rw [HNS.out]; exact h)
    exact ⟨g, oo, r, fun w' hw => sy_cells hg E hw⟩
  have HR0 : Hid (0 < nr → ∃ g oo, ra = some ⟨g, oo, none⟩ ∧ Hid (∀ w', Below w.heap.size w w' → ∀ j (hj : j < o.rels.length), _)) := fun h => by
    obtain ⟨g, oo, r, hg, E⟩ := hR.out (by rw [HNR.out]; exact h)
    exact ⟨g, oo, r, fun w' hw => re_cells hg E hw⟩
  clear hC hD hS hR HL1
  have HCT : Hid (o.code.take nc = o.code) := by show _ = _; rw [← HNC.out]; exact List.take_length
  have HDT : Hid (o.data.take nd = o.data) := by show _ = _; rw [← HND.out]; exact List.take_length
  have HST : Hid (o.syms.take ns = o.syms) := by show _ = _; rw [← HNS.out]; exact List.take_length
  have HRT : Hid (o.rels.take nr = o.rels) := by show _ = _; rw [← HNR.out]; exact List.take_length
  rw [HNC.out, HND.out, HNS.out, HNR.out] at hlen HP
  rw [HNS.out] at HSL
  rw [HNC.out, HND.out, HNS.out, HNR.out]
  rw [HNC.out, HND.out, HNS.out, HNR.out] at HV
  obtain ⟨l1, l2, l3, l4⟩ := hlen
  have HF := hide ((Fr.start w).alloc (q := w.heap.size) rfl #[.slice ca nc cc, .slice da nd dc, .slice sa ns sc, .slice ra nr rc] 27)
  have c0 := HF.out.cell 0 rfl
  have HM := hide (pmay_any o _ _ (HV.out.below HF.out.below))
  rw [hm] at HM
  clear HV hm
  go_enter Try.func6, Try.ntmps6
  go_wp2_with fail
  go_at_call 8
  refine HM.out.mono ?_
  rintro e w1 ⟨rfl, hb⟩
  replace HF := hide (HF.out.call hb)
  clear hb c0 HM
  have HW := hide (Wt.start (b := w1.heap.size) HF.out rfl)
  have c0 := HW.out.cell 0 rfl
  clear HF
  generalize hbq : w.heap.size = bq at *
  have HBQ : Hid (w.heap.size = bq) := hbq
  clear hbq
  go_wp2_with fail
  go_at_call 13
  refine (wnum_any (nc : Int) ⟨by omega, by omega⟩ (by simp) HW.out).mono ?_
  rintro e w2 ⟨rfl, hw⟩
  clear c0 HW
  have HW := hide hw
  clear hw
  generalize w1.heap.size = bw at *
  have c0 := HW.out.cell 0 rfl
  have LEN := hide (four_length (nc : Int))
  go_wp2_with fail
  clear c0
  go_loopw [23] (fun i wr => ∃ k : Nat, k ≤ nc ∧ i = .int .i64 k ∧ Hid (Wt bq w wr bw (four nc ++ (o.code.take k).flatMap four) [.blk bq #[.slice ca nc cc, .slice da nd dc, .slice sa ns sc, .slice ra nr rc] 27])) (fun i _ => nc - (intOf i).toNat)
  case atStart => exact ⟨0, Nat.zero_le _, rfl, by simpa using HW⟩
  case round =>
    clear HW
    obtain ⟨k, hk, rfl, HW⟩ := hrel
    have c0 := HW.out.cell 0 rfl
    by_cases hlt : k < nc
    case pos =>
      have hlt' : (k : Int) < nc := by omega
      have hidx : (0 : Int) ≤ k ∧ (k : Int) < nc := by omega
      have hkl : k < o.code.length := by rw [HNC.out]; exact hlt
      obtain ⟨g, oo, rfl, HE⟩ := HC0.out (by omega)
      obtain ⟨e0, hn4⟩ := HE.out _ HW.out.below k hkl
      clear HE
      have HNx : Hid ((o.code.take (k + 1)).flatMap four = (o.code.take k).flatMap four ++ four o.code[k]) := flat_next four o.code k hkl
      have HLn : Hid ((four (nc : Int) ++ (o.code.take k).flatMap four).length ≤ 40000) := by
        show _ ≤ _
        rw [List.length_append, four_length, show (o.code.take k).flatMap four = (o.code.take k).flatMap (fun x => four (id x)) from rfl, flat_len4, List.length_take]
        omega
      go_wp2_with fail
      go_at_call 14
      refine (wword_any _ hn4 (by have := HLn.out; omega) HW.out).mono ?_
      rintro e w3 ⟨rfl, hw⟩
      have HW2 : Hid (Wt bq w w3 bw (four nc ++ (o.code.take (k + 1)).flatMap four) [.blk bq #[.slice (some ⟨g, oo, none⟩) nc cc, .slice da nd dc, .slice sa ns sc, .slice ra nr rc] 27]) := by
        show Wt _ _ _ _ _ _
        rw [HNx.out, ← List.append_assoc]
        exact hw
      clear hw HW c0
      go_wp2_with fail
      go_roundw
      case rel => exact ⟨k + 1, by omega, by go_num, HW2⟩
      case measure => simp [intOf]; omega
    obtain rfl : k = nc := by omega
    have hlt' : ¬ (k : Int) < k := by omega
    rw [HCT.out] at HW
    obtain ⟨m1, HM1⟩ : ∃ m, Hid (m = four (k : Int) ++ o.code.flatMap four) := ⟨_, rfl⟩
    have HL : Hid (m1.length ≤ 40000) := by
      show _ ≤ _
      rw [HM1.out, List.length_append, four_length, show o.code.flatMap four = o.code.flatMap (fun x => four (id x)) from rfl, flat_len4, HNC.out]
      omega
    rw [← HM1.out] at HW
    generalize hnc : k = nc at *
    clear hnc hlt
    go_wp2_with fail
    go_at_call 13
    refine (wnum_any (nd : Int) ⟨by omega, by omega⟩ (by have := HL.out; omega) HW.out).mono ?_
    rintro e w3 ⟨rfl, hw⟩
    clear c0 HW hlt'
    have HW := hide hw
    clear hw
    have c0 := HW.out.cell 0 rfl
    go_wp2_with fail
    clear c0
    go_loopw [37] (fun i wr => ∃ k : Nat, k ≤ nd ∧ i = .int .i64 k ∧ Hid (Wt bq w wr bw (m1 ++ four nd ++ (o.data.take k).flatMap (fun x => four (free x))) [.blk bq #[.slice ca nc cc, .slice da nd dc, .slice sa ns sc, .slice ra nr rc] 27])) (fun i _ => nd - (intOf i).toNat)
    case atStart => exact ⟨0, Nat.zero_le _, rfl, by simpa using HW⟩
    case round =>
      clear HW
      obtain ⟨k, hk, rfl, HW⟩ := hrel
      have c0 := HW.out.cell 0 rfl
      by_cases hlt : k < nd
      case pos =>
        have hlt' : (k : Int) < nd := by omega
        have hidx : (0 : Int) ≤ k ∧ (k : Int) < nd := by omega
        have hkl : k < o.data.length := by rw [HND.out]; exact hlt
        obtain ⟨g, oo, rfl, HE⟩ := HD0.out (by omega)
        obtain ⟨e0, hn1, hn2⟩ := HE.out _ HW.out.below k hkl
        clear HE
        have HNx : Hid ((o.data.take (k + 1)).flatMap (fun x => four (free x)) = (o.data.take k).flatMap (fun x => four (free x)) ++ four (free o.data[k])) := flat_next (fun x => four (free x)) o.data k hkl
        have HLn : Hid ((m1 ++ four (nd : Int) ++ (o.data.take k).flatMap (fun x => four (free x))).length ≤ 200000) := by
          show _ ≤ _
          rw [List.length_append, List.length_append, four_length, flat_len4, List.length_take]
          have := HL.out
          omega
        rw [← free_mod hn1 hn2] at HNx
        generalize o.data[k] = x at *
        go_wp2_with fail
        go_at_call 14
        refine (wword_any (x % 4294967296) ⟨by omega, by omega⟩ (by have := HLn.out; omega) HW.out).mono ?_
        rintro e w3 ⟨rfl, hw⟩
        have HW2 : Hid (Wt bq w w3 bw (m1 ++ four nd ++ (o.data.take (k + 1)).flatMap (fun x => four (free x))) [.blk bq #[.slice ca nc cc, .slice (some ⟨g, oo, none⟩) nd dc, .slice sa ns sc, .slice ra nr rc] 27]) := by
          show Wt _ _ _ _ _ _
          rw [HNx.out, ← List.append_assoc]
          exact hw
        clear hw HW c0
        go_wp2_with fail
        go_roundw
        case rel => exact ⟨k + 1, by omega, by go_num, HW2⟩
        case measure => simp [intOf]; omega
      obtain rfl : k = nd := by omega
      have hlt' : ¬ (k : Int) < k := by omega
      rw [HDT.out] at HW
      obtain ⟨m2, HM2⟩ : ∃ m, Hid (m = m1 ++ four (k : Int) ++ o.data.flatMap (fun x => four (free x))) := ⟨_, rfl⟩
      have HL2 : Hid (m2.length ≤ 200000) := by
        show _ ≤ _
        rw [HM2.out, List.length_append, List.length_append, four_length, flat_len4, HND.out]
        have := HL.out
        omega
      rw [← HM2.out] at HW
      generalize hnd : k = nd at *
      clear hnd hlt
      go_wp2_with fail
      go_at_call 13
      refine (wnum_any (ns : Int) ⟨by omega, by omega⟩ (by have := HL2.out; omega) HW.out).mono ?_
      rintro e w3 ⟨rfl, hw⟩
      clear c0 HW hlt'
      have HW := hide hw
      clear hw
      have c0 := HW.out.cell 0 rfl
      go_wp2_with fail
      clear c0
      go_loopw [52] (fun i wr => ∃ k : Nat, k ≤ ns ∧ i = .int .i64 k ∧ Hid (Wt bq w wr bw (m2 ++ four ns ++ (o.syms.take k).flatMap symP) [.blk bq #[.slice ca nc cc, .slice da nd dc, .slice sa ns sc, .slice ra nr rc] 27])) (fun i _ => ns - (intOf i).toNat)
      case atStart => exact ⟨0, Nat.zero_le _, rfl, by simpa using HW⟩
      case round =>
        clear HW
        obtain ⟨k, hk, rfl, HW⟩ := hrel
        have c0 := HW.out.cell 0 rfl
        by_cases hlt : k < ns
        case pos =>
          have hlt' : (k : Int) < ns := by omega
          have hidx : (0 : Int) ≤ k ∧ (k : Int) < ns := by omega
          have hkl : k < o.syms.length := by rw [HNS.out]; exact hlt
          obtain ⟨g, oo, rfl, HE⟩ := HS0.out (by omega)
          obtain ⟨e0, e1, e2, e3, e4, e5, e6, b1, b2, b3, b4, b5, b6⟩ := HE.out _ HW.out.below k hkl
          clear HE
          obtain ⟨a1, a2, a3, a4, a5, a6⟩ := HN4.out k hkl
          have HNx : Hid ((o.syms.take (k + 1)).flatMap symP = (o.syms.take k).flatMap symP ++ symP o.syms[k]) := flat_next symP o.syms k hkl
          have HLn : Hid ((m2 ++ four (ns : Int) ++ (o.syms.take k).flatMap symP).length ≤ 2000000) := by
            show _ ≤ _
            rw [List.length_append, List.length_append, four_length]
            have := HL2.out
            have := HSL.out k hk
            omega
          have HA := hide (HW.out.alloc #[.string o.syms[k].name, .int .i64 o.syms[k].kind, .bool o.syms[k].stat, .int .i64 o.syms[k].pl, .int .i64 o.syms[k].size, .string o.syms[k].sign, .int .i64 o.syms[k].frame] 44)
          have d0 := HA.out.cell 0 rfl
          have HCL := hide (wsym_any o.syms[k] a1 a2 a3 a4 a5 a6 (by have := HLn.out; omega) HA.out)
          clear HA a1 a2 a3 a4 a5 a6
          unfold In64 at *
          generalize symP o.syms[k] = sp at *
          generalize o.syms[k].name = nm at *
          generalize o.syms[k].kind = kd at *
          generalize o.syms[k].stat = st at *
          generalize o.syms[k].pl = pl at *
          generalize o.syms[k].size = sz at *
          generalize o.syms[k].sign = sg at *
          generalize o.syms[k].frame = fr at *
          go_wp2_with fail
          go_at_call 15
          refine HCL.out.mono ?_
          rintro e w3 ⟨rfl, hw⟩
          have HW2 : Hid (Wt bq w w3 bw (m2 ++ four ns ++ (o.syms.take (k + 1)).flatMap symP) [.blk bq #[.slice ca nc cc, .slice da nd dc, .slice (some ⟨g, oo, none⟩) ns sc, .slice ra nr rc] 27]) := by
            show Wt _ _ _ _ _ _
            rw [HNx.out, ← List.append_assoc]
            exact hw.tail
          clear hw HW c0 HCL d0
          go_wp2_with fail
          go_roundw
          case rel => exact ⟨k + 1, by omega, by go_num, HW2⟩
          case measure => simp [intOf]; omega
        obtain rfl : k = ns := by omega
        have hlt' : ¬ (k : Int) < k := by omega
        rw [HST.out] at HW
        have HSZ := hide (HSL.out k (Nat.le_refl _))
        rw [HST.out] at HSZ
        obtain ⟨m3, HM3⟩ : ∃ m, Hid (m = m2 ++ four (k : Int) ++ o.syms.flatMap symP) := ⟨_, rfl⟩
        have HL3 : Hid (m3.length ≤ 2000000) := by
          show _ ≤ _
          rw [HM3.out, List.length_append, List.length_append, four_length]
          have := HL2.out
          have := HSZ.out
          omega
        rw [← HM3.out] at HW
        clear HSZ
        generalize hns : k = ns at *
        clear hns hlt
        go_wp2_with fail
        go_at_call 13
        refine (wnum_any (nr : Int) ⟨by omega, by omega⟩ (by have := HL3.out; omega) HW.out).mono ?_
        rintro e w3 ⟨rfl, hw⟩
        clear c0 HW hlt'
        have HW := hide hw
        clear hw
        have c0 := HW.out.cell 0 rfl
        go_wp2_with fail
        clear c0
        go_loopw [66] (fun i wr => ∃ k : Nat, k ≤ nr ∧ i = .int .i64 k ∧ Hid (Wt bq w wr bw (m3 ++ four nr ++ (o.rels.take k).flatMap relP) [.blk bq #[.slice ca nc cc, .slice da nd dc, .slice sa ns sc, .slice ra nr rc] 27])) (fun i _ => nr - (intOf i).toNat)
        case atStart => exact ⟨0, Nat.zero_le _, rfl, by simpa using HW⟩
        case round =>
          clear HW
          obtain ⟨k, hk, rfl, HW⟩ := hrel
          have c0 := HW.out.cell 0 rfl
          by_cases hlt : k < nr
          case pos =>
            have hlt' : (k : Int) < nr := by omega
            have hidx : (0 : Int) ≤ k ∧ (k : Int) < nr := by omega
            have hkl : k < o.rels.length := by rw [HNR.out]; exact hlt
            obtain ⟨g, oo, rfl, HE⟩ := HR0.out (by omega)
            obtain ⟨e0, e1, e2, b1, b2, b3⟩ := HE.out _ HW.out.below k hkl
            clear HE
            obtain ⟨a1, a2, a3⟩ := HR4.out k hkl
            have HNx : Hid ((o.rels.take (k + 1)).flatMap relP = (o.rels.take k).flatMap relP ++ relP o.rels[k]) := flat_next relP o.rels k hkl
            have HLn : Hid ((m3 ++ four (nr : Int) ++ (o.rels.take k).flatMap relP).length ≤ 3000000) := by
              show _ ≤ _
              rw [List.length_append, List.length_append, four_length, rel_len, List.length_take]
              have := HL3.out
              omega
            have HA := hide (HW.out.alloc #[.int .i64 o.rels[k].pl, .int .i64 o.rels[k].sym, .int .i64 o.rels[k].add] 47)
            have d0 := HA.out.cell 0 rfl
            have HCL := hide (wrel_any o.rels[k] a1 a2 a3 (by have := HLn.out; omega) HA.out)
            clear HA a1 a2 a3
            unfold In64 at *
            generalize relP o.rels[k] = sp at *
            generalize o.rels[k].pl = pl at *
            generalize o.rels[k].sym = sy at *
            generalize o.rels[k].add = ad at *
            go_wp2_with fail
            go_at_call 16
            refine HCL.out.mono ?_
            rintro e w3 ⟨rfl, hw⟩
            have HW2 : Hid (Wt bq w w3 bw (m3 ++ four nr ++ (o.rels.take (k + 1)).flatMap relP) [.blk bq #[.slice ca nc cc, .slice da nd dc, .slice sa ns sc, .slice (some ⟨g, oo, none⟩) nr rc] 27]) := by
              show Wt _ _ _ _ _ _
              rw [HNx.out, ← List.append_assoc]
              exact hw.tail
            clear hw HW c0 HCL d0
            go_wp2_with fail
            go_roundw
            case rel => exact ⟨k + 1, by omega, by go_num, HW2⟩
            case measure => simp [intOf]; omega
          obtain rfl : k = nr := by omega
          have hlt' : ¬ (k : Int) < k := by omega
          rw [HRT.out] at HW
          rw [← HP.out m1 m2 m3 HM1.out HM2.out HM3.out] at HW
          obtain ⟨fa, fc, hbk, hby⟩ := HW.out.bys
          have z0 := fr_cells hbk
          have HBY := hide hby
          clear hbk hby
          generalize (putO o).length = np at *
          go_wp2_with fail
          go_ret2
          exact ⟨_, rfl, HBY.out, HW.out.below' HBQ.out.symm⟩
end Go.Proofs.Ytnjcknlfecednaa.T
