/- The law AbiApart, given what the program's Places answers. -/
import Derived.Test.YtmbhcpnlfdgkjaaLc
namespace Go.Proofs.Ytmbhcpnlfdgkjaa.T
open Go.RowKit
set_option linter.unusedVariables false
set_option linter.unusedSimpArgs false
set_option maxRecDepth 100000 in
set_option maxHeartbeats 4000000 in
theorem apart_af (HP : Pr9) (name : ByteArray) (nn : Nat) (names : Nat → ByteArray) (l : Nat) (parts : Nat → Ty) (v : Value) (ba : Option Addr) (bn bc : Nat) (bs : Nat → Ty) (w : World) (hv : TyV w (.mk 4 name nn names (l + 1) parts false) v) (hbs : Tys w (.slice ba bn bc) bn bs) (he : errP (.mk 4 name nn names (l + 1) parts false) bn bs = 0) (h2 : 2 < sizeT (parts l)) : Calls Try.prog 4 #[v, .slice ba bn bc] w fun e w' => e = .returned (.bool true) ∧ Below w.heap.size w w' := by
  obtain ⟨hp1, hp7, -⟩ := good_mk (err_zero he).2.1
  have C1 : Hid (∀ w', Below w.heap.size w w' → Calls Try.prog 5 #[v, .slice ba bn bc] w' (PostP w' (.mk 4 name nn names (l + 1) parts false) bn bs)) := fun w' hb => HP _ v ba bn bc bs w' (hv.below hb) (hbs.below hb)
  have C2 : Hid (∀ w', Below w.heap.size w w' → Calls Try.prog 5 #[v, .slice none 0 0] w' (PostP w' (.mk 4 name nn names (l + 1) parts false) 0 bs)) := fun w' hb => HP _ v none 0 0 bs w' (hv.below hb) ⟨none, 0, rfl, by omega, by omega, fun h => absurd h (by omega)⟩
  have hA := aps_of l parts false (sumN bs bn) (by omega) (sum_small he)
  unfold PostP at C1 C2
  rw [he] at C1
  rw [err_nil he] at C2
  have e1 : plR (.mk 4 name nn names (l + 1) parts false) bn bs = plT (l + 1) parts false (sumN bs bn) := by unfold plR; rw [he, if_pos rfl]; rfl
  have e2 : plR (.mk 4 name nn names (l + 1) parts false) 0 bs = plT (l + 1) parts false 0 := by unfold plR; rw [err_nil he, if_pos rfl]; rfl
  rw [e1] at C1
  rw [e2] at C2
  obtain ⟨prm, cop, res, area, extra, area2, f1, f2⟩ := pl_pair l parts false (sumN bs bn) (r := 0) (c := (-1)) (by simp [h2]) (by simp [h2])
  rw [f1] at C1 hA
  rw [f2] at C2
  have hH0 : had0 (sizeT (parts l)) false = [(false, 0)] := by simp [had0, h2]
  obtain ⟨na, nc, pa, pc, rfl, hS, w1, w2, w3, w4, w5, w6, w7, HPp⟩ := hv.part
  obtain ⟨pb, po, rfl, hpb, hpc⟩ := HPp.out (by omega)
  have HPA : Hid (∀ w', Below w.heap.size w w' → ∀ j, j < l + 1 → _) := fun w' hb j hj => part_at hpb hpc hb j hj
  have HS4 : Hid (∀ j (h : j < prm.length), prm[j].length ≤ 4) := fun j hj => by
    have hx := (pl_small (.mk 4 name nn names (l + 1) parts false) bn bs).2.2.2
    rw [e1, f1] at hx
    exact hx j hj
  have HAps := hide hA
  have HPr : Hid (prm = (List.range l).map fun i => stepL (hads (had0 (sizeT (parts l)) false) parts i) (parts i)) := hA.par
  have HLp : Hid (prm.length = l) := by show _ = _; rw [HPr.out]; simp
  have hev : area % 2 = 0 := hA.even
  have hars : area ≤ 1000 := hA.small.1
  have hexs : extra ≤ 1000 := hA.small.2
  have HH0 := hide hH0
  have hl6 : l ≤ 6 := by omega
  have HF := hide ((Fr.start w).alloc rfl #[.int .i64 4, .string name, .slice na nn nc, .slice (some ⟨pb, po, none⟩) (l + 1) pc, .bool false] 25)
  clear hH0 f1 f2 hA e1 e2 hv hbs he HP hp1 hp7 hS w1 w2 w3 w4 w5 w6 w7 HPp hpc h2
  go_enter Try.func4, Try.ntmps4
  go_wp2_with fail
  go_at_call 5
  refine (C1.out _ HF.out.below).mono ?_
  rintro e w1 ⟨v1, rfl, h1, hb⟩
  obtain ⟨x1, x2, x3, y1, y2, y3, rfl, A1⟩ := h1.ans
  replace HF := hide ((HF.out.call hb).alloc rfl #[.int .i64 0, .int .i64 (-1), .slice x1 prm.length y1, .slice x2 cop.length y2, .slice x3 res.length y3, .int .i64 area, .int .i64 extra] 30)
  have HA1 := hide (A1.below ((Below.refl _ _).alloc (Nat.le_refl _) (.cells #[.int .i64 0, .int .i64 (-1), .slice x1 prm.length y1, .slice x2 cop.length y2, .slice x3 res.length y3, .int .i64 area, .int .i64 extra] 30)))
  clear h1 hb A1
  have c1 := HF.out.cell 1 rfl
  go_wp2_with fail
  go_at_call 5
  refine (C2.out _ HF.out.below).mono ?_
  rintro e w2 ⟨v2, rfl, h2, hb⟩
  obtain ⟨p1, p2, p3, q1, q2, q3, rfl, A2⟩ := h2.ans
  have hba : Below w2.heap.size w2 (w2.alloc (.cells #[.int .i64 0, .int .i64 (-1), .slice p1 prm.length q1, .slice p2 cop.length q2, .slice p3 res.length q3, .int .i64 area2, .int .i64 extra] 30)) := (Below.refl _ _).alloc (Nat.le_refl _) _
  replace HF := hide ((HF.out.call hb).alloc rfl #[.int .i64 0, .int .i64 (-1), .slice p1 prm.length q1, .slice p2 cop.length q2, .slice p3 res.length q3, .int .i64 area2, .int .i64 extra] 30)
  replace HA1 := hide ((HA1.out.below hb).below hba)
  have HA2 := hide (A2.below hba)
  clear h2 hb A2 hba c1 C1 C2
  have c1 := HF.out.cell 1 rfl
  have c0 := HF.out.cell 0 rfl
  have hmd : (area : Int).tmod 2 = 0 := by rw [Int.tmod_eq_emod_of_nonneg (by omega)]; omega
  have HW : Hid (∀ w', Below (w2.alloc (.cells #[.int .i64 0, .int .i64 (-1), .slice p1 prm.length q1, .slice p2 cop.length q2, .slice p3 res.length q3, .int .i64 area2, .int .i64 extra] 30)).heap.size (w2.alloc (.cells #[.int .i64 0, .int .i64 (-1), .slice p1 prm.length q1, .slice p2 cop.length q2, .slice p3 res.length q3, .int .i64 area2, .int .i64 extra] 30)) w' → ((∀ o, w'.cell? ⟨w1.heap.size, o, none⟩ = #[.int .i64 0, .int .i64 (-1), .slice x1 prm.length y1, .slice x2 cop.length y2, .slice x3 res.length y3, .int .i64 area, .int .i64 extra][o]?) ∧ (∀ o, w'.cell? ⟨w2.heap.size, o, none⟩ = #[.int .i64 0, .int .i64 (-1), .slice p1 prm.length q1, .slice p2 cop.length q2, .slice p3 res.length q3, .int .i64 area2, .int .i64 extra][o]?) ∧ (∀ o, w'.cell? ⟨w.heap.size, o, none⟩ = #[.int .i64 4, .string name, .slice na nn nc, .slice (some ⟨pb, po, none⟩) (l + 1) pc, .bool false][o]?)) ∧ Ans w' (⟨0, (-1), prm, cop, res, area, extra⟩ : Pl) x1 x2 x3 y1 y2 y3 ∧ Ans w' (⟨0, (-1), prm, cop, res, area2, extra⟩ : Pl) p1 p2 p3 q1 q2 q3 ∧ Below w.heap.size w w') := fun w' hb => ⟨⟨(HF.out.call hb).cell 1 rfl, (HF.out.call hb).cell 0 rfl, (HF.out.call hb).cell 2 rfl⟩, HA1.out.below hb, HA2.out.below hb, (HF.out.call hb).below⟩
  clear HA1 HA2
  have HZ := hide ((Fr.start (w2.alloc (.cells #[.int .i64 0, .int .i64 (-1), .slice p1 prm.length q1, .slice p2 cop.length q2, .slice p3 res.length q3, .int .i64 area2, .int .i64 extra] 30))).nil 39 2)
  go_wp2_with (at_builtin; first | (have HA := HZ.out.alloc (q := w2.heap.size + 1) (by simp) #[.bool false, .int .i64 0] 39; refine Fr.one 36 info39 Try.underlying36 rfl (by decide) (by decide) HA 0 rfl (by decide) _ _ rfl rfl rfl rfl rfl rfl ?_; intro g5 cap5 w5 h5 _; have HF5 := hide h5; clear h5; have c5 := (HW.out _ HF5.out.below).1.1))
  clear c1 c0
  have HB4 : Hid (Below w.heap.size w (w2.alloc (.cells #[.int .i64 0, .int .i64 (-1), .slice p1 prm.length q1, .slice p2 cop.length q2, .slice p3 res.length q3, .int .i64 area2, .int .i64 extra] 30))) := HF.out.below
  clear HF
  generalize hW4 : (w2.alloc (.cells #[.int .i64 0, .int .i64 (-1), .slice p1 prm.length q1, .slice p2 cop.length q2, .slice p3 res.length q3, .int .i64 area2, .int .i64 extra] 30)) = W4 at *
  have hz4 : w2.heap.size < W4.heap.size := by rw [← hW4]; simp
  clear hW4
  generalize hb1 : w1.heap.size = b1 at *
  generalize hb2 : w2.heap.size = b2 at *
  clear hb1 hb2 hz4
  have HNd : Hid ((hads (had0 (sizeT (parts l)) false) parts l).Nodup) := HAps.out.nodup
  have HRg : Hid (∀ x, x ∈ hads (had0 (sizeT (parts l)) false) parts l → x.1 = false → x.2 ≤ 3) := HAps.out.regs
  have HSk : Hid (∀ x, x ∈ hads (had0 (sizeT (parts l)) false) parts l → x.1 = true → x.2 < area) := HAps.out.stk
  have HEx : Hid True := trivial
  have HLn : Hid (∀ k, k ≤ l → (hads (had0 (sizeT (parts l)) false) parts k).length ≤ 100) := fun k hk => by have := hads_len (sizeT (parts l)) false parts k; show _ ≤ 100; omega
  have HLg : Hid (∀ i, i < l → kindT (parts i) = 2 → ∃ s n, n % 2 = 0 ∧ stepL (hads (had0 (sizeT (parts l)) false) parts i) (parts i) = [(s, n), (s, n + 1)]) := HAps.out.long
  generalize had0 (sizeT (parts l)) false = h0 at HNd HRg HSk HLn HLg HPr HH0
  clear HAps
  generalize hbt : w.heap.size = bt at *
  have HBT := hide hbt
  clear hbt
  go_loopw [9, 10] (fun lv i wr => ∃ k : Nat, k ≤ l ∧ i = .int .i64 k ∧ Hid (Fr W4.heap.size W4 wr [.row lv 39 2 (hads h0 parts k).length (locV (hads h0 parts k))])) (fun _ i _ => l - (intOf i).toNat)
  case atStart => exact ⟨0, Nat.zero_le _, rfl, by rw [show hads h0 parts 0 = h0 from rfl, HH0.out]; exact HF5⟩
  case round =>
    clear HZ HF5 
    obtain ⟨k, hk, rfl, HF⟩ := hrel
    obtain ⟨⟨c1, c0, ct⟩, -, -, hbw⟩ := HW.out wr HF.out.below
    have HBw := hide hbw
    clear hbw
    by_cases hlt : k < l
    · obtain ⟨-, A1, A2, -⟩ := HW.out W4 (Below.refl _ _)
      have hkp : k < prm.length := by rw [HLp.out]; exact hlt
      have hlt' : (k : Int) < prm.length := by omega
      have hidx : (0 : Int) ≤ k ∧ (k : Int) < prm.length := by omega
      have hidx2 : (0 : Int) ≤ k ∧ (k : Int) < (l + 1 : Nat) := by omega
      have r1 := A1.rows
      have r2 := A2.rows
      obtain ⟨_, _, e1, H1⟩ := r1
      cases e1
      obtain ⟨_, _, e2, H2⟩ := r2
      cases e2
      obtain ⟨g1, o1, rfl, hg1, H1⟩ := H1 (by show 0 < prm.length; omega)
      obtain ⟨g2, o2, rfl, hg2, H2⟩ := H2 (by show 0 < prm.length; omega)
      obtain ⟨u1, d1, L1⟩ := H1 k hkp
      obtain ⟨u2, d2, L2⟩ := H2 k hkp
      have hl4 := HS4.out k hkp
      have HSt : Hid (prm[k] = stepL (hads h0 parts k) (parts k)) := by
        have := HPr.out
        show _ = _
        simp only [this, List.getElem_map, List.getElem_range]
      obtain ⟨l1, z1, rfl, K1⟩ := L1
      obtain ⟨l2, z2, rfl, K2⟩ := L2
      have HG : Hid (∀ w', Below W4.heap.size W4 w' → w'.cell? ⟨g1, o1 + k, none⟩ = some (.slice l1 prm[k].length z1) ∧ w'.cell? ⟨g2, o2 + k, none⟩ = some (.slice l2 prm[k].length z2)) := fun w' hb => ⟨(hb.cell (p := ⟨g1, o1 + k, none⟩) hg1).trans d1, (hb.cell (p := ⟨g2, o2 + k, none⟩) hg2).trans d2⟩
      have HL1 : Hid (0 < prm[k].length → ∃ g o, l1 = some ⟨g, o, none⟩ ∧ ∀ w', Below W4.heap.size W4 w' → ∀ j (h : j < prm[k].length), w'.cell? ⟨g, o + j * 2, none⟩ = some (.bool prm[k][j].1) ∧ w'.cell? ⟨g, o + j * 2 + 1, none⟩ = some (.int .i64 prm[k][j].2)) := fun h => by
        obtain ⟨g, o, e1, e2, e3⟩ := K1 h
        exact ⟨g, o, e1, fun w' hb j hj => ⟨(hb.cell (p := ⟨g, o + j * 2, none⟩) e2).trans (e3 j hj).1, (hb.cell (p := ⟨g, o + j * 2 + 1, none⟩) e2).trans (e3 j hj).2⟩⟩
      have HL2 : Hid (0 < prm[k].length → ∃ g o, l2 = some ⟨g, o, none⟩ ∧ ∀ w', Below W4.heap.size W4 w' → ∀ j (h : j < prm[k].length), w'.cell? ⟨g, o + j * 2, none⟩ = some (.bool prm[k][j].1) ∧ w'.cell? ⟨g, o + j * 2 + 1, none⟩ = some (.int .i64 prm[k][j].2)) := fun h => by
        obtain ⟨g, o, e1, e2, e3⟩ := K2 h
        exact ⟨g, o, e1, fun w' hb j hj => ⟨(hb.cell (p := ⟨g, o + j * 2, none⟩) e2).trans (e3 j hj).1, (hb.cell (p := ⟨g, o + j * 2 + 1, none⟩) e2).trans (e3 j hj).2⟩⟩
      clear H1 H2 A1 A2 K1 K2 d1 d2
      obtain ⟨d1, d2⟩ := HG.out wr HF.out.below
      generalize prm[k] = S at *
      have hnl : decide ((l : Int) ≤ k) = false := by simp; omega
      have hnl2 : ¬ (l : Int) ≤ k := by omega
      have hnl3 : decide (l ≤ k) = false := by simp; omega
      go_wp2_with fail
      go_quiet (fail)
      generalize nq = q
      go_wp2_with fail
      clear c1 c0 ct d1 d2 hnl hnl2 hnl3 HBw
      have HMm : Hid (∀ x, x ∈ S → x ∈ hads h0 parts l) := fun x hx => step_mem h0 parts hlt (by rw [← HSt.out]; exact hx)
      go_loopw [9, 11] (fun lv i wi => ∃ j : Nat, j ≤ S.length ∧ i = .int .i64 j ∧ Hid (Fr W4.heap.size W4 wi [.row lv 39 2 ((hads h0 parts k).length + j) (locV (hads h0 parts k ++ S.take j))])) (fun _ i _ => S.length - (intOf i).toNat)
      case atStart => exact ⟨0, Nat.zero_le _, rfl, by rw [List.take_zero, List.append_nil]; exact HF.out.call (below_drewN' _ q)⟩
      case round =>
        clear HF
        obtain ⟨j, hj, rfl, HF⟩ := hrel
        obtain ⟨⟨c1, c0, ct⟩, -, -, -⟩ := HW.out _ HF.out.below
        obtain ⟨d1, d2⟩ := HG.out _ HF.out.below
        by_cases hjl : j < S.length
        · have hjl' : (j : Int) < S.length := by omega
          have hidx3 : (0 : Int) ≤ j ∧ (j : Int) < S.length := by omega
          have hidx4 : (0 : Int) < S.length := by omega
          obtain ⟨a1, i1, rfl, E1⟩ := HL1.out (by omega)
          obtain ⟨a2, i2, rfl, E2⟩ := HL2.out (by omega)
          have HE1 := hide E1
          have HE2 := hide E2
          clear E1 E2
          obtain ⟨m1, m2⟩ := HE1.out _ HF.out.below j hjl
          have HTk : Hid (S.take (j + 1) = S.take j ++ [S[j]]) := take_snoc S j hjl
          have HXm := hide (HMm.out S[j] (List.getElem_mem hjl))
          have HX0 : Hid (∀ w', Below W4.heap.size W4 w' → w'.cell? ⟨a1, i1, none⟩ = some (.bool S[0].1)) := fun w' hb => by have := (HE1.out w' hb 0 (by omega)).1; simpa using this
          have HLo : Hid (kindT (parts k) = 2 → ∃ s n, n % 2 = 0 ∧ S = [(s, n), (s, n + 1)]) := fun h => by obtain ⟨s, n, h1, h2⟩ := HLg.out k hlt h; exact ⟨s, n, h1, HSt.out.trans h2⟩
          have HK2 : Hid (kindT (parts k) = 2 → S[0].1 = S[j].1 ∧ S[j].2 % 2 = j) := fun h => by
            obtain ⟨s, n, h1, h2⟩ := HLo.out h
            subst h2
            have : j = 0 ∨ j = 1 := by simp at hjl; omega
            rcases this with rfl | rfl
            · exact ⟨rfl, h1⟩
            · exact ⟨rfl, by simp; omega⟩
          have HFa := hide (HF.out.alloc rfl #[.bool S[j].1, .int .i64 S[j].2] 39)
          obtain ⟨n1, n2⟩ := HE1.out _ HFa.out.below j hjl
          obtain ⟨n3, n4⟩ := HE2.out _ HFa.out.below j hjl
          have n5 := HX0.out _ HFa.out.below
          have hlen := HLn.out k (by omega)
          generalize S[j] = x at *
          generalize S[0].1 = s0 at *
          obtain ⟨s, n⟩ := x
          simp only at m1 m2 HXm HK2 HFa n1 n2 n3 n4
          obtain ⟨kind, nm, xa, xn, xc, ya, yn, yc, mn, G0, G1, G2, G3, G4, -, HKD⟩ := HPA.out _ (HW.out _ HFa.out.below).2.2.2 k (by omega)
          obtain ⟨⟨t1, t0, tt⟩, -, -, -⟩ := HW.out _ HFa.out.below
          obtain ⟨v1, v2⟩ := HG.out _ HFa.out.below
          have xc0 := HFa.out.cell 0 rfl
          go_wp2_with fail
          generalize hxb : wr.heap.size = xb at *
          generalize wr.alloc _ = wa at *
          clear hxb c1 c0 ct d1 d2 m1 m2
          by_cases hkk : kind = 2
          focus
            obtain ⟨e1, e2⟩ := HK2.out (HKD.out.symm.trans hkk)
            have hk2 : (kind == 2) = true := by simpa using hkk
            have hmo : (n : Int).tmod 2 = (j : Int) := by rw [Int.tmod_eq_emod_of_nonneg (by omega)]; omega
            have e3 := e1.symm
            subst e3
            clear hkk e2 e1
            go_quiet (fail)
            generalize nq = q2
            clear hk2 hmo
          rotate_left
          focus
            have hk2 : (kind == 2) = false := by simpa using hkk
            clear hkk
            go_quiet (fail)
            generalize nq = q2
            clear hk2
          rotate_left
          all_goals
            cases s
            · have HFd := hide (HFa.out.call (below_drewN' _ q2))
              go_wp2_with (at_builtin; first | (have HA := HFd.out.alloc (q := wa.heap.size) rfl #[.bool false, .int .i64 n] 39; refine Fr.one 36 info39 Try.underlying36 rfl (by decide) (by decide) HA 1 (v := u9) (n := (hads h0 parts k).length + j) rfl (by omega) _ _ rfl rfl rfl rfl rfl rfl ?_; intro g7 cap7 w7 h7 _; have HF7 := hide h7; clear h7))
              go_roundw
              case rel =>
                refine ⟨j + 1, by omega, by go_num, ?_⟩
                have hx := HF7.out.tail
                show Fr _ _ _ _
                rw [HTk.out, ← List.append_assoc, locV_snoc, ← Nat.add_assoc]
                exact hx
              case measure => simp [intOf]; omega
            · have hne := hlt
              have HFd := hide (HFa.out.call (below_drewN' _ q2))
              go_wp2_with (at_builtin; first | (have HA := HFd.out.alloc (q := wa.heap.size) rfl #[.bool true, .int .i64 n] 39; refine Fr.one 36 info39 Try.underlying36 rfl (by decide) (by decide) HA 1 (v := u9) (n := (hads h0 parts k).length + j) rfl (by omega) _ _ rfl rfl rfl rfl rfl rfl ?_; intro g7 cap7 w7 h7 _; have HF7 := hide h7; clear h7))
              go_roundw
              case rel =>
                refine ⟨j + 1, by omega, by go_num, ?_⟩
                have hx := HF7.out.tail
                show Fr _ _ _ _
                rw [HTk.out, ← List.append_assoc, locV_snoc, ← Nat.add_assoc]
                exact hx
              case measure => simp [intOf]; omega
        · obtain rfl : j = S.length := by omega
          have hjl' : ¬ (S.length : Int) < S.length := by omega
          go_wp2_with fail
          go_roundw
          case rel =>
            refine ⟨k + 1, by omega, by go_num, ?_⟩
            show Fr _ _ _ _
            have hx := HF.out
            rw [List.take_length] at hx
            rw [show hads h0 parts (k + 1) = hads h0 parts k ++ S by rw [hads, ← HSt.out], List.length_append]
            exact hx
          case measure => simp [intOf]; omega
    · obtain rfl : k = l := by omega
      have hkp : ¬ (k : Int) < prm.length := by rw [HLp.out]; omega
      obtain ⟨a9, c9, rfl, K9⟩ := Locs.of (HF.out.get (i := 0) rfl)
      have HK9 := hide K9
      have hlen := HLn.out k (by omega)
      clear K9
      generalize hads h0 parts k = L at *
      go_wp2_with fail
      have HC3 : Hid (∀ o, wr.cell? ⟨b1, o, none⟩ = #[.int .i64 0, .int .i64 (-1), .slice x1 prm.length y1, .slice x2 cop.length y2, .slice x3 res.length y3, .int .i64 area, .int .i64 extra][o]?) := c1
      have HB3 : Hid (∀ m, Below bt w (wr.drewN m)) := fun m => (HW.out _ (HF.out.call (below_drewN' _ m)).below).2.2.2
      clear c1 c0 ct HF HW
      generalize wr = w0 at *
      go_loopw [13] (fun i wi => ∃ j m : Nat, j ≤ L.length ∧ i = .int .i64 j ∧ Hid (wi = w0.drewN m)) (fun i _ => L.length - (intOf i).toNat)
      case atStart => exact ⟨0, 0, Nat.zero_le _, rfl, rfl⟩
      case round =>
        obtain ⟨j, m, hj, rfl, HB⟩ := hrel
        by_cases hjl : j < L.length
        · have hjl' : (j : Int) < L.length := by omega
          have hidx3 : (0 : Int) ≤ j ∧ (j : Int) < L.length := by omega
          obtain ⟨g9, o9, rfl, -, E9⟩ := HK9.out (by omega)
          have HE9 := hide E9
          clear E9
          have n1 := dr HB.out (HE9.out j hjl).1
          have n2 := dr HB.out (HE9.out j hjl).2
          have c1 : ∀ o, wr.cell? ⟨b1, o, none⟩ = #[.int .i64 0, .int .i64 (-1), .slice x1 prm.length y1, .slice x2 cop.length y2, .slice x3 res.length y3, .int .i64 area, .int .i64 extra][o]? := fun o => dr HB.out (HC3.out o)
          obtain ⟨xx, HXJ⟩ : ∃ xx, Hid (L[j] = xx) := ⟨L[j], rfl⟩
          have HM : Hid (xx ∈ L) := by rw [← HXJ.out]; exact List.getElem_mem hjl
          rw [HXJ.out] at n1 n2
          obtain ⟨s, x⟩ := xx
          simp only at n1 n2
          have hn0 : decide ((x : Int) < 0) = false := by simp
          cases s
          · have hx3 : x ≤ 3 := HRg.out _ HM.out rfl
            have hx3' : decide ((3 : Int) < x) = false := by simp; omega
            have hx3'' : decide (3 < x) = false := by simp; omega
            go_wp2_with fail
            go_quiet (fail)
            generalize nq = q
            go_wp2_with fail
            go_loopw [14] (fun i wi => ∃ e m2 : Nat, e ≤ j ∧ i = .int .i64 e ∧ Hid (wi = w0.drewN m2)) (fun i _ => j - (intOf i).toNat)
            case atStart => exact ⟨0, m + q, Nat.zero_le _, rfl, by rw [HB.out, World.drewN_drewN]; rfl⟩
            case round =>
              obtain ⟨e, m2, he, rfl, HB2⟩ := hrel
              by_cases hej : e < j
              · have hej' : (e : Int) < j := by omega
                have hidx5 : (0 : Int) ≤ e ∧ (e : Int) < L.length := by omega
                have f1 := dr HB2.out (HE9.out e (by omega)).1
                have f2 := dr HB2.out (HE9.out e (by omega)).2
                have f3 := dr HB2.out (HE9.out j (by omega)).1
                have f4 := dr HB2.out (HE9.out j (by omega)).2
                have hne : ¬ L[e] = L[j] := fun h => by
                  have := (List.getElem_inj HNd.out).1 h
                  omega
                rw [HXJ.out] at f3 f4 hne
                generalize L[e] = y at *
                obtain ⟨s1, x1⟩ := y
                simp only at f1 f2 f3 f4 hne
                cases s1
                focus
                  have hxe : ¬ x1 = x := fun h => hne (by rw [h])
                  have hxe2 : ¬ (x1 : Int) = x := by omega
                  have hxe3 : ((x1 : Int) == x) = false := by simpa using hxe2
                  go_wp2_with fail
                  go_quiet (fail)
                  generalize nq = q2
                  go_wp2_with fail
                rotate_left
                focus
                  skip
                  go_wp2_with fail
                  go_quiet (fail)
                  generalize nq = q2
                  go_wp2_with fail
                rotate_left
                all_goals
                  go_roundw
                  case rel => exact ⟨e + 1, m2 + q2, by omega, by go_num, by rw [HB2.out, World.drewN_drewN]; rfl⟩
                  case measure => simp [intOf]; omega
              · obtain rfl : e = j := by omega
                have hej' : ¬ (e : Int) < e := by omega
                go_wp2_with fail
                go_roundw
                case rel => exact ⟨e + 1, m2, by omega, by go_num, HB2⟩
                case measure => simp [intOf]; omega
          · have hxa : x < area := HSk.out _ HM.out rfl
            have hxa' : decide ((area : Int) ≤ x) = false := by simp; omega
            have hxa'' : decide (area ≤ x) = false := by simp; omega
            go_wp2_with fail
            go_quiet (fail)
            generalize nq = q
            go_wp2_with fail
            go_loopw [14] (fun i wi => ∃ e m2 : Nat, e ≤ j ∧ i = .int .i64 e ∧ Hid (wi = w0.drewN m2)) (fun i _ => j - (intOf i).toNat)
            case atStart => exact ⟨0, m + q, Nat.zero_le _, rfl, by rw [HB.out, World.drewN_drewN]; rfl⟩
            case round =>
              obtain ⟨e, m2, he, rfl, HB2⟩ := hrel
              by_cases hej : e < j
              · have hej' : (e : Int) < j := by omega
                have hidx5 : (0 : Int) ≤ e ∧ (e : Int) < L.length := by omega
                have f1 := dr HB2.out (HE9.out e (by omega)).1
                have f2 := dr HB2.out (HE9.out e (by omega)).2
                have f3 := dr HB2.out (HE9.out j (by omega)).1
                have f4 := dr HB2.out (HE9.out j (by omega)).2
                have hne : ¬ L[e] = L[j] := fun h => by
                  have := (List.getElem_inj HNd.out).1 h
                  omega
                rw [HXJ.out] at f3 f4 hne
                generalize L[e] = y at *
                obtain ⟨s1, x1⟩ := y
                simp only at f1 f2 f3 f4 hne
                cases s1
                focus
                  skip
                  go_wp2_with fail
                  go_quiet (fail)
                  generalize nq = q2
                  go_wp2_with fail
                rotate_left
                focus
                  have hxe : ¬ x1 = x := fun h => hne (by rw [h])
                  have hxe2 : ¬ (x1 : Int) = x := by omega
                  have hxe3 : ((x1 : Int) == x) = false := by simpa using hxe2
                  go_wp2_with fail
                  go_quiet (fail)
                  generalize nq = q2
                  go_wp2_with fail
                rotate_left
                all_goals
                  go_roundw
                  case rel => exact ⟨e + 1, m2 + q2, by omega, by go_num, by rw [HB2.out, World.drewN_drewN]; rfl⟩
                  case measure => simp [intOf]; omega
              · obtain rfl : e = j := by omega
                have hej' : ¬ (e : Int) < e := by omega
                go_wp2_with fail
                go_roundw
                case rel => exact ⟨e + 1, m2, by omega, by go_num, HB2⟩
                case measure => simp [intOf]; omega
        · have hjl' : ¬ (j : Int) < L.length := by omega
          go_wp2_with fail
          go_ret
          exact ⟨rfl, by rw [HBT.out, HB.out]; exact HB3.out m⟩
end Go.Proofs.Ytmbhcpnlfdgkjaa.T
