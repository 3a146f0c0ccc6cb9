/- The contracts of the program's isOpen, relocsMay. -/
import Derived.Test.YthbhlmbhnidbhaaQa
import Derived.Test.YthbhlmbhnidbhaaMb
import Derived.Test.YthbhlmbhnidbhaaPDec
namespace Go.Proofs.Ythbhlmbhnidbhaa.T
open Go.RowKit Go.Proofs.Ythbhlmbhnidbhaa.M
set_option linter.unusedVariables false
set_option linter.unusedSimpArgs false

set_option maxRecDepth 100000 in
set_option maxHeartbeats 4000000 in
theorem isopen_any (v : Int) (w : World) (hv : N4 v) : Calls Try.prog 53 #[.int .u32 v] w fun e w' => e = .returned (.bool (insB v)) ∧ Below w.heap.size w w' := by
  obtain ⟨h0, h1⟩ := hv
  have HI : Hid (insB v = (decide (dck v = 0) && (decide (v / 16777216 = 2) || decide (v / 16777216 = 19) || decide (v / 16777216 = 20) || decide (v / 16777216 = 21)) && decide (dM (kind (v / 16777216)) (v % 65536) = 0))) := rfl
  by_cases hk : dck v = 0
  case neg =>
    have hd := fun w' => W.decode_bad v w' h0 (by omega) hk
    have e : insB v = false := by rw [HI.out]; simp [hk]
    rw [e]
    clear HI
    go_enter Try.func53, Try.ntmps53
    go_wp2_with fail
    go_at_call 47
    refine (hd _).mono ?_
    rintro e w1 ⟨rfl, hb⟩
    have HB := hide hb
    clear hb
    go_wp2_with fail
    go_ret
    exact ⟨by first | rfl | (simp; done), HB.out.alloc HB.out.size _⟩
  have hd := fun w' => W.decode_ok v w' h0 (by omega) hk
  have HJ : Hid (insB v = ((decide (v / 16777216 = 2) || decide (v / 16777216 = 19) || decide (v / 16777216 = 20) || decide (v / 16777216 = 21)) && decide (dM (kind (v / 16777216)) (v % 65536) = 0))) := by show _ = _; rw [HI.out]; simp [hk]
  clear HI hk
  rw [HJ.out]
  clear HJ
  generalize dM (kind (v / 16777216)) (v % 65536) = m at *
  generalize dC (kind (v / 16777216)) (v % 65536) = c at *
  generalize v / 1048576 % 16 = a at *
  generalize v / 65536 % 16 = b at *
  generalize v / 16777216 = op at *
  by_cases hm : m = 0
  case pos =>
    by_cases k2 : op = 2
    case pos =>
      subst k2
      go_enter Try.func53, Try.ntmps53
      go_wp2_with fail
      go_at_call 47
      refine (hd _).mono ?_
      rintro e w1 ⟨rfl, hb⟩
      have HB := hide hb
      clear hb
      go_wp2_with fail
      go_ret
      exact ⟨by first | rfl | (simp [hm]; done), HB.out.alloc HB.out.size _⟩
    by_cases k19 : op = 19
    case pos =>
      subst k19
      go_enter Try.func53, Try.ntmps53
      go_wp2_with fail
      go_at_call 47
      refine (hd _).mono ?_
      rintro e w1 ⟨rfl, hb⟩
      have HB := hide hb
      clear hb
      go_wp2_with fail
      go_ret
      exact ⟨by first | rfl | (simp [hm]; done), HB.out.alloc HB.out.size _⟩
    by_cases k20 : op = 20
    case pos =>
      subst k20
      go_enter Try.func53, Try.ntmps53
      go_wp2_with fail
      go_at_call 47
      refine (hd _).mono ?_
      rintro e w1 ⟨rfl, hb⟩
      have HB := hide hb
      clear hb
      go_wp2_with fail
      go_ret
      exact ⟨by first | rfl | (simp [hm]; done), HB.out.alloc HB.out.size _⟩
    by_cases k21 : op = 21
    case pos =>
      subst k21
      go_enter Try.func53, Try.ntmps53
      go_wp2_with fail
      go_at_call 47
      refine (hd _).mono ?_
      rintro e w1 ⟨rfl, hb⟩
      have HB := hide hb
      clear hb
      go_wp2_with fail
      go_ret
      exact ⟨by first | rfl | (simp [hm]; done), HB.out.alloc HB.out.size _⟩
    go_enter Try.func53, Try.ntmps53
    go_wp2_with fail
    go_at_call 47
    refine (hd _).mono ?_
    rintro e w1 ⟨rfl, hb⟩
    have HB := hide hb
    clear hb
    go_wp2_with fail
    go_ret
    exact ⟨by first | rfl | (simp [hm, k2, k19, k20, k21]; done), HB.out.alloc HB.out.size _⟩
  case neg =>
    by_cases k2 : op = 2
    case pos =>
      subst k2
      go_enter Try.func53, Try.ntmps53
      go_wp2_with fail
      go_at_call 47
      refine (hd _).mono ?_
      rintro e w1 ⟨rfl, hb⟩
      have HB := hide hb
      clear hb
      go_wp2_with fail
      go_ret
      exact ⟨by first | rfl | (simp [hm]; done), HB.out.alloc HB.out.size _⟩
    by_cases k19 : op = 19
    case pos =>
      subst k19
      go_enter Try.func53, Try.ntmps53
      go_wp2_with fail
      go_at_call 47
      refine (hd _).mono ?_
      rintro e w1 ⟨rfl, hb⟩
      have HB := hide hb
      clear hb
      go_wp2_with fail
      go_ret
      exact ⟨by first | rfl | (simp [hm]; done), HB.out.alloc HB.out.size _⟩
    by_cases k20 : op = 20
    case pos =>
      subst k20
      go_enter Try.func53, Try.ntmps53
      go_wp2_with fail
      go_at_call 47
      refine (hd _).mono ?_
      rintro e w1 ⟨rfl, hb⟩
      have HB := hide hb
      clear hb
      go_wp2_with fail
      go_ret
      exact ⟨by first | rfl | (simp [hm]; done), HB.out.alloc HB.out.size _⟩
    by_cases k21 : op = 21
    case pos =>
      subst k21
      go_enter Try.func53, Try.ntmps53
      go_wp2_with fail
      go_at_call 47
      refine (hd _).mono ?_
      rintro e w1 ⟨rfl, hb⟩
      have HB := hide hb
      clear hb
      go_wp2_with fail
      go_ret
      exact ⟨by first | rfl | (simp [hm]; done), HB.out.alloc HB.out.size _⟩
    go_enter Try.func53, Try.ntmps53
    go_wp2_with fail
    go_at_call 47
    refine (hd _).mono ?_
    rintro e w1 ⟨rfl, hb⟩
    have HB := hide hb
    clear hb
    go_wp2_with fail
    go_ret
    exact ⟨by first | rfl | (simp [hm, k2, k19, k20, k21]; done), HB.out.alloc HB.out.size _⟩

set_option maxRecDepth 100000 in
set_option maxHeartbeats 4000000 in
theorem rels_any (o : Ob) (v : Value) (w : World) (hv : ObV w o v) : Calls Try.prog 44 #[v] w fun e w' => e = .returned (.bool ((List.range o.rels.length).all (relB o))) ∧ Below w.heap.size w w' := by
  obtain ⟨cv, dv, sv, rv, rfl, ⟨ca, cc, rfl, hcc, hcm, HC⟩, ⟨da, dc, rfl, hdc, hdm, -⟩, ⟨sa, sc, rfl, hsc, hsm, -⟩, ⟨ra, rc, rfl, hrc, hrm, HR⟩⟩ := hv
  have hC := hide HC
  have hR := hide HR
  clear HC HR
  obtain ⟨nc, HNC⟩ : ∃ n, Hid (o.code.length = n) := ⟨_, rfl⟩
  obtain ⟨nd, HND⟩ : ∃ n, Hid (o.data.length = n) := ⟨_, rfl⟩
  obtain ⟨ns, HNS⟩ : ∃ n, Hid (o.syms.length = n) := ⟨_, rfl⟩
  obtain ⟨nr, HNR⟩ : ∃ n, Hid (o.rels.length = n) := ⟨_, rfl⟩
  rw [HNC.out] at hcc
  rw [HNS.out] at hsc
  rw [HNR.out] at hrc
  have hc64 : (nc : Int) ≤ 9223372036854775807 := by omega
  have hs64 : (ns : Int) ≤ 9223372036854775807 := by omega
  have hr64 : (nr : Int) ≤ 9223372036854775807 := by omega
  clear hcc hsc hrc hcm hsm hrm hdc hdm
  rw [HNC.out, HND.out, HNS.out, HNR.out]
  have HF := hide ((Fr.start w).alloc rfl #[.slice ca nc cc, .slice da nd dc, .slice sa ns sc, .slice ra nr rc] 57)
  have HX : Hid (∀ k, k < nr → relB o k = false → (List.range nr).all (relB o) = false) := fun k hk h => by
    cases e : (List.range nr).all (relB o) with
    | false => rfl
    | true =>
      have := List.all_eq_true.1 e k (List.mem_range.2 hk)
      rw [this] at h
      cases h
  have HT : Hid ((∀ k, k < nr → relB o k = true) → (List.range nr).all (relB o) = true) := fun h => List.all_eq_true.2 fun k hk => h k (List.mem_range.1 hk)
  generalize (List.range nr).all (relB o) = M at *
  have HR0 : Hid (0 < nr → ∃ g oo, ra = some ⟨g, oo, none⟩ ∧ Hid (∀ w', Below w.heap.size w w' → ∀ j (hj : j < o.rels.length), _)) := fun h => by
    obtain ⟨g, oo, r, hg, E⟩ := hR.out (by rw [HNR.out]; exact h)
    exact ⟨g, oo, r, fun w' hw => re_cells hg E hw⟩
  have HC0 : Hid (0 < nc → ∃ g oo, ca = some ⟨g, oo, none⟩ ∧ Hid (∀ w', Below w.heap.size w w' → ∀ j (hj : j < o.code.length), _)) := fun h => by
    obtain ⟨g, oo, r, hg, E⟩ := hC.out (by rw [HNC.out]; exact h)
    exact ⟨g, oo, r, fun w' hw => nw_cells hg E hw⟩
  clear hR hC
  go_enter Try.func44, Try.ntmps44
  have c0 := HF.out.cell 0 rfl
  go_wp2_with fail
  clear c0
  generalize hbq : w.heap.size = bq at *
  have HBQ : Hid (w.heap.size = bq) := hbq
  clear hbq
  go_loopw [3, 9] (fun x i wr => ∃ (k : Nat) (last : Int), k ≤ nr ∧ x = .int .i64 last ∧ i = .int .i64 k ∧ Hid (∀ j, j < k → relB o j = true) ∧ Hid (-1 ≤ last ∧ last ≤ 9223372036854775807 ∧ ∀ p, (last < p ↔ (0 ≤ p ∧ prevB o p k = true))) ∧ Hid (Fr bq w wr [.blk bq #[.slice ca nc cc, .slice da nd dc, .slice sa ns sc, .slice ra nr rc] 57])) (fun _ i _ => nr - (intOf i).toNat)
  case atStart => exact ⟨0, -1, Nat.zero_le _, rfl, rfl, fun j hj => absurd hj (by omega), ⟨by omega, by omega, fun p => by simp only [prevB, and_true]; omega⟩, HF⟩
  case round =>
    clear HF
    obtain ⟨k, last, hk, rfl, rfl, HK, HL, HF⟩ := hrel
    by_cases hlt : k < nr
    · have hlt' : (k : Int) < nr := by omega
      have hidx : (0 : Int) ≤ k ∧ (k : Int) < nr := by omega
      have hkl : k < o.rels.length := by rw [HNR.out]; exact hlt
      obtain ⟨g, oo, rfl, HE⟩ := HR0.out (by omega)
      clear HR0
      obtain ⟨e0, e1, e2, b1, b2, b3⟩ := HE.out _ HF.out.below k hkl
      clear HE
      obtain ⟨l0, l1, l2⟩ := HL.out
      have HXk := hide (HX.out k hlt)
      have HRel := hide (relB_at (o := o) hkl)
      rw [HNC.out, HNS.out] at HRel
      have HNx : Hid (relB o k = true → ∀ j, j < k + 1 → relB o j = true) := fun h j hj => by
        by_cases q : j = k
        · subst q; exact h
        · exact HK.out j (by omega)
      have HLx : Hid (0 ≤ o.rels[k].pl → ∀ p, (o.rels[k].pl < p ↔ (0 ≤ p ∧ prevB o p (k + 1) = true))) := fun h p => by
        rw [prevB_at hkl]
        simp only [decide_eq_true_eq]
        omega
      have HP := hide (l2 o.rels[k].pl)
      clear HL l2 HK HX HT
      have HF1 := hide (HF.out.alloc (q := wr.heap.size) rfl #[.int .i64 o.rels[k].pl, .int .i64 o.rels[k].sym, .int .i64 o.rels[k].add] 63)
      have HBW := hide HF1.out.below
      have c0 := HF.out.cell 0 rfl
      have c1 := HF1.out.cell 0 rfl
      have c2 := HF1.out.cell 1 rfl
      unfold In64 at *
      generalize relB o k = rb at *
      generalize hpl : o.rels[k].pl = pl at *
      generalize o.rels[k].sym = sy at *
      generalize o.rels[k].add = ad at *
      clear hpl
      generalize prevB o pl k = pv at *
      by_cases q1 : last < pl
      case neg =>
        have q1' : pl ≤ last := by omega
        have hrb : rb = false := by
          rw [HRel.out]
          by_cases z : 0 ≤ pl
          · have : pv = false := by
              cases pv with
              | false => rfl
              | true => exact absurd (HP.out.2 ⟨z, rfl⟩) q1
            simp [this]
          · simp [z]
        obtain rfl := HXk.out hrb
        clear HP HRel
        go_wp2_with fail
        go_ret
        exact ⟨rfl, HF1.out.below' HBQ.out.symm⟩
      have q1' : ¬ pl ≤ last := by omega
      obtain ⟨z0, rfl⟩ := HP.out.1 q1
      clear HP
      by_cases q2 : pl < nc
      case neg =>
        have q2' : (nc : Int) ≤ pl := by omega
        obtain rfl := HXk.out (by rw [HRel.out]; simp [q2])
        clear HRel
        go_wp2_with fail
        go_ret
        exact ⟨rfl, HF1.out.below' HBQ.out.symm⟩
      have q2' : ¬ (nc : Int) ≤ pl := by omega
      obtain ⟨p, rfl⟩ := Int.eq_ofNat_of_zero_le z0
      have hpn : p < nc := by omega
      have hpl : p < o.code.length := by rw [HNC.out]; exact hpn
      have hidp : (0 : Int) ≤ (p : Int) ∧ (p : Int) < nc := by omega
      obtain ⟨gc, oc, rfl, HEC⟩ := HC0.out (by omega)
      clear HC0
      obtain ⟨d0, hn4⟩ := HEC.out _ HBW.out p hpl
      clear HEC
      have HIO := hide (fun w' => isopen_any o.code[p] w' hn4)
      have HIB : Hid (o.code.getD ((p : Nat) : Int).toNat 0 = o.code[p]) := by
        show _ = _
        rw [Int.toNat_natCast, List.getD_eq_getElem?_getD, List.getElem?_eq_getElem hpl]
        rfl
      rw [HIB.out] at HRel
      clear HIB
      generalize insB o.code[p] = ib at *
      generalize o.code[p] = cw at *
      unfold N4 at hn4
      cases ib with
      | false =>
        obtain rfl := HXk.out (by rw [HRel.out]; simp)
        clear HRel
        go_wp2_with fail
        go_at_call 53
        refine (HIO.out _).mono ?_
        rintro e w1 ⟨rfl, hb⟩
        replace HF1 := hide (HF1.out.call hb)
        clear hb
        go_wp2_with fail
        go_ret
        exact ⟨rfl, HF1.out.below' HBQ.out.symm⟩
      | true =>
      go_wp2_with fail
      go_at_call 53
      refine (HIO.out _).mono ?_
      rintro e w1 ⟨rfl, hb⟩
      replace HF1 := hide (HF1.out.call hb)
      clear hb c0 c1 c2
      have c1 := HF1.out.cell 0 rfl
      have c2 := HF1.out.cell 1 rfl
      by_cases q3 : 0 ≤ sy
      case neg =>
        have q3' : sy < 0 := by omega
        obtain rfl := HXk.out (by rw [HRel.out]; simp [q3])
        clear HRel
        go_wp2_with fail
        go_ret
        exact ⟨rfl, HF1.out.below' HBQ.out.symm⟩
      have q3' : ¬ sy < 0 := by omega
      by_cases q4 : sy < ns
      case neg =>
        have q4' : (ns : Int) ≤ sy := by omega
        obtain rfl := HXk.out (by rw [HRel.out]; simp [q4])
        clear HRel
        go_wp2_with fail
        go_ret
        exact ⟨rfl, HF1.out.below' HBQ.out.symm⟩
      have q4' : ¬ (ns : Int) ≤ sy := by omega
      by_cases q5 : 0 ≤ ad
      case neg =>
        have q5' : ad < 0 := by omega
        obtain rfl := HXk.out (by rw [HRel.out]; simp [q5])
        clear HRel
        go_wp2_with fail
        go_ret
        exact ⟨rfl, HF1.out.below' HBQ.out.symm⟩
      have q5' : ¬ ad < 0 := by omega
      by_cases q6 : ad ≤ 6000
      case neg =>
        have q6' : 6000 < ad := by omega
        obtain rfl := HXk.out (by rw [HRel.out]; simp [q6])
        clear HRel
        go_wp2_with fail
        go_ret
        exact ⟨rfl, HF1.out.below' HBQ.out.symm⟩
      have q6' : ¬ 6000 < ad := by omega
      have HQ : Hid (rb = true) := HRel.out.trans (by simp [z0, q2, q3, q4, q5, q6])
      clear HRel
      go_wp2_with fail
      go_roundw
      case rel => exact ⟨k + 1, p, by omega, rfl, by go_num, HNx.out HQ.out, ⟨by omega, by omega, HLx.out (by omega)⟩, HF1.out.tail⟩
      case measure => simp [intOf]; omega
    · obtain rfl : k = nr := by omega
      have hlt' : ¬ (k : Int) < k := by omega
      obtain rfl := HT.out HK.out
      go_wp2_with fail
      go_ret
      exact ⟨rfl, HF.out.below' HBQ.out.symm⟩
end Go.Proofs.Ythbhlmbhnidbhaa.T
