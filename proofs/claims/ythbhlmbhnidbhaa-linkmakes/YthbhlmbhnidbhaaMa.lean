/- The contract of the reference's May (of an object). -/
import Derived.Deep.RegionHeldLaw
import Derived.Deep.DeepCutAuto
import Derived.Test.YthbhlmbhnidbhaaMb
namespace Go.Proofs.Ythbhlmbhnidbhaa.T
open Go.RowKit Go.Proofs.Ythbhlmbhnidbhaa.M
set_option linter.unusedVariables false
set_option linter.unusedSimpArgs false
set_option maxRecDepth 100000 in
set_option maxHeartbeats 8000000 in
theorem mayr_any (o : Ob) (v : Value) (w : World) (hv : ObV w o v) : Calls Try.prog 22 #[v] w fun e w' => e = .returned (.bool (mayO o)) ∧ Below w.heap.size w w' := by
  obtain ⟨cv, dv, sv, rv, rfl, ⟨ca, cc, rfl, -, -, HC⟩, ⟨da, dc, rfl, -⟩, ⟨sa, sc, rfl, -, -, HS⟩, ⟨ra, rc, rfl, -, -, HR⟩⟩ := hv
  have hC := hide HC
  have hS := hide HS
  have hR := hide HR
  clear HC HS HR
  have HM : Hid (mayO o = (decide (o.code.length ≤ 6000) && decide (o.data.length ≤ 16000) && decide (o.syms.length ≤ 400) && decide (o.rels.length ≤ 6000) && decide (symSt o.syms o.syms.length = some ((o.code.length : Int), (o.data.length : Int))) && (List.range o.rels.length).all (relB o))) := rfl
  obtain ⟨nc, HNC⟩ : ∃ n, Hid (o.code.length = n) := ⟨_, rfl⟩
  obtain ⟨nd, HND⟩ : ∃ n, Hid (o.data.length = n) := ⟨_, rfl⟩
  obtain ⟨ns, HNS⟩ : ∃ n, Hid (o.syms.length = n) := ⟨_, rfl⟩
  obtain ⟨nr, HNR⟩ : ∃ n, Hid (o.rels.length = n) := ⟨_, rfl⟩
  rw [HNC.out, HND.out, HNS.out, HNR.out] at HM
  rw [HNC.out, HND.out, HNS.out, HNR.out]
  have HF := hide ((Fr.start w).alloc rfl #[.slice ca nc cc, .slice da nd dc, .slice sa ns sc, .slice ra nr rc] 57)
  have HN := hide (fun s w' hs => name_any s w' hs)
  have HG := hide (fun s w' hs => sign_any s w' hs)
  obtain ⟨M, HMM⟩ : ∃ M, Hid (mayO o = M) := ⟨_, rfl⟩
  rw [HMM.out] at HM
  rw [HMM.out]
  clear HMM
  by_cases h1 : nc ≤ 6000
  case neg =>
    have h1' : (6000 : Int) < nc := by omega
    obtain rfl : M = false := by rw [HM.out]; simp [h1]
    go_enter Try.func22, Try.ntmps22
    go_wp2_with fail
    go_ret
    exact ⟨rfl, HF.out.below⟩
  have h1' : ¬ (6000 : Int) < nc := by omega
  by_cases h2 : nd ≤ 16000
  case neg =>
    have h2' : (16000 : Int) < nd := by omega
    obtain rfl : M = false := by rw [HM.out]; simp [h2]
    go_enter Try.func22, Try.ntmps22
    go_wp2_with fail
    go_ret
    exact ⟨rfl, HF.out.below⟩
  have h2' : ¬ (16000 : Int) < nd := by omega
  by_cases h3 : ns ≤ 400
  case neg =>
    have h3' : (400 : Int) < ns := by omega
    obtain rfl : M = false := by rw [HM.out]; simp [h3]
    go_enter Try.func22, Try.ntmps22
    go_wp2_with fail
    go_ret
    exact ⟨rfl, HF.out.below⟩
  have h3' : ¬ (400 : Int) < ns := by omega
  by_cases h4 : nr ≤ 6000
  case neg =>
    have h4' : (6000 : Int) < nr := by omega
    obtain rfl : M = false := by rw [HM.out]; simp [h4]
    go_enter Try.func22, Try.ntmps22
    go_wp2_with fail
    go_ret
    exact ⟨rfl, HF.out.below⟩
  have h4' : ¬ (6000 : Int) < nr := by omega
  have HSB : Hid (∀ k, k ≤ ns → symSt o.syms k = none → M = false) := fun k hk h => by
    rw [HM.out, symSt_none h ns hk]
    simp
  have HSE : Hid (¬ symSt o.syms ns = some ((nc : Int), (nd : Int)) → M = false) := fun h => by
    rw [HM.out]
    simp [h]
  have HRB : Hid (∀ k, k < nr → relB o k = false → M = false) := fun k hk h => by
    rw [HM.out]
    have : (List.range nr).all (relB o) = false := by
      cases e : (List.range nr).all (relB o) with
      | false => rfl
      | true =>
        have := List.all_eq_true.1 e k (List.mem_range.2 hk)
        rw [this] at h
        cases h
    rw [this]
    simp
  have HRT : Hid (symSt o.syms ns = some ((nc : Int), (nd : Int)) → (∀ k, k < nr → relB o k = true) → M = true) := fun h h' => by
    rw [HM.out, List.all_eq_true.2 fun k hk => h' k (List.mem_range.1 hk)]
    simp [h, h1, h2, h3, h4]
  clear HM
  have HE0 : Hid (0 < ns → ∃ g oo, sa = some ⟨g, oo, none⟩ ∧ Hid (∀ w', Below w.heap.size w w' → ∀ j (hj : j < o.syms.length), _)) := fun h => by
    obtain ⟨g, oo, r, hg, E⟩ := hS.out (by rw [HNS.out]; exact h)
    exact ⟨g, oo, r, fun w' hw => sy_cells hg E hw⟩
  have HR0 : Hid (0 < nr → ∃ g oo, ra = some ⟨g, oo, none⟩ ∧ Hid (∀ w', Below w.heap.size w w' → ∀ j (hj : j < o.rels.length), _)) := fun h => by
    obtain ⟨g, oo, r, hg, E⟩ := hR.out (by rw [HNR.out]; exact h)
    exact ⟨g, oo, r, fun w' hw => re_cells hg E hw⟩
  have HC0 : Hid (0 < nc → ∃ g oo, ca = some ⟨g, oo, none⟩ ∧ Hid (∀ w', Below w.heap.size w w' → ∀ j (hj : j < o.code.length), _)) := fun h => by
    obtain ⟨g, oo, r, hg, E⟩ := hC.out (by rw [HNC.out]; exact h)
    exact ⟨g, oo, r, fun w' hw => nw_cells hg E hw⟩
  clear hS hR hC
  go_enter Try.func22, Try.ntmps22
  go_wp2_with fail
  clear h1' h2' h3' h4'
  generalize hbq : w.heap.size = bq at *
  have HBQ : Hid (w.heap.size = bq) := hbq
  clear hbq
  go_loopw [3, 4, 5] (fun x y i wr => ∃ (k : Nat) (c d : Int), k ≤ ns ∧ x = .int .i64 c ∧ y = .int .i64 d ∧ i = .int .i64 k ∧ Hid (symSt o.syms k = some (c, d)) ∧ Hid (Fr bq w wr [.blk bq #[.slice ca nc cc, .slice da nd dc, .slice sa ns sc, .slice ra nr rc] 57])) (fun _ _ i _ => ns - (intOf i).toNat)
  case atStart => exact ⟨0, 0, 0, Nat.zero_le _, rfl, rfl, rfl, rfl, HF⟩
  case round =>
    clear HF
    obtain ⟨k, c, d, hk, rfl, rfl, rfl, HST, HF⟩ := hrel
    have c0 := HF.out.cell 0 rfl
    by_cases hlt : k < ns
    · have hlt' : (k : Int) < ns := by omega
      have hidx : (0 : Int) ≤ k ∧ (k : Int) < ns := by omega
      have hkl : k < o.syms.length := by rw [HNS.out]; exact hlt
      obtain ⟨g, oo, rfl, HE⟩ := HE0.out (by omega)
      clear HE0
      obtain ⟨e0, e1, e2, e3, e4, e5, e6, b1, b2, b3, b4, b5, b6⟩ := HE.out _ HF.out.below k hkl
      obtain ⟨q1, q2, q3, q4⟩ := symSt_nonneg HST.out
      have HSt : Hid (∀ t1 t2 t3, nameB (bytes o.syms[k].name) = t1 → sgnB o.syms[k].sign = t2 → newB o.syms k o.syms[k] = t3 → symSt o.syms (k + 1) = if t1 && t2 && t3 then symStep c d o.syms[k] else none) := fun t1 t2 t3 r1 r2 r3 => by
        subst r1 r2 r3
        unfold symSt
        rw [HST.out, List.getElem?_eq_getElem hkl]
      have HNe : Hid ((∀ j (hj : j < k), (o.syms[j]'(by omega)).name ≠ o.syms[k].name) → newB o.syms k o.syms[k] = true) := fun h => by
        unfold newB
        rw [any_upto fun j hj => ?_]
        · rfl
        · rw [List.getElem?_eq_getElem (by omega)]
          exact decide_eq_false (h j hj)
      have HNf : Hid (∀ j (hj : j < k), (o.syms[j]'(by omega)).name = o.syms[k].name → newB o.syms k o.syms[k] = false) := fun j hj h => by
        unfold newB
        rw [any_at hj]
        · rfl
        · rw [List.getElem?_eq_getElem (by omega)]
          exact decide_eq_true h
      have HBad := hide (HSB.out (k + 1) (by omega))
      have HNm := hide (HN.out o.syms[k].name)
      have HSg := hide (HG.out o.syms[k].sign)
      generalize hsy : o.syms[k] = S at *
      clear hsy
      obtain ⟨nm, kd, st, pl, sz, sg, fr⟩ := S
      simp only at e0 e1 e2 e3 e4 e5 e6 b1 b2 b3 b4 b5 b6 HSt HNm HSg HNe HNf
      unfold In64 at b1 b2 b3 b4
      have HFa := hide (HF.out.alloc (q := wr.heap.size) rfl #[.string nm, .int .i64 kd, .bool st, .int .i64 pl, .int .i64 sz, .string sg, .int .i64 fr] 59)
      have HT := hide HST.out
      go_wp2_with fail
      go_at_call 38
      refine (HNm.out _ b5).mono ?_
      rintro e w1 ⟨rfl, hb⟩
      replace HF := hide (HFa.out.call hb)
      clear hb HFa HNm e0 e1 e2 e3 e4 e5 e6
      generalize hbs : wr.heap.size = bs at *
      clear hbs
      replace c0 := HF.out.cell 1 rfl
      have s0 := HF.out.cell 0 rfl
      generalize hNB : nameB (bytes nm) = NB at *
      clear hNB
      cases NB
      · obtain rfl := HBad.out ((HSt.out _ _ _ rfl rfl rfl).trans (by simp))
        go_wp2_with fail
        go_ret
        exact ⟨rfl, HF.out.below' HBQ.out.symm⟩
      go_wp2_with fail
      go_at_call 39
      refine (HSg.out _ b6).mono ?_
      rintro e w1 ⟨rfl, rfl⟩
      generalize hSB : sgnB sg = SB at *
      clear hSB HSg
      cases SB
      · obtain rfl := HBad.out ((HSt.out _ _ _ rfl rfl rfl).trans (by simp))
        go_wp2_with fail
        go_ret
        exact ⟨rfl, HF.out.below' HBQ.out.symm⟩
      go_wp2_with fail
      clear s0 c0
      go_loopw [7] (fun i wr => ∃ j : Nat, j ≤ k ∧ i = .int .i64 j ∧ Hid (Fr bq w wr [.blk bs #[.string nm, .int .i64 kd, .bool st, .int .i64 pl, .int .i64 sz, .string sg, .int .i64 fr] 59, .blk bq #[.slice ca nc cc, .slice da nd dc, .slice (some ⟨g, oo, none⟩) ns sc, .slice ra nr rc] 57]) ∧ Hid (∀ m (hm : m < k), m < j → (o.syms[m]'(by omega)).name ≠ nm)) (fun i _ => k - (intOf i).toNat)
      case atStart => exact ⟨0, Nat.zero_le _, rfl, HF, fun m _ hm => absurd hm (by omega)⟩
      case round =>
        clear HF
        obtain ⟨j, hj, rfl, HF, HA⟩ := hrel
        by_cases hjk : j < k
        · have hjk' : (j : Int) < k := by omega
          have hidx2 : (0 : Int) ≤ j ∧ (j : Int) < ns := by omega
          obtain ⟨f0, -⟩ := HE.out _ HF.out.below j (by omega)
          have c0 := HF.out.cell 1 rfl
          have s0 := HF.out.cell 0 rfl
          have HNj := hide (HNf.out j hjk)
          have HAj : Hid ((o.syms[j]'(by omega)).name ≠ nm → ∀ m (hm : m < k), m < j + 1 → (o.syms[m]'(by omega)).name ≠ nm) := fun h m hm hmj => by
            by_cases q : m = j
            · subst q; exact h
            · exact HA.out m hm (by omega)
          generalize hnj : (o.syms[j]'(by omega)).name = nj at *
          clear hnj HA
          by_cases hq : nj = nm
          · obtain rfl := HBad.out ((HSt.out _ _ _ rfl rfl (HNj.out hq)).trans (by simp))
            subst hq
            go_wp2_with fail
            go_quiet (fail)
            generalize nq = qn
            go_wp2_with fail
            go_ret
            exact ⟨rfl, (HF.out.drewN qn).below' HBQ.out.symm⟩
          · have hq' : (nj.toList == nm.toList) = false := by rw [str_eq]; simpa using hq
            go_wp2_with fail
            go_quiet (fail)
            generalize nq = qn
            go_wp2_with fail
            go_roundw
            case rel => exact ⟨j + 1, by omega, by go_num, HF.out.drewN qn, HAj.out hq⟩
            case measure => simp [intOf]; omega
        · have hjk' : ¬ (j : Int) < k := by omega
          have HNB := hide (HNe.out fun m hm => HA.out m hm (by omega))
          clear HA HNe HNf HE
          have s0 := HF.out.cell 0 rfl
          have c0 := HF.out.cell 1 rfl
          by_cases h3 : kd = 3
          · by_cases hp : pl = 0
            · by_cases hz : sz = 0
              · by_cases hf : fr = 0
                · cases st
                  · have HSn := hide ((HSt.out _ _ _ rfl rfl HNB.out).trans (show _ = some (c, d) by simp [symStep, h3, hp, hz, hf]))
                    clear HSt HNB HBad
                    go_wp2_with fail
                    go_roundw
                    case rel => exact ⟨k + 1, c, d, by omega, by go_num, by go_num, by go_num, HSn, HF.out.tail⟩
                    case measure => simp [intOf]; omega
                  · obtain rfl := HBad.out ((HSt.out _ _ _ rfl rfl HNB.out).trans (by simp [symStep, h3, hp, hz, hf]))
                    go_wp2_with fail
                    go_ret
                    exact ⟨rfl, HF.out.below' HBQ.out.symm⟩
                · have hf' : (fr == 0) = false := by simpa using hf
                  obtain rfl := HBad.out ((HSt.out _ _ _ rfl rfl HNB.out).trans (by simp [symStep, h3, hp, hz, hf]))
                  go_wp2_with fail
                  go_ret
                  exact ⟨rfl, HF.out.below' HBQ.out.symm⟩
              · have hz' : (sz == 0) = false := by simpa using hz
                obtain rfl := HBad.out ((HSt.out _ _ _ rfl rfl HNB.out).trans (by simp [symStep, h3, hp, hz]))
                go_wp2_with fail
                go_ret
                exact ⟨rfl, HF.out.below' HBQ.out.symm⟩
            · have hp' : (pl == 0) = false := by simpa using hp
              obtain rfl := HBad.out ((HSt.out _ _ _ rfl rfl HNB.out).trans (by simp [symStep, h3, hp]))
              go_wp2_with fail
              go_ret
              exact ⟨rfl, HF.out.below' HBQ.out.symm⟩
          · have h3' : (kd == 3) = false := by simpa using h3
            by_cases h4 : kd = 4
            · by_cases hp : pl = 0
              · by_cases hz : sz = 0
                · by_cases hf : fr = 0
                  · cases st
                    · have HSn := hide ((HSt.out _ _ _ rfl rfl HNB.out).trans (show _ = some (c, d) by simp [symStep, h4, hp, hz, hf]))
                      clear HSt HNB HBad
                      go_wp2_with fail
                      go_roundw
                      case rel => exact ⟨k + 1, c, d, by omega, by go_num, by go_num, by go_num, HSn, HF.out.tail⟩
                      case measure => simp [intOf]; omega
                    · obtain rfl := HBad.out ((HSt.out _ _ _ rfl rfl HNB.out).trans (by simp [symStep, h4, hp, hz, hf]))
                      go_wp2_with fail
                      go_ret
                      exact ⟨rfl, HF.out.below' HBQ.out.symm⟩
                  · have hf' : (fr == 0) = false := by simpa using hf
                    obtain rfl := HBad.out ((HSt.out _ _ _ rfl rfl HNB.out).trans (by simp [symStep, h4, hp, hz, hf]))
                    go_wp2_with fail
                    go_ret
                    exact ⟨rfl, HF.out.below' HBQ.out.symm⟩
                · have hz' : (sz == 0) = false := by simpa using hz
                  obtain rfl := HBad.out ((HSt.out _ _ _ rfl rfl HNB.out).trans (by simp [symStep, h4, hp, hz]))
                  go_wp2_with fail
                  go_ret
                  exact ⟨rfl, HF.out.below' HBQ.out.symm⟩
              · have hp' : (pl == 0) = false := by simpa using hp
                obtain rfl := HBad.out ((HSt.out _ _ _ rfl rfl HNB.out).trans (by simp [symStep, h4, hp]))
                go_wp2_with fail
                go_ret
                exact ⟨rfl, HF.out.below' HBQ.out.symm⟩
            · have h4' : (kd == 4) = false := by simpa using h4
              by_cases hs1 : sz < 1
              · obtain rfl := HBad.out ((HSt.out _ _ _ rfl rfl HNB.out).trans (by simp [symStep, h3, h4, hs1]))
                go_wp2_with fail
                go_ret
                exact ⟨rfl, HF.out.below' HBQ.out.symm⟩
              · by_cases hs2 : 16000 < sz
                · obtain rfl := HBad.out ((HSt.out _ _ _ rfl rfl HNB.out).trans (by simp [symStep, h3, h4, hs1, hs2]))
                  go_wp2_with fail
                  go_ret
                  exact ⟨rfl, HF.out.below' HBQ.out.symm⟩
                · by_cases hk1 : kd = 1
                  · by_cases hpc : pl = c
                    · by_cases hf1 : fr < 0
                      · have hf3 : ¬ 0 ≤ fr := by omega
                        obtain rfl := HBad.out ((HSt.out _ _ _ rfl rfl HNB.out).trans (by simp [symStep, h3, h4, hs1, hs2, hk1, hpc, hf3]))
                        go_wp2_with fail
                        go_ret
                        exact ⟨rfl, HF.out.below' HBQ.out.symm⟩
                      · by_cases hf2 : 16000 < fr
                        · have hf3 : ¬ fr ≤ 16000 := by omega
                          obtain rfl := HBad.out ((HSt.out _ _ _ rfl rfl HNB.out).trans (by simp [symStep, h3, h4, hs1, hs2, hk1, hpc, hf3]))
                          go_wp2_with fail
                          go_ret
                          exact ⟨rfl, HF.out.below' HBQ.out.symm⟩
                        · have hw1 : -9223372036854775808 ≤ c + sz := by omega
                          have hw2 : c + sz ≤ 9223372036854775807 := by omega
                          have hs3 : ¬ (sz < 1 ∨ 16000 < sz) := by omega
                          have hf3 : 0 ≤ fr ∧ fr ≤ 16000 := by omega
                          have HSn := hide ((HSt.out _ _ _ rfl rfl HNB.out).trans (show _ = some (c + sz, d) by simp [symStep, h3, h4, hs1, hs2, hk1, hs3, hpc, hf3.1, hf3.2]))
                          clear HSt HNB HBad
                          go_wp2_with fail
                          go_roundw
                          case rel => exact ⟨k + 1, c + sz, d, by omega, by go_num, by go_num, by go_num, HSn, HF.out.tail⟩
                          case measure => simp [intOf]; omega
                    · have hpc' : (pl == c) = false := by simpa using hpc
                      obtain rfl := HBad.out ((HSt.out _ _ _ rfl rfl HNB.out).trans (by simp [symStep, h3, h4, hs1, hs2, hk1, hpc]))
                      go_wp2_with fail
                      go_ret
                      exact ⟨rfl, HF.out.below' HBQ.out.symm⟩
                  · have hk1' : (kd == 1) = false := by simpa using hk1
                    by_cases hk2 : kd = 2
                    · by_cases hpd : pl = d
                      · by_cases hf : fr = 0
                        · have hw1 : -9223372036854775808 ≤ d + sz := by omega
                          have hw2 : d + sz ≤ 9223372036854775807 := by omega
                          have hs3 : ¬ (sz < 1 ∨ 16000 < sz) := by omega
                          have HSn := hide ((HSt.out _ _ _ rfl rfl HNB.out).trans (show _ = some (c, d + sz) by simp [symStep, h3, h4, hs1, hs2, hk1, hk2, hs3, hpd, hf]))
                          clear HSt HNB HBad
                          go_wp2_with fail
                          go_roundw
                          case rel => exact ⟨k + 1, c, d + sz, by omega, by go_num, by go_num, by go_num, HSn, HF.out.tail⟩
                          case measure => simp [intOf]; omega
                        · have hf' : (fr == 0) = false := by simpa using hf
                          obtain rfl := HBad.out ((HSt.out _ _ _ rfl rfl HNB.out).trans (by simp [symStep, h3, h4, hs1, hs2, hk1, hk2, hpd, hf]))
                          go_wp2_with fail
                          go_ret
                          exact ⟨rfl, HF.out.below' HBQ.out.symm⟩
                      · have hpd' : (pl == d) = false := by simpa using hpd
                        obtain rfl := HBad.out ((HSt.out _ _ _ rfl rfl HNB.out).trans (by simp [symStep, h3, h4, hs1, hs2, hk1, hk2, hpd]))
                        go_wp2_with fail
                        go_ret
                        exact ⟨rfl, HF.out.below' HBQ.out.symm⟩
                    · have hk2' : (kd == 2) = false := by simpa using hk2
                      obtain rfl := HBad.out ((HSt.out _ _ _ rfl rfl HNB.out).trans (by simp [symStep, h3, h4, hs1, hs2, hk1, hk2]))
                      go_wp2_with fail
                      go_ret
                      exact ⟨rfl, HF.out.below' HBQ.out.symm⟩
    · have hlt' : ¬ (k : Int) < ns := by omega
      obtain rfl : ns = k := by omega
      clear HE0 HSB HN HG
      by_cases hcn : c = nc
      case neg =>
        have hcn' : (c == (nc : Int)) = false := by simpa using hcn
        obtain rfl := HSE.out (by rw [HST.out]; intro h; simp at h; exact hcn h.1)
        go_wp2_with fail
        go_ret
        exact ⟨rfl, HF.out.below' HBQ.out.symm⟩
      subst hcn
      by_cases hdn : d = nd
      case neg =>
        have hdn' : (d == (nd : Int)) = false := by simpa using hdn
        obtain rfl := HSE.out (by rw [HST.out]; intro h; simp at h; exact hdn h)
        go_wp2_with fail
        go_ret
        exact ⟨rfl, HF.out.below' HBQ.out.symm⟩
      subst hdn
      have HRT2 := hide (HRT.out HST.out)
      clear HRT HSE HST
      go_wp2_with fail
      clear c0
      go_loopw [8] (fun i wr => ∃ j : Nat, j ≤ nr ∧ i = .int .i64 j ∧ Hid (Fr bq w wr [.blk bq #[.slice ca nc cc, .slice da nd dc, .slice sa ns sc, .slice ra nr rc] 57]) ∧ Hid (∀ m, m < j → relB o m = true)) (fun i _ => nr - (intOf i).toNat)
      case atStart => exact ⟨0, Nat.zero_le _, rfl, HF, fun m hm => absurd hm (by omega)⟩
      case round =>
        clear HF
        obtain ⟨k, hk, rfl, HF, HA⟩ := hrel
        have c0 := HF.out.cell 0 rfl
        by_cases hlt : k < nr
        · have hlt' : (k : Int) < nr := by omega
          have hidx : (0 : Int) ≤ k ∧ (k : Int) < nr := by omega
          have hkl : k < o.rels.length := by rw [HNR.out]; exact hlt
          obtain ⟨g, oo, rfl, HE⟩ := HR0.out (by omega)
          clear HR0
          obtain ⟨e0, e1, e2, b1, b2, b3⟩ := HE.out _ HF.out.below k hkl
          have HBad := hide (HRB.out k hlt)
          have HRel := hide (relB_at hkl)
          rw [HNC.out, HNS.out] at HRel
          have HNx : Hid (relB o k = true → ∀ m, m < k + 1 → relB o m = true) := fun h m hm => by
            by_cases q : m = k
            · subst q; exact h
            · exact HA.out m (by omega)
          generalize hre : o.rels[k] = S at *
          clear hre HA
          obtain ⟨pl, sy, ad⟩ := S
          simp only at e0 e1 e2 b1 b2 b3 HRel
          unfold In64 at b1 b2 b3
          have HFa := hide (HF.out.alloc (q := wr.heap.size) rfl #[.int .i64 pl, .int .i64 sy, .int .i64 ad] 63)
          go_wp2_with fail
          generalize hbs : wr.heap.size = bs at *
          clear hbs e0 e1 e2 HF
          have HF := HFa
          clear HFa
          have s0 := HF.out.cell 0 rfl
          replace c0 := HF.out.cell 1 rfl
          generalize hw1 : wr.alloc _ = wr1 at *
          obtain ⟨B34, HB34⟩ : ∃ B, Hid ((decide (0 ≤ pl) && decide (pl < (nc : Int)) && prevB o pl k) = B) := ⟨_, rfl⟩
          go_cut [193] from 167 to 193 (fun c wx => c = .bool (!B34) ∧ ∃ n, wx = wr1.drewN n)
          case first =>
            by_cases hp1 : pl < 0
            · have hp0 : ¬ 0 ≤ pl := by omega
              have hp2 : decide (pl < 0) = true := decide_eq_true hp1
              obtain rfl : false = B34 := (show (decide _ && decide _ && _) = false by simp [hp0]).symm.trans HB34.out
              clear HB34 HRel HBad HNx
              go_quiet (fail)
              generalize nq = qn
              go_wp2_with fail
              go_meet
              case rel => exact ⟨rfl, qn, rfl⟩
            · obtain ⟨pn, rfl⟩ : ∃ pn : Nat, pl = pn := ⟨pl.toNat, by omega⟩
              have hp0 : (0 : Int) ≤ pn := by omega
              have hp2 : decide ((pn : Int) < 0) = false := decide_eq_false (by omega)
              by_cases hpc : (pn : Int) < nc
              · have hpc4 : ¬ (nc : Int) ≤ pn := by omega
                have hpc5 : decide ((nc : Int) ≤ pn) = false := decide_eq_false hpc4
                have hpc6 : decide (nc ≤ pn) = false := decide_eq_false (by omega)
                by_cases hk0 : k = 0
                · subst hk0
                  have hP : prevB o (pn : Int) 0 = true := rfl
                  rw [hP] at HB34
                  obtain rfl : true = B34 := (show (decide _ && decide _ && _) = true by simp [hpc]).symm.trans HB34.out
                  clear HB34 HRel HBad HNx
                  go_quiet (fail)
                  generalize nq = qn
                  go_wp2_with fail
                  go_meet
                  case rel => exact ⟨rfl, qn, rfl⟩
                · obtain ⟨j, rfl⟩ : ∃ j, k = j + 1 := ⟨k - 1, by omega⟩
                  obtain ⟨f0, -, -, ⟨f5, f6⟩, -⟩ := HE.out _ HF.out.below j (by omega)
                  have HPB := hide (prevB_at (x := (pn : Int)) (show j < o.rels.length by omega))
                  rw [HPB.out] at HB34
                  clear HPB
                  generalize hqq : (o.rels[j]'(by omega)).pl = qq at *
                  clear hqq
                  have hj1 : (0 : Int) < ((j + 1 : Nat) : Int) := by omega
                  have hj2 : decide ((0 : Int) < ((j + 1 : Nat) : Int)) = true := decide_eq_true hj1
                  have hj3 : decide ((0 : Int) < (j : Int) + 1) = true := decide_eq_true (by omega)
                  have hix2 : (0 : Int) ≤ j ∧ (j : Int) < nr := by omega
                  by_cases hq1 : qq < (pn : Int)
                  · have hq2 : ¬ (pn : Int) ≤ qq := by omega
                    have hq3 : decide ((pn : Int) ≤ qq) = false := decide_eq_false hq2
                    obtain rfl : true = B34 := (show (decide _ && decide _ && _) = true by simp [hpc, hq1]).symm.trans HB34.out
                    clear HB34 HRel HBad HNx
                    go_quiet (fail)
                    generalize nq = qn
                    go_wp2_with fail
                    go_meet
                    case rel => exact ⟨rfl, qn, rfl⟩
                  · have hq2 : (pn : Int) ≤ qq := by omega
                    have hq3 : decide ((pn : Int) ≤ qq) = true := decide_eq_true hq2
                    obtain rfl : false = B34 := (show (decide _ && decide _ && _) = false by simp [hq1]).symm.trans HB34.out
                    clear HB34 HRel HBad HNx
                    go_quiet (fail)
                    generalize nq = qn
                    go_wp2_with fail
                    go_meet
                    case rel => exact ⟨rfl, qn, rfl⟩
              · have hpc4 : (nc : Int) ≤ pn := by omega
                have hpc5 : decide ((nc : Int) ≤ pn) = true := decide_eq_true hpc4
                have hpc6 : decide (nc ≤ pn) = true := decide_eq_true (by omega)
                obtain rfl : false = B34 := (show (decide _ && decide _ && _) = false by simp [hpc]).symm.trans HB34.out
                clear HB34 HRel HBad HNx
                go_quiet (fail)
                generalize nq = qn
                go_wp2_with fail
                go_meet
                case rel => exact ⟨rfl, qn, rfl⟩
          case rest =>
            obtain ⟨rfl, qn, rfl⟩ := hcut
            replace HF := hide (HF.out.drewN qn)
            generalize hw2 : wr1.drewN qn = wr2 at *
            clear hw2
            replace s0 := HF.out.cell 0 rfl
            replace c0 := HF.out.cell 1 rfl
            cases B34
            · obtain rfl := HBad.out (by rw [HRel.out, HB34.out]; simp)
              go_wp2_with fail
              go_ret
              exact ⟨rfl, HF.out.below' HBQ.out.symm⟩
            · obtain ⟨hp0, hpc⟩ : 0 ≤ pl ∧ pl < nc := by
                have h := HB34.out
                simp only [Bool.and_eq_true, decide_eq_true_eq] at h
                exact h.1
              obtain ⟨pn, rfl⟩ : ∃ pn : Nat, pl = pn := ⟨pl.toNat, by omega⟩
              replace HRel := HRel.out
              rw [HB34.out, Bool.true_and] at HRel
              replace HRel := hide HRel
              clear HB34
              obtain ⟨gc, oc, rfl, HEc⟩ := HC0.out (by omega)
              have hpl : pn < o.code.length := by rw [HNC.out]; omega
              obtain ⟨f1, hN4⟩ := HEc.out _ HF.out.below pn hpl
              have hix : (0 : Int) ≤ pn ∧ (pn : Int) < nc := by omega
              have HIB := hide (insB_at hpl)
              have HDO := hide (fun h => W.rdecode_ok (o.code[pn]'hpl) wr2 hN4.1 (by have := hN4.2; omega) h)
              have HDB := hide (fun h => W.rdecode_bad (o.code[pn]'hpl) wr2 hN4.1 (by have := hN4.2; omega) h)
              generalize hvv : (o.code[pn]'hpl) = vv at *
              clear hvv hpl hN4
              generalize insB (o.code.getD (pn : Int).toNat 0) = IB at *
              by_cases hd : dck vv = 0
              case neg =>
                have HDB2 := hide (HDB.out hd)
                clear HDO HDB
                obtain rfl : IB = false := HIB.out.trans (by rw [decide_eq_false hd]; rfl)
                obtain rfl := HBad.out (by rw [HRel.out]; simp)
                go_wp2_with fail
                go_at_call 14
                refine HDB2.out.mono ?_
                rintro e w2 ⟨rfl, hb⟩
                replace HF := hide ((HF.out.call hb).alloc (q := w2.heap.size) rfl #[.int .i64 0, .int .i64 0, .int .i64 0, .int .i64 0, .int .i64 0] 53)
                clear hb HDB2 f1
                go_wp2_with fail
                go_ret
                exact ⟨rfl, HF.out.below' HBQ.out.symm⟩
              have HDO2 := hide (HDO.out hd)
              clear HDO HDB
              replace HIB : Hid (IB = ((decide (vv / 16777216 = 2) || decide (vv / 16777216 = 19) || decide (vv / 16777216 = 20) || decide (vv / 16777216 = 21)) && decide (dM (kind (vv / 16777216)) (vv % 65536) = 0))) := HIB.out.trans (by rw [decide_eq_true hd]; rfl)
              clear hd
              generalize him : dM (kind (vv / 16777216)) (vv % 65536) = im at *
              generalize hic : dC (kind (vv / 16777216)) (vv % 65536) = ic at *
              generalize hop : vv / 16777216 = op at *
              generalize hia : vv / 1048576 % 16 = ia at *
              generalize hib : vv / 65536 % 16 = ib at *
              clear hop hia hib hic him
              go_wp2_with fail
              go_at_call 14
              refine HDO2.out.mono ?_
              rintro e w2 ⟨rfl, hb⟩
              replace HF := hide ((HF.out.call hb).alloc (q := w2.heap.size) rfl #[.int .i64 op, .int .i64 ia, .int .i64 ib, .int .i64 ic, .int .i64 im] 53)
              clear hb HDO2 f1
              go_upto_region 37 with fail
              generalize hbi : w2.heap.size = bi at *
              generalize hw3 : w2.alloc _ = wr3 at *
              clear hbi hw3
              have i0 := HF.out.cell 0 rfl
              replace s0 := HF.out.cell 1 rfl
              replace c0 := HF.out.cell 2 rfl
              obtain ⟨OB, HOB⟩ : ∃ B, Hid ((decide (op = 2) || decide (op = 19) || decide (op = 20) || decide (op = 21)) = B) := ⟨_, rfl⟩
              go_cut [12] from 204 to 221 (fun c wx => c = .bool OB ∧ wx = wr3)
              case first =>
                by_cases ho2 : op = 2
                · subst ho2
                  clear HIB
                  obtain rfl : true = OB := (show _ = true by simp).symm.trans HOB.out
                  clear HOB
                  go_wp2_with fail
                  go_meet
                  case rel => exact ⟨rfl, rfl⟩
                · have ho2' : (op == 2) = false := by simpa using ho2
                  by_cases ho19 : op = 19
                  · subst ho19
                    clear HIB
                    obtain rfl : true = OB := (show _ = true by simp).symm.trans HOB.out
                    clear HOB
                    go_wp2_with fail
                    go_meet
                    case rel => exact ⟨rfl, rfl⟩
                  · have ho19' : (op == 19) = false := by simpa using ho19
                    by_cases ho20 : op = 20
                    · subst ho20
                      clear HIB
                      obtain rfl : true = OB := (show _ = true by simp).symm.trans HOB.out
                      clear HOB
                      go_wp2_with fail
                      go_meet
                      case rel => exact ⟨rfl, rfl⟩
                    · have ho20' : (op == 20) = false := by simpa using ho20
                      by_cases ho21 : op = 21
                      · subst ho21
                        clear HIB
                        obtain rfl : true = OB := (show _ = true by simp).symm.trans HOB.out
                        clear HOB
                        go_wp2_with fail
                        go_meet
                        case rel => exact ⟨rfl, rfl⟩
                      · have ho21' : (op == 21) = false := by simpa using ho21
                        obtain rfl : false = OB := (show _ = false by simp [ho2, ho19, ho20, ho21]).symm.trans HOB.out
                        clear HOB
                        go_wp2_with fail
                        go_meet
                        case rel => exact ⟨rfl, rfl⟩
              case rest =>
                obtain ⟨rfl, rfl⟩ := hcut
                replace HIB := HIB.out
                rw [HOB.out] at HIB
                clear HOB
                go_upto_region 38 with fail
                obtain ⟨B38, HB38⟩ : ∃ B, Hid ((OB && decide (im = 0) && decide (0 ≤ sy) && decide (sy < ns) && decide (0 ≤ ad) && decide (ad ≤ 6000)) = B) := ⟨_, rfl⟩
                rw [HIB] at HRel
                clear HIB
                replace HRel : Hid (relB o k = B38) := HRel.out.trans HB38.out
                go_cut [255] from 222 to 255 (fun c wx => c = .bool (!B38) ∧ wx = wc)
                case first =>
                  clear HRel HBad HNx
                  cases OB
                  · obtain rfl : false = B38 := (show _ = false by simp).symm.trans HB38.out
                    clear HB38
                    go_wp2_with fail
                    go_meet
                    case rel => exact ⟨rfl, rfl⟩
                  · by_cases hm0 : im = 0
                    · subst hm0
                      by_cases hsy3 : sy < 0
                      · have hsy0 : ¬ 0 ≤ sy := by omega
                        obtain rfl : false = B38 := (show _ = false by simp [hsy0]).symm.trans HB38.out
                        clear HB38
                        go_wp2_with fail
                        go_meet
                        case rel => exact ⟨rfl, rfl⟩
                      · have hsy0 : 0 ≤ sy := by omega
                        by_cases hsy1 : sy < ns
                        · have hsy4 : ¬ (ns : Int) ≤ sy := by omega
                          by_cases had3 : ad < 0
                          · have had0 : ¬ 0 ≤ ad := by omega
                            obtain rfl : false = B38 := (show _ = false by simp [had0]).symm.trans HB38.out
                            clear HB38
                            go_wp2_with fail
                            go_meet
                            case rel => exact ⟨rfl, rfl⟩
                          · have had0 : 0 ≤ ad := by omega
                            by_cases had2 : 6000 < ad
                            · have had1 : ¬ ad ≤ 6000 := by omega
                              obtain rfl : false = B38 := (show _ = false by simp [had1]).symm.trans HB38.out
                              clear HB38
                              go_wp2_with fail
                              go_meet
                              case rel => exact ⟨rfl, rfl⟩
                            · have had1 : ad ≤ 6000 := by omega
                              obtain rfl : true = B38 := (show _ = true by simp [hsy0, hsy1, had0, had1]).symm.trans HB38.out
                              clear HB38
                              go_wp2_with fail
                              go_meet
                              case rel => exact ⟨rfl, rfl⟩
                        · have hsy4 : (ns : Int) ≤ sy := by omega
                          obtain rfl : false = B38 := (show _ = false by simp [hsy1]).symm.trans HB38.out
                          clear HB38
                          go_wp2_with fail
                          go_meet
                          case rel => exact ⟨rfl, rfl⟩
                    · have hm0' : (im == 0) = false := by simpa using hm0
                      obtain rfl : false = B38 := (show _ = false by simp [hm0]).symm.trans HB38.out
                      clear HB38
                      go_wp2_with fail
                      go_meet
                      case rel => exact ⟨rfl, rfl⟩
                case rest =>
                  obtain ⟨rfl, rfl⟩ := hcut
                  clear HB38
                  cases B38
                  · obtain rfl := HBad.out HRel.out
                    go_wp2_with fail
                    go_ret
                    exact ⟨rfl, HF.out.below' HBQ.out.symm⟩
                  · have HRn := hide (HNx.out HRel.out)
                    clear HRel HNx HBad
                    go_wp2_with fail
                    go_roundw
                    case rel => exact ⟨k + 1, by omega, by go_num, HF.out.tail.tail, HRn⟩
                    case measure => simp [intOf]; omega
        · have hlt' : ¬ (k : Int) < nr := by omega
          obtain rfl := HRT2.out fun m hm => HA.out m (by omega)
          go_wp2_with fail
          go_ret
          exact ⟨rfl, HF.out.below' HBQ.out.symm⟩
end Go.Proofs.Ythbhlmbhnidbhaa.T
