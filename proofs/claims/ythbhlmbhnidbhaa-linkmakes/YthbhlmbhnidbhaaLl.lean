/- The law's words and objects, of what is the same. The law LinkMakes, given what the program's Link answers. -/
import Derived.Test.YthbhlmbhnidbhaaGp
import Derived.Test.YthbhlmbhnidbhaaLn
namespace Go.Proofs.Ythbhlmbhnidbhaa.T
open Go.RowKit Go.Proofs.Ythbhlmbhnidbhaa.M
set_option linter.unusedVariables false
set_option linter.unusedSimpArgs false
theorem words_same (v1 v2 : Value) (L : List Int) (w : World) (h1 : RowV i32C 1 w v1 L) (h2 : RowV i32C 1 w v2 L) : Calls Try.prog 6 #[v1, v2] w fun e w' => e = .returned (.bool true) ∧ Below w.heap.size w w' := by
  obtain ⟨a1, c1, rfl, r1, r2, H1⟩ := h1
  obtain ⟨a2, c2, rfl, -, -, H2⟩ := h2
  have HE1 : Hid (0 < L.length → ∃ g o, a1 = some ⟨g, o, none⟩ ∧ Hid (∀ w', Below w.heap.size w w' → ∀ j (hj : j < L.length), _)) := fun h => by
    obtain ⟨g, oo, r, hg, E⟩ := H1 h
    exact ⟨g, oo, r, fun w' hw => i32_cells hg E hw⟩
  have HE2 : Hid (0 < L.length → ∃ g o, a2 = some ⟨g, o, none⟩ ∧ Hid (∀ w', Below w.heap.size w w' → ∀ j (hj : j < L.length), _)) := fun h => by
    obtain ⟨g, oo, r, hg, E⟩ := H2 h
    exact ⟨g, oo, r, fun w' hw => i32_cells hg E hw⟩
  clear H1 H2
  have hl : L.length ≤ 9223372036854775807 := by omega
  clear r1 r2
  obtain ⟨nl, HN⟩ : ∃ n, Hid (L.length = n) := ⟨_, rfl⟩
  rw [HN.out] at hl
  rw [HN.out]
  go_enter Try.func6, Try.ntmps6
  go_wp2_with fail
  go_loopw [5] (fun i wr => ∃ k : Nat, k ≤ nl ∧ i = .int .i64 k ∧ Hid (Below w.heap.size w wr)) (fun i _ => nl - (intOf i).toNat)
  case atStart => exact ⟨0, Nat.zero_le _, rfl, Below.refl _ _⟩
  case round =>
    obtain ⟨k, hk, rfl, HB⟩ := hrel
    by_cases hlt : k < nl
    · have hlt' : (k : Int) < nl := by omega
      have hidx : (0 : Int) ≤ k ∧ (k : Int) < nl := by omega
      have hkl : k < L.length := by rw [HN.out]; exact hlt
      obtain ⟨g1, o1, rfl, E1⟩ := HE1.out (by omega)
      obtain ⟨g2, o2, rfl, E2⟩ := HE2.out (by omega)
      have e1 := (E1.out _ HB.out k hkl).1
      have e2 := (E2.out _ HB.out k hkl).1
      generalize L[k] = x at *
      go_wp2_with fail
      go_quiet (fail)
      generalize nq = qn
      go_wp2_with fail
      go_roundw
      case rel => exact ⟨k + 1, by omega, by go_num, HB.out.trans ⟨rfl, rfl, rfl, Nat.le_refl _, fun _ _ => rfl⟩⟩
      case measure => simp [intOf]; omega
    · have hlt' : ¬ (k : Int) < nl := by omega
      go_wp2_with fail
      go_ret
      exact ⟨rfl, HB.out⟩
end Go.Proofs.Ythbhlmbhnidbhaa.T
namespace Go.Proofs.Ythbhlmbhnidbhaa.T
open Go.RowKit Go.Proofs.Ythbhlmbhnidbhaa.M
set_option linter.unusedVariables false
set_option linter.unusedSimpArgs false
theorem rg_cells {w w' : World} {g o : Nat} {L : List Rg} (hg : g < w.heap.size) (E : ∀ j (h : j < L.length), ∃ cs, rgC w L[j] cs ∧ ∀ i u, cs[i]? = some u → w.cell? ⟨g, o + j * 5 + i, none⟩ = some u) (hb : Below w.heap.size w w') (j : Nat) (hj : j < L.length) :
    w'.cell? ⟨g, o + j * 5, none⟩ = some (.string L[j].name) ∧ w'.cell? ⟨g, o + j * 5 + 1, none⟩ = some (.int .i64 L[j].unit) ∧ w'.cell? ⟨g, o + j * 5 + 2, none⟩ = some (.int .i64 L[j].beg) ∧ w'.cell? ⟨g, o + j * 5 + 3, none⟩ = some (.int .i64 L[j].fin) ∧ w'.cell? ⟨g, o + j * 5 + 4, none⟩ = some (.int .i64 L[j].frame) := by
  obtain ⟨cs, ⟨rfl, r⟩, q⟩ := E j hj
  have key : ∀ i u, (rgV L[j])[i]? = some u → w'.cell? ⟨g, o + j * 5 + i, none⟩ = some u := fun i u hu => (hb.cell (p := ⟨g, o + j * 5 + i, none⟩) hg).trans (q i u hu)
  exact ⟨key 0 _ rfl, key 1 _ rfl, key 2 _ rfl, key 3 _ rfl, key 4 _ rfl⟩
theorem LrV.open {w : World} {R : Lr} {v : Value} (h : LrV w R v) : ∃ ca cc da dc ra rc, v = .tuple #[.agg #[.slice ca R.code.length cc, .slice da R.data.length dc, .int .i64 R.mem], .slice ra R.rgs.length rc, .agg #[.int .i64 R.tr.1, .int .i64 R.tr.2.1, .int .i64 R.tr.2.2]] ∧ R.code.length ≤ 9223372036854775807 ∧ R.rgs.length ≤ 9223372036854775807
    ∧ Hid (0 < R.code.length → ∃ g oo, ca = some ⟨g, oo, none⟩ ∧ Hid (∀ w', Below w.heap.size w w' → ∀ j (hj : j < R.code.length), w'.cell? ⟨g, oo + j, none⟩ = some (.int .u32 R.code[j])))
    ∧ RowV i32C 1 w (.slice da R.data.length dc) R.data
    ∧ Hid (0 < R.rgs.length → ∃ g oo, ra = some ⟨g, oo, none⟩ ∧ Hid (∀ w', Below w.heap.size w w' → ∀ j (hj : j < R.rgs.length), w'.cell? ⟨g, oo + j * 5, none⟩ = some (.string R.rgs[j].name) ∧ w'.cell? ⟨g, oo + j * 5 + 1, none⟩ = some (.int .i64 R.rgs[j].unit) ∧ w'.cell? ⟨g, oo + j * 5 + 2, none⟩ = some (.int .i64 R.rgs[j].beg) ∧ w'.cell? ⟨g, oo + j * 5 + 3, none⟩ = some (.int .i64 R.rgs[j].fin) ∧ w'.cell? ⟨g, oo + j * 5 + 4, none⟩ = some (.int .i64 R.rgs[j].frame))) := by
  obtain ⟨cv, dv, rv, rfl, ⟨ca, cc, rfl, c1, c2, C⟩, D, ⟨ra, rc, rfl, r1, r2, RR⟩⟩ := h
  have hD := D
  obtain ⟨da, dc, rfl, -⟩ := hD
  refine ⟨ca, cc, da, dc, ra, rc, rfl, by omega, by omega, fun h0 => ?_, D, fun h0 => ?_⟩
  · obtain ⟨g, oo, e, hg, E⟩ := C h0
    exact ⟨g, oo, e, fun w' hw j hj => (nw_cells hg E hw j hj).1⟩
  · obtain ⟨g, oo, e, hg, E⟩ := RR h0
    exact ⟨g, oo, e, fun w' hw j hj => rg_cells hg E hw j hj⟩
/-- What the program is to answer. -/
def Pr18 : Prop := ∀ (a : Option Addr) (n c : Nat) (l : List Ob) (mem : Int) (w : World), Obs w (.slice a n c) l → -9223372036854775808 ≤ mem → mem ≤ 9223372036854775807 → Calls Try.prog 4 #[.slice a n c, .int .i64 mem] w (PLink w l mem)
set_option maxRecDepth 100000 in
set_option maxHeartbeats 4000000 in
theorem links_law (P : Pr18) (a : Option Addr) (n c : Nat) (l : List Ob) (mem : Int) (w : World) (hv : Obs w (.slice a n c) l) (hm0 : -9223372036854775808 ≤ mem) (hm1 : mem ≤ 9223372036854775807) : Calls Try.prog 3 #[.slice a n c, .int .i64 mem] w fun e w' => e = .returned (.bool true) ∧ Below w.heap.size w w' := by
  have HP := hide (P a n c l mem w hv hm0 hm1)
  have HQ := hide (fun (w' : World) (hb : Below w.heap.size w w') => linkr_any a n c l mem w' (hv.below hb) hm0 hm1)
  clear P hv
  go_enter Try.func3, Try.ntmps3
  go_wp2_with fail
  go_at_call 4
  refine HP.out.mono ?_
  rintro e w1 ⟨hb1, v1, rfl, hL1⟩
  obtain ⟨ca1, cc1, da1, dc1, ra1, rc1, rfl, hc63, hr63, HC1, HD1, HR1⟩ := hL1.open
  clear hL1 HP
  have HF := hide ((((Fr.start w).call hb1).alloc (q := w1.heap.size) rfl #[.slice ca1 (linkO l mem).code.length cc1, .slice da1 (linkO l mem).data.length dc1, .int .i64 (linkO l mem).mem] 26).alloc (q := w1.heap.size + 1) (by simp) #[.int .i64 (linkO l mem).tr.1, .int .i64 (linkO l mem).tr.2.1, .int .i64 (linkO l mem).tr.2.2] 30)
  have HB := hide ((((Fr.start w1)).alloc (q := w1.heap.size) rfl #[.slice ca1 (linkO l mem).code.length cc1, .slice da1 (linkO l mem).data.length dc1, .int .i64 (linkO l mem).mem] 26).alloc (q := w1.heap.size + 1) (by simp) #[.int .i64 (linkO l mem).tr.1, .int .i64 (linkO l mem).tr.2.1, .int .i64 (linkO l mem).tr.2.2] 30)
  go_wp2_with fail
  go_at_call 5
  refine (HQ.out _ HF.out.below).mono ?_
  rintro e w3 ⟨hb3, v3, rfl, hL3⟩
  obtain ⟨ca2, cc2, da2, dc2, ra2, rc2, rfl, -, -, HC2, HD2, HR2⟩ := hL3.open
  clear hL3 HQ
  have HB13 : Hid (Below w1.heap.size w1 w3) := (HB.out.call hb3).below
  replace HF := hide (((HF.out.call hb3).alloc (q := w3.heap.size) rfl #[.slice ca2 (linkO l mem).code.length cc2, .slice da2 (linkO l mem).data.length dc2, .int .i64 (linkO l mem).mem] 26).alloc (q := w3.heap.size + 1) (by simp) #[.int .i64 (linkO l mem).tr.1, .int .i64 (linkO l mem).tr.2.1, .int .i64 (linkO l mem).tr.2.2] 30)
  replace HB := hide ((((Fr.start w3)).alloc (q := w3.heap.size) rfl #[.slice ca2 (linkO l mem).code.length cc2, .slice da2 (linkO l mem).data.length dc2, .int .i64 (linkO l mem).mem] 26).alloc (q := w3.heap.size + 1) (by simp) #[.int .i64 (linkO l mem).tr.1, .int .i64 (linkO l mem).tr.2.1, .int .i64 (linkO l mem).tr.2.2] 30).tail.tail
  have HW := hide (fun (w' : World) (hb : Below w3.heap.size w3 w') => words_same _ _ (linkO l mem).data w' (RowV.below (w := w1) (w' := w') (fun _ _ h => h) HD1 (HB13.out.trans (hb.mono HB13.out.size))) (RowV.below (w := w3) (w' := w') (fun _ _ h => h) HD2 hb))
  clear hb1 hb3 HD1 HD2
  have HC1' := hide (fun h0 => by
    obtain ⟨g, oo, e, E⟩ := HC1.out h0
    exact (⟨g, oo, e, fun w' hb => E.out w' (HB13.out.trans (hb.mono HB13.out.size))⟩ : ∃ g oo, ca1 = some ⟨g, oo, none⟩ ∧ ∀ w', Below w3.heap.size w3 w' → ∀ j (hj : j < (linkO l mem).code.length), w'.cell? ⟨g, oo + j, none⟩ = some (.int .u32 (linkO l mem).code[j])))
  have HR1' := hide (fun h0 => by
    obtain ⟨g, oo, e, E⟩ := HR1.out h0
    exact (⟨g, oo, e, fun w' hb => E.out w' (HB13.out.trans (hb.mono HB13.out.size))⟩ : ∃ g oo, ra1 = some ⟨g, oo, none⟩ ∧ ∀ w', Below w3.heap.size w3 w' → ∀ j (hj : j < (linkO l mem).rgs.length), w'.cell? ⟨g, oo + j * 5, none⟩ = some (.string (linkO l mem).rgs[j].name) ∧ w'.cell? ⟨g, oo + j * 5 + 1, none⟩ = some (.int .i64 (linkO l mem).rgs[j].unit) ∧ w'.cell? ⟨g, oo + j * 5 + 2, none⟩ = some (.int .i64 (linkO l mem).rgs[j].beg) ∧ w'.cell? ⟨g, oo + j * 5 + 3, none⟩ = some (.int .i64 (linkO l mem).rgs[j].fin) ∧ w'.cell? ⟨g, oo + j * 5 + 4, none⟩ = some (.int .i64 (linkO l mem).rgs[j].frame)))
  clear HC1 HR1 HB13
  generalize linkO l mem = R at *
  obtain ⟨CO, DA, ME, RG, t0, t1, t2⟩ := R
  simp only at *
  obtain ⟨nc, HNC⟩ : ∃ n, Hid (CO.length = n) := ⟨_, hide rfl⟩
  obtain ⟨nr, HNR⟩ : ∃ n, Hid (RG.length = n) := ⟨_, hide rfl⟩
  rw [HNC.out] at HF HB hc63
  rw [HNR.out] at hr63
  have d0 := HF.out.cell 0 rfl
  have d1 := HF.out.cell 1 rfl
  have d2 := HF.out.cell 2 rfl
  have d3 := HF.out.cell 3 rfl
  rw [HNC.out, HNR.out]
  go_wp2_with fail
  go_at_call 6
  refine (HW.out _ HB.out.below).mono ?_
  rintro e w5 ⟨rfl, hb⟩
  replace HF := hide (HF.out.call hb)
  replace HB := hide (HB.out.call hb)
  clear hb HW d0 d1 d2 d3
  generalize hbt2 : w3.heap.size + 1 = bt2 at *
  generalize hbm2 : w3.heap.size = bm2 at *
  generalize hbt1 : w1.heap.size + 1 = bt1 at *
  generalize hbm1 : w1.heap.size = bm1 at *
  clear hbt2 hbm2 hbt1 hbm1
  go_wp2_with fail
  go_loopw [11] (fun i wr => ∃ k : Nat, k ≤ nc ∧ i = .int .i64 k ∧ Hid (Fr w.heap.size w wr [.blk bt2 #[.int .i64 t0, .int .i64 t1, .int .i64 t2] 30, .blk bm2 #[.slice ca2 nc cc2, .slice da2 DA.length dc2, .int .i64 ME] 26, .blk bt1 #[.int .i64 t0, .int .i64 t1, .int .i64 t2] 30, .blk bm1 #[.slice ca1 nc cc1, .slice da1 DA.length dc1, .int .i64 ME] 26]) ∧ Hid (Fr bm2 w3 wr [])) (fun i _ => nc - (intOf i).toNat)
  case atStart => exact ⟨0, Nat.zero_le _, rfl, HF, HB⟩
  case round =>
    clear HF HB
    obtain ⟨k, hk, rfl, HF, HB⟩ := hrel
    have d1 := HF.out.cell 1 rfl
    have d3 := HF.out.cell 3 rfl
    by_cases hlt : k < nc
    · have hlt' : (k : Int) < nc := by omega
      have hidx : (0 : Int) ≤ k ∧ (k : Int) < nc := by omega
      have hkl : k < CO.length := by rw [HNC.out]; exact hlt
      obtain ⟨g1, o1, rfl, E1⟩ := HC1'.out (by omega)
      obtain ⟨g2, o2, rfl, E2⟩ := HC2.out (by omega)
      have e1 := E1 _ HB.out.below k hkl
      have e2 := E2.out _ HB.out.below k hkl
      generalize CO[k]'hkl = x at *
      go_wp2_with fail
      go_quiet (fail)
      generalize nq = qn
      go_wp2_with fail
      go_roundw
      case rel => exact ⟨k + 1, by omega, by go_num, HF.out.drewN qn, HB.out.drewN qn⟩
      case measure => simp [intOf]; omega
    · have hlt' : ¬ (k : Int) < nc := by omega
      go_wp2_with fail
      clear d1 d3
      go_loopw [12] (fun i wr => ∃ k : Nat, k ≤ nr ∧ i = .int .i64 k ∧ Hid (Fr w.heap.size w wr [.blk bt2 #[.int .i64 t0, .int .i64 t1, .int .i64 t2] 30, .blk bm2 #[.slice ca2 nc cc2, .slice da2 DA.length dc2, .int .i64 ME] 26, .blk bt1 #[.int .i64 t0, .int .i64 t1, .int .i64 t2] 30, .blk bm1 #[.slice ca1 nc cc1, .slice da1 DA.length dc1, .int .i64 ME] 26]) ∧ Hid (Fr bm2 w3 wr [])) (fun i _ => nr - (intOf i).toNat)
      case atStart => exact ⟨0, Nat.zero_le _, rfl, HF, HB⟩
      case round =>
        clear HF HB
        obtain ⟨k, hk, rfl, HF, HB⟩ := hrel
        by_cases hlt : k < nr
        · have hlt' : (k : Int) < nr := by omega
          have hidx : (0 : Int) ≤ k ∧ (k : Int) < nr := by omega
          have hkl : k < RG.length := by rw [HNR.out]; exact hlt
          obtain ⟨g1, o1, rfl, E1⟩ := HR1'.out (by omega)
          obtain ⟨g2, o2, rfl, E2⟩ := HR2.out (by omega)
          obtain ⟨e0, e1, e2, e3, e4⟩ := E1 _ HB.out.below k hkl
          obtain ⟨f0, f1, f2, f3, f4⟩ := E2.out _ HB.out.below k hkl
          generalize RG[k]'hkl = S at *
          obtain ⟨nm, un, bg, fi, fr⟩ := S
          simp only at *
          go_wp2_with fail
          go_quiet (fail)
          generalize nq = qn
          go_wp2_with fail
          go_roundw
          case rel => exact ⟨k + 1, by omega, by go_num, HF.out.drewN qn, HB.out.drewN qn⟩
          case measure => simp [intOf]; omega
        · have hlt' : ¬ (k : Int) < nr := by omega
          go_wp2_with fail
          go_ret
          exact ⟨rfl, HF.out.below⟩
end Go.Proofs.Ythbhlmbhnidbhaa.T
