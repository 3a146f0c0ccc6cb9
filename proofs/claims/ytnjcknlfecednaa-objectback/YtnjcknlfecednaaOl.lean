/- The law's words and objects, of what is the same. -/
import Derived.Test.YtnjcknlfecednaaLw
namespace Go.Proofs.Ytnjcknlfecednaa.T
open Go.RowKit Go.Proofs.Ytnjcknlfecednaa.M
set_option linter.unusedVariables false
set_option linter.unusedSimpArgs false
theorem words_same (v1 v2 : Value) (L : List Int) (w : World) (h1 : RowV i32C 1 w v1 L) (h2 : RowV i32C 1 w v2 L) : Calls Try.prog 39 #[v1, v2] w fun e w' => e = .returned (.bool true) ∧ Below w.heap.size w w' := by
  obtain ⟨a1, c1, rfl, r1, r2, H1⟩ := h1
  obtain ⟨a2, c2, rfl, -, -, H2⟩ := h2
  have HE1 : Hid (0 < L.length → ∃ g o, a1 = some ⟨g, o, none⟩ ∧ Hid (∀ w', Below w.heap.size w w' → ∀ j (hj : j < L.length), _)) := fun h => by
    obtain ⟨g, oo, r, hg, E⟩ := H1 h
    exact ⟨g, oo, r, fun w' hw => i32_cells hg E hw⟩
  have HE2 : Hid (0 < L.length → ∃ g o, a2 = some ⟨g, o, none⟩ ∧ Hid (∀ w', Below w.heap.size w w' → ∀ j (hj : j < L.length), _)) := fun h => by
    obtain ⟨g, oo, r, hg, E⟩ := H2 h
    exact ⟨g, oo, r, fun w' hw => i32_cells hg E hw⟩
  clear H1 H2
  have hl : L.length ≤ 9223372036854775807 := by omega
  clear r1 r2
  obtain ⟨nl, HN⟩ : ∃ n, Hid (L.length = n) := ⟨_, rfl⟩
  rw [HN.out] at hl
  rw [HN.out]
  go_enter Try.func39, Try.ntmps39
  go_wp2_with fail
  go_loopw [5] (fun i wr => ∃ k : Nat, k ≤ nl ∧ i = .int .i64 k ∧ Hid (Below w.heap.size w wr)) (fun i _ => nl - (intOf i).toNat)
  case atStart => exact ⟨0, Nat.zero_le _, rfl, Below.refl _ _⟩
  case round =>
    obtain ⟨k, hk, rfl, HB⟩ := hrel
    by_cases hlt : k < nl
    · have hlt' : (k : Int) < nl := by omega
      have hidx : (0 : Int) ≤ k ∧ (k : Int) < nl := by omega
      have hkl : k < L.length := by rw [HN.out]; exact hlt
      obtain ⟨g1, o1, rfl, E1⟩ := HE1.out (by omega)
      obtain ⟨g2, o2, rfl, E2⟩ := HE2.out (by omega)
      have e1 := (E1.out _ HB.out k hkl).1
      have e2 := (E2.out _ HB.out k hkl).1
      generalize L[k] = x at *
      go_wp2_with fail
      go_quiet (fail)
      generalize nq = qn
      go_wp2_with fail
      go_roundw
      case rel => exact ⟨k + 1, by omega, by go_num, HB.out.trans ⟨rfl, rfl, rfl, Nat.le_refl _, fun _ _ => rfl⟩⟩
      case measure => simp [intOf]; omega
    · have hlt' : ¬ (k : Int) < nl := by omega
      go_wp2_with fail
      go_ret
      exact ⟨rfl, HB.out⟩
set_option maxRecDepth 100000 in
set_option maxHeartbeats 4000000 in
theorem objects_same (o : Ob) (v1 v2 : Value) (w : World) (h1 : ObV w o v1) (h2 : ObV w o v2) : Calls Try.prog 12 #[v1, v2] w fun e w' => e = .returned (.bool true) ∧ Below w.heap.size w w' := by
  obtain ⟨cv1, dv1, sv1, rv1, rfl, ⟨ca1, cc1, rfl, cl1, cl2, C1⟩, D1, ⟨sa1, sc1, rfl, sl1, sl2, S1⟩, ⟨ra1, rc1, rfl, rl1, rl2, R1⟩⟩ := h1
  obtain ⟨cv2, dv2, sv2, rv2, rfl, ⟨ca2, cc2, rfl, -, -, C2⟩, D2, ⟨sa2, sc2, rfl, -, -, S2⟩, ⟨ra2, rc2, rfl, -, -, R2⟩⟩ := h2
  have HW := hide (fun (w' : World) (hb : Below w.heap.size w w') => words_same _ _ o.data w' (RowV.below (w := w) (w' := w') (fun _ _ h => h) D1 hb) (RowV.below (w := w) (w' := w') (fun _ _ h => h) D2 hb))
  obtain ⟨da1, dc1, rfl, -⟩ := D1
  obtain ⟨da2, dc2, rfl, -⟩ := D2
  have HC1 : Hid (0 < o.code.length → ∃ g oo, ca1 = some ⟨g, oo, none⟩ ∧ Hid (∀ w', Below w.heap.size w w' → ∀ j (hj : j < o.code.length), _)) := fun h => by
    obtain ⟨g, oo, r, hg, E⟩ := C1 h
    exact ⟨g, oo, r, fun w' hw => nw_cells hg E hw⟩
  have HC2 : Hid (0 < o.code.length → ∃ g oo, ca2 = some ⟨g, oo, none⟩ ∧ Hid (∀ w', Below w.heap.size w w' → ∀ j (hj : j < o.code.length), _)) := fun h => by
    obtain ⟨g, oo, r, hg, E⟩ := C2 h
    exact ⟨g, oo, r, fun w' hw => nw_cells hg E hw⟩
  have HS1 : Hid (0 < o.syms.length → ∃ g oo, sa1 = some ⟨g, oo, none⟩ ∧ Hid (∀ w', Below w.heap.size w w' → ∀ j (hj : j < o.syms.length), _)) := fun h => by
    obtain ⟨g, oo, r, hg, E⟩ := S1 h
    exact ⟨g, oo, r, fun w' hw => sy_cells hg E hw⟩
  have HS2 : Hid (0 < o.syms.length → ∃ g oo, sa2 = some ⟨g, oo, none⟩ ∧ Hid (∀ w', Below w.heap.size w w' → ∀ j (hj : j < o.syms.length), _)) := fun h => by
    obtain ⟨g, oo, r, hg, E⟩ := S2 h
    exact ⟨g, oo, r, fun w' hw => sy_cells hg E hw⟩
  have HR1 : Hid (0 < o.rels.length → ∃ g oo, ra1 = some ⟨g, oo, none⟩ ∧ Hid (∀ w', Below w.heap.size w w' → ∀ j (hj : j < o.rels.length), _)) := fun h => by
    obtain ⟨g, oo, r, hg, E⟩ := R1 h
    exact ⟨g, oo, r, fun w' hw => re_cells hg E hw⟩
  have HR2 : Hid (0 < o.rels.length → ∃ g oo, ra2 = some ⟨g, oo, none⟩ ∧ Hid (∀ w', Below w.heap.size w w' → ∀ j (hj : j < o.rels.length), _)) := fun h => by
    obtain ⟨g, oo, r, hg, E⟩ := R2 h
    exact ⟨g, oo, r, fun w' hw => re_cells hg E hw⟩
  clear C1 C2 S1 S2 R1 R2
  have hc63 : o.code.length ≤ 9223372036854775807 := by omega
  have hs63 : o.syms.length ≤ 9223372036854775807 := by omega
  have hr63 : o.rels.length ≤ 9223372036854775807 := by omega
  clear cl1 cl2 sl1 sl2 rl1 rl2
  obtain ⟨nc, HNC⟩ : ∃ n, Hid (o.code.length = n) := ⟨_, rfl⟩
  obtain ⟨nd, HND⟩ : ∃ n, Hid (o.data.length = n) := ⟨_, rfl⟩
  obtain ⟨ns, HNS⟩ : ∃ n, Hid (o.syms.length = n) := ⟨_, rfl⟩
  obtain ⟨nr, HNR⟩ : ∃ n, Hid (o.rels.length = n) := ⟨_, rfl⟩
  rw [HNC.out] at hc63
  rw [HNS.out] at hs63
  rw [HNR.out] at hr63
  rw [HND.out] at HW
  rw [HNC.out, HND.out, HNS.out, HNR.out]
  have HF := hide (((Fr.start w).alloc (q := w.heap.size) rfl #[.slice ca1 nc cc1, .slice da1 nd dc1, .slice sa1 ns sc1, .slice ra1 nr rc1] 27).alloc (q := w.heap.size + 1) (by simp) #[.slice ca2 nc cc2, .slice da2 nd dc2, .slice sa2 ns sc2, .slice ra2 nr rc2] 27)
  go_enter Try.func12, Try.ntmps12
  go_wp2_with fail
  go_at_call 39
  refine (HW.out _ HF.out.below).mono ?_
  rintro e w1 ⟨rfl, hb⟩
  replace HF := hide (HF.out.call hb)
  clear hb HW
  generalize hb2 : w.heap.size + 1 = b2 at *
  generalize hb1 : w.heap.size = b1 at *
  have HBQ : Hid (w.heap.size = b1) := hb1
  clear hb1
  have hcl := HNC.out
  have hsl := HNS.out
  have hrl := HNR.out
  clear HNC HND HNS HNR hb2
  have d1 := HF.out.cell 1 rfl
  have d2 := HF.out.cell 0 rfl
  go_wp2_with fail
  clear d1 d2
  go_loopw [5] (fun i wr => ∃ k : Nat, k ≤ nc ∧ i = .int .i64 k ∧ Hid (Fr b1 w wr [.blk b2 #[.slice ca2 nc cc2, .slice da2 nd dc2, .slice sa2 ns sc2, .slice ra2 nr rc2] 27, .blk b1 #[.slice ca1 nc cc1, .slice da1 nd dc1, .slice sa1 ns sc1, .slice ra1 nr rc1] 27])) (fun i _ => nc - (intOf i).toNat)
  case atStart => exact ⟨0, Nat.zero_le _, rfl, HF⟩
  case round =>
    clear HF
    obtain ⟨k, hk, rfl, HF⟩ := hrel
    have d1 := HF.out.cell 1 rfl
    have d2 := HF.out.cell 0 rfl
    by_cases hlt : k < nc
    · have hlt' : (k : Int) < nc := by omega
      have hidx : (0 : Int) ≤ k ∧ (k : Int) < nc := by omega
      have hkl : k < o.code.length := by omega
      obtain ⟨g1, o1, rfl, E1⟩ := HC1.out (by omega)
      obtain ⟨g2, o2, rfl, E2⟩ := HC2.out (by omega)
      have e1 := (E1.out _ HF.out.below k hkl).1
      have e2 := (E2.out _ HF.out.below k hkl).1
      generalize o.code[k]'hkl = x at *
      go_wp2_with fail
      go_quiet (fail)
      generalize nq = qn
      go_wp2_with fail
      go_roundw
      case rel => exact ⟨k + 1, by omega, by go_num, HF.out.drewN qn⟩
      case measure => simp [intOf]; omega
    · have hlt' : ¬ (k : Int) < nc := by omega
      go_wp2_with fail
      clear d1 d2
      go_loopw [6] (fun i wr => ∃ k : Nat, k ≤ ns ∧ i = .int .i64 k ∧ Hid (Fr b1 w wr [.blk b2 #[.slice ca2 nc cc2, .slice da2 nd dc2, .slice sa2 ns sc2, .slice ra2 nr rc2] 27, .blk b1 #[.slice ca1 nc cc1, .slice da1 nd dc1, .slice sa1 ns sc1, .slice ra1 nr rc1] 27])) (fun i _ => ns - (intOf i).toNat)
      case atStart => exact ⟨0, Nat.zero_le _, rfl, HF⟩
      case round =>
        clear HF
        obtain ⟨k, hk, rfl, HF⟩ := hrel
        have d1 := HF.out.cell 1 rfl
        have d2 := HF.out.cell 0 rfl
        by_cases hlt : k < ns
        · have hlt' : (k : Int) < ns := by omega
          have hidx : (0 : Int) ≤ k ∧ (k : Int) < ns := by omega
          have hkl : k < o.syms.length := by omega
          obtain ⟨g1, o1, rfl, E1⟩ := HS1.out (by omega)
          obtain ⟨g2, o2, rfl, E2⟩ := HS2.out (by omega)
          obtain ⟨e0, e1, e2, e3, e4, e5, e6, -⟩ := E1.out _ HF.out.below k hkl
          obtain ⟨f0, f1, f2, f3, f4, f5, f6, -⟩ := E2.out _ HF.out.below k hkl
          generalize o.syms[k]'hkl = S at *
          obtain ⟨nm, kd, st, pl, sz, sg, fr⟩ := S
          simp only at *
          go_wp2_with fail
          go_quiet (fail)
          generalize nq = qn
          go_wp2_with fail
          go_roundw
          case rel => exact ⟨k + 1, by omega, by go_num, HF.out.drewN qn⟩
          case measure => simp [intOf]; omega
        · have hlt' : ¬ (k : Int) < ns := by omega
          go_wp2_with fail
          clear d1 d2
          go_loopw [7] (fun i wr => ∃ k : Nat, k ≤ nr ∧ i = .int .i64 k ∧ Hid (Fr b1 w wr [.blk b2 #[.slice ca2 nc cc2, .slice da2 nd dc2, .slice sa2 ns sc2, .slice ra2 nr rc2] 27, .blk b1 #[.slice ca1 nc cc1, .slice da1 nd dc1, .slice sa1 ns sc1, .slice ra1 nr rc1] 27])) (fun i _ => nr - (intOf i).toNat)
          case atStart => exact ⟨0, Nat.zero_le _, rfl, HF⟩
          case round =>
            clear HF
            obtain ⟨k, hk, rfl, HF⟩ := hrel
            have d1 := HF.out.cell 1 rfl
            have d2 := HF.out.cell 0 rfl
            by_cases hlt : k < nr
            · have hlt' : (k : Int) < nr := by omega
              have hidx : (0 : Int) ≤ k ∧ (k : Int) < nr := by omega
              have hkl : k < o.rels.length := by omega
              obtain ⟨g1, o1, rfl, E1⟩ := HR1.out (by omega)
              obtain ⟨g2, o2, rfl, E2⟩ := HR2.out (by omega)
              obtain ⟨e0, e1, e2, -⟩ := E1.out _ HF.out.below k hkl
              obtain ⟨f0, f1, f2, -⟩ := E2.out _ HF.out.below k hkl
              generalize o.rels[k]'hkl = S at *
              obtain ⟨pl, sy, ad⟩ := S
              simp only at *
              go_wp2_with fail
              go_quiet (fail)
              generalize nq = qn
              go_wp2_with fail
              go_roundw
              case rel => exact ⟨k + 1, by omega, by go_num, HF.out.drewN qn⟩
              case measure => simp [intOf]; omega
            · have hlt' : ¬ (k : Int) < nr := by omega
              go_wp2_with fail
              go_ret
              exact ⟨rfl, HF.out.below' HBQ.out.symm⟩
end Go.Proofs.Ytnjcknlfecednaa.T
