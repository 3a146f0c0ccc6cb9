/- The contract of the program's may and May. -/
import Derived.Test.YtmbhcpnlfdgkjaaPMay
namespace Go.Proofs.Ytmbhcpnlfdgkjaa.T
open Go.RowKit
set_option linter.unusedVariables false
set_option linter.unusedSimpArgs false
set_option maxRecDepth 100000 in
set_option maxHeartbeats 1000000 in
theorem pmay_zero (T : Ty) (v : Value) (w : World) (hv : TyV w T v) : Calls Try.prog 31 #[v, .int .i64 0] w fun e w' => e = .returned (.bool (mayN 0 T)) ∧ Below w.heap.size w w' := by
  rcases T with _ | ⟨kind, name, nn, names, pn, parts, many⟩
  · exact (TyV_leaf hv).elim
  obtain ⟨na, nc, pa, pc, rfl, hS, q1, q2, q3, q4, q5, q6, q7, HP⟩ := hv.part
  have hB0 : Below w.heap.size w (w.alloc (.cells #[.int .i64 kind, .string name, .slice na nn nc, .slice pa pn pc, .bool many] 25)) := (Below.refl _ _).alloc (Nat.le_refl _) _
  clear hv hS
  go_enter Try.func31, Try.ntmps31
  go_wp2_with fail
  go_ret
  exact ⟨rfl, hB0.alloc (by simp) _⟩
variable {kind : Int} {name : ByteArray} {nn : Nat} {names : Nat → ByteArray} {pn : Nat} {parts : Nat → Ty} {many : Bool}
theorem parts_zero (d : Nat) (b : Bool) : (decide (pn ≤ 7) && decide (0 ≤ 6) && ((List.range pn).all fun i => mayN d (parts i)) && (true && decide (0 = 0) && (decide (pn = 0) && b))) = (b && (decide (0 ≤ pn) && decide (pn ≤ 0) && (List.range pn).all fun i => mayN d (parts i))) := by
  by_cases h : pn = 0
  · subst h; cases b <;> simp
  · rw [decide_eq_false h, decide_eq_false (show ¬ pn ≤ 0 by omega)]; cases b <;> simp
theorem parts_fn (d : Nat) : (decide (pn ≤ 7) && decide (0 ≤ 6) && ((List.range pn).all fun i => mayN d (parts i)) && (true && decide (0 = 0) && decide (1 ≤ pn))) = (decide (1 ≤ pn) && decide (pn ≤ 7) && (List.range pn).all fun i => mayN d (parts i)) := by
  cases decide (1 ≤ pn) <;> cases decide (pn ≤ 7) <;> cases ((List.range pn).all fun i => mayN d (parts i)) <;> rfl
set_option maxRecDepth 100000 in
set_option maxHeartbeats 4000000 in
theorem pmay_step (d : Nat) (hd : d ≤ 1000) (ih : Hid (∀ T v w, TyV w T v → Calls Try.prog 31 #[v, .int .i64 d] w fun e w' => e = .returned (.bool (mayN d T)) ∧ Below w.heap.size w w')) (v : Value) (w : World)
    (hv : TyV w (.mk kind name nn names pn parts many) v) (r : Bool) (HM : Hid (r = mayN (d + 1) (.mk kind name nn names pn parts many))) : Calls Try.prog 31 #[v, .int .i64 ((d : Int) + 1)] w fun e w' => e = .returned (.bool r) ∧ Below w.heap.size w w' := by
  have HMs : Hid (r = (decide (pn ≤ 7) && decide (nn ≤ 6) && ((List.range pn).all fun i => mayN d (parts i)) &&
    (if kind = 3 then !many && nameB (bytes name) && decide (1 ≤ pn) && decide (pn ≤ 6) && decide (nn = pn) && ((List.range pn).all fun i => namesB names i) && decide (sizeT (.mk kind name nn names pn parts many) ≤ 12)
      else decide (name.size = 0) && decide (nn = 0) && (if kind = 4 then decide (1 ≤ pn) else (decide (kind = 1) || decide (kind = 2)) && decide (pn = 0) && !many)))) := by
    show _ = _
    rw [HM.out, mayN_succ]
  obtain ⟨na, nc, pa, pc, rfl, hS, q1, q2, q3, q4, q5, q6, q7, HP⟩ := hv.part
  have HT := hide hv
  have HS := hide hS
  clear hv hS
  have hd1 : ¬ ((d : Int) + 1) < 1 := by omega
  have hd2 : (0 : Int) < (d : Int) + 1 := by omega
  have hml : maxLen = 9223372036854775807 := rfl
  have hB0 : Below w.heap.size w ((w.alloc (.cells #[Value.int .i64 kind, .string name, .slice na nn nc, .slice pa pn pc, .bool many] 25)).alloc (.cells #[.int .i64 ((d : Int) + 1)] 3)) := ((Below.refl _ _).alloc (Nat.le_refl _) _).alloc (by simp) _
  have hx0 : ∀ o, ((w.alloc (.cells #[Value.int .i64 kind, .string name, .slice na nn nc, .slice pa pn pc, .bool many] 25)).alloc (.cells #[.int .i64 ((d : Int) + 1)] 3)).cell? ⟨w.heap.size, o, none⟩ = (#[Value.int .i64 kind, .string name, .slice na nn nc, .slice pa pn pc, .bool many])[o]? := fun o => (World.cell?_alloc_past _ _ _ (by simp)).trans (World.cell?_alloc_at _ _ _ _ rfl)
  have hy0 : ((w.alloc (.cells #[Value.int .i64 kind, .string name, .slice na nn nc, .slice pa pn pc, .bool many] 25)).alloc (.cells #[.int .i64 ((d : Int) + 1)] 3)).cell? ⟨w.heap.size + 1, 0, none⟩ = some (.int .i64 ((d : Int) + 1)) := World.cell?_alloc_at _ _ _ _ (by simp)
  have hz0 : ((w.alloc (.cells #[Value.int .i64 kind, .string name, .slice na nn nc, .slice pa pn pc, .bool many] 25)).alloc (.cells #[.int .i64 ((d : Int) + 1)] 3)).heap.size = w.heap.size + 1 + 1 := by simp
  obtain ⟨W, hW⟩ : ∃ W, (w.alloc (.cells #[Value.int .i64 kind, .string name, .slice na nn nc, .slice pa pn pc, .bool many] 25)).alloc (.cells #[.int .i64 ((d : Int) + 1)] 3) = W := ⟨_, rfl⟩
  have HWE := hide hW
  rw [hW] at hB0 hx0 hy0 hz0
  clear hW
  have HW : Hid (∀ w', Below W.heap.size W w' → Below w.heap.size w w') := fun w' hw => hB0.trans (hw.mono (by omega))
  have HXc : Hid (∀ w', Below W.heap.size W w' → ∀ o, w'.cell? ⟨w.heap.size, o, none⟩ = (#[Value.int .i64 kind, .string name, .slice na nn nc, .slice pa pn pc, .bool many])[o]?) := fun w' hw o => (hw.cell (p := ⟨w.heap.size, o, none⟩) (by show w.heap.size < _; omega)).trans (hx0 o)
  have HPM : Hid (∀ (lo hi : Nat), lo ≤ 9223372036854775807 → hi ≤ 9223372036854775807 → ∀ w', Below W.heap.size W w' → Calls Try.prog 36 #[.int .i64 lo, .int .i64 hi, .pointer (some ⟨w.heap.size, 0, none⟩), .pointer (some ⟨w.heap.size + 1, 0, none⟩)] w' fun e w'' => e = .returned (.bool (decide (lo ≤ pn) && decide (pn ≤ hi) && (List.range pn).all fun i => mayN d (parts i))) ∧ Below w'.heap.size w' w'') := fun lo hi h1 h2 w' hw =>
    partsMay_any d hd ih lo hi h1 h2 w.heap.size (w.heap.size + 1) w' na pa nc pc (HT.out.below (HW.out w' hw)) (by have := hw.size; omega) (by have := hw.size; omega) (HXc.out w' hw) ((hw.cell (p := ⟨w.heap.size + 1, 0, none⟩) (by show w.heap.size + 1 < _; omega)).trans hy0)
  clear hx0 hy0 hz0 hB0
  by_cases k1 : kind = 1
  · subst k1
    have HR : Hid (r = (decide (pn ≤ 7) && decide (nn ≤ 6) && ((List.range pn).all fun i => mayN d (parts i)) && (decide (name.size = 0) && decide (nn = 0) && (decide (pn = 0) && !many)))) := by
      show _ = _
      rw [HMs.out]
      rfl
    clear HMs HM
    by_cases ns : name.size = 0
    · obtain rfl : name = ⟨#[]⟩ := ba_empty ns rfl
      by_cases n0 : nn = 0
      · subst n0
        cases many with
        | true =>
          obtain rfl : r = false := by rw [HR.out]; simp
          go_enter Try.func31, Try.ntmps31
          go_wp2_with fail
          go_ret
          exact ⟨rfl, by simp only [HWE.out]; exact HW.out W (Below.refl _ _)⟩
        | false =>
          have HR2 : Hid (r = (decide (0 ≤ pn) && decide (pn ≤ 0) && (List.range pn).all fun i => mayN d (parts i))) := by
            show _ = _
            rw [HR.out]
            exact (parts_zero (pn := pn) (parts := parts) d true).trans (Bool.true_and _)
          have hpm := HPM.out 0 0 (by omega) (by omega) W (Below.refl _ _)
          rw [← HR2.out] at hpm
          go_enter Try.func31, Try.ntmps31
          go_wp2_with fail
          simp only [HWE.out]
          go_at_call 36
          refine hpm.mono ?_
          rintro e w1 ⟨rfl, hb⟩
          have HB1 : Hid (Below W.heap.size W w1) := hb
          have hx1 := HXc.out w1 HB1.out
          clear hb
          go_wp2_with fail
          go_ret
          exact ⟨rfl, HW.out _ HB1.out⟩
      · have n0' : ((nn : Int) == 0) = false := by simp; omega
        have n1' : ¬ (nn : Int) = 0 := by omega
        obtain rfl : r = false := by rw [HR.out, decide_eq_false n0]; simp
        go_enter Try.func31, Try.ntmps31
        go_wp2_with fail
        go_ret
        exact ⟨rfl, by simp only [HWE.out]; exact HW.out W (Below.refl _ _)⟩
    · have nb := bytes_eq name [] (fun e => ns (by have := congrArg List.length e; exact this))
      obtain rfl : r = false := by rw [HR.out, decide_eq_false ns]; simp
      go_enter Try.func31, Try.ntmps31
      go_wp2_with fail
      go_ret
      exact ⟨rfl, by simp only [HWE.out]; exact HW.out W (Below.refl _ _)⟩
  have k1' : (kind == 1) = false := by simpa using k1
  by_cases k2 : kind = 2
  · subst k2
    have HR : Hid (r = (decide (pn ≤ 7) && decide (nn ≤ 6) && ((List.range pn).all fun i => mayN d (parts i)) && (decide (name.size = 0) && decide (nn = 0) && (decide (pn = 0) && !many)))) := by
      show _ = _
      rw [HMs.out]
      rfl
    clear HMs HM
    by_cases ns : name.size = 0
    · obtain rfl : name = ⟨#[]⟩ := ba_empty ns rfl
      by_cases n0 : nn = 0
      · subst n0
        cases many with
        | true =>
          obtain rfl : r = false := by rw [HR.out]; simp
          go_enter Try.func31, Try.ntmps31
          go_wp2_with fail
          go_ret
          exact ⟨rfl, by simp only [HWE.out]; exact HW.out W (Below.refl _ _)⟩
        | false =>
          have HR2 : Hid (r = (decide (0 ≤ pn) && decide (pn ≤ 0) && (List.range pn).all fun i => mayN d (parts i))) := by
            show _ = _
            rw [HR.out]
            exact (parts_zero (pn := pn) (parts := parts) d true).trans (Bool.true_and _)
          have hpm := HPM.out 0 0 (by omega) (by omega) W (Below.refl _ _)
          rw [← HR2.out] at hpm
          go_enter Try.func31, Try.ntmps31
          go_wp2_with fail
          simp only [HWE.out]
          go_at_call 36
          refine hpm.mono ?_
          rintro e w1 ⟨rfl, hb⟩
          have HB1 : Hid (Below W.heap.size W w1) := hb
          have hx1 := HXc.out w1 HB1.out
          clear hb
          go_wp2_with fail
          go_ret
          exact ⟨rfl, HW.out _ HB1.out⟩
      · have n0' : ((nn : Int) == 0) = false := by simp; omega
        have n1' : ¬ (nn : Int) = 0 := by omega
        obtain rfl : r = false := by rw [HR.out, decide_eq_false n0]; simp
        go_enter Try.func31, Try.ntmps31
        go_wp2_with fail
        go_ret
        exact ⟨rfl, by simp only [HWE.out]; exact HW.out W (Below.refl _ _)⟩
    · have nb := bytes_eq name [] (fun e => ns (by have := congrArg List.length e; exact this))
      obtain rfl : r = false := by rw [HR.out, decide_eq_false ns]; simp
      go_enter Try.func31, Try.ntmps31
      go_wp2_with fail
      go_ret
      exact ⟨rfl, by simp only [HWE.out]; exact HW.out W (Below.refl _ _)⟩
  have k2' : (kind == 2) = false := by simpa using k2
  by_cases k3 : kind = 3
  · subst k3
    have HR : Hid (r = (decide (pn ≤ 7) && decide (nn ≤ 6) && ((List.range pn).all fun i => mayN d (parts i)) && (!many && nameB (bytes name) && decide (1 ≤ pn) && decide (pn ≤ 6) && decide (nn = pn) && ((List.range pn).all fun i => namesB names i) && decide (sizeT (.mk 3 name nn names pn parts many) ≤ 12)))) := by
      show _ = _
      rw [HMs.out]
      rfl
    clear HMs HM
    have hnm := fun w' => pname_any name w' (by omega)
    have hfn := fun w' (hw : Below W.heap.size W w') => fieldNames_any na nn nc names w' (fun hp => by obtain ⟨b, o, e1, e2, e3⟩ := HS.out hp; exact ⟨b, o, e1, Nat.lt_of_lt_of_le e2 (HW.out w' hw).size, fun j hj => ((HW.out w' hw).cell (p := ⟨b, o + j, none⟩) e2).trans (e3 j hj)⟩) q1 q6
    have hpm := HPM.out nn nn q1 q1
    cases hN : nameB (bytes name) with
    | false =>
      rw [hN] at hnm
      obtain rfl : r = false := by rw [HR.out, hN]; simp
      clear hfn hpm
      go_enter Try.func31, Try.ntmps31
      go_wp2_with fail
      simp only [HWE.out]
      go_at_call 37
      refine (hnm _).mono ?_
      rintro e w0 ⟨rfl, hw0⟩
      obtain rfl : W = w0 := hw0.symm
      have hx_W := HXc.out _ (Below.refl _ _)
      go_wp2_with fail
      go_ret
      exact ⟨rfl, HW.out _ (Below.refl _ _)⟩
    | true =>
    rw [hN] at hnm
    cases many with
    | true =>
      obtain rfl : r = false := by rw [HR.out]; simp
      clear hfn hpm
      go_enter Try.func31, Try.ntmps31
      go_wp2_with fail
      simp only [HWE.out]
      go_at_call 37
      refine (hnm _).mono ?_
      rintro e w0 ⟨rfl, hw0⟩
      obtain rfl : W = w0 := hw0.symm
      have hx_W := HXc.out _ (Below.refl _ _)
      go_wp2_with fail
      go_ret
      exact ⟨rfl, HW.out _ (Below.refl _ _)⟩
    | false =>
    cases hF : (decide (1 ≤ nn) && decide (nn ≤ 6) && (List.range nn).all fun i => namesB names i) with
    | false =>
      rw [hF] at hfn
      obtain rfl : r = false := by
        rw [HR.out]
        by_cases e : nn = pn
        · subst e
          cases h1 : decide (1 ≤ nn) <;> cases h2 : decide (nn ≤ 6) <;> cases h3 : ((List.range nn).all fun i => namesB names i) <;> simp_all
        · rw [decide_eq_false e]; simp
      clear hpm
      go_enter Try.func31, Try.ntmps31
      go_wp2_with fail
      simp only [HWE.out]
      go_at_call 37
      refine (hnm _).mono ?_
      rintro e w0 ⟨rfl, hw0⟩
      obtain rfl : W = w0 := hw0.symm
      have hx_W := HXc.out _ (Below.refl _ _)
      go_wp2_with fail
      go_at_call 38
      refine (hfn _ (Below.refl _ _)).mono ?_
      rintro e w1 ⟨rfl, hb⟩
      have Hw1 : Hid (Below W.heap.size W w1) := (Below.refl W.heap.size W).trans (hb.mono (Below.refl W.heap.size W).size)
      have hx_w1 := HXc.out w1 Hw1.out
      clear hb
      go_wp2_with fail
      go_ret
      exact ⟨rfl, HW.out _ Hw1.out⟩
    | true =>
    rw [hF] at hfn
    cases hP : (decide (nn ≤ pn) && decide (pn ≤ nn) && (List.range pn).all fun i => mayN d (parts i)) with
    | false =>
      rw [hP] at hpm
      obtain rfl : r = false := by
        rw [HR.out]
        by_cases e : nn = pn
        · subst e
          rw [decide_eq_true (Nat.le_refl nn)] at hP
          rw [show ((List.range nn).all fun i => mayN d (parts i)) = false from hP]
          simp
        · rw [decide_eq_false e]; simp
      go_enter Try.func31, Try.ntmps31
      go_wp2_with fail
      simp only [HWE.out]
      go_at_call 37
      refine (hnm _).mono ?_
      rintro e w0 ⟨rfl, hw0⟩
      obtain rfl : W = w0 := hw0.symm
      have hx_W := HXc.out _ (Below.refl _ _)
      go_wp2_with fail
      go_at_call 38
      refine (hfn _ (Below.refl _ _)).mono ?_
      rintro e w1 ⟨rfl, hb⟩
      have Hw1 : Hid (Below W.heap.size W w1) := (Below.refl W.heap.size W).trans (hb.mono (Below.refl W.heap.size W).size)
      have hx_w1 := HXc.out w1 Hw1.out
      clear hb
      go_wp2_with fail
      go_at_call 36
      refine (hpm _ Hw1.out).mono ?_
      rintro e w2 ⟨rfl, hb⟩
      have Hw2 : Hid (Below W.heap.size W w2) := Hw1.out.trans (hb.mono Hw1.out.size)
      have hx_w2 := HXc.out w2 Hw2.out
      clear hb
      go_wp2_with fail
      go_ret
      exact ⟨rfl, HW.out _ Hw2.out⟩
    | true =>
    rw [hP] at hpm
    obtain rfl : nn = pn := by
      simp only [Bool.and_eq_true, decide_eq_true_eq] at hP
      omega
    rw [decide_eq_true (Nat.le_refl nn), Bool.and_self, Bool.true_and] at hP
    have HALL : Hid (∀ i, i < nn → mayN d (parts i) = true) := fun i hi => (List.all_eq_true.1 hP) i (List.mem_range.2 hi)
    have hn6 : 1 ≤ nn ∧ nn ≤ 6 := by
      simp only [Bool.and_eq_true, decide_eq_true_eq] at hF
      exact hF.1
    have HR2 : Hid (r = decide (sizeT (.mk 3 name nn names nn parts false) ≤ 12)) := by
      show _ = _
      rw [HR.out, hN, hP, decide_eq_true (show nn ≤ 7 by omega), decide_eq_true hn6.1, decide_eq_true hn6.2, show ((List.range nn).all fun i => namesB names i) = true by simp only [Bool.and_eq_true] at hF; exact hF.2, decide_eq_true (rfl : nn = nn)]
      rfl
    have HFew : Hid (Few (.mk 3 name nn names nn parts false)) := by
      show Few _
      unfold Few
      exact ⟨by omega, fun i hi => sizeT_le (HALL.out i hi)⟩
    have hwd := fun w' (hw : Below W.heap.size W w') => words_any _ HFew.out _ w' (HT.out.below (HW.out w' hw))
    have hle : sizeT (.mk 3 name nn names nn parts false) ≤ 13 * nn := by
      rw [sizeT_mk, if_neg (by decide), if_pos rfl]
      exact place_le (fun i hi => (sizeT_le (HALL.out i hi)).2) nn (Nat.le_refl _)
    generalize sizeT (.mk 3 name nn names nn parts false) = z at *
    clear HR hF hP
    by_cases hz : z ≤ 12
    · have hz' : (z : Int) ≤ 12 := by omega
      obtain rfl : r = true := by rw [HR2.out, decide_eq_true hz]
      go_enter Try.func31, Try.ntmps31
      go_wp2_with fail
      simp only [HWE.out]
      go_at_call 37
      refine (hnm _).mono ?_
      rintro e w0 ⟨rfl, hw0⟩
      obtain rfl : W = w0 := hw0.symm
      have hx_W := HXc.out _ (Below.refl _ _)
      go_wp2_with fail
      go_at_call 38
      refine (hfn _ (Below.refl _ _)).mono ?_
      rintro e w1 ⟨rfl, hb⟩
      have Hw1 : Hid (Below W.heap.size W w1) := (Below.refl W.heap.size W).trans (hb.mono (Below.refl W.heap.size W).size)
      have hx_w1 := HXc.out w1 Hw1.out
      clear hb
      go_wp2_with fail
      go_at_call 36
      refine (hpm _ Hw1.out).mono ?_
      rintro e w2 ⟨rfl, hb⟩
      have Hw2 : Hid (Below W.heap.size W w2) := Hw1.out.trans (hb.mono Hw1.out.size)
      have hx_w2 := HXc.out w2 Hw2.out
      clear hb
      go_wp2_with fail
      go_at_call 24
      refine (hwd _ Hw2.out).mono ?_
      rintro e w3 ⟨rfl, hb⟩
      have Hw3 : Hid (Below W.heap.size W w3) := Hw2.out.trans (hb.mono Hw2.out.size)
      have hx_w3 := HXc.out w3 Hw3.out
      clear hb
      go_wp2_with fail
      go_ret
      exact ⟨rfl, HW.out _ Hw3.out⟩
    · have hz' : ¬ (z : Int) ≤ 12 := by omega
      obtain rfl : r = false := by rw [HR2.out, decide_eq_false hz]
      go_enter Try.func31, Try.ntmps31
      go_wp2_with fail
      simp only [HWE.out]
      go_at_call 37
      refine (hnm _).mono ?_
      rintro e w0 ⟨rfl, hw0⟩
      obtain rfl : W = w0 := hw0.symm
      have hx_W := HXc.out _ (Below.refl _ _)
      go_wp2_with fail
      go_at_call 38
      refine (hfn _ (Below.refl _ _)).mono ?_
      rintro e w1 ⟨rfl, hb⟩
      have Hw1 : Hid (Below W.heap.size W w1) := (Below.refl W.heap.size W).trans (hb.mono (Below.refl W.heap.size W).size)
      have hx_w1 := HXc.out w1 Hw1.out
      clear hb
      go_wp2_with fail
      go_at_call 36
      refine (hpm _ Hw1.out).mono ?_
      rintro e w2 ⟨rfl, hb⟩
      have Hw2 : Hid (Below W.heap.size W w2) := Hw1.out.trans (hb.mono Hw1.out.size)
      have hx_w2 := HXc.out w2 Hw2.out
      clear hb
      go_wp2_with fail
      go_at_call 24
      refine (hwd _ Hw2.out).mono ?_
      rintro e w3 ⟨rfl, hb⟩
      have Hw3 : Hid (Below W.heap.size W w3) := Hw2.out.trans (hb.mono Hw2.out.size)
      have hx_w3 := HXc.out w3 Hw3.out
      clear hb
      go_wp2_with fail
      go_ret
      exact ⟨by show Ending.returned (Value.bool (decide ((z : Int) ≤ 12))) = _; rw [show decide ((z : Int) ≤ 12) = false from decide_eq_false (by omega)], HW.out _ Hw3.out⟩
  have k3' : (kind == 3) = false := by simpa using k3
  by_cases k4 : kind = 4
  · subst k4
    have HR : Hid (r = (decide (pn ≤ 7) && decide (nn ≤ 6) && ((List.range pn).all fun i => mayN d (parts i)) && (decide (name.size = 0) && decide (nn = 0) && decide (1 ≤ pn)))) := by
      show _ = _
      rw [HMs.out]
      rfl
    clear HMs HM
    by_cases ns : name.size = 0
    · obtain rfl : name = ⟨#[]⟩ := ba_empty ns rfl
      by_cases n0 : nn = 0
      · subst n0
        have HR2 : Hid (r = (decide (1 ≤ pn) && decide (pn ≤ 7) && (List.range pn).all fun i => mayN d (parts i))) := by
          show _ = _
          rw [HR.out]
          exact parts_fn d
        have hpm := HPM.out 1 7 (by omega) (by omega) W (Below.refl _ _)
        rw [← HR2.out] at hpm
        go_enter Try.func31, Try.ntmps31
        go_wp2_with fail
        simp only [HWE.out]
        go_at_call 36
        refine hpm.mono ?_
        rintro e w1 ⟨rfl, hb⟩
        have HB1 : Hid (Below W.heap.size W w1) := hb
        have hx1 := HXc.out w1 HB1.out
        clear hb
        go_wp2_with fail
        go_ret
        exact ⟨rfl, HW.out _ HB1.out⟩
      · have n0' : ((nn : Int) == 0) = false := by simp; omega
        have n1' : ¬ (nn : Int) = 0 := by omega
        obtain rfl : r = false := by rw [HR.out, decide_eq_false n0]; simp
        go_enter Try.func31, Try.ntmps31
        go_wp2_with fail
        go_ret
        exact ⟨rfl, by simp only [HWE.out]; exact HW.out W (Below.refl _ _)⟩
    · have nb := bytes_eq name [] (fun e => ns (by have := congrArg List.length e; exact this))
      obtain rfl : r = false := by rw [HR.out, decide_eq_false ns]; simp
      go_enter Try.func31, Try.ntmps31
      go_wp2_with fail
      go_ret
      exact ⟨rfl, by simp only [HWE.out]; exact HW.out W (Below.refl _ _)⟩
  have k4' : (kind == 4) = false := by simpa using k4
  obtain rfl : r = false := by rw [HMs.out, if_neg k3, if_neg k4, decide_eq_false k1, decide_eq_false k2]; simp
  go_enter Try.func31, Try.ntmps31
  go_wp2_with fail
  go_ret
  exact ⟨rfl, by simp only [HWE.out]; exact HW.out W (Below.refl _ _)⟩
theorem pmay_all : ∀ d : Nat, d ≤ 1000 → ∀ (T : Ty) (v : Value) (w : World), TyV w T v → Calls Try.prog 31 #[v, .int .i64 d] w fun e w' => e = .returned (.bool (mayN d T)) ∧ Below w.heap.size w w' := by
  intro d
  induction d with
  | zero => intro _ T v w hv; exact pmay_zero T v w hv
  | succ d ih =>
    intro hd T v w hv
    rcases T with _ | ⟨kind, name, nn, names, pn, parts, many⟩
    · exact (TyV_leaf hv).elim
    exact pmay_step d (by omega) (fun T v w hv => ih (by omega) T v w hv) v w hv _ rfl
set_option maxRecDepth 100000 in
set_option maxHeartbeats 1000000 in
theorem pMay_any (T : Ty) (v : Value) (w : World) (hv : TyV w T v) : Calls Try.prog 23 #[v] w fun e w' => e = .returned (.bool (mayN 4 T)) ∧ Below w.heap.size w w' := by
  rcases T with _ | ⟨kind, name, nn, names, pn, parts, many⟩
  · exact (TyV_leaf hv).elim
  obtain ⟨na, nc, pa, pc, rfl, hS, q1, q2, q3, q4, q5, q6, q7, HP⟩ := hv.part
  have hB0 : Below w.heap.size w (w.alloc (.cells #[.int .i64 kind, .string name, .slice na nn nc, .slice pa pn pc, .bool many] 25)) := (Below.refl _ _).alloc (Nat.le_refl _) _
  have hcal := pmay_all 4 (by omega) _ _ _ (hv.below hB0)
  have HB0 := hide hB0
  clear hv hS hB0
  generalize mayN 4 (.mk kind name nn names pn parts many) = r at *
  go_enter Try.func23, Try.ntmps23
  go_wp2_with fail
  go_at_call 31
  refine hcal.mono ?_
  rintro e w1 ⟨rfl, hb1⟩
  have HB1 : Hid (Below w.heap.size w w1) := HB0.out.trans (hb1.mono HB0.out.size)
  clear hb1
  go_wp2_with fail
  go_ret
  exact ⟨rfl, HB1.out⟩
end Go.Proofs.Ytmbhcpnlfdgkjaa.T
