/- The contract of the reference's may. -/
import Derived.Test.YtmbhcpnlfdgkjaaSize
namespace Go.Proofs.Ytmbhcpnlfdgkjaa.T
open Go.RowKit
set_option linter.unusedVariables false
set_option linter.unusedSimpArgs false

theorem sizeT_le {d : Nat} : ∀ {T : Ty}, mayN d T = true → Few T ∧ sizeT T ≤ 12 := by
  induction d with
  | zero => intro T h; simp [mayN] at h
  | succ d ih =>
    intro T h
    rcases T with _ | ⟨kind, name, nn, names, pn, parts, many⟩
    · rw [mayN_leaf] at h; cases h
    have f := may_facts h
    refine ⟨?_, ?_⟩
    · unfold Few
      exact ⟨f.1, fun i hi => ih (f.2.2.1 i hi)⟩
    · rcases f.2.2.2 with ⟨_, _, _, _, _, _, _, e⟩ | ⟨rfl, _⟩ | ⟨rfl, _⟩ | ⟨rfl, _⟩
      · exact e
      all_goals (rw [sizeT_mk]; simp)
/-- A struct's names, none twice. -/
def namesB (names : Nat → ByteArray) (i : Nat) : Bool := nameB (bytes (names i)) && !((List.range i).any fun j => decide (names j = names i))
theorem mayN_succ (d : Nat) (kind : Int) (name : ByteArray) (nn : Nat) (names : Nat → ByteArray) (pn : Nat) (parts : Nat → Ty) (many : Bool) : mayN (d + 1) (.mk kind name nn names pn parts many) =
    (decide (pn ≤ 7) && decide (nn ≤ 6) && ((List.range pn).all fun i => mayN d (parts i)) &&
    (if kind = 3 then !many && nameB (bytes name) && decide (1 ≤ pn) && decide (pn ≤ 6) && decide (nn = pn) && ((List.range pn).all fun i => namesB names i) && decide (sizeT (.mk kind name nn names pn parts many) ≤ 12)
      else decide (name.size = 0) && decide (nn = 0) && (if kind = 4 then decide (1 ≤ pn) else (decide (kind = 1) || decide (kind = 2)) && decide (pn = 0) && !many))) := by
  rw [mayN]; rfl
theorem all_upto {p : Nat → Bool} {n : Nat} (h : ∀ j, j < n → p j = true) : (List.range n).all p = true := by simpa using h
theorem all_at {p : Nat → Bool} {n k : Nat} (hk : k < n) (h : p k = false) : (List.range n).all p = false := by
  rw [Bool.eq_false_iff]
  intro e
  rw [List.all_eq_true] at e
  have := e k (List.mem_range.2 hk)
  rw [h] at this
  cases this
set_option maxRecDepth 100000 in
set_option maxHeartbeats 1000000 in
theorem may_zero (T : Ty) (v : Value) (w : World) (hv : TyV w T v) : Calls Try.prog 27 #[v, .int .i64 0] w fun e w' => e = .returned (.bool (mayN 0 T)) ∧ Below w.heap.size w w' := by
  rcases T with _ | ⟨kind, name, nn, names, pn, parts, many⟩
  · exact (TyV_leaf hv).elim
  obtain ⟨na, nc, pa, pc, rfl, hS, q1, q2, q3, q4, q5, q6, q7, HP⟩ := hv.part
  have hB0 : Below w.heap.size w (w.alloc (.cells #[.int .i64 kind, .string name, .slice na nn nc, .slice pa pn pc, .bool many] 25)) := (Below.refl _ _).alloc (Nat.le_refl _) _
  clear hv hS
  go_enter Try.func27, Try.ntmps27
  go_wp2_with fail
  go_ret
  exact ⟨rfl, hB0⟩
variable {kind : Int} {name : ByteArray} {nn : Nat} {names : Nat → ByteArray} {pn : Nat} {parts : Nat → Ty} {many : Bool}
set_option maxRecDepth 100000 in
set_option maxHeartbeats 2000000 in
theorem may_step (d : Nat) (hd : d ≤ 1000) (ih : Hid (∀ T v w, TyV w T v → Calls Try.prog 27 #[v, .int .i64 d] w fun e w' => e = .returned (.bool (mayN d T)) ∧ Below w.heap.size w w')) (v : Value) (w : World)
    (hv : TyV w (.mk kind name nn names pn parts many) v) (r : Bool) (HM : Hid (r = mayN (d + 1) (.mk kind name nn names pn parts many))) : Calls Try.prog 27 #[v, .int .i64 (d + 1 : Nat)] w fun e w' => e = .returned (.bool r) ∧ Below w.heap.size w w' := by
  have HMs : Hid (r = (decide (pn ≤ 7) && decide (nn ≤ 6) && ((List.range pn).all fun i => mayN d (parts i)) &&
    (if kind = 3 then !many && nameB (bytes name) && decide (1 ≤ pn) && decide (pn ≤ 6) && decide (nn = pn) && ((List.range pn).all fun i => namesB names i) && decide (sizeT (.mk kind name nn names pn parts many) ≤ 12)
      else decide (name.size = 0) && decide (nn = 0) && (if kind = 4 then decide (1 ≤ pn) else (decide (kind = 1) || decide (kind = 2)) && decide (pn = 0) && !many)))) := by
    show _ = _
    rw [HM.out, mayN_succ]
  obtain ⟨na, nc, pa, pc, rfl, hS, q1, q2, q3, q4, q5, q6, q7, HP⟩ := hv.part
  have hB0 : Below w.heap.size w (w.alloc (.cells #[.int .i64 kind, .string name, .slice na nn nc, .slice pa pn pc, .bool many] 25)) := (Below.refl _ _).alloc (Nat.le_refl _) _
  have HT := hide hv
  have HS := hide hS
  clear hv hS
  have hd1 : ¬ ((d + 1 : Nat) : Int) < 1 := by omega
  by_cases p7 : 7 < pn
  · have p7' : (7 : Int) < pn := by omega
    have hr : r = false := by rw [HMs.out, decide_eq_false (show ¬ pn ≤ 7 by omega)]; rfl
    subst hr
    go_enter Try.func27, Try.ntmps27
    go_wp2_with fail
    go_ret
    exact ⟨rfl, hB0⟩
  have p7' : ¬ (7 : Int) < pn := by omega
  by_cases n6 : 6 < nn
  · have n6' : (6 : Int) < nn := by omega
    have hr : r = false := by rw [HMs.out, decide_eq_false (show ¬ nn ≤ 6 by omega)]; simp
    subst hr
    go_enter Try.func27, Try.ntmps27
    go_wp2_with fail
    go_ret
    exact ⟨rfl, hB0⟩
  have n6' : ¬ (6 : Int) < nn := by omega
  have hdw : IntKind.i64.wrap (((d + 1 : Nat) : Int) - 1) = (d : Int) := by rw [IntKind.wrap_i64]; omega
  go_enter Try.func27, Try.ntmps27
  go_wp2_with fail
  have hx0 : ∀ o, (w.alloc (.cells #[.int .i64 kind, .string name, .slice na nn nc, .slice pa pn pc, .bool many] 25)).cell? ⟨w.heap.size, o, none⟩ = (#[Value.int .i64 kind, .string name, .slice na nn nc, .slice pa pn pc, .bool many])[o]? := fun o => World.cell?_alloc_at _ _ _ _ rfl
  have hz0 : (w.alloc (.cells #[.int .i64 kind, .string name, .slice na nn nc, .slice pa pn pc, .bool many] 25)).heap.size = w.heap.size + 1 := by simp
  generalize w.alloc (.cells #[.int .i64 kind, .string name, .slice na nn nc, .slice pa pn pc, .bool many] 25) = W at *
  have HW : Hid (∀ w', Below W.heap.size W w' → Below w.heap.size w w') := fun w' hw => hB0.trans (hw.mono (by omega))
  have HXc : Hid (∀ w', Below W.heap.size W w' → ∀ o, w'.cell? ⟨w.heap.size, o, none⟩ = (#[Value.int .i64 kind, .string name, .slice na nn nc, .slice pa pn pc, .bool many])[o]?) := fun w' hw o => (hw.cell (p := ⟨w.heap.size, o, none⟩) (by show w.heap.size < _; omega)).trans (hx0 o)
  clear hx0 hz0 hB0
  go_loopw [5] (fun i wr => ∃ k : Nat, k ≤ pn ∧ i = .int .i64 k ∧ Hid (Below W.heap.size W wr) ∧ Hid (∀ j, j < k → mayN d (parts j) = true)) (fun i _ => pn - (intOf i).toNat)
  case atStart => exact ⟨0, Nat.zero_le _, rfl, Below.refl _ _, fun j hj => by omega⟩
  case round =>
    obtain ⟨k, hk, rfl, HB, HK⟩ := hrel
    have hx1 := HXc.out wr HB.out
    by_cases hlt : k < pn
    · have hlt' : (k : Int) < pn := by omega
      have hidx : (0 : Int) ≤ k ∧ (k : Int) < pn := by omega
      obtain ⟨b, o, rfl, hb, hc⟩ := HP.out (by omega)
      obtain ⟨c0, c1, c2, c3, c4, g0, g1, g2, g3, g4, g5⟩ := hc k hlt
      have hcal := fun w' (hw : Below W.heap.size W w') => ih.out _ _ w' (g5.below (HW.out w' hw))
      have e0 : wr.cell? ⟨b, o + k * 5, none⟩ = some c0 := ((HW.out _ HB.out).cell (p := ⟨b, o + k * 5, none⟩) hb).trans g0
      have e1 : wr.cell? ⟨b, o + k * 5 + 1, none⟩ = some c1 := ((HW.out _ HB.out).cell (p := ⟨b, o + k * 5 + 1, none⟩) hb).trans g1
      have e2 : wr.cell? ⟨b, o + k * 5 + 2, none⟩ = some c2 := ((HW.out _ HB.out).cell (p := ⟨b, o + k * 5 + 2, none⟩) hb).trans g2
      have e3 : wr.cell? ⟨b, o + k * 5 + 3, none⟩ = some c3 := ((HW.out _ HB.out).cell (p := ⟨b, o + k * 5 + 3, none⟩) hb).trans g3
      have e4 : wr.cell? ⟨b, o + k * 5 + 4, none⟩ = some c4 := ((HW.out _ HB.out).cell (p := ⟨b, o + k * 5 + 4, none⟩) hb).trans g4
      clear g0 g1 g2 g3 g4 g5 hc
      cases hE : mayN d (parts k) with
      | false =>
        rw [hE] at hcal
        obtain rfl : r = false := by rw [HMs.out, all_at hlt hE]; simp
        go_wp2_with fail
        go_at_call 27
        refine (hcal _ HB.out).mono ?_
        rintro e w1 ⟨rfl, hb1⟩
        have HB1 : Hid (Below W.heap.size W w1) := HB.out.trans (hb1.mono HB.out.size)
        clear hb1
        go_wp2_with fail
        go_ret
        exact ⟨rfl, HW.out _ HB1.out⟩
      | true =>
        rw [hE] at hcal
        have HK1 : Hid (∀ j, j < k + 1 → mayN d (parts j) = true) := fun j hj => by
          by_cases e : j = k
          · subst e; exact hE
          · exact HK.out j (by omega)
        go_wp2_with fail
        go_at_call 27
        refine (hcal _ HB.out).mono ?_
        rintro e w1 ⟨rfl, hb1⟩
        have HB1 : Hid (Below W.heap.size W w1) := HB.out.trans (hb1.mono HB.out.size)
        clear hb1
        go_wp2_with fail
        go_roundw
        case rel => exact ⟨k + 1, by omega, by go_num, HB1, HK1⟩
        case measure => simp [intOf]; omega
    · obtain rfl : k = pn := by omega
      have hlt' : ¬ (k : Int) < k := by omega
      have HR : Hid (r = (if kind = 3 then !many && nameB (bytes name) && decide (1 ≤ k) && decide (k ≤ 6) && decide (nn = k) && ((List.range k).all fun i => namesB names i) && decide (sizeT (.mk kind name nn names k parts many) ≤ 12)
          else decide (name.size = 0) && decide (nn = 0) && (if kind = 4 then decide (1 ≤ k) else (decide (kind = 1) || decide (kind = 2)) && decide (k = 0) && !many))) := by
        show _ = _
        rw [HMs.out, all_upto HK.out, decide_eq_true (show k ≤ 7 by omega), decide_eq_true (show nn ≤ 6 by omega)]
        rfl
      have HF : Hid (Few (.mk kind name nn names k parts many)) := by
        show Few _
        unfold Few
        exact ⟨by omega, fun i hi => sizeT_le (HK.out i hi)⟩
      clear HMs HM
      by_cases k3 : kind = 3
      · subst k3
        have HR3 : Hid (r = (!many && nameB (bytes name) && decide (1 ≤ k) && decide (k ≤ 6) && decide (nn = k) && ((List.range k).all fun i => namesB names i) && decide (sizeT (.mk 3 name nn names k parts many) ≤ 12))) := by
          show _ = _
          rw [HR.out, if_pos rfl]
        clear HR
        have HR := HR3
        clear HR3
        have hnm := fun w' => name_any name w' (by have : maxLen = 9223372036854775807 := rfl; omega)
        cases many with
        | true =>
          obtain rfl : r = false := by rw [HR.out]; rfl
          go_wp2_with fail
          go_ret
          exact ⟨rfl, HW.out _ HB.out⟩
        | false =>
          cases hN : nameB (bytes name) with
          | false =>
            rw [hN] at hnm
            obtain rfl : r = false := by rw [HR.out]; rw [hN]; rfl
            go_wp2_with fail
            go_at_call 34
            refine (hnm _).mono ?_
            rintro e w1 ⟨rfl, hb1⟩
            have HB1 : Hid (Below W.heap.size W w1) := HB.out.trans (hb1.mono HB.out.size)
            have hx2 := HXc.out w1 HB1.out
            clear hb1
            go_wp2_with fail
            go_ret
            exact ⟨rfl, HW.out _ HB1.out⟩
          | true =>
            rw [hN] at hnm
            by_cases k1 : k < 1
            · have k1' : (k : Int) < 1 := by omega
              obtain rfl : r = false := by rw [HR.out]; rw [hN, decide_eq_false (show ¬ 1 ≤ k by omega)]; rfl
              go_wp2_with fail
              go_at_call 34
              refine (hnm _).mono ?_
              rintro e w1 ⟨rfl, hb1⟩
              have HB1 : Hid (Below W.heap.size W w1) := HB.out.trans (hb1.mono HB.out.size)
              have hx2 := HXc.out w1 HB1.out
              clear hb1
              go_wp2_with fail
              go_ret
              exact ⟨rfl, HW.out _ HB1.out⟩
            have k1' : ¬ (k : Int) < 1 := by omega
            by_cases k6 : 6 < k
            · have k6' : (6 : Int) < k := by omega
              obtain rfl : r = false := by rw [HR.out]; rw [hN, decide_eq_true (show 1 ≤ k by omega), decide_eq_false (show ¬ k ≤ 6 by omega)]; rfl
              go_wp2_with fail
              go_at_call 34
              refine (hnm _).mono ?_
              rintro e w1 ⟨rfl, hb1⟩
              have HB1 : Hid (Below W.heap.size W w1) := HB.out.trans (hb1.mono HB.out.size)
              have hx2 := HXc.out w1 HB1.out
              clear hb1
              go_wp2_with fail
              go_ret
              exact ⟨rfl, HW.out _ HB1.out⟩
            have k6' : ¬ (6 : Int) < k := by omega
            by_cases nk : nn = k
            · subst nk
              have HRn : Hid (r = (((List.range nn).all fun i => namesB names i) && decide (sizeT (.mk 3 name nn names nn parts false) ≤ 12))) := by
                show _ = _
                rw [HR.out, hN, decide_eq_true (show 1 ≤ nn by omega), decide_eq_true (show nn ≤ 6 by omega), decide_eq_true rfl]
                rfl
              clear HR
              obtain ⟨b, o, rfl, hb, hc⟩ := HS.out (by omega)
              have HC := hide hc
              have HNm := hide hN
              clear hc hN
              go_wp2_with fail
              go_at_call 34
              refine (hnm _).mono ?_
              rintro e w1 ⟨rfl, hb1⟩
              have HB1 : Hid (Below W.heap.size W w1) := HB.out.trans (hb1.mono HB.out.size)
              have hx2 := HXc.out w1 HB1.out
              clear hb1
              go_wp2_with fail
              clear HB hx1
              generalize wr = wr0 at *
              go_loopw [7] (fun i wr => ∃ j : Nat, j ≤ nn ∧ i = .int .i64 j ∧ Hid (Below W.heap.size W wr) ∧ Hid (∀ i, i < j → namesB names i = true)) (fun i _ => nn - (intOf i).toNat)
              case atStart => exact ⟨0, Nat.zero_le _, rfl, HB1, fun j hj => by omega⟩
              case round =>
                clear HB1 hx2 hnm
                obtain ⟨j, hj, rfl, HB, HJ⟩ := hrel
                have hx1 := HXc.out wr HB.out
                by_cases hlj : j < nn
                · have hlj' : (j : Int) < nn := by omega
                  have hidj : (0 : Int) ≤ j ∧ (j : Int) < nn := by omega
                  have hcap : (0 : Int) ≤ j ∧ (j : Int) ≤ nc := by omega
                  have r1 : wr.cell? ⟨b, o + j, none⟩ = some (.string (names j)) := ((HW.out _ HB.out).cell (p := ⟨b, o + j, none⟩) hb).trans (HC.out j hlj)
                  have hnm := fun w' => name_any (names j) w' (by have : maxLen = 9223372036854775807 := rfl; have := q6 j hlj; omega)
                  have HSb : Hid (∀ w', Below W.heap.size W w' → (∀ o', w'.cell? ⟨w.heap.size, o', none⟩ = (#[Value.int .i64 3, .string name, .slice (some ⟨b, o, none⟩) nn nc, .slice pa nn pc, .bool false])[o']?) ∧ w'.cell? ⟨b, o + j, none⟩ = some (.string (names j))) := fun w' hw => ⟨HXc.out w' hw, ((HW.out _ hw).cell (p := ⟨b, o + j, none⟩) hb).trans (HC.out j hlj)⟩
                  have ham := fun w' (hw : Below W.heap.size W w') => among_any (some ⟨b, o, none⟩) j nc names (names j) w' (by omega) (fun _ => ⟨b, o, rfl, Nat.lt_of_lt_of_le hb (HW.out _ hw).size, fun i hi => ((HW.out _ hw).cell (p := ⟨b, o + i, none⟩) hb).trans (HC.out i (by omega))⟩)
                  cases hN : nameB (bytes (names j)) with
                  | false =>
                    rw [hN] at hnm
                    obtain rfl : r = false := by rw [HRn.out, all_at hlj (show namesB names j = false by unfold namesB; rw [hN]; rfl)]; rfl
                    go_wp2_with fail
                    refine wp_region_held_drew (S := (fun w' => (∀ o', w'.cell? ⟨w.heap.size, o', none⟩ = (#[Value.int .i64 3, .string name, .slice (some ⟨b, o, none⟩) nn nc, .slice pa nn pc, .bool false])[o']?) ∧ w'.cell? ⟨b, o + j, none⟩ = some (.string (names j)))) (by kernel_rfl) (HSb.out _ HB.out.drew) (fun hHeld => ?_)
                    refine wpAnyH_take (i := 0) (v := ?_) rfl (by kernel_rfl) (by kernel_rfl) (by kernel_rfl) (fun _ _ _ h => h) (Or.inl ⟨by rfl, ?_⟩) (by assumption) ?_
                    rotate_left
                    · (intro w hSw; (try dsimp only at hSw); go_simp) <;> with_reducible rfl
                    (simp only [Act.put, List.getElem_toArray, List.getElem_cons_zero, List.getElem_cons_succ, List.setIfInBounds_toArray, List.set_cons_zero, List.set_cons_succ])
                    refine wpAnyH_take (i := 1) (v := ?_) rfl (by kernel_rfl) (by kernel_rfl) (by kernel_rfl) (fun _ _ _ h => h) (Or.inl ⟨by rfl, ?_⟩) (by assumption) ?_
                    rotate_left
                    · (intro w hSw; (try dsimp only at hSw); go_simp) <;> with_reducible rfl
                    (simp only [Act.put, List.getElem_toArray, List.getElem_cons_zero, List.getElem_cons_succ, List.setIfInBounds_toArray, List.set_cons_zero, List.set_cons_succ])
                    refine wpAnyH_take (i := 2) (v := ?_) rfl (by kernel_rfl) (by kernel_rfl) (by kernel_rfl) (fun _ _ _ h => h) (Or.inl ⟨by rfl, ?_⟩) (by assumption) ?_
                    rotate_left
                    · (intro w hSw; (try dsimp only at hSw); go_simp) <;> with_reducible rfl
                    (simp only [Act.put, List.getElem_toArray, List.getElem_cons_zero, List.getElem_cons_succ, List.setIfInBounds_toArray, List.set_cons_zero, List.set_cons_succ])
                    refine wpAnyH_take (i := 3) (v := ?_) rfl (by kernel_rfl) (by kernel_rfl) (by kernel_rfl) (fun _ _ _ h => h) (Or.inl ⟨by rfl, ?_⟩) (by assumption) ?_
                    rotate_left
                    · (intro w hSw; (try dsimp only at hSw); go_simp) <;> with_reducible rfl
                    (simp only [Act.put, List.getElem_toArray, List.getElem_cons_zero, List.getElem_cons_succ, List.setIfInBounds_toArray, List.set_cons_zero, List.set_cons_succ])
                    refine wpAnyH_take (i := 4) (v := ?_) rfl (by kernel_rfl) (by kernel_rfl) (by kernel_rfl) (fun _ _ _ h => h) (Or.inl ⟨by rfl, ?_⟩) (by assumption) ?_
                    rotate_left
                    · (intro w hSw; (try dsimp only at hSw); go_simp) <;> with_reducible rfl
                    (simp only [Act.put, List.getElem_toArray, List.getElem_cons_zero, List.getElem_cons_succ, List.setIfInBounds_toArray, List.set_cons_zero, List.set_cons_succ])
                    refine wpAnyH_ready (rs := [5]) (by kernel_rfl) (by simp) ?_
                    refine AllReadyH.cons rfl (fun K hK => ?_) AllReadyH.nil
                    go_simp
                    refine (hnm _).mono ?_
                    rintro e w1 ⟨rfl, hb1⟩
                    have HB1 : Hid (Below W.heap.size W w1) := HB.out.drew.trans (hb1.mono HB.out.size)
                    refine hK.out _ _ (HSb.out _ HB1.out) (fun hHeld2 => ?_)
                    clear hK K hb1
                    (try simp only [Act.put, List.getElem_toArray, List.getElem_cons_zero, List.getElem_cons_succ, List.setIfInBounds_toArray, List.set_cons_zero, List.set_cons_succ])
                    refine wpAnyH_take (i := 6) (v := ?_) rfl (by kernel_rfl) (by kernel_rfl) (by kernel_rfl) (fun _ _ _ h => h) (Or.inl ⟨by rfl, ?_⟩) (by assumption) ?_
                    rotate_left
                    · (intro w hSw; (try dsimp only at hSw); go_simp) <;> with_reducible rfl
                    (simp only [Act.put, List.getElem_toArray, List.getElem_cons_zero, List.getElem_cons_succ, List.setIfInBounds_toArray, List.set_cons_zero, List.set_cons_succ])
                    refine wpAnyH_take (i := 7) (v := ?_) rfl (by kernel_rfl) (by kernel_rfl) (by kernel_rfl) (fun _ _ _ h => h) (Or.inl ⟨by rfl, ?_⟩) (by assumption) ?_
                    rotate_left
                    · (intro w hSw; (try dsimp only at hSw); go_simp) <;> with_reducible rfl
                    (simp only [Act.put, List.getElem_toArray, List.getElem_cons_zero, List.getElem_cons_succ, List.setIfInBounds_toArray, List.set_cons_zero, List.set_cons_succ])
                    refine wpAnyH_take (i := 8) (v := undef) rfl (by kernel_rfl) (by kernel_rfl) (by kernel_rfl) (fun _ _ _ h => h) (Or.inr ⟨by rfl, rfl⟩) (by assumption) ?_
                    (simp only [Act.put, List.getElem_toArray, List.getElem_cons_zero, List.getElem_cons_succ, List.setIfInBounds_toArray, List.set_cons_zero, List.set_cons_succ])
                    refine wpAnyH_take (i := 9) (v := undef) rfl (by kernel_rfl) (by kernel_rfl) (by kernel_rfl) (fun _ _ _ h => h) (Or.inr ⟨by rfl, rfl⟩) (by assumption) ?_
                    (simp only [Act.put, List.getElem_toArray, List.getElem_cons_zero, List.getElem_cons_succ, List.setIfInBounds_toArray, List.set_cons_zero, List.set_cons_succ])
                    refine wpAnyH_take (i := 10) (v := undef) rfl (by kernel_rfl) (by kernel_rfl) (by kernel_rfl) (fun _ _ _ h => h) (Or.inr ⟨by rfl, rfl⟩) (by assumption) ?_
                    (simp only [Act.put, List.getElem_toArray, List.getElem_cons_zero, List.getElem_cons_succ, List.setIfInBounds_toArray, List.set_cons_zero, List.set_cons_succ])
                    refine wpAnyH_take (i := 11) (v := undef) rfl (by kernel_rfl) (by kernel_rfl) (by kernel_rfl) (fun _ _ _ h => h) (Or.inr ⟨by rfl, rfl⟩) (by assumption) ?_
                    (simp only [Act.put, List.getElem_toArray, List.getElem_cons_zero, List.getElem_cons_succ, List.setIfInBounds_toArray, List.set_cons_zero, List.set_cons_succ])
                    refine wpAnyH_take (i := 12) (v := undef) rfl (by kernel_rfl) (by kernel_rfl) (by kernel_rfl) (fun _ _ _ h => h) (Or.inr ⟨by rfl, rfl⟩) (by assumption) ?_
                    (simp only [Act.put, List.getElem_toArray, List.getElem_cons_zero, List.getElem_cons_succ, List.setIfInBounds_toArray, List.set_cons_zero, List.set_cons_succ])
                    refine wpAnyH_take (i := 13) (v := undef) rfl (by kernel_rfl) (by kernel_rfl) (by kernel_rfl) (fun _ _ _ h => h) (Or.inr ⟨by rfl, rfl⟩) (by assumption) ?_
                    (simp only [Act.put, List.getElem_toArray, List.getElem_cons_zero, List.getElem_cons_succ, List.setIfInBounds_toArray, List.set_cons_zero, List.set_cons_succ])
                    refine wpAnyH_take (i := 14) (v := undef) rfl (by kernel_rfl) (by kernel_rfl) (by kernel_rfl) (fun _ _ _ h => h) (Or.inr ⟨by rfl, rfl⟩) (by assumption) ?_
                    (simp only [Act.put, List.getElem_toArray, List.getElem_cons_zero, List.getElem_cons_succ, List.setIfInBounds_toArray, List.set_cons_zero, List.set_cons_succ])
                    refine wpAnyH_take (i := 15) (v := undef) rfl (by kernel_rfl) (by kernel_rfl) (by kernel_rfl) (fun _ _ _ h => h) (Or.inr ⟨by rfl, rfl⟩) (by assumption) ?_
                    (simp only [Act.put, List.getElem_toArray, List.getElem_cons_zero, List.getElem_cons_succ, List.setIfInBounds_toArray, List.set_cons_zero, List.set_cons_succ])
                    refine wpAnyH_take (i := 16) (v := undef) rfl (by kernel_rfl) (by kernel_rfl) (by kernel_rfl) (fun _ _ _ h => h) (Or.inr ⟨by rfl, rfl⟩) (by assumption) ?_
                    (simp only [Act.put, List.getElem_toArray, List.getElem_cons_zero, List.getElem_cons_succ, List.setIfInBounds_toArray, List.set_cons_zero, List.set_cons_succ])
                    refine wpAnyH_take (i := 17) (v := undef) rfl (by kernel_rfl) (by kernel_rfl) (by kernel_rfl) (fun _ _ _ h => h) (Or.inr ⟨by rfl, rfl⟩) (by assumption) ?_
                    (simp only [Act.put, List.getElem_toArray, List.getElem_cons_zero, List.getElem_cons_succ, List.setIfInBounds_toArray, List.set_cons_zero, List.set_cons_succ])
                    refine wpAnyH_take (i := 18) (v := ?_) rfl (by kernel_rfl) (by kernel_rfl) (by kernel_rfl) (fun _ _ _ h => h) (Or.inl ⟨by rfl, ?_⟩) (by assumption) ?_
                    rotate_left
                    · (intro w hSw; (try dsimp only at hSw); go_simp) <;> with_reducible rfl
                    (simp only [Act.put, List.getElem_toArray, List.getElem_cons_zero, List.getElem_cons_succ, List.setIfInBounds_toArray, List.set_cons_zero, List.set_cons_succ])
                    refine wpAnyH_done (by kernel_rfl) ?_ _
                    go_wp2_with fail
                    go_ret
                    exact ⟨rfl, HW.out _ HB1.out⟩
                  | true =>
                    rw [hN] at hnm
                    cases hA : ((List.range j).any fun i => decide (names i = names j)) with
                    | true =>
                      rw [hA] at ham
                      obtain rfl : r = false := by rw [HRn.out, all_at hlj (show namesB names j = false by unfold namesB; rw [hN, hA]; rfl)]; rfl
                      go_wp2_with fail
                      refine wp_region_held_drew (S := (fun w' => (∀ o', w'.cell? ⟨w.heap.size, o', none⟩ = (#[Value.int .i64 3, .string name, .slice (some ⟨b, o, none⟩) nn nc, .slice pa nn pc, .bool false])[o']?) ∧ w'.cell? ⟨b, o + j, none⟩ = some (.string (names j)))) (by kernel_rfl) (HSb.out _ HB.out.drew) (fun hHeld => ?_)
                      refine wpAnyH_take (i := 0) (v := ?_) rfl (by kernel_rfl) (by kernel_rfl) (by kernel_rfl) (fun _ _ _ h => h) (Or.inl ⟨by rfl, ?_⟩) (by assumption) ?_
                      rotate_left
                      · (intro w hSw; (try dsimp only at hSw); go_simp) <;> with_reducible rfl
                      (simp only [Act.put, List.getElem_toArray, List.getElem_cons_zero, List.getElem_cons_succ, List.setIfInBounds_toArray, List.set_cons_zero, List.set_cons_succ])
                      refine wpAnyH_take (i := 1) (v := ?_) rfl (by kernel_rfl) (by kernel_rfl) (by kernel_rfl) (fun _ _ _ h => h) (Or.inl ⟨by rfl, ?_⟩) (by assumption) ?_
                      rotate_left
                      · (intro w hSw; (try dsimp only at hSw); go_simp) <;> with_reducible rfl
                      (simp only [Act.put, List.getElem_toArray, List.getElem_cons_zero, List.getElem_cons_succ, List.setIfInBounds_toArray, List.set_cons_zero, List.set_cons_succ])
                      refine wpAnyH_take (i := 2) (v := ?_) rfl (by kernel_rfl) (by kernel_rfl) (by kernel_rfl) (fun _ _ _ h => h) (Or.inl ⟨by rfl, ?_⟩) (by assumption) ?_
                      rotate_left
                      · (intro w hSw; (try dsimp only at hSw); go_simp) <;> with_reducible rfl
                      (simp only [Act.put, List.getElem_toArray, List.getElem_cons_zero, List.getElem_cons_succ, List.setIfInBounds_toArray, List.set_cons_zero, List.set_cons_succ])
                      refine wpAnyH_take (i := 3) (v := ?_) rfl (by kernel_rfl) (by kernel_rfl) (by kernel_rfl) (fun _ _ _ h => h) (Or.inl ⟨by rfl, ?_⟩) (by assumption) ?_
                      rotate_left
                      · (intro w hSw; (try dsimp only at hSw); go_simp) <;> with_reducible rfl
                      (simp only [Act.put, List.getElem_toArray, List.getElem_cons_zero, List.getElem_cons_succ, List.setIfInBounds_toArray, List.set_cons_zero, List.set_cons_succ])
                      refine wpAnyH_take (i := 4) (v := ?_) rfl (by kernel_rfl) (by kernel_rfl) (by kernel_rfl) (fun _ _ _ h => h) (Or.inl ⟨by rfl, ?_⟩) (by assumption) ?_
                      rotate_left
                      · (intro w hSw; (try dsimp only at hSw); go_simp) <;> with_reducible rfl
                      (simp only [Act.put, List.getElem_toArray, List.getElem_cons_zero, List.getElem_cons_succ, List.setIfInBounds_toArray, List.set_cons_zero, List.set_cons_succ])
                      refine wpAnyH_ready (rs := [5]) (by kernel_rfl) (by simp) ?_
                      refine AllReadyH.cons rfl (fun K hK => ?_) AllReadyH.nil
                      go_simp
                      refine (hnm _).mono ?_
                      rintro e w1 ⟨rfl, hb1⟩
                      have HB1 : Hid (Below W.heap.size W w1) := HB.out.drew.trans (hb1.mono HB.out.size)
                      refine hK.out _ _ (HSb.out _ HB1.out) (fun hHeld2 => ?_)
                      clear hK K hb1
                      (try simp only [Act.put, List.getElem_toArray, List.getElem_cons_zero, List.getElem_cons_succ, List.setIfInBounds_toArray, List.set_cons_zero, List.set_cons_succ])
                      refine wpAnyH_take (i := 6) (v := ?_) rfl (by kernel_rfl) (by kernel_rfl) (by kernel_rfl) (fun _ _ _ h => h) (Or.inl ⟨by rfl, ?_⟩) (by assumption) ?_
                      rotate_left
                      · (intro w hSw; (try dsimp only at hSw); go_simp) <;> with_reducible rfl
                      (simp only [Act.put, List.getElem_toArray, List.getElem_cons_zero, List.getElem_cons_succ, List.setIfInBounds_toArray, List.set_cons_zero, List.set_cons_succ])
                      refine wpAnyH_take (i := 7) (v := ?_) rfl (by kernel_rfl) (by kernel_rfl) (by kernel_rfl) (fun _ _ _ h => h) (Or.inl ⟨by rfl, ?_⟩) (by assumption) ?_
                      rotate_left
                      · (intro w hSw; (try dsimp only at hSw); go_simp) <;> with_reducible rfl
                      (simp only [Act.put, List.getElem_toArray, List.getElem_cons_zero, List.getElem_cons_succ, List.setIfInBounds_toArray, List.set_cons_zero, List.set_cons_succ])
                      refine wpAnyH_take (i := 8) (v := ?_) rfl (by kernel_rfl) (by kernel_rfl) (by kernel_rfl) (fun _ _ _ h => h) (Or.inl ⟨by rfl, ?_⟩) (by assumption) ?_
                      rotate_left
                      · (intro w hSw; (try dsimp only at hSw); go_simp) <;> with_reducible rfl
                      (simp only [Act.put, List.getElem_toArray, List.getElem_cons_zero, List.getElem_cons_succ, List.setIfInBounds_toArray, List.set_cons_zero, List.set_cons_succ])
                      refine wpAnyH_take (i := 9) (v := ?_) rfl (by kernel_rfl) (by kernel_rfl) (by kernel_rfl) (fun _ _ _ h => h) (Or.inl ⟨by rfl, ?_⟩) (by assumption) ?_
                      rotate_left
                      · (intro w hSw; (try dsimp only at hSw); go_simp) <;> with_reducible rfl
                      (simp only [Act.put, List.getElem_toArray, List.getElem_cons_zero, List.getElem_cons_succ, List.setIfInBounds_toArray, List.set_cons_zero, List.set_cons_succ])
                      refine wpAnyH_take (i := 10) (v := ?_) rfl (by kernel_rfl) (by kernel_rfl) (by kernel_rfl) (fun _ _ _ h => h) (Or.inl ⟨by rfl, ?_⟩) (by assumption) ?_
                      rotate_left
                      · (intro w hSw; (try dsimp only at hSw); go_simp) <;> with_reducible rfl
                      (simp only [Act.put, List.getElem_toArray, List.getElem_cons_zero, List.getElem_cons_succ, List.setIfInBounds_toArray, List.set_cons_zero, List.set_cons_succ])
                      refine wpAnyH_take (i := 11) (v := ?_) rfl (by kernel_rfl) (by kernel_rfl) (by kernel_rfl) (fun _ _ _ h => h) (Or.inl ⟨by rfl, ?_⟩) (by assumption) ?_
                      rotate_left
                      · (intro w hSw; (try dsimp only at hSw); go_simp) <;> with_reducible rfl
                      (simp only [Act.put, List.getElem_toArray, List.getElem_cons_zero, List.getElem_cons_succ, List.setIfInBounds_toArray, List.set_cons_zero, List.set_cons_succ])
                      refine wpAnyH_take (i := 12) (v := ?_) rfl (by kernel_rfl) (by kernel_rfl) (by kernel_rfl) (fun _ _ _ h => h) (Or.inl ⟨by rfl, ?_⟩) (by assumption) ?_
                      rotate_left
                      · (intro w hSw; (try dsimp only at hSw); go_simp) <;> with_reducible rfl
                      (simp only [Act.put, List.getElem_toArray, List.getElem_cons_zero, List.getElem_cons_succ, List.setIfInBounds_toArray, List.set_cons_zero, List.set_cons_succ])
                      refine wpAnyH_take (i := 13) (v := ?_) rfl (by kernel_rfl) (by kernel_rfl) (by kernel_rfl) (fun _ _ _ h => h) (Or.inl ⟨by rfl, ?_⟩) (by assumption) ?_
                      rotate_left
                      · (intro w hSw; (try dsimp only at hSw); go_simp) <;> with_reducible rfl
                      (simp only [Act.put, List.getElem_toArray, List.getElem_cons_zero, List.getElem_cons_succ, List.setIfInBounds_toArray, List.set_cons_zero, List.set_cons_succ])
                      refine wpAnyH_take (i := 14) (v := ?_) rfl (by kernel_rfl) (by kernel_rfl) (by kernel_rfl) (fun _ _ _ h => h) (Or.inl ⟨by rfl, ?_⟩) (by assumption) ?_
                      rotate_left
                      · (intro w hSw; (try dsimp only at hSw); go_simp) <;> with_reducible rfl
                      (simp only [Act.put, List.getElem_toArray, List.getElem_cons_zero, List.getElem_cons_succ, List.setIfInBounds_toArray, List.set_cons_zero, List.set_cons_succ])
                      refine wpAnyH_take (i := 15) (v := ?_) rfl (by kernel_rfl) (by kernel_rfl) (by kernel_rfl) (fun _ _ _ h => h) (Or.inl ⟨by rfl, ?_⟩) (by assumption) ?_
                      rotate_left
                      · (intro w hSw; (try dsimp only at hSw); go_simp) <;> with_reducible rfl
                      (simp only [Act.put, List.getElem_toArray, List.getElem_cons_zero, List.getElem_cons_succ, List.setIfInBounds_toArray, List.set_cons_zero, List.set_cons_succ])
                      refine wpAnyH_take (i := 16) (v := ?_) rfl (by kernel_rfl) (by kernel_rfl) (by kernel_rfl) (fun _ _ _ h => h) (Or.inl ⟨by rfl, ?_⟩) (by assumption) ?_
                      rotate_left
                      · (intro w hSw; (try dsimp only at hSw); go_simp) <;> with_reducible rfl
                      (simp only [Act.put, List.getElem_toArray, List.getElem_cons_zero, List.getElem_cons_succ, List.setIfInBounds_toArray, List.set_cons_zero, List.set_cons_succ])
                      refine wpAnyH_ready (rs := [17]) (by kernel_rfl) (by simp) ?_
                      refine AllReadyH.cons rfl (fun K hK => ?_) AllReadyH.nil
                      go_simp
                      refine (ham _ HB1.out).mono ?_
                      rintro e w2 ⟨rfl, rfl⟩
                      refine hK.out _ _ (HSb.out _ HB1.out) (fun hHeld3 => ?_)
                      clear hK K
                      (try simp only [Act.put, List.getElem_toArray, List.getElem_cons_zero, List.getElem_cons_succ, List.setIfInBounds_toArray, List.set_cons_zero, List.set_cons_succ])
                      refine wpAnyH_take (i := 18) (v := ?_) rfl (by kernel_rfl) (by kernel_rfl) (by kernel_rfl) (fun _ _ _ h => h) (Or.inl ⟨by rfl, ?_⟩) (by assumption) ?_
                      rotate_left
                      · (intro w hSw; (try dsimp only at hSw); go_simp) <;> with_reducible rfl
                      (simp only [Act.put, List.getElem_toArray, List.getElem_cons_zero, List.getElem_cons_succ, List.setIfInBounds_toArray, List.set_cons_zero, List.set_cons_succ])
                      refine wpAnyH_done (by kernel_rfl) ?_ _
                      go_wp2_with fail
                      go_ret
                      exact ⟨rfl, HW.out _ HB1.out⟩
                    | false =>
                      rw [hA] at ham
                      have HJ1 : Hid (∀ i, i < j + 1 → namesB names i = true) := fun i hi => by
                        by_cases e : i = j
                        · subst e; unfold namesB; rw [hN, hA]; rfl
                        · exact HJ.out i (by omega)
                      have HH := hide (And.intro hN hA)
                      clear hN hA
                      go_wp2_with fail
                      refine wp_region_held_drew (S := (fun w' => (∀ o', w'.cell? ⟨w.heap.size, o', none⟩ = (#[Value.int .i64 3, .string name, .slice (some ⟨b, o, none⟩) nn nc, .slice pa nn pc, .bool false])[o']?) ∧ w'.cell? ⟨b, o + j, none⟩ = some (.string (names j)))) (by kernel_rfl) (HSb.out _ HB.out.drew) (fun hHeld => ?_)
                      refine wpAnyH_take (i := 0) (v := ?_) rfl (by kernel_rfl) (by kernel_rfl) (by kernel_rfl) (fun _ _ _ h => h) (Or.inl ⟨by rfl, ?_⟩) (by assumption) ?_
                      rotate_left
                      · (intro w hSw; (try dsimp only at hSw); go_simp) <;> with_reducible rfl
                      (simp only [Act.put, List.getElem_toArray, List.getElem_cons_zero, List.getElem_cons_succ, List.setIfInBounds_toArray, List.set_cons_zero, List.set_cons_succ])
                      refine wpAnyH_take (i := 1) (v := ?_) rfl (by kernel_rfl) (by kernel_rfl) (by kernel_rfl) (fun _ _ _ h => h) (Or.inl ⟨by rfl, ?_⟩) (by assumption) ?_
                      rotate_left
                      · (intro w hSw; (try dsimp only at hSw); go_simp) <;> with_reducible rfl
                      (simp only [Act.put, List.getElem_toArray, List.getElem_cons_zero, List.getElem_cons_succ, List.setIfInBounds_toArray, List.set_cons_zero, List.set_cons_succ])
                      refine wpAnyH_take (i := 2) (v := ?_) rfl (by kernel_rfl) (by kernel_rfl) (by kernel_rfl) (fun _ _ _ h => h) (Or.inl ⟨by rfl, ?_⟩) (by assumption) ?_
                      rotate_left
                      · (intro w hSw; (try dsimp only at hSw); go_simp) <;> with_reducible rfl
                      (simp only [Act.put, List.getElem_toArray, List.getElem_cons_zero, List.getElem_cons_succ, List.setIfInBounds_toArray, List.set_cons_zero, List.set_cons_succ])
                      refine wpAnyH_take (i := 3) (v := ?_) rfl (by kernel_rfl) (by kernel_rfl) (by kernel_rfl) (fun _ _ _ h => h) (Or.inl ⟨by rfl, ?_⟩) (by assumption) ?_
                      rotate_left
                      · (intro w hSw; (try dsimp only at hSw); go_simp) <;> with_reducible rfl
                      (simp only [Act.put, List.getElem_toArray, List.getElem_cons_zero, List.getElem_cons_succ, List.setIfInBounds_toArray, List.set_cons_zero, List.set_cons_succ])
                      refine wpAnyH_take (i := 4) (v := ?_) rfl (by kernel_rfl) (by kernel_rfl) (by kernel_rfl) (fun _ _ _ h => h) (Or.inl ⟨by rfl, ?_⟩) (by assumption) ?_
                      rotate_left
                      · (intro w hSw; (try dsimp only at hSw); go_simp) <;> with_reducible rfl
                      (simp only [Act.put, List.getElem_toArray, List.getElem_cons_zero, List.getElem_cons_succ, List.setIfInBounds_toArray, List.set_cons_zero, List.set_cons_succ])
                      refine wpAnyH_ready (rs := [5]) (by kernel_rfl) (by simp) ?_
                      refine AllReadyH.cons rfl (fun K hK => ?_) AllReadyH.nil
                      go_simp
                      refine (hnm _).mono ?_
                      rintro e w1 ⟨rfl, hb1⟩
                      have HB1 : Hid (Below W.heap.size W w1) := HB.out.drew.trans (hb1.mono HB.out.size)
                      refine hK.out _ _ (HSb.out _ HB1.out) (fun hHeld2 => ?_)
                      clear hK K hb1
                      (try simp only [Act.put, List.getElem_toArray, List.getElem_cons_zero, List.getElem_cons_succ, List.setIfInBounds_toArray, List.set_cons_zero, List.set_cons_succ])
                      refine wpAnyH_take (i := 6) (v := ?_) rfl (by kernel_rfl) (by kernel_rfl) (by kernel_rfl) (fun _ _ _ h => h) (Or.inl ⟨by rfl, ?_⟩) (by assumption) ?_
                      rotate_left
                      · (intro w hSw; (try dsimp only at hSw); go_simp) <;> with_reducible rfl
                      (simp only [Act.put, List.getElem_toArray, List.getElem_cons_zero, List.getElem_cons_succ, List.setIfInBounds_toArray, List.set_cons_zero, List.set_cons_succ])
                      refine wpAnyH_take (i := 7) (v := ?_) rfl (by kernel_rfl) (by kernel_rfl) (by kernel_rfl) (fun _ _ _ h => h) (Or.inl ⟨by rfl, ?_⟩) (by assumption) ?_
                      rotate_left
                      · (intro w hSw; (try dsimp only at hSw); go_simp) <;> with_reducible rfl
                      (simp only [Act.put, List.getElem_toArray, List.getElem_cons_zero, List.getElem_cons_succ, List.setIfInBounds_toArray, List.set_cons_zero, List.set_cons_succ])
                      refine wpAnyH_take (i := 8) (v := ?_) rfl (by kernel_rfl) (by kernel_rfl) (by kernel_rfl) (fun _ _ _ h => h) (Or.inl ⟨by rfl, ?_⟩) (by assumption) ?_
                      rotate_left
                      · (intro w hSw; (try dsimp only at hSw); go_simp) <;> with_reducible rfl
                      (simp only [Act.put, List.getElem_toArray, List.getElem_cons_zero, List.getElem_cons_succ, List.setIfInBounds_toArray, List.set_cons_zero, List.set_cons_succ])
                      refine wpAnyH_take (i := 9) (v := ?_) rfl (by kernel_rfl) (by kernel_rfl) (by kernel_rfl) (fun _ _ _ h => h) (Or.inl ⟨by rfl, ?_⟩) (by assumption) ?_
                      rotate_left
                      · (intro w hSw; (try dsimp only at hSw); go_simp) <;> with_reducible rfl
                      (simp only [Act.put, List.getElem_toArray, List.getElem_cons_zero, List.getElem_cons_succ, List.setIfInBounds_toArray, List.set_cons_zero, List.set_cons_succ])
                      refine wpAnyH_take (i := 10) (v := ?_) rfl (by kernel_rfl) (by kernel_rfl) (by kernel_rfl) (fun _ _ _ h => h) (Or.inl ⟨by rfl, ?_⟩) (by assumption) ?_
                      rotate_left
                      · (intro w hSw; (try dsimp only at hSw); go_simp) <;> with_reducible rfl
                      (simp only [Act.put, List.getElem_toArray, List.getElem_cons_zero, List.getElem_cons_succ, List.setIfInBounds_toArray, List.set_cons_zero, List.set_cons_succ])
                      refine wpAnyH_take (i := 11) (v := ?_) rfl (by kernel_rfl) (by kernel_rfl) (by kernel_rfl) (fun _ _ _ h => h) (Or.inl ⟨by rfl, ?_⟩) (by assumption) ?_
                      rotate_left
                      · (intro w hSw; (try dsimp only at hSw); go_simp) <;> with_reducible rfl
                      (simp only [Act.put, List.getElem_toArray, List.getElem_cons_zero, List.getElem_cons_succ, List.setIfInBounds_toArray, List.set_cons_zero, List.set_cons_succ])
                      refine wpAnyH_take (i := 12) (v := ?_) rfl (by kernel_rfl) (by kernel_rfl) (by kernel_rfl) (fun _ _ _ h => h) (Or.inl ⟨by rfl, ?_⟩) (by assumption) ?_
                      rotate_left
                      · (intro w hSw; (try dsimp only at hSw); go_simp) <;> with_reducible rfl
                      (simp only [Act.put, List.getElem_toArray, List.getElem_cons_zero, List.getElem_cons_succ, List.setIfInBounds_toArray, List.set_cons_zero, List.set_cons_succ])
                      refine wpAnyH_take (i := 13) (v := ?_) rfl (by kernel_rfl) (by kernel_rfl) (by kernel_rfl) (fun _ _ _ h => h) (Or.inl ⟨by rfl, ?_⟩) (by assumption) ?_
                      rotate_left
                      · (intro w hSw; (try dsimp only at hSw); go_simp) <;> with_reducible rfl
                      (simp only [Act.put, List.getElem_toArray, List.getElem_cons_zero, List.getElem_cons_succ, List.setIfInBounds_toArray, List.set_cons_zero, List.set_cons_succ])
                      refine wpAnyH_take (i := 14) (v := ?_) rfl (by kernel_rfl) (by kernel_rfl) (by kernel_rfl) (fun _ _ _ h => h) (Or.inl ⟨by rfl, ?_⟩) (by assumption) ?_
                      rotate_left
                      · (intro w hSw; (try dsimp only at hSw); go_simp) <;> with_reducible rfl
                      (simp only [Act.put, List.getElem_toArray, List.getElem_cons_zero, List.getElem_cons_succ, List.setIfInBounds_toArray, List.set_cons_zero, List.set_cons_succ])
                      refine wpAnyH_take (i := 15) (v := ?_) rfl (by kernel_rfl) (by kernel_rfl) (by kernel_rfl) (fun _ _ _ h => h) (Or.inl ⟨by rfl, ?_⟩) (by assumption) ?_
                      rotate_left
                      · (intro w hSw; (try dsimp only at hSw); go_simp) <;> with_reducible rfl
                      (simp only [Act.put, List.getElem_toArray, List.getElem_cons_zero, List.getElem_cons_succ, List.setIfInBounds_toArray, List.set_cons_zero, List.set_cons_succ])
                      refine wpAnyH_take (i := 16) (v := ?_) rfl (by kernel_rfl) (by kernel_rfl) (by kernel_rfl) (fun _ _ _ h => h) (Or.inl ⟨by rfl, ?_⟩) (by assumption) ?_
                      rotate_left
                      · (intro w hSw; (try dsimp only at hSw); go_simp) <;> with_reducible rfl
                      (simp only [Act.put, List.getElem_toArray, List.getElem_cons_zero, List.getElem_cons_succ, List.setIfInBounds_toArray, List.set_cons_zero, List.set_cons_succ])
                      refine wpAnyH_ready (rs := [17]) (by kernel_rfl) (by simp) ?_
                      refine AllReadyH.cons rfl (fun K hK => ?_) AllReadyH.nil
                      go_simp
                      refine (ham _ HB1.out).mono ?_
                      rintro e w2 ⟨rfl, rfl⟩
                      refine hK.out _ _ (HSb.out _ HB1.out) (fun hHeld3 => ?_)
                      clear hK K
                      (try simp only [Act.put, List.getElem_toArray, List.getElem_cons_zero, List.getElem_cons_succ, List.setIfInBounds_toArray, List.set_cons_zero, List.set_cons_succ])
                      refine wpAnyH_take (i := 18) (v := ?_) rfl (by kernel_rfl) (by kernel_rfl) (by kernel_rfl) (fun _ _ _ h => h) (Or.inl ⟨by rfl, ?_⟩) (by assumption) ?_
                      rotate_left
                      · (intro w hSw; (try dsimp only at hSw); go_simp) <;> with_reducible rfl
                      (simp only [Act.put, List.getElem_toArray, List.getElem_cons_zero, List.getElem_cons_succ, List.setIfInBounds_toArray, List.set_cons_zero, List.set_cons_succ])
                      refine wpAnyH_done (by kernel_rfl) ?_ _
                      go_wp2_with fail
                      go_roundw
                      case rel => exact ⟨j + 1, by omega, by go_num, HB1, HJ1⟩
                      case measure => simp [intOf]; omega
                · obtain rfl : j = nn := by omega
                  have hlj' : ¬ (j : Int) < j := by omega
                  have hsz := fun w' (hw : Below W.heap.size W w') => size_any _ HF.out _ w' (HT.out.below (HW.out w' hw))
                  have HRs : Hid (r = decide (sizeT (.mk 3 name j names j parts false) ≤ 12)) := by
                    show _ = _
                    rw [HRn.out, all_upto HJ.out]
                    rfl
                  clear HRn HF
                  generalize sizeT (.mk 3 name j names j parts false) = sz at *
                  by_cases s12 : sz ≤ 12
                  · obtain rfl : r = true := by rw [HRs.out, decide_eq_true s12]
                    have s12' : (sz : Int) ≤ 12 := by omega
                    go_wp2_with fail
                    go_at_call 18
                    refine (hsz _ HB.out).mono ?_
                    rintro e w1 ⟨rfl, hb1⟩
                    have HB1 : Hid (Below W.heap.size W w1) := HB.out.trans (hb1.mono HB.out.size)
                    clear hb1
                    go_wp2_with fail
                    go_ret
                    exact ⟨rfl, HW.out _ HB1.out⟩
                  · obtain rfl : r = false := by rw [HRs.out, decide_eq_false s12]
                    have s12' : ¬ (sz : Int) ≤ 12 := by omega
                    have HS12 := hide s12
                    go_wp2_with fail
                    go_at_call 18
                    refine (hsz _ HB.out).mono ?_
                    rintro e w1 ⟨rfl, hb1⟩
                    have HB1 : Hid (Below W.heap.size W w1) := HB.out.trans (hb1.mono HB.out.size)
                    clear hb1
                    go_wp2_with fail
                    go_ret
                    exact ⟨by show Ending.returned (.bool (decide ((sz : Int) ≤ 12))) = _; rw [decide_eq_false (show ¬ (sz : Int) ≤ 12 by have := HS12.out; omega)], HW.out _ HB1.out⟩
            · have nk1 : ((nn : Int) == (k : Int)) = false := by simp; omega
              have nk2 : ((nn : Int) != (k : Int)) = true := by simp; omega
              have nk3 : (nn == k) = false := by simp; omega
              have nk4 : (nn != k) = true := by simp; omega
              obtain rfl : r = false := by rw [HR.out, decide_eq_false nk]; simp
              go_wp2_with fail
              go_at_call 34
              refine (hnm _).mono ?_
              rintro e w1 ⟨rfl, hb1⟩
              have HB1 : Hid (Below W.heap.size W w1) := HB.out.trans (hb1.mono HB.out.size)
              have hx2 := HXc.out w1 HB1.out
              clear hb1
              go_wp2_with fail
              go_ret
              exact ⟨rfl, HW.out _ HB1.out⟩
      · have k3' : (kind == 3) = false := by simpa using k3
        have HR3 : Hid (r = (decide (name.size = 0) && decide (nn = 0) && (if kind = 4 then decide (1 ≤ k) else (decide (kind = 1) || decide (kind = 2)) && decide (k = 0) && !many))) := by
          show _ = _
          rw [HR.out, if_neg k3]
        clear HR HF
        by_cases ns : name.size = 0
        · obtain rfl : name = ⟨#[]⟩ := ba_empty ns rfl
          by_cases n0 : 0 < nn
          · have n0' : (0 : Int) < nn := by omega
            obtain rfl : r = false := by rw [HR3.out, decide_eq_false (show ¬ nn = 0 by omega)]; simp
            go_wp2_with fail
            go_ret
            exact ⟨rfl, HW.out _ HB.out⟩
          · obtain rfl : nn = 0 := by omega
            by_cases k4 : kind = 4
            · subst k4
              by_cases k1 : 1 ≤ k
              · have k1' : (1 : Int) ≤ k := by omega
                obtain rfl : r = true := by rw [HR3.out, if_pos rfl, decide_eq_true k1, decide_eq_true ns]; rfl
                go_wp2_with fail
                go_ret
                exact ⟨rfl, HW.out _ HB.out⟩
              · have k1' : ¬ (1 : Int) ≤ k := by omega
                obtain rfl : r = false := by rw [HR3.out, if_pos rfl, decide_eq_false k1]; simp
                go_wp2_with fail
                go_ret
                exact ⟨rfl, HW.out _ HB.out⟩
            · have k4' : (kind == 4) = false := by simpa using k4
              have HR4 : Hid (r = ((decide (kind = 1) || decide (kind = 2)) && decide (k = 0) && !many)) := by
                show _ = _
                rw [HR3.out, if_neg k4, decide_eq_true ns]
                rfl
              by_cases k1 : kind = 1
              · subst k1
                cases kz : decide (k = 0) with
                | true =>
                  have kz0 : k = 0 := by simpa using kz
                  obtain rfl : r = !many := by rw [HR4.out, kz]; rfl
                  have kz' : ((k : Int) == 0) = true := by simp [kz0]
                  clear kz
                  subst kz0
                  go_wp2_with fail
                  go_ret
                  exact ⟨rfl, HW.out _ HB.out⟩
                | false =>
                  have kz0 : ¬ k = 0 := by simpa using kz
                  obtain rfl : r = false := by rw [HR4.out, kz]; rfl
                  have kz' : ((k : Int) == 0) = false := by simp; omega
                  have kz2 : ¬ (k : Int) = 0 := by omega
                  clear kz
                  go_wp2_with fail
                  go_ret
                  exact ⟨rfl, HW.out _ HB.out⟩
              · have k1' : (kind == 1) = false := by simpa using k1
                by_cases k2 : kind = 2
                · subst k2
                  cases kz : decide (k = 0) with
                  | true =>
                    have kz0 : k = 0 := by simpa using kz
                    obtain rfl : r = !many := by rw [HR4.out, kz]; rfl
                    have kz' : ((k : Int) == 0) = true := by simp [kz0]
                    clear kz
                    subst kz0
                    go_wp2_with fail
                    go_ret
                    exact ⟨rfl, HW.out _ HB.out⟩
                  | false =>
                    have kz0 : ¬ k = 0 := by simpa using kz
                    obtain rfl : r = false := by rw [HR4.out, kz]; rfl
                    have kz' : ((k : Int) == 0) = false := by simp; omega
                    have kz2 : ¬ (k : Int) = 0 := by omega
                    clear kz
                    go_wp2_with fail
                    go_ret
                    exact ⟨rfl, HW.out _ HB.out⟩
                · have k2' : (kind == 2) = false := by simpa using k2
                  obtain rfl : r = false := by rw [HR4.out, decide_eq_false k1, decide_eq_false k2]; rfl
                  go_wp2_with fail
                  go_ret
                  exact ⟨rfl, HW.out _ HB.out⟩
        · have ne1 : (name.toList == (⟨#[]⟩ : ByteArray).toList) = false := by rw [str_eq]; exact decide_eq_false (fun e => ns (by rw [e]; rfl))
          have ne2 : (name.toList == []) = false := by
            have e0 : (⟨#[]⟩ : ByteArray).toList = [] := by rw [ByteArray.toList_eq]
            rw [e0] at ne1
            exact ne1
          have ne3 : ¬ name.toList = [] := by simpa using ne2
          obtain rfl : r = false := by rw [HR3.out, decide_eq_false ns]; rfl
          go_wp2_with fail
          go_ret
          exact ⟨rfl, HW.out _ HB.out⟩
theorem may_all : ∀ (d : Nat), d ≤ 1000 → ∀ (T : Ty) (v : Value) (w : World), TyV w T v → Calls Try.prog 27 #[v, .int .i64 d] w fun e w' => e = .returned (.bool (mayN d T)) ∧ Below w.heap.size w w' := by
  intro d
  induction d with
  | zero => intro _ T v w hv; exact may_zero T v w hv
  | succ d ih =>
    intro hd T v w hv
    rcases T with _ | ⟨kind, name, nn, names, pn, parts, many⟩
    · exact (TyV_leaf hv).elim
    exact may_step d (by omega) (fun T v w hv => ih (by omega) T v w hv) v w hv _ rfl
set_option maxRecDepth 100000 in
theorem may_any (T : Ty) (v : Value) (w : World) (hv : TyV w T v) : Calls Try.prog 17 #[v] w fun e w' => e = .returned (.bool (mayN 4 T)) ∧ Below w.heap.size w w' := by
  rcases T with _ | ⟨kind, name, nn, names, pn, parts, many⟩
  · exact (TyV_leaf hv).elim
  obtain ⟨na, nc, pa, pc, rfl, hS, q1, q2, q3, q4, q5, q6, q7, HP⟩ := hv.part
  have hB0 : Below w.heap.size w (w.alloc (.cells #[.int .i64 kind, .string name, .slice na nn nc, .slice pa pn pc, .bool many] 25)) := (Below.refl _ _).alloc (Nat.le_refl _) _
  have hcal := may_all 4 (by omega) _ _ _ (hv.below hB0)
  have HB0 := hide hB0
  clear hv hS hB0
  generalize mayN 4 (.mk kind name nn names pn parts many) = r at *
  go_enter Try.func17, Try.ntmps17
  go_wp2_with fail
  go_at_call 27
  refine hcal.mono ?_
  rintro e w1 ⟨rfl, hb1⟩
  have HB1 : Hid (Below w.heap.size w w1) := HB0.out.trans (hb1.mono HB0.out.size)
  clear hb1
  go_wp2_with fail
  go_ret
  exact ⟨rfl, HB1.out⟩
end Go.Proofs.Ytmbhcpnlfdgkjaa.T
