/- The contract of the reference's Alike. -/
import Derived.Test.YtakijacfadpmoaaText
import Derived.BigQuiet
namespace Go.Proofs.Ytakijacfadpmoaa.T
open Go.RowKit
set_option linter.unusedVariables false
set_option linter.unusedSimpArgs false
theorem below_drewN {B : Nat} {a w : World} (h : Below B a w) (n : Nat) : Below B a (w.drewN n) := ⟨h.os, h.tape, h.output, h.size, h.block⟩
theorem alikeT_mk (kind kind' : Int) (name name' : ByteArray) (nn nn' : Nat) (names names' : Nat → ByteArray) (pn pn' : Nat) (parts parts' : Nat → Ty) (many many' : Bool) :
    alikeT (.mk kind name nn names pn parts many) (.mk kind' name' nn' names' pn' parts' many') = (decide (kind = kind') && decide (name = name') && decide (many = many') && decide (pn = pn') && decide (nn = nn') && ((List.range nn).all fun i => decide (names i = names' i)) && ((List.range pn).all fun i => alikeT (parts i) (parts' i))) := by rw [alikeT]
set_option maxRecDepth 100000 in
set_option maxHeartbeats 2000000 in
theorem alike_any : ∀ (a b : Ty) (va vb : Value) (w : World), TyV w a va → TyV w b vb → Calls Try.prog 18 #[va, vb] w fun e w' => e = .returned (.bool (alikeT a b)) ∧ Below w.heap.size w w' := by
  intro a
  induction a with
  | leaf => intro b va vb w ha; exact (TyV_leaf ha).elim
  | mk kind name nn names pn parts many ih =>
    intro b va vb w ha hb
    rcases b with _ | ⟨kind', name', nn', names', pn', parts', many'⟩
    · exact (TyV_leaf hb).elim
    obtain ⟨na, nc, pa, pc, rfl, hS, q1, q2, q3, q4, q5, q6, q7, HP⟩ := ha.part
    obtain ⟨na', nc', pa', pc', rfl, hS', r1, r2, r3, r4, r5, r6, r7, HP'⟩ := hb.part
    obtain ⟨r, hr⟩ : ∃ r, r = alikeT (.mk kind name nn names pn parts many) (.mk kind' name' nn' names' pn' parts' many') := ⟨_, rfl⟩
    rw [← hr]
    rw [alikeT_mk] at hr
    have HR := hide hr
    have HS := hide hS
    have HS' := hide hS'
    have HI := hide ih
    clear hr hS hS' ih ha hb
    have hB0 : Below w.heap.size w ((w.alloc (.cells #[.int .i64 kind, .string name, .slice na nn nc, .slice pa pn pc, .bool many] 25)).alloc (.cells #[.int .i64 kind', .string name', .slice na' nn' nc', .slice pa' pn' pc', .bool many'] 25)) := ((Below.refl _ _).alloc (Nat.le_refl _) _).alloc (by simp) _
    by_cases c1 : kind = kind'
    case neg =>
      have t1 : (kind == kind') = false := by simpa using c1
      have t2 : (kind != kind') = true := by simpa using c1
      obtain rfl : r = false := by rw [HR.out, decide_eq_false c1]; simp
      go_enter Try.func18, Try.ntmps18
      go_wp2_with fail
      go_ret
      exact ⟨rfl, hB0⟩
    subst c1
    by_cases c2 : name = name'
    case neg =>
      have t1 : (name.toList == name'.toList) = false := by rw [str_eq]; exact decide_eq_false c2
      have t2 : (name.toList != name'.toList) = true := by unfold bne; rw [t1]; rfl
      obtain rfl : r = false := by rw [HR.out, decide_eq_false c2]; simp
      go_enter Try.func18, Try.ntmps18
      go_wp2_with fail
      go_ret
      exact ⟨rfl, hB0⟩
    subst c2
    by_cases c3 : many = many'
    case neg =>
      have t1 : (many == many') = false := by simpa using c3
      have t2 : (many != many') = true := by simpa using c3
      obtain rfl : r = false := by rw [HR.out, decide_eq_false c3]; simp
      go_enter Try.func18, Try.ntmps18
      go_wp2_with fail
      go_ret
      exact ⟨rfl, hB0⟩
    subst c3
    by_cases c4 : pn = pn'
    case neg =>
      have t1 : ((pn : Int) == (pn' : Int)) = false := by simp; omega
      have t2 : ((pn : Int) != (pn' : Int)) = true := by simp; omega
      have t3 : (pn == pn') = false := by simpa using c4
      have t4 : (pn != pn') = true := by simpa using c4
      obtain rfl : r = false := by rw [HR.out, decide_eq_false c4]; simp
      go_enter Try.func18, Try.ntmps18
      go_wp2_with fail
      go_ret
      exact ⟨rfl, hB0⟩
    subst c4
    by_cases c5 : nn = nn'
    case neg =>
      have t1 : ((nn : Int) == (nn' : Int)) = false := by simp; omega
      have t2 : ((nn : Int) != (nn' : Int)) = true := by simp; omega
      have t3 : (nn == nn') = false := by simpa using c5
      have t4 : (nn != nn') = true := by simpa using c5
      obtain rfl : r = false := by rw [HR.out, decide_eq_false c5]; simp
      go_enter Try.func18, Try.ntmps18
      go_wp2_with fail
      go_ret
      exact ⟨rfl, hB0⟩
    subst c5
    have HR5 : Hid (r = (((List.range nn).all fun i => decide (names i = names' i)) && ((List.range pn).all fun i => alikeT (parts i) (parts' i)))) := by
      show _ = _
      rw [HR.out]
      simp
    clear HR
    go_enter Try.func18, Try.ntmps18
    go_wp2_with fail
    have hx0 : ∀ o, ((w.alloc (.cells #[.int .i64 kind, .string name, .slice na nn nc, .slice pa pn pc, .bool many] 25)).alloc (.cells #[.int .i64 kind, .string name, .slice na' nn nc', .slice pa' pn pc', .bool many] 25)).cell? ⟨w.heap.size, o, none⟩ = (#[Value.int .i64 kind, .string name, .slice na nn nc, .slice pa pn pc, .bool many])[o]? := fun o => (World.cell?_alloc_past _ _ _ (by simp)).trans (World.cell?_alloc_at _ _ _ _ rfl)
    have hy0 : ∀ o, ((w.alloc (.cells #[.int .i64 kind, .string name, .slice na nn nc, .slice pa pn pc, .bool many] 25)).alloc (.cells #[.int .i64 kind, .string name, .slice na' nn nc', .slice pa' pn pc', .bool many] 25)).cell? ⟨w.heap.size + 1, o, none⟩ = (#[Value.int .i64 kind, .string name, .slice na' nn nc', .slice pa' pn pc', .bool many])[o]? := fun o => World.cell?_alloc_at _ _ _ _ (by simp)
    have hz0 : ((w.alloc (.cells #[.int .i64 kind, .string name, .slice na nn nc, .slice pa pn pc, .bool many] 25)).alloc (.cells #[.int .i64 kind, .string name, .slice na' nn nc', .slice pa' pn pc', .bool many] 25)).heap.size = w.heap.size + 1 + 1 := by simp
    generalize (w.alloc (.cells #[.int .i64 kind, .string name, .slice na nn nc, .slice pa pn pc, .bool many] 25)).alloc (.cells #[.int .i64 kind, .string name, .slice na' nn nc', .slice pa' pn pc', .bool many] 25) = W at *
    have HW : Hid (∀ w', Below W.heap.size W w' → Below w.heap.size w w') := fun w' hw => hB0.trans (hw.mono (by omega))
    have HXc : Hid (∀ w', Below W.heap.size W w' → (∀ o, w'.cell? ⟨w.heap.size, o, none⟩ = (#[Value.int .i64 kind, .string name, .slice na nn nc, .slice pa pn pc, .bool many])[o]?) ∧ (∀ o, w'.cell? ⟨w.heap.size + 1, o, none⟩ = (#[Value.int .i64 kind, .string name, .slice na' nn nc', .slice pa' pn pc', .bool many])[o]?)) := fun w' hw => ⟨fun o => (hw.cell (p := ⟨w.heap.size, o, none⟩) (by show w.heap.size < _; omega)).trans (hx0 o), fun o => (hw.cell (p := ⟨w.heap.size + 1, o, none⟩) (by show w.heap.size + 1 < _; omega)).trans (hy0 o)⟩
    clear hx0 hy0 hz0 hB0
    go_loopw [5] (fun i wr => ∃ k : Nat, k ≤ nn ∧ i = .int .i64 k ∧ Hid (Below W.heap.size W wr) ∧ Hid (∀ j, j < k → decide (names j = names' j) = true)) (fun i _ => nn - (intOf i).toNat)
    case atStart => exact ⟨0, Nat.zero_le _, rfl, Below.refl _ _, fun j hj => by omega⟩
    case round =>
      obtain ⟨k, hk, rfl, HB, HK⟩ := hrel
      obtain ⟨hx1, hy1⟩ := HXc.out wr HB.out
      by_cases hlt : k < nn
      · have hlt' : (k : Int) < nn := by omega
        have hidx : (0 : Int) ≤ k ∧ (k : Int) < nn := by omega
        obtain ⟨b1, o1, rfl, hb1, hc1⟩ := HS.out (by omega)
        obtain ⟨b2, o2, rfl, hb2, hc2⟩ := HS'.out (by omega)
        have e1 : wr.cell? ⟨b1, o1 + k, none⟩ = some (.string (names k)) := ((HW.out _ HB.out).cell (p := ⟨b1, o1 + k, none⟩) hb1).trans (hc1 k hlt)
        have e2 : wr.cell? ⟨b2, o2 + k, none⟩ = some (.string (names' k)) := ((HW.out _ HB.out).cell (p := ⟨b2, o2 + k, none⟩) hb2).trans (hc2 k hlt)
        clear hc1 hc2
        by_cases he : names k = names' k
        · have t1 : ((names k).toList == (names' k).toList) = true := by rw [str_eq]; exact decide_eq_true he
          have t2 : ((names k).toList != (names' k).toList) = false := by unfold bne; rw [t1]; rfl
          have HK1 : Hid (∀ j, j < k + 1 → decide (names j = names' j) = true) := fun j hj => by
            by_cases e : j = k
            · subst e; exact decide_eq_true he
            · exact HK.out j (by omega)
          have HH := hide he
          clear he
          go_wp2_with fail
          go_quiet (fail)
          generalize nq = q
          go_wp2_with fail
          go_roundw
          case rel => exact ⟨k + 1, by omega, by go_num, below_drewN HB.out q, HK1⟩
          case measure => simp [intOf]; omega
        · have t1 : ((names k).toList == (names' k).toList) = false := by rw [str_eq]; exact decide_eq_false he
          have t2 : ((names k).toList != (names' k).toList) = true := by unfold bne; rw [t1]; rfl
          obtain rfl : r = false := by rw [HR5.out, all_at hlt (decide_eq_false he)]; rfl
          go_wp2_with fail
          go_quiet (fail)
          generalize nq = q
          go_wp2_with fail
          go_ret
          exact ⟨rfl, HW.out _ (below_drewN HB.out q)⟩
      · obtain rfl : nn = k := by omega
        have hlt' : ¬ (nn : Int) < nn := by omega
        have HR6 : Hid (r = ((List.range pn).all fun i => alikeT (parts i) (parts' i))) := by
          show _ = _
          rw [HR5.out, all_upto HK.out]
          rfl
        clear HR5 HK
        go_wp2_with fail
        generalize wr = wr0 at *
        go_loopw [6] (fun i wr => ∃ j : Nat, j ≤ pn ∧ i = .int .i64 j ∧ Hid (Below W.heap.size W wr) ∧ Hid (∀ i, i < j → alikeT (parts i) (parts' i) = true)) (fun i _ => pn - (intOf i).toNat)
        case atStart => exact ⟨0, Nat.zero_le _, rfl, HB, fun j hj => by omega⟩
        case round =>
          clear HB hx1 hy1 hlt'
          obtain ⟨k, hj, rfl, HB, HJ⟩ := hrel
          obtain ⟨hx1, hy1⟩ := HXc.out wr HB.out
          by_cases hlj : k < pn
          · have hlj' : (k : Int) < pn := by omega
            have hidj : (0 : Int) ≤ k ∧ (k : Int) < pn := by omega
            obtain ⟨b1, o1, rfl, hb1, hc1⟩ := HP.out (by omega)
            obtain ⟨b2, o2, rfl, hb2, hc2⟩ := HP'.out (by omega)
            obtain ⟨c0, c1, c2, c3, c4, g0, g1, g2, g3, g4, g5⟩ := hc1 k hlj
            obtain ⟨f0, f1, f2, f3, f4, m0, m1, m2, m3, m4, m5⟩ := hc2 k hlj
            have hcal := fun w' (hw : Below W.heap.size W w') => HI.out k (parts' k) _ _ w' (g5.below (HW.out w' hw)) (m5.below (HW.out w' hw))
            have HSb : Hid (∀ w', Below W.heap.size W w' → (fun w' => (∀ o, w'.cell? ⟨w.heap.size, o, none⟩ = (#[Value.int .i64 kind, .string name, .slice na nn nc, .slice (some ⟨b1, o1, none⟩) pn pc, .bool many])[o]?) ∧ (∀ o, w'.cell? ⟨w.heap.size + 1, o, none⟩ = (#[Value.int .i64 kind, .string name, .slice na' nn nc', .slice (some ⟨b2, o2, none⟩) pn pc', .bool many])[o]?) ∧ w'.cell? ⟨b1, o1 + k * 5, none⟩ = some c0 ∧ w'.cell? ⟨b1, o1 + k * 5 + 1, none⟩ = some c1 ∧ w'.cell? ⟨b1, o1 + k * 5 + 2, none⟩ = some c2 ∧ w'.cell? ⟨b1, o1 + k * 5 + 3, none⟩ = some c3 ∧ w'.cell? ⟨b1, o1 + k * 5 + 4, none⟩ = some c4 ∧ w'.cell? ⟨b2, o2 + k * 5, none⟩ = some f0 ∧ w'.cell? ⟨b2, o2 + k * 5 + 1, none⟩ = some f1 ∧ w'.cell? ⟨b2, o2 + k * 5 + 2, none⟩ = some f2 ∧ w'.cell? ⟨b2, o2 + k * 5 + 3, none⟩ = some f3 ∧ w'.cell? ⟨b2, o2 + k * 5 + 4, none⟩ = some f4) w') := fun w' hw => ⟨(HXc.out w' hw).1, (HXc.out w' hw).2, ((HW.out _ hw).cell (p := ⟨b1, o1 + k * 5, none⟩) hb1).trans g0, ((HW.out _ hw).cell (p := ⟨b1, o1 + k * 5 + 1, none⟩) hb1).trans g1, ((HW.out _ hw).cell (p := ⟨b1, o1 + k * 5 + 2, none⟩) hb1).trans g2, ((HW.out _ hw).cell (p := ⟨b1, o1 + k * 5 + 3, none⟩) hb1).trans g3, ((HW.out _ hw).cell (p := ⟨b1, o1 + k * 5 + 4, none⟩) hb1).trans g4, ((HW.out _ hw).cell (p := ⟨b2, o2 + k * 5, none⟩) hb2).trans m0, ((HW.out _ hw).cell (p := ⟨b2, o2 + k * 5 + 1, none⟩) hb2).trans m1, ((HW.out _ hw).cell (p := ⟨b2, o2 + k * 5 + 2, none⟩) hb2).trans m2, ((HW.out _ hw).cell (p := ⟨b2, o2 + k * 5 + 3, none⟩) hb2).trans m3, ((HW.out _ hw).cell (p := ⟨b2, o2 + k * 5 + 4, none⟩) hb2).trans m4⟩
            clear g0 g1 g2 g3 g4 g5 m0 m1 m2 m3 m4 m5 hc1 hc2
            cases hE : alikeT (parts k) (parts' k) with
            | true =>
              rw [hE] at hcal
              have HJ1 : Hid (∀ i, i < k + 1 → alikeT (parts i) (parts' i) = true) := fun i hi => by
                by_cases e : i = k
                · subst e; exact hE
                · exact HJ.out i (by omega)
              have HH := hide hE
              clear hE
              go_wp2_with fail
              refine wp_region_held_drew (S := fun w' => (∀ o, w'.cell? ⟨w.heap.size, o, none⟩ = (#[Value.int .i64 kind, .string name, .slice na nn nc, .slice (some ⟨b1, o1, none⟩) pn pc, .bool many])[o]?) ∧ (∀ o, w'.cell? ⟨w.heap.size + 1, o, none⟩ = (#[Value.int .i64 kind, .string name, .slice na' nn nc', .slice (some ⟨b2, o2, none⟩) pn pc', .bool many])[o]?) ∧ w'.cell? ⟨b1, o1 + k * 5, none⟩ = some c0 ∧ w'.cell? ⟨b1, o1 + k * 5 + 1, none⟩ = some c1 ∧ w'.cell? ⟨b1, o1 + k * 5 + 2, none⟩ = some c2 ∧ w'.cell? ⟨b1, o1 + k * 5 + 3, none⟩ = some c3 ∧ w'.cell? ⟨b1, o1 + k * 5 + 4, none⟩ = some c4 ∧ w'.cell? ⟨b2, o2 + k * 5, none⟩ = some f0 ∧ w'.cell? ⟨b2, o2 + k * 5 + 1, none⟩ = some f1 ∧ w'.cell? ⟨b2, o2 + k * 5 + 2, none⟩ = some f2 ∧ w'.cell? ⟨b2, o2 + k * 5 + 3, none⟩ = some f3 ∧ w'.cell? ⟨b2, o2 + k * 5 + 4, none⟩ = some f4) (by kernel_rfl) (HSb.out _ HB.out.drew) (fun hHeld => ?_)
              refine wpAnyH_take (i := 0) (v := ?_) rfl (by kernel_rfl) (by kernel_rfl) (by kernel_rfl) (fun _ _ _ h => h) (Or.inl ⟨by rfl, ?_⟩) (by assumption) ?_
              rotate_left
              · (intro w hSw; (try dsimp only at hSw); go_simp) <;> with_reducible rfl
              (simp only [Act.put, List.getElem_toArray, List.getElem_cons_zero, List.getElem_cons_succ, List.setIfInBounds_toArray, List.set_cons_zero, List.set_cons_succ])
              refine wpAnyH_take (i := 1) (v := ?_) rfl (by kernel_rfl) (by kernel_rfl) (by kernel_rfl) (fun _ _ _ h => h) (Or.inl ⟨by rfl, ?_⟩) (by assumption) ?_
              rotate_left
              · (intro w hSw; (try dsimp only at hSw); go_simp) <;> with_reducible rfl
              (simp only [Act.put, List.getElem_toArray, List.getElem_cons_zero, List.getElem_cons_succ, List.setIfInBounds_toArray, List.set_cons_zero, List.set_cons_succ])
              refine wpAnyH_take (i := 2) (v := ?_) rfl (by kernel_rfl) (by kernel_rfl) (by kernel_rfl) (fun _ _ _ h => h) (Or.inl ⟨by rfl, ?_⟩) (by assumption) ?_
              rotate_left
              · (intro w hSw; (try dsimp only at hSw); go_simp) <;> with_reducible rfl
              (simp only [Act.put, List.getElem_toArray, List.getElem_cons_zero, List.getElem_cons_succ, List.setIfInBounds_toArray, List.set_cons_zero, List.set_cons_succ])
              refine wpAnyH_take (i := 3) (v := ?_) rfl (by kernel_rfl) (by kernel_rfl) (by kernel_rfl) (fun _ _ _ h => h) (Or.inl ⟨by rfl, ?_⟩) (by assumption) ?_
              rotate_left
              · (intro w hSw; (try dsimp only at hSw); go_simp) <;> with_reducible rfl
              (simp only [Act.put, List.getElem_toArray, List.getElem_cons_zero, List.getElem_cons_succ, List.setIfInBounds_toArray, List.set_cons_zero, List.set_cons_succ])
              refine wpAnyH_take (i := 4) (v := ?_) rfl (by kernel_rfl) (by kernel_rfl) (by kernel_rfl) (fun _ _ _ h => h) (Or.inl ⟨by rfl, ?_⟩) (by assumption) ?_
              rotate_left
              · (intro w hSw; (try dsimp only at hSw); go_simp) <;> with_reducible rfl
              (simp only [Act.put, List.getElem_toArray, List.getElem_cons_zero, List.getElem_cons_succ, List.setIfInBounds_toArray, List.set_cons_zero, List.set_cons_succ])
              refine wpAnyH_take (i := 5) (v := ?_) rfl (by kernel_rfl) (by kernel_rfl) (by kernel_rfl) (fun _ _ _ h => h) (Or.inl ⟨by rfl, ?_⟩) (by assumption) ?_
              rotate_left
              · (intro w hSw; (try dsimp only at hSw); go_simp) <;> with_reducible rfl
              (simp only [Act.put, List.getElem_toArray, List.getElem_cons_zero, List.getElem_cons_succ, List.setIfInBounds_toArray, List.set_cons_zero, List.set_cons_succ])
              refine wpAnyH_take (i := 6) (v := ?_) rfl (by kernel_rfl) (by kernel_rfl) (by kernel_rfl) (fun _ _ _ h => h) (Or.inl ⟨by rfl, ?_⟩) (by assumption) ?_
              rotate_left
              · (intro w hSw; (try dsimp only at hSw); go_simp) <;> with_reducible rfl
              (simp only [Act.put, List.getElem_toArray, List.getElem_cons_zero, List.getElem_cons_succ, List.setIfInBounds_toArray, List.set_cons_zero, List.set_cons_succ])
              refine wpAnyH_take (i := 7) (v := ?_) rfl (by kernel_rfl) (by kernel_rfl) (by kernel_rfl) (fun _ _ _ h => h) (Or.inl ⟨by rfl, ?_⟩) (by assumption) ?_
              rotate_left
              · (intro w hSw; (try dsimp only at hSw); go_simp) <;> with_reducible rfl
              (simp only [Act.put, List.getElem_toArray, List.getElem_cons_zero, List.getElem_cons_succ, List.setIfInBounds_toArray, List.set_cons_zero, List.set_cons_succ])
              refine wpAnyH_take (i := 8) (v := ?_) rfl (by kernel_rfl) (by kernel_rfl) (by kernel_rfl) (fun _ _ _ h => h) (Or.inl ⟨by rfl, ?_⟩) (by assumption) ?_
              rotate_left
              · (intro w hSw; (try dsimp only at hSw); go_simp) <;> with_reducible rfl
              (simp only [Act.put, List.getElem_toArray, List.getElem_cons_zero, List.getElem_cons_succ, List.setIfInBounds_toArray, List.set_cons_zero, List.set_cons_succ])
              refine wpAnyH_take (i := 9) (v := ?_) rfl (by kernel_rfl) (by kernel_rfl) (by kernel_rfl) (fun _ _ _ h => h) (Or.inl ⟨by rfl, ?_⟩) (by assumption) ?_
              rotate_left
              · (intro w hSw; (try dsimp only at hSw); go_simp) <;> with_reducible rfl
              (simp only [Act.put, List.getElem_toArray, List.getElem_cons_zero, List.getElem_cons_succ, List.setIfInBounds_toArray, List.set_cons_zero, List.set_cons_succ])
              refine wpAnyH_ready (rs := [10]) (by kernel_rfl) (by simp) ?_
              refine AllReadyH.cons rfl (fun K hK => ?_) AllReadyH.nil
              go_simp
              refine (hcal _ HB.out.drew).mono ?_
              rintro e w1 ⟨rfl, hb1'⟩
              have HB1 : Hid (Below W.heap.size W w1) := HB.out.drew.trans (hb1'.mono HB.out.size)
              refine hK.out _ _ (HSb.out _ HB1.out) (fun hHeld2 => ?_)
              clear hK K hb1'
              (try simp only [Act.put, List.getElem_toArray, List.getElem_cons_zero, List.getElem_cons_succ, List.setIfInBounds_toArray, List.set_cons_zero, List.set_cons_succ])
              refine wpAnyH_take (i := 11) (v := ?_) rfl (by kernel_rfl) (by kernel_rfl) (by kernel_rfl) (fun _ _ _ h => h) (Or.inl ⟨by rfl, ?_⟩) (by assumption) ?_
              rotate_left
              · (intro w hSw; (try dsimp only at hSw); go_simp) <;> with_reducible rfl
              (simp only [Act.put, List.getElem_toArray, List.getElem_cons_zero, List.getElem_cons_succ, List.setIfInBounds_toArray, List.set_cons_zero, List.set_cons_succ])
              refine wpAnyH_done (by kernel_rfl) ?_ _
              go_wp2_with fail
              go_roundw
              case rel => exact ⟨k + 1, by omega, by go_num, HB1, HJ1⟩
              case measure => simp [intOf]; omega
            | false =>
              rw [hE] at hcal
              obtain rfl : r = false := by rw [HR6.out, all_at hlj hE]
              go_wp2_with fail
              refine wp_region_held_drew (S := fun w' => (∀ o, w'.cell? ⟨w.heap.size, o, none⟩ = (#[Value.int .i64 kind, .string name, .slice na nn nc, .slice (some ⟨b1, o1, none⟩) pn pc, .bool many])[o]?) ∧ (∀ o, w'.cell? ⟨w.heap.size + 1, o, none⟩ = (#[Value.int .i64 kind, .string name, .slice na' nn nc', .slice (some ⟨b2, o2, none⟩) pn pc', .bool many])[o]?) ∧ w'.cell? ⟨b1, o1 + k * 5, none⟩ = some c0 ∧ w'.cell? ⟨b1, o1 + k * 5 + 1, none⟩ = some c1 ∧ w'.cell? ⟨b1, o1 + k * 5 + 2, none⟩ = some c2 ∧ w'.cell? ⟨b1, o1 + k * 5 + 3, none⟩ = some c3 ∧ w'.cell? ⟨b1, o1 + k * 5 + 4, none⟩ = some c4 ∧ w'.cell? ⟨b2, o2 + k * 5, none⟩ = some f0 ∧ w'.cell? ⟨b2, o2 + k * 5 + 1, none⟩ = some f1 ∧ w'.cell? ⟨b2, o2 + k * 5 + 2, none⟩ = some f2 ∧ w'.cell? ⟨b2, o2 + k * 5 + 3, none⟩ = some f3 ∧ w'.cell? ⟨b2, o2 + k * 5 + 4, none⟩ = some f4) (by kernel_rfl) (HSb.out _ HB.out.drew) (fun hHeld => ?_)
              refine wpAnyH_take (i := 0) (v := ?_) rfl (by kernel_rfl) (by kernel_rfl) (by kernel_rfl) (fun _ _ _ h => h) (Or.inl ⟨by rfl, ?_⟩) (by assumption) ?_
              rotate_left
              · (intro w hSw; (try dsimp only at hSw); go_simp) <;> with_reducible rfl
              (simp only [Act.put, List.getElem_toArray, List.getElem_cons_zero, List.getElem_cons_succ, List.setIfInBounds_toArray, List.set_cons_zero, List.set_cons_succ])
              refine wpAnyH_take (i := 1) (v := ?_) rfl (by kernel_rfl) (by kernel_rfl) (by kernel_rfl) (fun _ _ _ h => h) (Or.inl ⟨by rfl, ?_⟩) (by assumption) ?_
              rotate_left
              · (intro w hSw; (try dsimp only at hSw); go_simp) <;> with_reducible rfl
              (simp only [Act.put, List.getElem_toArray, List.getElem_cons_zero, List.getElem_cons_succ, List.setIfInBounds_toArray, List.set_cons_zero, List.set_cons_succ])
              refine wpAnyH_take (i := 2) (v := ?_) rfl (by kernel_rfl) (by kernel_rfl) (by kernel_rfl) (fun _ _ _ h => h) (Or.inl ⟨by rfl, ?_⟩) (by assumption) ?_
              rotate_left
              · (intro w hSw; (try dsimp only at hSw); go_simp) <;> with_reducible rfl
              (simp only [Act.put, List.getElem_toArray, List.getElem_cons_zero, List.getElem_cons_succ, List.setIfInBounds_toArray, List.set_cons_zero, List.set_cons_succ])
              refine wpAnyH_take (i := 3) (v := ?_) rfl (by kernel_rfl) (by kernel_rfl) (by kernel_rfl) (fun _ _ _ h => h) (Or.inl ⟨by rfl, ?_⟩) (by assumption) ?_
              rotate_left
              · (intro w hSw; (try dsimp only at hSw); go_simp) <;> with_reducible rfl
              (simp only [Act.put, List.getElem_toArray, List.getElem_cons_zero, List.getElem_cons_succ, List.setIfInBounds_toArray, List.set_cons_zero, List.set_cons_succ])
              refine wpAnyH_take (i := 4) (v := ?_) rfl (by kernel_rfl) (by kernel_rfl) (by kernel_rfl) (fun _ _ _ h => h) (Or.inl ⟨by rfl, ?_⟩) (by assumption) ?_
              rotate_left
              · (intro w hSw; (try dsimp only at hSw); go_simp) <;> with_reducible rfl
              (simp only [Act.put, List.getElem_toArray, List.getElem_cons_zero, List.getElem_cons_succ, List.setIfInBounds_toArray, List.set_cons_zero, List.set_cons_succ])
              refine wpAnyH_take (i := 5) (v := ?_) rfl (by kernel_rfl) (by kernel_rfl) (by kernel_rfl) (fun _ _ _ h => h) (Or.inl ⟨by rfl, ?_⟩) (by assumption) ?_
              rotate_left
              · (intro w hSw; (try dsimp only at hSw); go_simp) <;> with_reducible rfl
              (simp only [Act.put, List.getElem_toArray, List.getElem_cons_zero, List.getElem_cons_succ, List.setIfInBounds_toArray, List.set_cons_zero, List.set_cons_succ])
              refine wpAnyH_take (i := 6) (v := ?_) rfl (by kernel_rfl) (by kernel_rfl) (by kernel_rfl) (fun _ _ _ h => h) (Or.inl ⟨by rfl, ?_⟩) (by assumption) ?_
              rotate_left
              · (intro w hSw; (try dsimp only at hSw); go_simp) <;> with_reducible rfl
              (simp only [Act.put, List.getElem_toArray, List.getElem_cons_zero, List.getElem_cons_succ, List.setIfInBounds_toArray, List.set_cons_zero, List.set_cons_succ])
              refine wpAnyH_take (i := 7) (v := ?_) rfl (by kernel_rfl) (by kernel_rfl) (by kernel_rfl) (fun _ _ _ h => h) (Or.inl ⟨by rfl, ?_⟩) (by assumption) ?_
              rotate_left
              · (intro w hSw; (try dsimp only at hSw); go_simp) <;> with_reducible rfl
              (simp only [Act.put, List.getElem_toArray, List.getElem_cons_zero, List.getElem_cons_succ, List.setIfInBounds_toArray, List.set_cons_zero, List.set_cons_succ])
              refine wpAnyH_take (i := 8) (v := ?_) rfl (by kernel_rfl) (by kernel_rfl) (by kernel_rfl) (fun _ _ _ h => h) (Or.inl ⟨by rfl, ?_⟩) (by assumption) ?_
              rotate_left
              · (intro w hSw; (try dsimp only at hSw); go_simp) <;> with_reducible rfl
              (simp only [Act.put, List.getElem_toArray, List.getElem_cons_zero, List.getElem_cons_succ, List.setIfInBounds_toArray, List.set_cons_zero, List.set_cons_succ])
              refine wpAnyH_take (i := 9) (v := ?_) rfl (by kernel_rfl) (by kernel_rfl) (by kernel_rfl) (fun _ _ _ h => h) (Or.inl ⟨by rfl, ?_⟩) (by assumption) ?_
              rotate_left
              · (intro w hSw; (try dsimp only at hSw); go_simp) <;> with_reducible rfl
              (simp only [Act.put, List.getElem_toArray, List.getElem_cons_zero, List.getElem_cons_succ, List.setIfInBounds_toArray, List.set_cons_zero, List.set_cons_succ])
              refine wpAnyH_ready (rs := [10]) (by kernel_rfl) (by simp) ?_
              refine AllReadyH.cons rfl (fun K hK => ?_) AllReadyH.nil
              go_simp
              refine (hcal _ HB.out.drew).mono ?_
              rintro e w1 ⟨rfl, hb1'⟩
              have HB1 : Hid (Below W.heap.size W w1) := HB.out.drew.trans (hb1'.mono HB.out.size)
              refine hK.out _ _ (HSb.out _ HB1.out) (fun hHeld2 => ?_)
              clear hK K hb1'
              (try simp only [Act.put, List.getElem_toArray, List.getElem_cons_zero, List.getElem_cons_succ, List.setIfInBounds_toArray, List.set_cons_zero, List.set_cons_succ])
              refine wpAnyH_take (i := 11) (v := ?_) rfl (by kernel_rfl) (by kernel_rfl) (by kernel_rfl) (fun _ _ _ h => h) (Or.inl ⟨by rfl, ?_⟩) (by assumption) ?_
              rotate_left
              · (intro w hSw; (try dsimp only at hSw); go_simp) <;> with_reducible rfl
              (simp only [Act.put, List.getElem_toArray, List.getElem_cons_zero, List.getElem_cons_succ, List.setIfInBounds_toArray, List.set_cons_zero, List.set_cons_succ])
              refine wpAnyH_done (by kernel_rfl) ?_ _
              go_wp2_with fail
              go_ret
              exact ⟨rfl, HW.out _ HB1.out⟩
          · obtain rfl : k = pn := by omega
            have hlj' : ¬ (k : Int) < k := by omega
            obtain rfl : r = true := by rw [HR6.out, all_upto HJ.out]
            go_wp2_with fail
            go_ret
            exact ⟨rfl, HW.out _ HB.out⟩
end Go.Proofs.Ytakijacfadpmoaa.T
