/- The contract of (*machine).goOn: it runs. -/
import Derived.Test.YtofhiooodgopeaaCatch
import Derived.LoopTactic
namespace Go.Proofs.Ytofhiooodgopeaa.V
open Go.RowKit Go.Proofs.Ytofhiooodgopeaa.M
set_option linter.unusedVariables false
set_option linter.unusedSimpArgs false
variable {w : World} {b mb kb ob : Nat} {c : Cf} {s : Sm} {en : Int}

theorem Lo.rebase (h : Lo w b mb kb ob c s en) (h19 : w.cell? ⟨b, 19, none⟩ = some (.slice none 0 0)) (hout : s.out = []) {ob' : Nat} (h1 : ob ≤ ob') (h2 : ob' ≤ w.heap.size) : Lo w b mb kb ob' c s en :=
  ⟨Nat.lt_of_lt_of_le h.lb h1, Nat.lt_of_lt_of_le h.lmb h1, Nat.lt_of_lt_of_le h.lkb h1, h2, h.n1, h.n2, h.n3, h.reg, h.c16, h.c17, h.c18, ⟨_, h19, by rw [hout]; exact ⟨rfl, Or.inl ⟨rfl, rfl⟩⟩⟩, h.c20, h.c21, h.c22, h.c23, h.memc, h.knc, h.fz⟩
/-- The steps that a machine in the world has counted. -/
def stepsOf (b : Nat) (w : World) : Nat := match w.cell? ⟨b, 20, none⟩ with | some (.int _ n) => n.toNat | _ => 0
theorem stepsOf_lo (h : Lo w b mb kb ob c s en) : stepsOf b w = s.steps := by unfold stepsOf; rw [h.c20]; simp
theorem run_len (c : Cf) (s : Sm) (k : Nat) : (run c k s).out.length ≤ s.out.length + k := by
  induction k with
  | zero => exact Nat.le_refl _
  | succ k ih =>
    show (go c (run c k s)).out.length ≤ _
    unfold go; split
    · have := step_len c (run c k s); omega
    · omega

theorem leaves_eq {P : Program} {fn : Func} {t t' : Array Value} {R : Ending → World → Prop} (hr : results fn t = results fn t') : ∀ (ds : List Deferred) (u : FrameMode) (w : World), Leaves P fn t R ds u w → Leaves P fn t' R ds u w := by
  intro ds
  induction ds with
  | nil =>
    intro u w h
    cases u with
    | returning => unfold Leaves at *; rw [← hr]; exact h
    | panicking chain => exact h
    | run => exact h
  | cons d ds ih =>
    intro u w h
    obtain ⟨h1, fv, cap, f, args, h2, h3, h4⟩ := h
    refine ⟨h1, fv, cap, f, args, h2, h3, h4.mono ?_⟩
    intro e u' w' h5
    cases e with
    | returned v => exact ih _ _ h5
    | panicked chain => exact ih _ _ h5
    | outgrown => exact h5
theorem leaves_done {tmps : Array Value} {R : Ending → World → Prop} {w : World} (h : R (.returned (.tuple #[])) w) : Leaves Try.prog Try.f19 tmps R [] .returning w := ⟨.tuple #[], by simp [results, Try.results19], h⟩
theorem door_put {R : Ending → World → Prop} {c : List PanicEntry} {a : Act} {d : Option Tmp} {v : Value} {w : World} (h : Exit.inBlock 1 (bodyPostD Try.prog Try.f19 R) (.panic c) (a.put d v) w) : Exit.inBlock 1 (bodyPostD Try.prog Try.f19 R) (.panic c) a w := by
  have h' : Leaves Try.prog Try.f19 (a.put d v).tmps R (a.put d v).defers (.panicking c) w := h
  show Leaves Try.prog Try.f19 a.tmps R a.defers (.panicking c) w
  cases d with
  | none => exact h'
  | some d => exact leaves_eq (by simp [results, Try.results19]) _ _ _ h'

set_option maxRecDepth 100000 in
set_option maxHeartbeats 2000000 in
theorem goOn_any {s0 : Sm} (h : Lo w b mb kb ob c s0 0) (h19 : w.cell? ⟨b, 19, none⟩ = some (.slice none 0 0)) (hout : s0.out = []) (hst : s0.steps = 0) (hf0 : s0.fin = 0) (hok : Ok c s0) (fuel : Nat) (hfu : fuel ≤ 300000) :
    Calls Try.prog 19 #[.pointer (some ⟨b, 0, none⟩), .int .i64 fuel] w fun e w' => e = .returned (.tuple #[]) ∧ Lo w' b mb kb (w.heap.size + 1) c (run c fuel s0) (run c fuel s0).fin ∧ Kp b mb kb w.heap.size w w' := by
  have hmf : ∀ (fn : Fn) (first cap : Array Value) (w : World), (Instr.makeFunc fn first cap).run Try.prog w = .ok (.func fn first cap) w := fun _ _ _ _ => rfl
  have hb : b < w.heap.size := by have := h.lb; have := h.lo; omega
  have hne : b ≠ w.heap.size := by omega
  go_enter_defers Try.func19, Try.ntmps19
  go_wp2_with fail
  have hB0 : Below w.heap.size w (w.alloc (.cells #[.pointer (some ⟨b, 0, none⟩)] 66)) := (Below.refl _ _).alloc (Nat.le_refl _) _
  have hL0 : Lo (w.alloc (.cells #[.pointer (some ⟨b, 0, none⟩)] 66)) b mb kb (w.heap.size + 1) c s0 0 := (h.below hB0).rebase ((hB0.cell (p := ⟨b, 19, none⟩) hb).trans h19) hout (by have := h.lo; omega) (by simp)
  have hq0 : (w.alloc (.cells #[.pointer (some ⟨b, 0, none⟩)] 66)).cell? ⟨w.heap.size, 0, none⟩ = some (.pointer (some ⟨b, 0, none⟩)) := World.cell?_alloc_at _ _ _ _ rfl
  generalize w.alloc (.cells #[.pointer (some ⟨b, 0, none⟩)] 66) = W at *
  go_loopw [5] (fun _ wr => ∃ j : Nat, j ≤ fuel ∧ (run c j s0).fin = 0 ∧ (run c j s0).steps = j ∧ Lo wr b mb kb (w.heap.size + 1) c (run c j s0) 0 ∧ wr.cell? ⟨w.heap.size, 0, none⟩ = some (.pointer (some ⟨b, 0, none⟩)) ∧ Kp b mb kb (w.heap.size + 1) W wr) (fun _ wr => fuel - stepsOf b wr)
  case atStart => exact ⟨0, Nat.zero_le _, hf0, hst, hL0, hq0, Kp.refl _ _ _ _ _⟩
  case round =>
    obtain ⟨j, hj, hfin, hsj, hL, hq, hK⟩ := hrel
    have hkq : ∀ (w1 w2 : World), Kp b mb kb (w.heap.size + 1) w1 w2 → w2.cell? ⟨w.heap.size, 0, none⟩ = w1.cell? ⟨w.heap.size, 0, none⟩ := fun w1 w2 hk => World.cell?_of_block (a := ⟨w.heap.size, 0, none⟩) (hk.block w.heap.size (by omega) (by omega) (by have := h.lmb; have := h.lo; omega) (by have := h.lkb; have := h.lo; omega))
    have houtw : ∀ w', Kp b mb kb (w.heap.size + 1) W w' → Kp b mb kb w.heap.size w w' := fun w' hk => (Kp.of_below hB0 (Nat.le_refl _)).trans ⟨hk.os, hk.tape, hk.output, hk.size, fun k a1 => hk.block k (by omega)⟩
    have HQ := hide hkq
    have HOut := hide houtw
    have H0 := hide h
    have HK := hide hK
    have HOk := hide (run_ok hok j)
    have HLen : Hid ((run c j s0).out.length ≤ 1000000) := by have := run_len c s0 j; show _ ≤ _; simp_all; omega
    have HR : Hid ((run c (j + 1) s0) = M.step c (run c j s0)) := by show go c (run c j s0) = _; unfold go; rw [if_pos hfin]
    have HFU : Hid (∀ k, (run c k s0).fin ≠ 0 → k ≤ fuel → run c fuel s0 = run c k s0) := fun k h1 h2 => run_same c s0 k fuel h1 h2
    have HF := hide hfin
    have HQ0 := hide hq0
    clear hkq houtw h hK hB0 hL0 hq0 h19 hok hst hf0 hfin
    have HM : Hid (stepsOf b wr = j) := by show _ = _; rw [stepsOf_lo hL]; exact hsj
    by_cases hlt : j < fuel
    · have e20 := hL.c20
      rw [hsj] at e20
      have f20 := (hL.fz 20).1
      have HL := hide hL
      clear hL
      have hlt' : (j : Int) < fuel := by omega
      generalize hse : run c j s0 = s at *
      have HSE := hide hse
      clear hse
      go_wp2_with fail
      have hL1 : Lo (wr.setCell ⟨b, 20, none⟩ (.int .i64 (↑j + 1))) b mb kb (w.heap.size + 1) c (count s) 0 := by
        have := HL.out.setSteps (s.steps + 1)
        rw [hsj] at this
        unfold count
        rw [hsj]
        exact this
      have hq1 : (wr.setCell ⟨b, 20, none⟩ (.int .i64 (↑j + 1))).cell? ⟨w.heap.size, 0, none⟩ = some (.pointer (some ⟨b, 0, none⟩)) := (set_blk _ _ _ _ _ _ hne).trans hq
      have hK1 : Kp b mb kb (w.heap.size + 1) W (wr.setCell ⟨b, 20, none⟩ (.int .i64 (↑j + 1))) := HK.out.trans (Kp.set _ _ (Or.inl rfl))
      have HL1 := hide hL1
      have HK1 := hide hK1
      clear hL1 hK1 HL HK e20 f20 hq
      generalize wr.setCell ⟨b, 20, none⟩ (.int .i64 (↑j + 1)) = W1 at *
      refine wp_region_held_drew (S := fun w' => w'.cell? ⟨w.heap.size, 0, none⟩ = some (.pointer (some ⟨b, 0, none⟩))) (by kernel_rfl) hq1 (fun hHeld => ?_)
      refine wpAnyH_take (i := 0) (v := ?_) rfl (by kernel_rfl) (by kernel_rfl) (by kernel_rfl) (fun c a w h => door_put h) (Or.inl ⟨by rfl, ?_⟩) (by assumption) ?_
      rotate_left
      · (intro w hSw; (try dsimp only at hSw); go_simp) <;> with_reducible rfl
      (try simp only [Act.put, List.setIfInBounds_toArray, List.set_cons_zero, List.set_cons_succ])
      refine wpAnyH_take (i := 1) (v := ?_) rfl (by kernel_rfl) (by kernel_rfl) (by kernel_rfl) (fun c a w h => door_put h) (Or.inl ⟨by rfl, ?_⟩) (by assumption) ?_
      rotate_left
      · (intro w hSw; (try dsimp only at hSw); go_simp) <;> with_reducible rfl
      (try simp only [Act.put, List.setIfInBounds_toArray, List.set_cons_zero, List.set_cons_succ])
      refine wpAnyH_take (i := 2) (v := ?_) rfl (by kernel_rfl) (by kernel_rfl) (by kernel_rfl) (fun c a w h => door_put h) (Or.inl ⟨by rfl, ?_⟩) (by assumption) ?_
      rotate_left
      · (intro w hSw; (try dsimp only at hSw); go_simp) <;> with_reducible rfl
      (try simp only [Act.put, List.setIfInBounds_toArray, List.set_cons_zero, List.set_cons_succ])
      refine wpAnyH_ready (rs := [3]) (by kernel_rfl) (by simp) ?_
      refine AllReadyH.cons rfl (fun K hK => ?_) AllReadyH.nil
      go_simp
      have hL2 := HL1.out.below ((Below.refl _ W1).drew)
      have hK2 : Kp b mb kb (w.heap.size + 1) W W1.drew := HK1.out.trans (Kp.of_below ((Below.refl _ _).drew) HL1.out.lo)
      by_cases hi : isI c (count s) = true
      · refine (fetch_ok hL2 (count_ok HOk.out) hi).mono ?_
        rintro e w2 ⟨rfl, hL3, hK3⟩
        refine hK.out _ _ ?_ (fun hHeld2 => ?_)
        · exact (HQ.out _ _ hK3).trans hq1
        clear hK K hHeld
        have HL3 := hide hL3
        have HK3 := hide (hK2.trans hK3)
        have HI := hide hi
        clear hL2 hK2 hL3 hK3 hi HL1 HK1 hq1
        refine wpAnyH_ready (rs := [4]) (by kernel_rfl) (by simp) ?_
        refine AllReadyH.cons rfl (fun K hK => ?_) AllReadyH.nil
        go_simp
        have hi' : (0 ≤ s.pc ∧ s.pc < c.n) ∧ dck (c.code s.pc.toNat) = 0 := by
          have hii : isI c s = true := HI.out
          simp [isI] at hii
          exact hii
        have hcd := HOk.out.code s.pc.toNat (by omega)
        have ff := f_facts hcd.1 hcd.2.1 hi'.2
        have hE : M.step c s = gone (exec c (count s) (fOp (c.code s.pc.toNat)) (fA (c.code s.pc.toNat)) (fB (c.code s.pc.toNat)) (fC (c.code s.pc.toNat)) (fM (c.code s.pc.toNat))) := by
          unfold M.step; rw [if_pos (show isI c s = true from HI.out)]
        refine (do_any HL3.out (count_ok HOk.out) HF.out (fOp (c.code s.pc.toNat)) (fA (c.code s.pc.toNat)) (fB (c.code s.pc.toNat)) (fC (c.code s.pc.toNat)) (fM (c.code s.pc.toNat)) ff.2.2.1 ff.2.2.2.1 ff.2.2.2.2.1 ff.2.2.2.2.2.1 ff.2.2.2.2.2.2.1 hi'.1 ff.1 ff.2.1 (fun e3 => f_movh hi'.2 e3) HLen.out).mono ?_
        have hpc : (exec c (count s) (fOp (c.code s.pc.toNat)) (fA (c.code s.pc.toNat)) (fB (c.code s.pc.toNat)) (fC (c.code s.pc.toNat)) (fM (c.code s.pc.toNat))).1.steps = j + 1 := by rw [exec_steps]; show s.steps + 1 = _; omega
        generalize exec c (count s) (fOp (c.code s.pc.toNat)) (fA (c.code s.pc.toNat)) (fB (c.code s.pc.toNat)) (fC (c.code s.pc.toNat)) (fM (c.code s.pc.toNat)) = r at *
        rintro e w3 ⟨rfl, hL4, hK4⟩
        have hK5 := HK3.out.trans hK4
        by_cases hz : r.1.fin = 0
        · rw [doEnd_go hz]
          refine hK.out _ _ ?_ (fun hHeld3 => ?_)
          · exact (HQ.out _ _ hK4).trans hHeld2
          clear hK K hHeld2
          have e16 := hL4.c16
          have f16 := (hL4.fz 16).1
          have HL4 := hide hL4
          have HK5 := hide hK5
          have HI' := hide hi'
          have HE := hide hE
          have HZ := hide hz
          have HPC := hide hpc
          clear hL4 hK4 hK5 hi' hcd ff hE hz hpc
          refine wpAnyH_take (i := 5) (v := ?_) rfl (by kernel_rfl) (by kernel_rfl) (by kernel_rfl) (fun c a w h => door_put h) (Or.inl ⟨by rfl, ?_⟩) (by assumption) ?_
          rotate_left
          · (intro w hSw; (try dsimp only at hSw); go_simp) <;> with_reducible rfl
          (try simp only [Act.put, List.setIfInBounds_toArray, List.set_cons_zero, List.set_cons_succ])
          refine wpAnyH_take (i := 6) (v := ?_) rfl (by kernel_rfl) (by kernel_rfl) (by kernel_rfl) (fun c a w h => door_put h) (Or.inl ⟨by rfl, ?_⟩) (by assumption) ?_
          rotate_left
          · (intro w hSw; (try dsimp only at hSw); go_simp) <;> with_reducible rfl
          (try simp only [Act.put, List.setIfInBounds_toArray, List.set_cons_zero, List.set_cons_succ])
          refine wpAnyH_take (i := 7) (v := ?_) rfl (by kernel_rfl) (by kernel_rfl) (by kernel_rfl) (fun c a w h => door_put h) (Or.inl ⟨by rfl, ?_⟩) (by assumption) ?_
          rotate_left
          · (intro w hSw; (try dsimp only at hSw); go_simp) <;> with_reducible rfl
          (try simp only [Act.put, List.setIfInBounds_toArray, List.set_cons_zero, List.set_cons_succ])
          refine wpAnyH_ready (rs := [8]) (by kernel_rfl) (by simp) ?_
          refine AllReadyH.cons rfl (fun K hK => ?_) AllReadyH.nil
          go_simp
          refine hK.out _ _ ?_ (fun hHeld4 => ?_)
          · exact (set_blk _ _ _ _ _ _ hne).trans hHeld3
          refine wpAnyH_done (by kernel_rfl) ?_ _
          clear hK K
          have hS : run c (j + 1) s0 = { r.1 with pc := r.2 } := by rw [HR.out, HE.out]; unfold gone; rw [if_pos HZ.out]
          have hL6 := HL4.out.setPc r.2
          rw [← hS] at hL6
          have hst6 : (run c (j + 1) s0).steps = j + 1 := by rw [hS]; exact HPC.out
          have hf6 : (run c (j + 1) s0).fin = 0 := by rw [hS]; exact HZ.out
          have hK6 := HK5.out.trans (Kp.set ⟨b, 16, none⟩ (.int .i64 r.2) (Or.inl rfl))
          have hm6 := stepsOf_lo hL6
          rw [hst6] at hm6
          have hq6 : (w3.setCell ⟨b, 16, none⟩ (.int .i64 r.2)).cell? ⟨w.heap.size, 0, none⟩ = some (.pointer (some ⟨b, 0, none⟩)) := hHeld4
          have HA := hide (And.intro hf6 (And.intro hst6 (And.intro hL6 (And.intro hq6 hK6))))
          have hm0 : stepsOf b wr = j := HM.out
          clear hS hL6 hst6 hf6 hK6 hq6 HL4 HK5 HI' HE HZ HPC hHeld3 hHeld4 e16 f16
          generalize w3.setCell ⟨b, 16, none⟩ (.int .i64 r.2) = W6 at *
          go_wp2_with fail
          go_roundw
          case rel => exact ⟨j + 1, by omega, HA.out⟩
          case measure => rw [hm6, hm0]; omega
        · rw [doEnd_end rfl hz]
          have hS : run c fuel s0 = r.1 := by
            have e1 := HR.out
            rw [hE] at e1
            have e2 : gone r = r.1 := by unfold gone; rw [if_neg hz]
            rw [e2] at e1
            rw [HFU.out (j + 1) (by rw [e1]; exact hz) (by omega), e1]
          refine leaves_cons (f := 25) (args := #[.pointer (some ⟨w.heap.size, 0, none⟩)]) (by simp) (by simp [go_sem]) ?_
          refine (catch_panicking w.heap.size b r.1.fin 0 [] w3 ((HQ.out _ _ hK5).trans HQ0.out) hL4.c17 (hL4.fz 17).1).mono ?_
          rintro e u' w4 ⟨rfl, rfl, rfl⟩
          refine leaves_done ⟨rfl, ?_, HOut.out _ ((hK5.trans (Kp.set ⟨b, 17, none⟩ _ (Or.inl rfl))).trans (Kp.of_below ((Below.refl _ _).drew) (by rw [set_size]; exact hL4.lo)))⟩
          rw [hS]
          exact (hL4.setEnd _).below ((Below.refl _ _).drew)
      · have hi' : isI c (count s) = false := by simpa using hi
        refine (fetch_no hL2 (count_ok HOk.out) hi').mono ?_
        rintro e w2 ⟨rfl, hb2⟩
        have hL3 := (hL2.below hb2).fin 4
        have hK3 := hK2.trans (Kp.of_below hb2 hL2.lo)
        have hS : run c fuel s0 = { count s with fin := 4 } := by
          have e1 := HR.out
          have e2 : M.step c s = { count s with fin := 4 } := by unfold M.step; rw [if_neg (by rw [show isI c s = isI c (count s) from rfl, hi']; simp)]
          rw [e2] at e1
          rw [HFU.out (j + 1) (by rw [e1]; show (4 : Int) ≠ 0; omega) (by omega), e1]
        refine leaves_cons (f := 25) (args := #[.pointer (some ⟨w.heap.size, 0, none⟩)]) (by simp) (by simp [go_sem]) ?_
        refine (catch_panicking w.heap.size b 4 0 [] w2 ((HQ.out _ _ hK3).trans HQ0.out) hL3.c17 (hL3.fz 17).1).mono ?_
        rintro e u' w3 ⟨rfl, rfl, rfl⟩
        refine leaves_done ⟨rfl, ?_, HOut.out _ ((hK3.trans (Kp.set ⟨b, 17, none⟩ _ (Or.inl rfl))).trans (Kp.of_below ((Below.refl _ _).drew) (by rw [set_size]; exact hL3.lo)))⟩
        rw [hS]
        exact (hL3.setEnd 4).below ((Below.refl _ _).drew)
    · have hjf : j = fuel := by omega
      subst hjf
      have e20 := hL.c20
      rw [hsj] at e20
      have HL := hide hL
      clear hL
      have hlt' : ¬ (j : Int) < (j : Int) := by omega
      go_wp2_with fail
      refine leaves_cons (f := 25) (args := #[.pointer (some ⟨w.heap.size, 0, none⟩)]) (by simp) (by simp [go_sem]) ?_
      refine (catch_idle w.heap.size wr).mono ?_
      rintro e u' w3 ⟨rfl, rfl, rfl⟩
      refine leaves_done ⟨rfl, ?_, HOut.out _ HK.out⟩
      rw [HF.out]
      exact HL.out
end Go.Proofs.Ytofhiooodgopeaa.V
