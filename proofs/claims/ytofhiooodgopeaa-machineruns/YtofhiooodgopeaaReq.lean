/- The contract of the reference's Run. -/
import Derived.Test.YtofhiooodgopeaaRany
import Derived.Test.YtofhiooodgopeaaRnew
import Derived.Test.YtofhiooodgopeaaRun2
import Derived.Test.YtofhiooodgopeaaOpen
import Derived.ChangeKeysEq
namespace Go.Proofs.Ytofhiooodgopeaa.V
open Go.RowKit Go.Proofs.Ytofhiooodgopeaa.M
set_option linter.unusedVariables false
set_option linter.unusedSimpArgs false
variable {w : World} {b mb kc ki ob p1 p2 : Nat} {c : Cf} {s : Sm} {en : Int}

theorem giveFin_nn (c : Cf) (r : Nat) (x : Int) : 0 ≤ giveFin c r x := by
  unfold giveFin
  split
  · split
    · omega
    · split <;> omega
  · omega
theorem madeFin_nn (c : Cf) (s : Sm) (op : Int) (r k : Nat) (m : Int) : 0 ≤ madeFin c s op r k m := by
  unfold madeFin
  split
  · split <;> omega
  · split
    · split <;> omega
    · omega
theorem exec_fin (c : Cf) (s : Sm) (op : Int) (a r k : Nat) (m : Int) (h : s.fin = 0) : 0 ≤ (exec c s op a r k m).1.fin := by
  have h0 : 0 ≤ s.fin := by omega
  unfold exec
  split; exact h0
  split; exact h0
  split; exact h0
  split; exact h0
  split; exact h0
  split
  · show 0 ≤ (if _ then _ else _ : Sm).fin
    split
    · exact h0
    · show (0 : Int) ≤ 4; omega
  split; exact h0
  split; show (0 : Int) ≤ 1; omega
  split
  · exact giveFin_nn _ _ _
  · exact madeFin_nn _ _ _ _ _ _
theorem step_fin (c : Cf) (s : Sm) (h : s.fin = 0) : 0 ≤ (M.step c s).fin := by
  unfold M.step
  split
  · rw [gone_fin]
    exact exec_fin c (count s) _ _ _ _ _ h
  · show (0 : Int) ≤ 4; omega
theorem run_fin (c : Cf) (s : Sm) (h : s.fin = 0) (k : Nat) : 0 ≤ (run c k s).fin := by
  induction k with
  | zero => show 0 ≤ s.fin; omega
  | succ k ih =>
    show 0 ≤ (go c (run c k s)).fin
    unfold go
    split
    · exact step_fin c _ (by assumption)
    · exact ih
/-- The steps that the reference's machine has counted. -/
def stepsR (b : Nat) (w : World) : Nat := match w.cell? ⟨b, 24, none⟩ with | some (.int _ n) => n.toNat | _ => 0
theorem stepsR_rl (h : Rl w b mb kc ki ob p1 p2 c s en) : stepsR b w = s.steps := by unfold stepsR; rw [h.x24]; simp
theorem run_len' (c : Cf) (s : Sm) (k : Nat) : (run c k s).out.length ≤ s.out.length + k := by
  induction k with
  | zero => exact Nat.le_refl _
  | succ k ih =>
    show (go c (run c k s)).out.length ≤ _
    unfold go; split
    · have := step_len c (run c k s); omega
    · omega

set_option maxRecDepth 100000 in
set_option maxHeartbeats 2000000 in
theorem ref_run (cb co nc cc nd cd M fuel : Nat) (da : Option Addr) (code data : Nat → Int) (w : World) (h1 : 1 ≤ nc) (h2 : nc ≤ 6000) (h3 : M ≤ 16000) (h4 : nc + nd + 16 ≤ M) (hfu : fuel ≤ 300000)
    (hcb : cb < w.heap.size) (hcode : ∀ k, k < nc → w.cell? ⟨cb, co + k, none⟩ = some (.int .u32 (code k))) (hc32 : ∀ k, k < nc → 0 ≤ code k ∧ code k ≤ 4294967295)
    (hdata : 0 < nd → ∃ db do', da = some ⟨db, do', none⟩ ∧ db < w.heap.size ∧ ∀ k, k < nd → w.cell? ⟨db, do' + k, none⟩ = some (.int .i32 (data k))) (hd32 : ∀ k, k < nd → Fit (data k)) :
    Calls Try.prog 10 #[.agg #[.slice (some ⟨cb, co, none⟩) nc cc, .slice da nd cd, .int .i64 M], .int .i64 fuel] w fun e w' => ∃ b mb kc ki ob p1 p2, e = .returned (.pointer (some ⟨b, 0, none⟩)) ∧ Below w.heap.size w w' ∧ w.heap.size ≤ b ∧ w.heap.size ≤ ob
      ∧ Rl w' b mb kc ki ob p1 p2 (cf nc nd M code) (fin nc nd M fuel code data) (endOf (fin nc nd M fuel code data).fin) := by
  have hok := ok0 nc nd M code data h2 h3 h4 hc32 hd32
  have hBW : Below w.heap.size w (w.alloc (.cells #[.slice (some ⟨cb, co, none⟩) nc cc, .slice da nd cd, .int .i64 M] 25)) := (Below.refl _ _).alloc (Nat.le_refl _) _
  have hW1 : (w.alloc (.cells #[.slice (some ⟨cb, co, none⟩) nc cc, .slice da nd cd, .int .i64 M] 25)).heap.size = w.heap.size + 1 := by simp
  have hnew := new_any cb co nc cc nd cd M da code data (w.alloc (.cells #[.slice (some ⟨cb, co, none⟩) nc cc, .slice da nd cd, .int .i64 M] 25)) h1 h2 h3 h4 (by omega) (fun k hk => (hBW.cell (p := ⟨cb, co + k, none⟩) hcb).trans (hcode k hk)) hc32
    (fun hp => by
      obtain ⟨db, do', e1, e2, e3⟩ := hdata hp
      exact ⟨db, do', e1, by omega, fun k hk => (hBW.cell (p := ⟨db, do' + k, none⟩) e2).trans (e3 k hk)⟩)
  have HNew := hide hnew
  clear hnew hcode hdata
  go_enter Try.func10, Try.ntmps10
  go_wp2_with fail
  go_at_call 16
  refine HNew.out.mono ?_
  rintro e X ⟨b, mb, kc, ki, p1, p2, rfl, hB, gb, gm, hR⟩
  have HBW := hide (hBW.trans (hB.mono (by omega)))
  have hf0 : (run (cf nc nd M code) 0 (sm0 nc nd M code data)).fin = 0 := rfl
  clear HNew hBW hB
  generalize hce : cf nc nd M code = c at *
  generalize hse : sm0 nc nd M code data = s0 at *
  have hst : s0.steps = 0 := by rw [← hse]; rfl
  have hout : s0.out = [] := by rw [← hse]; rfl
  have hfin : s0.fin = 0 := by rw [← hse]; rfl
  have HR0 := hide hR
  have HOk0 := hide hok
  have HSE := hide (And.intro hce hse)
  clear hR hok hce hse
  go_wp2_with fail
  go_loopw [22] (fun _ wr => ∃ j : Nat, j ≤ fuel ∧ (run c j s0).steps = j ∧ Hid (Rl wr b mb kc ki X.heap.size p1 p2 c (run c j s0) (endOf (run c j s0).fin) ∧ Kp b mb mb X.heap.size X wr)) (fun _ wr => fuel - stepsR b wr)
  case atStart => exact ⟨0, Nat.zero_le _, hst, by rw [show endOf (run c 0 s0).fin = -1 from by show endOf s0.fin = -1; rw [hfin]; rfl]; exact HR0.out, Kp.refl _ _ _ _ _⟩
  case round =>
    obtain ⟨j, hj, hsj, HK⟩ := hrel
    have HM : Hid (stepsR b wr = j) := by show _ = _; rw [stepsR_rl HK.out.1]; exact hsj
    have hend : ∀ w', w' = wr → run c fuel s0 = run c j s0 → Below w.heap.size w w' ∧ w.heap.size ≤ b ∧ w.heap.size ≤ X.heap.size ∧ Rl w' b mb kc ki X.heap.size p1 p2 c (run c fuel s0) (endOf (run c fuel s0).fin) := fun w' e1 e2 => by
      subst e1
      rw [e2]
      have hbs := HBW.out.size
      exact ⟨HBW.out.trans (HK.out.2.below (by omega) (by omega) (by omega) (by omega)), by omega, by omega, HK.out.1⟩
    have HE := hide hend
    clear hend
    have HFn := hide (run_fin c s0 hfin j)
    have HSM := hide (run_same c s0 j fuel)
    have HLen : Hid ((run c j s0).out.length ≤ 1000000) := by have := run_len' c s0 j; show _ ≤ _; simp_all; omega
    have HOk := hide (run_ok HOk0.out j)
    have HGo : Hid ((run c j s0).fin = 0 → run c (j + 1) s0 = Go.Proofs.Ytofhiooodgopeaa.M.step c (run c j s0)) := fun e => by show go c (run c j s0) = _; unfold go; rw [if_pos e]
    obtain ⟨hc0, hs0⟩ := HSE.out
    subst hc0 hs0
    generalize hcc : cf nc nd M code = c at *
    generalize hss : sm0 nc nd M code data = s0 at *
    by_cases hfj : (run c j s0).fin = 0
    · have HRK := HK.out
      rw [show endOf (run c j s0).fin = -1 from by rw [hfj]; rfl] at HRK
      have e22 := HRK.1.x22
      have e24 := HRK.1.x24
      rw [hsj] at e24
      have HRK' := hide HRK
      clear HRK
      by_cases hlt : j < fuel
      · have hlt' : (j : Int) < fuel := by omega
        have hstep := step_any HRK'.out.1 HOk.out hfj (by omega) HLen.out
        clear hf0 HR0
        go_wp2_with fail
        go_at_call 17
        refine hstep.mono ?_
        rintro e w1 ⟨rfl, hR1, hK1⟩
        have hst1 : (run c (j + 1) s0).steps = j + 1 := by rw [HGo.out hfj, step_steps, hsj]
        have HR1 : Hid (Rl w1 b mb kc ki X.heap.size p1 p2 c (run c (j + 1) s0) (endOf (run c (j + 1) s0).fin) ∧ Kp b mb mb X.heap.size X w1) := by
          refine ⟨?_, HRK'.out.2.trans hK1⟩
          rw [HGo.out hfj]
          exact hR1
        have HM1 : Hid (stepsR b w1 = j + 1) := by show _ = _; rw [stepsR_rl HR1.out.1]; exact hst1
        clear hR1 hK1 hstep
        go_wp2_with fail
        go_roundw
        case rel => exact ⟨j + 1, by omega, hst1, HR1⟩
        case measure => rw [HM.out, HM1.out]; omega
      · have hjf : j = fuel := by omega
        have hlt' : ¬ (j : Int) < fuel := by omega
        clear hf0 HR0
        go_wp2_with fail
        go_ret
        obtain ⟨r2, r3, r4, r5⟩ := HE.out _ rfl (by rw [hjf])
        refine ⟨b, rfl, r2, r3, mb, kc, ki, X.heap.size, r4, p1, p2, ?_⟩
        show Rl _ _ _ _ _ _ _ _ _ (run (cf nc nd M code) fuel (sm0 nc nd M code data)) _
        rw [show fin nc nd M fuel code data = run c fuel s0 from by show run (cf nc nd M code) fuel (sm0 nc nd M code data) = _; rw [hcc, hss], hcc, hss]
        exact r5
    · have e22 := HK.out.1.x22
      rw [show endOf (run c j s0).fin = (run c j s0).fin from by unfold endOf; rw [if_neg hfj]] at e22
      have hneg : decide ((run c j s0).fin < 0) = false := by have := HFn.out; simp; omega
      clear hf0 HR0
      go_wp2_with fail
      go_ret
      obtain ⟨r2, r3, r4, r5⟩ := HE.out _ rfl (HSM.out hfj hj)
      refine ⟨b, rfl, r2, r3, mb, kc, ki, X.heap.size, r4, p1, p2, ?_⟩
      show Rl _ _ _ _ _ _ _ _ _ (run (cf nc nd M code) fuel (sm0 nc nd M code data)) _
      rw [show fin nc nd M fuel code data = run c fuel s0 from by show run (cf nc nd M code) fuel (sm0 nc nd M code data) = _; rw [hcc, hss], hcc, hss]
      exact r5
end Go.Proofs.Ytofhiooodgopeaa.V

namespace Go.Proofs.Ytofhiooodgopeaa.V
open Go.RowKit Go.Proofs.Ytofhiooodgopeaa.M
set_option linter.unusedVariables false
set_option linter.unusedSimpArgs false
variable {w : World} {b mb kc ki ob p1 p2 : Nat} {c : Cf} {s : Sm} {en : Int}

set_option maxRecDepth 100000 in
set_option maxHeartbeats 2000000 in
theorem stop_any (h : Rl w b mb kc ki ob p1 p2 c s en) :
    Calls Try.prog 11 #[.pointer (some ⟨b, 0, none⟩)] w fun e w' => ∃ v, e = .returned (.agg #[.int .i64 (max en 0), .int .i32 s.val, v, .int .i64 s.steps]) ∧ w'.ownsRow ob 21 1 v s.out.length (s.out.map (Value.int .i32)) ∧ Below w.heap.size w w' := by
  obtain ⟨v, e21, hown⟩ := h.own
  have e22 := h.x22
  have e23 := h.x23
  have e24 := h.x24
  have hb : b < w.heap.size := by have := h.lb; have := h.lo; omega
  have hne : w.heap.size ≠ b := by omega
  obtain ⟨vp, vn, vc, rfl⟩ : ∃ vp vn vc, v = .slice vp vn vc := by
    rcases hown.2 with ⟨rfl, _⟩ | ⟨g, cap, cur, rfl, _⟩
    · exact ⟨_, _, _, rfl⟩
    · exact ⟨_, _, _, rfl⟩
  have HO := hide hown
  clear hown
  go_enter Try.func11, Try.ntmps11
  go_wp2_with fail
  go_region_held (fun w' => ∀ o, w'.cell? ⟨b, o, none⟩ = w.cell? ⟨b, o, none⟩) (first | exact fun o => World.cell?_alloc_past _ _ _ hb | exact fun o => World.cell?_alloc_past _ _ _ hb) (fail)
  have hB : Below w.heap.size w (w.alloc (.cells #[.int .i64 (max en 0), .int .i32 s.val, .slice vp vn vc, .int .i64 ↑s.steps] 27)).drew := ((Below.refl _ _).alloc (Nat.le_refl _) _).drew
  have HB := hide hB
  clear hB
  go_wp2_with fail
  have hR6 : (w.alloc (.cells #[.int .i64 (max en 0), .int .i32 s.val, .slice vp vn vc, .int .i64 ↑s.steps] 27)).drew.rangeAt w.heap.size 0 [.int .i64 (max en 0), .int .i32 s.val, .slice vp vn vc, .int .i64 ↑s.steps] := fun j u hu => by
    have e := cell_of (al_new w (.cells #[.int .i64 (max en 0), .int .i32 s.val, .slice vp vn vc, .int .i64 ↑s.steps] 27) _ rfl) (0 + j)
    refine e.trans ?_
    simpa using hu
  have hrun := run_loadVar_mid (P := Try.prog) _ w.heap.size 0 27 [.int .i64 (max en 0), .int .i32 s.val, .slice vp vn vc, .int .i64 ↑s.steps] _ hR6 Try.underlying27 rfl info27
  refine bodyPost_ret (v := .agg #[.int .i64 (max en 0), .int .i32 s.val, .slice vp vn vc, .int .i64 ↑s.steps]) (results_cell Try.results11 _ rfl _ hrun) rfl ?_
  exact ⟨_, rfl, ownsRow_below HO.out HB.out, HB.out⟩
end Go.Proofs.Ytofhiooodgopeaa.V

namespace Go.Proofs.Ytofhiooodgopeaa.V
open Go.RowKit Go.Proofs.Ytofhiooodgopeaa.M
set_option linter.unusedVariables false
set_option linter.unusedSimpArgs false

set_option maxRecDepth 100000 in
set_option maxHeartbeats 1000000 in
theorem words_noneL (a1 a2 : Option Addr) (c1 c2 : Nat) (w : World) : Calls Try.prog 15 #[.slice a1 0 c1, .slice a2 0 c2] w fun e w' => e = .returned (.bool true) ∧ ∃ m, w' = w.drewN m := by
  go_enter Try.func15, Try.ntmps15
  go_wp2
  go_loopw [5] (fun i wr => i = .int .i64 0 ∧ wr = w) (fun _ _ => 0)
  case atStart => exact ⟨rfl, rfl⟩
  case round =>
    obtain ⟨rfl, rfl⟩ := hrel
    go_wp2
    go_ret
    exact ⟨rfl, 0, rfl⟩
set_option maxRecDepth 100000 in
set_option maxHeartbeats 1000000 in
theorem words_someL (g1 o1 g2 o2 n c1 c2 : Nat) (f : Nat → Int) (w : World) (hn : n ≤ 1000000) (h1 : ∀ k, k < n → w.cell? ⟨g1, o1 + k, none⟩ = some (.int .i32 (f k))) (h2 : ∀ k, k < n → w.cell? ⟨g2, o2 + k, none⟩ = some (.int .i32 (f k))) :
    Calls Try.prog 15 #[.slice (some ⟨g1, o1, none⟩) n c1, .slice (some ⟨g2, o2, none⟩) n c2] w fun e w' => e = .returned (.bool true) ∧ ∃ m, w' = w.drewN m := by
  go_enter Try.func15, Try.ntmps15
  go_wp2
  go_loopw [5] (fun i wr => ∃ k m : Nat, k ≤ n ∧ i = .int .i64 k ∧ wr = w.drewN m) (fun i _ => n - (intOf i).toNat)
  case atStart => exact ⟨0, 0, Nat.zero_le _, rfl, rfl⟩
  case round =>
    obtain ⟨k, m, hk, rfl, rfl⟩ := hrel
    by_cases hlt : k < n
    · have r1 := h1 k hlt
      have r2 := h2 k hlt
      have hidx : (0 : Int) ≤ k ∧ (k : Int) < n := by omega
      clear h1 h2
      go_wp2
      go_quiet (fail)
      go_wp2
      go_roundw
      case rel => exact ⟨k + 1, _, by omega, by go_num, rfl⟩
      case measure => simp [intOf]; omega
    · have hge : ¬ (k : Int) < n := by omega
      go_wp2
      go_ret
      exact ⟨rfl, _, rfl⟩
/-- Two rows of the same words. -/
theorem words_anyL (v1 v2 : Value) (l : List Int) (w : World) (ob : Nat) (hl : l.length ≤ 1000000) (h1 : w.ownsRow ob 21 1 v1 l.length (l.map (Value.int .i32))) (h2 : w.ownsRow ob 21 1 v2 l.length (l.map (Value.int .i32))) :
    Calls Try.prog 15 #[v1, v2] w fun e w' => e = .returned (.bool true) ∧ ∃ m, w' = w.drewN m := by
  by_cases h0 : l.length = 0
  · obtain ⟨a1, c1, rfl⟩ := own_form h1
    obtain ⟨a2, c2, rfl⟩ := own_form h2
    rw [h0]
    exact words_noneL a1 a2 c1 c2 w
  · obtain ⟨g1, c1, rfl, e1⟩ := own_cells h1 (by omega)
    obtain ⟨g2, c2, rfl, e2⟩ := own_cells h2 (by omega)
    exact words_someL g1 0 g2 0 l.length c1 c2 (fun k => l.getD k 0) w hl (fun k hk => by rw [Nat.zero_add]; exact e1 k hk) (fun k hk => by rw [Nat.zero_add]; exact e2 k hk)
end Go.Proofs.Ytofhiooodgopeaa.V

namespace Go.Proofs.Ytofhiooodgopeaa.V
open Go.RowKit Go.Proofs.Ytofhiooodgopeaa.M
set_option linter.unusedVariables false
set_option linter.unusedSimpArgs false

set_option maxRecDepth 100000 in
set_option maxHeartbeats 1000000 in
theorem may_img (ca da : Option Addr) (nc cc nd cd : Nat) (M : Int) (w : World) (hc : nc ≤ 140737488355328) (hd : nd ≤ 140737488355328) (M0 : -9223372036854775808 ≤ M) (M1 : M ≤ 9223372036854775807) :
    Calls Try.prog 8 #[.agg #[.slice ca nc cc, .slice da nd cd, .int .i64 M]] w fun e w' => e = .returned (.bool (mayB nc nd M)) ∧ Below w.heap.size w w' := by
  have hB : Below w.heap.size w (w.alloc (.cells #[.slice ca nc cc, .slice da nd cd, .int .i64 M] 25)) := (Below.refl _ _).alloc (Nat.le_refl _) _
  by_cases h1 : (nc : Int) < 1
  · rw [show mayB nc nd M = false by unfold mayB; simp; omega]
    go_enter Try.func8, Try.ntmps8
    go_wp2
    go_ret
    exact ⟨rfl, hB⟩
  by_cases h2 : (6000 : Int) < nc
  · rw [show mayB nc nd M = false by unfold mayB; simp; omega]
    go_enter Try.func8, Try.ntmps8
    go_wp2
    go_ret
    exact ⟨rfl, hB⟩
  by_cases h3 : M < 32
  · rw [show mayB nc nd M = false by unfold mayB; simp; omega]
    go_enter Try.func8, Try.ntmps8
    go_wp2
    go_ret
    exact ⟨rfl, hB⟩
  by_cases h4 : 16000 < M
  · rw [show mayB nc nd M = false by unfold mayB; simp; omega]
    go_enter Try.func8, Try.ntmps8
    go_wp2
    go_ret
    exact ⟨rfl, hB⟩
  by_cases h5 : (16000 : Int) < nd
  · rw [show mayB nc nd M = false by unfold mayB; simp; omega]
    go_enter Try.func8, Try.ntmps8
    go_wp2
    go_ret
    exact ⟨rfl, hB⟩
  by_cases h6 : (nc : Int) + nd ≤ M - 16
  · rw [show mayB nc nd M = true by unfold mayB; simp; omega]
    go_enter Try.func8, Try.ntmps8
    go_wp2
    go_ret
    exact ⟨by simp [h6], hB⟩
  · rw [show mayB nc nd M = false by unfold mayB; simp; omega]
    go_enter Try.func8, Try.ntmps8
    go_wp2
    go_ret
    exact ⟨by simp, hB⟩

set_option maxRecDepth 100000 in
set_option maxHeartbeats 1000000 in
theorem stops_same (x y t : Int) (v1 v2 : Value) (l : List Int) (w : World) (hl : l.length ≤ 1000000) (h1 : w.ownsRow 0 21 1 v1 l.length (l.map (Value.int .i32))) (h2 : w.ownsRow 0 21 1 v2 l.length (l.map (Value.int .i32))) :
    Calls Try.prog 9 #[.agg #[.int .i64 x, .int .i32 y, v1, .int .i64 t], .agg #[.int .i64 x, .int .i32 y, v2, .int .i64 t]] w fun e w' => e = .returned (.bool true) ∧ Below w.heap.size w w' := by
  obtain ⟨a1, c1, rfl⟩ := own_form h1
  obtain ⟨a2, c2, rfl⟩ := own_form h2
  have H1 := hide h1
  have H2 := hide h2
  clear h1 h2
  go_enter Try.func9, Try.ntmps9
  go_wp2_with fail
  go_at_call 15
  refine (words_anyL _ _ l _ 0 hl (ownsRow_below H1.out (((Below.refl _ _).alloc (Nat.le_refl _) _).alloc (by simp) _)) (ownsRow_below H2.out (((Below.refl _ _).alloc (Nat.le_refl _) _).alloc (by simp) _))).mono ?_
  rintro e w3 ⟨rfl, m, rfl⟩
  go_wp2_with fail
  go_ret
  exact ⟨rfl, below_drewN (((Below.refl _ _).alloc (Nat.le_refl _) _).alloc (by simp) _) m⟩
end Go.Proofs.Ytofhiooodgopeaa.V

namespace Go.Proofs.Ytofhiooodgopeaa.V
open Go.RowKit Go.Proofs.Ytofhiooodgopeaa.M
set_option linter.unusedVariables false
set_option linter.unusedSimpArgs false

theorem eqItems_same {P : Program} {e : TypeId} {q : IntKind} (hu : P.underlying e = some (.int q)) (d c : Nat) (w : World) (xs : Array Value) : ∀ is : List Nat, (∀ i ∈ is, ∃ n, xs[i * c]? = some (.int q n)) → (Op.eqItems (d + 1) e c xs xs is).run P w = .ok true w
  | [], _ => by simp [Op.eqItems]
  | i :: is, h => by
    obtain ⟨n, hn⟩ := h i (by simp)
    have hp : (part e xs (i * c)).run P w = .ok (.int q n) w := by simp [part, isAgg, run_underlying hu, hn]
    have ih := eqItems_same hu d c w xs is (fun j hj => h j (by simp [hj]))
    simp only [Op.eqItems, Sem.run_bind, hp, Result.andThen_ok, run_equalIn_int w d e q q n n hu, beq_self_eq_true, Bool.not_true, Bool.false_eq_true, if_false]
    exact ih
abbrev rgs (R : Nat → Int) : Array Value := #[.int .i32 (R 0), .int .i32 (R 1), .int .i32 (R 2), .int .i32 (R 3), .int .i32 (R 4), .int .i32 (R 5), .int .i32 (R 6), .int .i32 (R 7), .int .i32 (R 8), .int .i32 (R 9), .int .i32 (R 10), .int .i32 (R 11), .int .i32 (R 12), .int .i32 (R 13), .int .i32 (R 14), .int .i32 (R 15)]
theorem info31 : (Try.prog.info? 31).map (·.size) = some 16 := by kernel_rfl
theorem has21 : ∃ i, Try.prog.info? 21 = some i := info_of_underlying Try.underlying21
theorem cells21 : Try.prog.cellsOf 21 = 1 := by kernel_rfl
theorem eq31 (d : Nat) (R : Nat → Int) (w : World) : (Op.equalIn (d + 1 + 1) 31 (.agg (rgs R)) (.agg (rgs R))).run Try.prog w = .ok true w := by
  obtain ⟨i, hi⟩ := has21
  rw [run_equalIn_array w (d + 1) (rgs R) (rgs R) Try.underlying31 hi, cells21]
  refine eqItems_same Try.underlying21 d 1 w _ _ (fun j hj => ?_)
  have hj' : j < 16 := by simpa using hj
  have : j = 0 ∨ j = 1 ∨ j = 2 ∨ j = 3 ∨ j = 4 ∨ j = 5 ∨ j = 6 ∨ j = 7 ∨ j = 8 ∨ j = 9 ∨ j = 10 ∨ j = 11 ∨ j = 12 ∨ j = 13 ∨ j = 14 ∨ j = 15 := by omega
  rcases this with rfl | rfl | rfl | rfl | rfl | rfl | rfl | rfl | rfl | rfl | rfl | rfl | rfl | rfl | rfl | rfl <;> exact ⟨_, rfl⟩
theorem stood33 : Try.prog.stoodInHeld 33 = false := by kernel_rfl
theorem fields33 : Try.prog.fieldsOf 33 = #[{ name := "R", type := 31, offset := 0, embedded := false, tag := "", pkgPath := "", byteOffset := 0 }, { name := "PC", type := 3, offset := 16, embedded := false, tag := "", pkgPath := "", byteOffset := 64 }] := by kernel_rfl
theorem part31 (R : Nat → Int) (pc : Int) (w : World) : (part 31 (rcells R pc) 0).run Try.prog w = .ok (.agg (rgs R)) w := by
  obtain ⟨i, hi, hs⟩ : ∃ i, Try.prog.info? 31 = some i ∧ i.size = 16 := by
    have := info31
    cases hi : Try.prog.info? 31 with
    | none => rw [hi] at this; cases this
    | some i => rw [hi] at this; exact ⟨i, rfl, by simpa using this⟩
  simp [part, isAgg, run_underlying Try.underlying31, sizeOf, typeInfo, hi, hs]
theorem part3 (R : Nat → Int) (pc : Int) (w : World) : (part 3 (rcells R pc) 16).run Try.prog w = .ok (.int .i64 pc) w := by
  simp [part, isAgg, run_underlying Try.underlying3]
theorem eq33 (R : Nat → Int) (pc : Int) (w : World) : (Op.equal 33 (.agg (rcells R pc)) (.agg (rcells R pc))).run Try.prog w = .ok true w := by
  show (Op.equalIn (9997 + 1 + 1 + 1) 33 _ _).run Try.prog w = _
  rw [run_equalIn_struct w (9997 + 1 + 1) 33 _ _ (by rw [fields33]; exact Try.underlying33) stood33, fields33]
  simp only [Op.eqFields, Sem.run_bind, part31, part3, Result.andThen_ok, eq31, run_equalIn_int w (9997 + 1) 3 .i64 .i64 pc pc Try.underlying3, beq_self_eq_true, Bool.not_true, Bool.false_eq_true, if_false, Sem.run_pure]
  simp [part31, part3, eq31, run_equalIn_int w (9997 + 1) 3 .i64 .i64 pc pc Try.underlying3]
/-- A load of many cells, under a guard that lets it be. -/
theorem wpList_load_mid_g {P : Program} {ops : Array Oper} {rest : List Oper} {op : Oper} {a : Act} {w : World} {Q : Exit → Act → World → Prop} (hw : Region.wanted op (yielded ops a.tmps) = true) (ty : TypeId) (x : Operand) (ho : op.op = .load ty x)
    (b o : Nat) (hx : a.eval x = .pointer (some ⟨b, o, none⟩)) (cs : List Value) (d : TypeDesc) (hc : w.rangeAt b o cs)
    (hu : P.underlying ty = some d) (hd : d.isRow = true) (hi : (P.info? ty).map (·.size) = some cs.length)
    (h : wpList P ops Q rest (a.put op.dst (.agg cs.toArray)) w) : wpList P ops Q (op :: rest) a w :=
  wpList_step fun K hK => by rw [if_pos hw]; exact wp_load_mid ty x ho b o hx cs d hc hu hd hi (hK _ _ h)
theorem guard33 : Try.prog.eqGuardType Try.prog.depth 33 = false := by kernel_rfl
theorem run_eql33 (x y : Operand) (A : Array Value) (w : World) (heq : (Op.equal 33 (.agg A) (.agg A)).run Try.prog w = .ok true w) :
    (do eqGuard .eql 33 x y (.agg A) (.agg A); binOp .eql 33 (.agg A) (.agg A) : Sem Value).run Try.prog w = .ok (.bool true) w := by
  simp [eqGuard, guard33, binOp, heq, Sem.run_bind]
/-- Two rows of registers compared. -/
theorem wp_eql33 {op : Oper} {a : Act} {w : World} {K : Act → World → Prop} {Q : Exit → Act → World → Prop} (x y : Operand) (t : TypeId) (ho : op.op = .binOp .eql 33 x y t) (A : Array Value) (hx : a.eval x = .agg A) (hy : a.eval y = .agg A)
    (heq : (Op.equal 33 (.agg A) (.agg A)).run Try.prog w = .ok true w) (h : K (a.put op.dst (.bool true)) w) : op.wp Try.prog a w K Q := by
  unfold Oper.wp execOp
  simp only [ho, hx, hy, run_eql33 x y A w heq, Sem.run_bind, Sem.run_pure, Result.andThen_ok]
  exact h
theorem wpList_eql33_g {ops : Array Oper} {rest : List Oper} {op : Oper} {a : Act} {w : World} {Q : Exit → Act → World → Prop} (hw : Region.wanted op (yielded ops a.tmps) = true) (x y : Operand) (t : TypeId) (ho : op.op = .binOp .eql 33 x y t) (A : Array Value) (hx : a.eval x = .agg A) (hy : a.eval y = .agg A)
    (heq : (Op.equal 33 (.agg A) (.agg A)).run Try.prog w = .ok true w) (h : wpList Try.prog ops Q rest (a.put op.dst (.bool true)) w) : wpList Try.prog ops Q (op :: rest) a w :=
  wpList_step fun K hK => by rw [if_pos hw]; exact wp_eql33 x y t ho A hx hy heq (hK _ _ h)
theorem yieldsIf_eql33 {ops : Array Oper} {S : World → Prop} {op : Oper} {a : Act} (hw : Region.wanted op (yielded ops a.tmps) = true) (x y : Operand) (t : TypeId) (ho : op.op = .binOp .eql 33 x y t) (A : Array Value) (hx : a.eval x = .agg A) (hy : a.eval y = .agg A)
    (heq : ∀ w, (Op.equal 33 (.agg A) (.agg A)).run Try.prog w = .ok true w) : YieldsIf Try.prog ops S op (.bool true) a :=
  .inl ⟨hw, fun w _ => by
    unfold execOp
    simp only [ho, hx, hy, run_eql33 x y A w (heq w), Sem.run_bind, Sem.run_pure, Result.andThen_ok]⟩
end Go.Proofs.Ytofhiooodgopeaa.V
