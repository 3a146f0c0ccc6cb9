/- The contract of machine.played where the image may be and the fuel fits. -/
import Derived.Test.YtofhiooodgopeaaPlayed
namespace Go.Proofs.Ytofhiooodgopeaa.V
open Go.RowKit Go.Proofs.Ytofhiooodgopeaa.M
set_option linter.unusedVariables false
set_option linter.unusedSimpArgs false

set_option maxRecDepth 100000 in
set_option maxHeartbeats 2000000 in
theorem played_ok (cb co nc cc nd cd M fuel : Nat) (da : Option Addr) (code data : Nat → Int) (w : World) (hm : mayB nc nd M = true) (hfu : fuel ≤ 300000)
    (hcb : cb < w.heap.size) (hcode : ∀ k, k < nc → w.cell? ⟨cb, co + k, none⟩ = some (.int .u32 (code k))) (hc32 : ∀ k, k < nc → 0 ≤ code k ∧ code k ≤ 4294967295) (hd32 : ∀ k, k < nd → Fit (data k))
    (hdata : 0 < nd → ∃ db do', da = some ⟨db, do', none⟩ ∧ db < w.heap.size ∧ ∀ k, k < nd → w.cell? ⟨db, do' + k, none⟩ = some (.int .i32 (data k))) :
    Calls Try.prog 14 #[.agg #[.slice (some ⟨cb, co, none⟩) nc cc, .slice da nd cd, .int .i64 M], .int .i64 fuel] w fun e w' => ∃ ov mb kb, e = .returned (.tuple #[.agg (fcells (run (cf nc nd M code) fuel (sm0 nc nd M code data)) (run (cf nc nd M code) fuel (sm0 nc nd M code data)).fin ov mb kb (cf nc nd M code)), .int .i64 0])
      ∧ w'.ownsRow w.heap.size 21 1 ov (run (cf nc nd M code) fuel (sm0 nc nd M code data)).out.length ((run (cf nc nd M code) fuel (sm0 nc nd M code data)).out.map (Value.int .i32)) ∧ Below w.heap.size w w' := by
  have hmm : 1 ≤ nc ∧ nc ≤ 6000 ∧ (32 : Int) ≤ M ∧ (M : Int) ≤ 16000 ∧ (nc : Int) + nd ≤ M - 16 := by simpa [mayB] using hm
  have hck : chk nc nd M = 0 := by unfold chk; rw [hm]; rfl
  have hcc := fun w' => check_img (some ⟨cb, co, none⟩) da nc cc nd cd M w' (by omega) (by omega) (by omega) (by omega)
  rw [hck] at hcc
  have hok := ok0 nc nd M code data (by omega) (by omega) (by omega) hc32 hd32
  have hbg := fun w' hB => begun_any cb co nc cc nd cd M da code data w' (by omega) (by omega) (by omega) (by omega) (Nat.lt_of_lt_of_le hcb (Below.size hB)) (fun k hk => (Below.cell hB (p := ⟨cb, co + k, none⟩) hcb).trans (hcode k hk)) hc32 (fun hp => by
    obtain ⟨db, do', e1, e2, e3⟩ := hdata hp
    exact ⟨db, do', e1, Nat.lt_of_lt_of_le e2 (Below.size hB), fun k hk => (Below.cell hB (p := ⟨db, do' + k, none⟩) e2).trans (e3 k hk)⟩)
  have HBG := hide hbg
  have HOk := hide hok
  clear hm hck hbg hok hcode hdata hc32 hd32
  go_enter Try.func14, Try.ntmps14
  go_wp2_with fail
  go_at_call 7
  refine (hcc _).mono ?_
  rintro e w1 ⟨rfl, hb1⟩
  have hq : w1.heap[w.heap.size + 1]? = some (.cells z24 50 (0, 0)) := (hb1.block (w.heap.size + 1) (by simp)).trans (al_new _ _ _ (by simp))
  have hB : Below w.heap.size w w1 := (((Below.refl _ _).alloc (Nat.le_refl _) _).alloc (by simp) _).trans (hb1.mono (by simp; omega))
  have hbx : ∀ o, w1.cell? ⟨w.heap.size, o, none⟩ = (#[Value.slice (some ⟨cb, co, none⟩) nc cc, .slice da nd cd, .int .i64 M])[o]? := fun o => (hb1.cell (p := ⟨w.heap.size, o, none⟩) (by simp; omega)).trans ((World.cell?_alloc_past _ _ _ (by simp)).trans (World.cell?_alloc_at _ _ _ _ rfl))
  have hz1 : w.heap.size + 1 < w1.heap.size := by have := hb1.size; simp at this; omega
  have hff : ¬ (fuel : Int) < 0 := by omega
  have hff2 : ¬ (300000 : Int) < fuel := by omega
  clear hb1 hcc
  go_wp2_with fail
  go_at_call 18
  refine (HBG.out w1 hB).mono ?_
  rintro e w2 ⟨mb, kb, rfl, hb2, gm, gk, n3, hm2, hk2, hf2⟩
  have hb2' : Below w.heap.size w w2 := hB.trans (hb2.mono (by omega))
  have hq2 : w2.heap[w.heap.size + 1]? = some (.cells z24 50 (0, 0)) := (hb2.block (w.heap.size + 1) hz1).trans hq
  have hmlt : mb < w2.heap.size := World.block_lt_of_cell? w2 ⟨mb, 0, none⟩ (hm2 0 (by omega))
  have hklt : kb < w2.heap.size := World.block_lt_of_cell? w2 ⟨kb, 0, none⟩ (hk2 0 (by omega))
  have hz2 := hb2.size
  have HT2 : Hid ((w2.alloc (.cells z24 50)).there w2.heap.size 0 (pcells mb kb M nc (↑nc + ↑nd)).size) := there_block (al_new w2 (.cells z24 50) w2.heap.size rfl) _ rfl
  clear HBG hbx hq hb2 hB
  go_wp2_with (refine wpList_store_mid rfl 50 (.tmp 7) (.tmp 22) rfl w2.heap.size 0 (pcells mb kb M nc (↑nc + ↑nd)) rfl rfl ?_ info50 (one_p _ _ _ _ _) ?_; exact HT2.out)
  have hB3 : Below w2.heap.size w2 ((w2.alloc (.cells z24 50)).setCells w2.heap.size 0 (pcells mb kb M nc (↑nc + ↑nd)).toList) := setCells_below w2.heap.size (Nat.le_refl _) _ 0 _ ((Below.refl _ _).alloc (Nat.le_refl _) _)
  have hs3 : ((w2.alloc (.cells z24 50)).setCells w2.heap.size 0 (pcells mb kb M nc (↑nc + ↑nd)).toList).heap.size = w2.heap.size + 1 := by rw [setCells_size]; simp
  have hp3 : ((w2.alloc (.cells z24 50)).setCells w2.heap.size 0 (pcells mb kb M nc (↑nc + ↑nd)).toList).heap[w2.heap.size]? = some (.cells (pcells mb kb M nc (↑nc + ↑nd)) 50 (0, 0)) :=
    (setCells_heap w2.heap.size 50 (0, 0) _ 0 _ _ (al_new w2 (.cells z24 50) w2.heap.size rfl)).trans (by rw [fill_p])
  have hL3 : Lo ((w2.alloc (.cells z24 50)).setCells w2.heap.size 0 (pcells mb kb M nc (↑nc + ↑nd)).toList) w2.heap.size mb kb (w2.heap.size + 1) (cf nc nd M code) (sm0 nc nd M code data) 0 :=
    lo0 (by omega) (by omega) (by omega) (Nat.le_of_eq hs3.symm) (by omega) (by omega) n3 hp3 (fun k hk => (hB3.cell (p := ⟨mb, k, none⟩) hmlt).trans (hm2 k hk)) (fun k hk => (hB3.cell (p := ⟨kb, k, none⟩) hklt).trans (hk2 k hk))
      (fun o => ⟨(hB3.frozen (p := ⟨mb, o, none⟩) hmlt).trans (hf2 o).1, (hB3.frozen (p := ⟨kb, o, none⟩) hklt).trans (hf2 o).2⟩)
  go_at_call 19
  refine (goOn_any hL3 (cell_of hp3 19) rfl rfl rfl HOk.out fuel hfu).mono ?_
  rintro e w4 ⟨rfl, hL4, hK4⟩
  obtain ⟨ov, hov, hown⟩ := hL4.own
  have hq4 : w4.heap[w.heap.size + 1]? = some (.cells z24 50 (0, 0)) := (hK4.block (w.heap.size + 1) (by rw [hs3]; omega) (by omega) (by omega) (by omega)).trans ((hB3.block (w.heap.size + 1) (by omega)).trans hq2)
  have hB4 : Below w.heap.size w w4 := (hb2'.trans (hB3.mono hb2'.size)).trans (hK4.below hb2'.size (by omega) (by omega) (by rw [hs3]; omega))
  have HR := hide (hL4.range ov hov)
  have HO := hide (own_one hown)
  have HN := hide hown
  have hob : w.heap.size + 1 < ((w2.alloc (.cells z24 50)).setCells w2.heap.size 0 (pcells mb kb M nc (↑nc + ↑nd)).toList).heap.size + 1 := by rw [hs3]; omega
  clear hL3 hL4 hK4 hB3 hp3 hm2 hk2 hf2 hown hov hq2 HT2 HOk
  generalize hse : run (cf nc nd M code) fuel (sm0 nc nd M code data) = s' at *
  have HSE := hide hse
  clear hse
  generalize hce : cf nc nd M code = c at *
  have HCE := hide hce
  clear hce
  have HT4 : Hid (w4.there (w.heap.size + 1) 0 (fcells s' s'.fin ov mb kb c).size) := there_block hq4 _ rfl
  clear hq4
  go_wp2_with (first | (refine wpList_load_mid rfl 50 (.tmp 7) rfl w2.heap.size 0 rfl (fcells s' s'.fin ov mb kb c).toList _ ?_ Try.underlying50 rfl info50 ?_; exact HR.out) | (refine wpList_store_mid rfl 50 (.tmp 4) (.tmp 25) rfl (w.heap.size + 1) 0 (fcells s' s'.fin ov mb kb c) rfl rfl ?_ info50 (one_f _ _ _ _ _ _ HO.out) ?_; exact HT4.out))
  have hR6 := World.rangeAt_setCells_same w4 (w.heap.size + 1) 0 (fcells s' s'.fin ov mb kb c).toList HT4.out
  have hrun := run_loadVar_mid (P := Try.prog) (w4.setCells (w.heap.size + 1) 0 (fcells s' s'.fin ov mb kb c).toList) (w.heap.size + 1) 0 50 (fcells s' s'.fin ov mb kb c).toList _ hR6 Try.underlying50 rfl info50
  refine bodyPost_ret (v := .tuple #[.agg (fcells s' s'.fin ov mb kb c), .int .i64 0]) (results_cell_tmp Try.results14 _ rfl _ hrun) rfl ?_
  have hse := HSE.out
  have hce := HCE.out
  subst hce
  subst hse
  exact ⟨ov, mb, kb, rfl, ownsRow_base (ownsRow_setCells (w.heap.size + 1) hob _ 0 _ HN.out) (by omega), setCells_below (w.heap.size + 1) (by omega) _ 0 _ hB4⟩
end Go.Proofs.Ytofhiooodgopeaa.V
