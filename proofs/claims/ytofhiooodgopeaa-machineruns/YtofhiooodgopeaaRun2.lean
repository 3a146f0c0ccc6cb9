/- The contract of machine.played. -/
import Derived.Test.YtofhiooodgopeaaBegun
namespace Go.Proofs.Ytofhiooodgopeaa.V
open Go.RowKit Go.Proofs.Ytofhiooodgopeaa.M
set_option linter.unusedVariables false
set_option linter.unusedSimpArgs false

/-- A machine's cells that are all zero. -/
abbrev z24 : Array Value := #[.int .i32 0, .int .i32 0, .int .i32 0, .int .i32 0, .int .i32 0, .int .i32 0, .int .i32 0, .int .i32 0, .int .i32 0, .int .i32 0, .int .i32 0, .int .i32 0, .int .i32 0, .int .i32 0, .int .i32 0, .int .i32 0, .int .i64 0, .int .i64 0, .int .i32 0, .slice none 0 0, .int .i64 0, .slice none 0 0, .slice none 0 0, .int .i64 0]
theorem one_z : z24.all (·.oneCell') = true := by simp [z24, Value.oneCell']
/-- A machine's cells. -/
abbrev fcells (s : Sm) (en : Int) (ov : Value) (mb kb : Nat) (c : Cf) : Array Value := #[.int .i32 (s.R 0), .int .i32 (s.R 1), .int .i32 (s.R 2), .int .i32 (s.R 3), .int .i32 (s.R 4), .int .i32 (s.R 5), .int .i32 (s.R 6), .int .i32 (s.R 7), .int .i32 (s.R 8), .int .i32 (s.R 9), .int .i32 (s.R 10), .int .i32 (s.R 11), .int .i32 (s.R 12), .int .i32 (s.R 13), .int .i32 (s.R 14), .int .i32 (s.R 15),
  .int .i64 s.pc, .int .i64 en, .int .i32 s.val, ov, .int .i64 s.steps, .slice (some ⟨mb, 0, none⟩) c.M c.M, .slice (some ⟨kb, 0, none⟩) c.n c.n, .int .i64 c.low]
theorem one_f (s : Sm) (en : Int) (ov : Value) (mb kb : Nat) (c : Cf) (ho : ov.oneCell' = true) : (fcells s en ov mb kb c).all (·.oneCell') = true := by simpa [fcells, Value.oneCell'] using ho
theorem Lo.range {w : World} {b mb kb ob : Nat} {c : Cf} {s : Sm} {en : Int} (h : Lo w b mb kb ob c s en) (ov : Value) (ho : w.cell? ⟨b, 19, none⟩ = some ov) : w.rangeAt b 0 (fcells s en ov mb kb c).toList := by
  intro j v hv
  rw [Nat.zero_add]
  have hj : j < 24 := by
    have := (List.getElem?_eq_some_iff.1 hv).1
    simpa using this
  have hr := h.reg
  have : j = 0 ∨ j = 1 ∨ j = 2 ∨ j = 3 ∨ j = 4 ∨ j = 5 ∨ j = 6 ∨ j = 7 ∨ j = 8 ∨ j = 9 ∨ j = 10 ∨ j = 11 ∨ j = 12 ∨ j = 13 ∨ j = 14 ∨ j = 15 ∨ j = 16 ∨ j = 17 ∨ j = 18 ∨ j = 19 ∨ j = 20 ∨ j = 21 ∨ j = 22 ∨ j = 23 := by omega
  rcases this with rfl | rfl | rfl | rfl | rfl | rfl | rfl | rfl | rfl | rfl | rfl | rfl | rfl | rfl | rfl | rfl | rfl | rfl | rfl | rfl | rfl | rfl | rfl | rfl
  · exact (hr 0 (by omega)).trans hv
  · exact (hr 1 (by omega)).trans hv
  · exact (hr 2 (by omega)).trans hv
  · exact (hr 3 (by omega)).trans hv
  · exact (hr 4 (by omega)).trans hv
  · exact (hr 5 (by omega)).trans hv
  · exact (hr 6 (by omega)).trans hv
  · exact (hr 7 (by omega)).trans hv
  · exact (hr 8 (by omega)).trans hv
  · exact (hr 9 (by omega)).trans hv
  · exact (hr 10 (by omega)).trans hv
  · exact (hr 11 (by omega)).trans hv
  · exact (hr 12 (by omega)).trans hv
  · exact (hr 13 (by omega)).trans hv
  · exact (hr 14 (by omega)).trans hv
  · exact (hr 15 (by omega)).trans hv
  · exact h.c16.trans hv
  · exact h.c17.trans hv
  · exact h.c18.trans hv
  · exact ho.trans hv
  · exact h.c20.trans hv
  · exact h.c21.trans hv
  · exact h.c22.trans hv
  · exact h.c23.trans hv
set_option maxRecDepth 100000 in
theorem fill_p (mb kb M n : Nat) (l : Int) : fill z24 0 (pcells mb kb M n l).toList = pcells mb kb M n l := by simp [fill, pcells]
/-- The machine of an image ahead of the first step. -/
def cf (nc nd M : Nat) (code : Nat → Int) : Cf := ⟨nc, M, (nc : Int) + nd, code⟩
def sm0 (nc nd M : Nat) (code data : Nat → Int) : Sm := ⟨fun k => if k = 13 then (M : Int) else 0, mem0 nc nd code data, 0, [], 0, 0, 0⟩
theorem ok0 (nc nd M : Nat) (code data : Nat → Int) (h2 : nc ≤ 6000) (h3 : M ≤ 16000) (h4 : nc + nd + 16 ≤ M) (hc32 : ∀ k, k < nc → 0 ≤ code k ∧ code k ≤ 4294967295) (hd32 : ∀ k, k < nd → Fit (data k)) : Ok (cf nc nd M code) (sm0 nc nd M code data) where
  reg := fun k => by unfold sm0 Fit; show _ ≤ (if _ then _ else _) ∧ (if _ then _ else _) ≤ _; split <;> omega
  mem := fun k => by
    show Fit (mem0 nc nd code data k)
    unfold mem0
    split
    · exact fit_wrap _
    · split
      · exact hd32 _ (by omega)
      · unfold Fit; omega
  pc := by show Fit 0; unfold Fit; omega
  code := fun k hk => by
    have := hc32 k hk
    refine ⟨this.1, this.2, ?_⟩
    show mem0 nc nd code data k = _
    unfold mem0
    rw [if_pos (show k < nc from hk)]
    rfl
  n0 := by show nc ≤ M; omega
  nM := h3
  low := by show 0 ≤ (nc : Int) + nd ∧ (nc : Int) + nd ≤ M; omega
theorem lo0 {w : World} {b mb kb ob nc nd M : Nat} {code data : Nat → Int} (lb : b < ob) (lmb : mb < ob) (lkb : kb < ob) (lo : ob ≤ w.heap.size) (n1 : b ≠ mb) (n2 : b ≠ kb) (n3 : mb ≠ kb) (hb : w.heap[b]? = some (.cells (pcells mb kb M nc (↑nc + ↑nd)) 50 (0, 0)))
    (hm : ∀ k, k < M → w.cell? ⟨mb, k, none⟩ = some (.int .i32 (mem0 nc nd code data k))) (hk : ∀ k, k < nc * 5 → w.cell? ⟨kb, k, none⟩ = some (.int .i64 0)) (hf : ∀ o, w.frozen? ⟨mb, o, none⟩ = false ∧ w.frozen? ⟨kb, o, none⟩ = false) :
    Lo w b mb kb ob (cf nc nd M code) (sm0 nc nd M code data) 0 := by
  have hc := cell_of hb
  refine ⟨lb, lmb, lkb, lo, n1, n2, n3, fun k hk => ?_, hc 16, hc 17, hc 18, ⟨_, hc 19, rfl, Or.inl ⟨rfl, rfl⟩⟩, hc 20, hc 21, hc 22, hc 23, hm, fun k hk' => Or.inl fun j hj => hk _ ?_, fun o => ⟨frozen_of hb o, hf o⟩⟩
  · rw [hc k]
    show _ = some (Value.int .i32 (if k = 13 then (M : Int) else 0))
    have : k = 0 ∨ k = 1 ∨ k = 2 ∨ k = 3 ∨ k = 4 ∨ k = 5 ∨ k = 6 ∨ k = 7 ∨ k = 8 ∨ k = 9 ∨ k = 10 ∨ k = 11 ∨ k = 12 ∨ k = 13 ∨ k = 14 ∨ k = 15 := by omega
    rcases this with rfl | rfl | rfl | rfl | rfl | rfl | rfl | rfl | rfl | rfl | rfl | rfl | rfl | rfl | rfl | rfl <;> rfl
  · have : k < nc := hk'
    omega
theorem ownsRow_setCells {ob : Nat} {e : TypeId} {z : Nat} {v : Value} {n : Nat} {xs : List Value} (b : Nat) (hb : b < ob) : ∀ (cs : List Value) (o : Nat) (w : World), w.ownsRow ob e z v n xs → (w.setCells b o cs).ownsRow ob e z v n xs
  | [], _, _, h => h
  | u :: r, o, w, h => ownsRow_setCells b hb r (o + 1) _ (ownsRow_setCell_below h hb u)
theorem ownsRow_base {w : World} {ob ob' : Nat} {e : TypeId} {z : Nat} {v : Value} {n : Nat} {xs : List Value} (h : w.ownsRow ob e z v n xs) (hb : ob' ≤ ob) : w.ownsRow ob' e z v n xs := by
  refine ⟨h.1, ?_⟩
  rcases h.2 with h2 | ⟨g, cap, cur, hv, hg, r⟩
  · exact Or.inl h2
  · exact Or.inr ⟨g, cap, cur, hv, Nat.le_trans hb hg, r⟩
theorem own_one {w : World} {ob : Nat} {e : TypeId} {z : Nat} {v : Value} {n : Nat} {xs : List Value} (h : w.ownsRow ob e z v n xs) : v.oneCell' = true := by
  rcases h.2 with ⟨rfl, _⟩ | ⟨g, cap, cur, rfl, _⟩ <;> rfl

set_option maxRecDepth 100000 in
set_option maxHeartbeats 1000000 in
theorem played_may (ca da : Option Addr) (nc cc nd cd : Nat) (M fuel : Int) (w : World) (hc : nc ≤ 140737488355328) (hd : nd ≤ 140737488355328) (M0 : -9223372036854775808 ≤ M) (M1 : M ≤ 9223372036854775807) (hm : mayB nc nd M = false) :
    Calls Try.prog 14 #[.agg #[.slice ca nc cc, .slice da nd cd, .int .i64 M], .int .i64 fuel] w fun e w' => e = .returned (.tuple #[.agg z24, .int .i64 1]) ∧ Below w.heap.size w w' := by
  have hck : chk nc nd M = 1 := by unfold chk; rw [hm]; rfl
  have hcc := fun w' => check_img ca da nc cc nd cd M w' hc hd M0 M1
  rw [hck] at hcc
  clear hm hck
  go_enter Try.func14, Try.ntmps14
  go_wp2_with fail
  go_at_call 7
  refine (hcc _).mono ?_
  rintro e w1 ⟨rfl, hb1⟩
  have hq : w1.heap[w.heap.size + 1]? = some (.cells z24 50 (0, 0)) := (hb1.block (w.heap.size + 1) (by simp)).trans (al_new _ _ _ (by simp))
  have hB : Below w.heap.size w w1 := (((Below.refl _ _).alloc (Nat.le_refl _) _).alloc (by simp) _).trans (hb1.mono (by simp; omega))
  have HT : Hid (w1.there (w.heap.size + 1) 0 z24.size) := there_block hq _ rfl
  clear hb1 hcc
  go_wp2_with (refine wpList_store_mid rfl 50 (.tmp 4) (.tmp 12) rfl (w.heap.size + 1) 0 z24 rfl rfl HT.out info50 one_z ?_)
  have hR6 := World.rangeAt_setCells_same w1 (w.heap.size + 1) 0 z24.toList HT.out
  have hrun := run_loadVar_mid (P := Try.prog) (w1.setCells (w.heap.size + 1) 0 z24.toList) (w.heap.size + 1) 0 50 z24.toList _ hR6 Try.underlying50 rfl info50
  refine bodyPost_ret (v := .tuple #[.agg z24, .int .i64 1]) (results_cell_tmp Try.results14 _ rfl _ hrun) rfl ⟨rfl, setCells_below (w.heap.size + 1) (by omega) _ 0 _ hB⟩

set_option maxRecDepth 100000 in
set_option maxHeartbeats 1000000 in
theorem played_fuel (ca da : Option Addr) (nc cc nd cd : Nat) (M fuel : Int) (w : World) (hc : nc ≤ 140737488355328) (hd : nd ≤ 140737488355328) (M0 : -9223372036854775808 ≤ M) (M1 : M ≤ 9223372036854775807) (hm : mayB nc nd M = true) (hf : fuel < 0 ∨ (¬ fuel < 0 ∧ 300000 < fuel)) :
    Calls Try.prog 14 #[.agg #[.slice ca nc cc, .slice da nd cd, .int .i64 M], .int .i64 fuel] w fun e w' => e = .returned (.tuple #[.agg z24, .int .i64 6]) ∧ Below w.heap.size w w' := by
  have hck : chk nc nd M = 0 := by unfold chk; rw [hm]; rfl
  have hcc := fun w' => check_img ca da nc cc nd cd M w' hc hd M0 M1
  rw [hck] at hcc
  clear hm hck
  rcases hf with hf | ⟨hf, hf2⟩
  all_goals
    go_enter Try.func14, Try.ntmps14
    go_wp2_with fail
    go_at_call 7
    refine (hcc _).mono ?_
    rintro e w1 ⟨rfl, hb1⟩
    have hq : w1.heap[w.heap.size + 1]? = some (.cells z24 50 (0, 0)) := (hb1.block (w.heap.size + 1) (by simp)).trans (al_new _ _ _ (by simp))
    have hB : Below w.heap.size w w1 := (((Below.refl _ _).alloc (Nat.le_refl _) _).alloc (by simp) _).trans (hb1.mono (by simp; omega))
    have HT : Hid (w1.there (w.heap.size + 1) 0 z24.size) := there_block hq _ rfl
    clear hb1 hcc
    go_wp2_with (refine wpList_store_mid rfl 50 (.tmp 4) (.tmp 20) rfl (w.heap.size + 1) 0 z24 rfl rfl HT.out info50 one_z ?_)
    have hR6 := World.rangeAt_setCells_same w1 (w.heap.size + 1) 0 z24.toList HT.out
    have hrun := run_loadVar_mid (P := Try.prog) (w1.setCells (w.heap.size + 1) 0 z24.toList) (w.heap.size + 1) 0 50 z24.toList _ hR6 Try.underlying50 rfl info50
    refine bodyPost_ret (v := .tuple #[.agg z24, .int .i64 6]) (results_cell_tmp Try.results14 _ rfl _ hrun) rfl ⟨rfl, setCells_below (w.heap.size + 1) (by omega) _ 0 _ hB⟩

end Go.Proofs.Ytofhiooodgopeaa.V

namespace Go.Proofs.Ytofhiooodgopeaa.V
open Go.RowKit Go.Proofs.Ytofhiooodgopeaa.M
set_option linter.unusedVariables false
set_option linter.unusedSimpArgs false

set_option maxRecDepth 100000 in
set_option maxHeartbeats 2000000 in
theorem played_ok (cb co nc cc nd cd M fuel : Nat) (da : Option Addr) (code data : Nat → Int) (w : World) (hm : mayB nc nd M = true) (hfu : fuel ≤ 300000)
    (hcb : cb < w.heap.size) (hcode : ∀ k, k < nc → w.cell? ⟨cb, co + k, none⟩ = some (.int .u32 (code k))) (hc32 : ∀ k, k < nc → 0 ≤ code k ∧ code k ≤ 4294967295) (hd32 : ∀ k, k < nd → Fit (data k))
    (hdata : 0 < nd → ∃ db do', da = some ⟨db, do', none⟩ ∧ db < w.heap.size ∧ ∀ k, k < nd → w.cell? ⟨db, do' + k, none⟩ = some (.int .i32 (data k))) :
    Calls Try.prog 14 #[.agg #[.slice (some ⟨cb, co, none⟩) nc cc, .slice da nd cd, .int .i64 M], .int .i64 fuel] w fun e w' => ∃ ov mb kb, e = .returned (.tuple #[.agg (fcells (run (cf nc nd M code) fuel (sm0 nc nd M code data)) (run (cf nc nd M code) fuel (sm0 nc nd M code data)).fin ov mb kb (cf nc nd M code)), .int .i64 0])
      ∧ w'.ownsRow w.heap.size 21 1 ov (run (cf nc nd M code) fuel (sm0 nc nd M code data)).out.length ((run (cf nc nd M code) fuel (sm0 nc nd M code data)).out.map (Value.int .i32)) ∧ Below w.heap.size w w' := by
  have hmm : 1 ≤ nc ∧ nc ≤ 6000 ∧ (32 : Int) ≤ M ∧ (M : Int) ≤ 16000 ∧ (nc : Int) + nd ≤ M - 16 := by simpa [mayB] using hm
  have hck : chk nc nd M = 0 := by unfold chk; rw [hm]; rfl
  have hcc := fun w' => check_img (some ⟨cb, co, none⟩) da nc cc nd cd M w' (by omega) (by omega) (by omega) (by omega)
  rw [hck] at hcc
  have hok := ok0 nc nd M code data (by omega) (by omega) (by omega) hc32 hd32
  have hbg := fun w' hB => begun_any cb co nc cc nd cd M da code data w' (by omega) (by omega) (by omega) (by omega) (Nat.lt_of_lt_of_le hcb (Below.size hB)) (fun k hk => (Below.cell hB (p := ⟨cb, co + k, none⟩) hcb).trans (hcode k hk)) hc32 (fun hp => by
    obtain ⟨db, do', e1, e2, e3⟩ := hdata hp
    exact ⟨db, do', e1, Nat.lt_of_lt_of_le e2 (Below.size hB), fun k hk => (Below.cell hB (p := ⟨db, do' + k, none⟩) e2).trans (e3 k hk)⟩)
  have HBG := hide hbg
  have HOk := hide hok
  clear hm hck hbg hok hcode hdata hc32 hd32
  go_enter Try.func14, Try.ntmps14
  go_wp2_with fail
  go_at_call 7
  refine (hcc _).mono ?_
  rintro e w1 ⟨rfl, hb1⟩
  have hq : w1.heap[w.heap.size + 1]? = some (.cells z24 50 (0, 0)) := (hb1.block (w.heap.size + 1) (by simp)).trans (al_new _ _ _ (by simp))
  have hB : Below w.heap.size w w1 := (((Below.refl _ _).alloc (Nat.le_refl _) _).alloc (by simp) _).trans (hb1.mono (by simp; omega))
  have hbx : ∀ o, w1.cell? ⟨w.heap.size, o, none⟩ = (#[Value.slice (some ⟨cb, co, none⟩) nc cc, .slice da nd cd, .int .i64 M])[o]? := fun o => (hb1.cell (p := ⟨w.heap.size, o, none⟩) (by simp; omega)).trans ((World.cell?_alloc_past _ _ _ (by simp)).trans (World.cell?_alloc_at _ _ _ _ rfl))
  have hz1 : w.heap.size + 1 < w1.heap.size := by have := hb1.size; simp at this; omega
  have hff : ¬ (fuel : Int) < 0 := by omega
  have hff2 : ¬ (300000 : Int) < fuel := by omega
  clear hb1 hcc
  go_wp2_with fail
  go_at_call 18
  refine (HBG.out w1 hB).mono ?_
  rintro e w2 ⟨mb, kb, rfl, hb2, gm, gk, n3, hm2, hk2, hf2⟩
  have hb2' : Below w.heap.size w w2 := hB.trans (hb2.mono (by omega))
  have hq2 : w2.heap[w.heap.size + 1]? = some (.cells z24 50 (0, 0)) := (hb2.block (w.heap.size + 1) hz1).trans hq
  have hmlt : mb < w2.heap.size := World.block_lt_of_cell? w2 ⟨mb, 0, none⟩ (hm2 0 (by omega))
  have hklt : kb < w2.heap.size := World.block_lt_of_cell? w2 ⟨kb, 0, none⟩ (hk2 0 (by omega))
  have hz2 := hb2.size
  have HT2 : Hid ((w2.alloc (.cells z24 50)).there w2.heap.size 0 (pcells mb kb M nc (↑nc + ↑nd)).size) := there_block (al_new w2 (.cells z24 50) w2.heap.size rfl) _ rfl
  clear HBG hbx hq hb2 hB
  go_wp2_with (refine wpList_store_mid rfl 50 (.tmp 7) (.tmp 22) rfl w2.heap.size 0 (pcells mb kb M nc (↑nc + ↑nd)) rfl rfl ?_ info50 (one_p _ _ _ _ _) ?_; exact HT2.out)
  have hB3 : Below w2.heap.size w2 ((w2.alloc (.cells z24 50)).setCells w2.heap.size 0 (pcells mb kb M nc (↑nc + ↑nd)).toList) := setCells_below w2.heap.size (Nat.le_refl _) _ 0 _ ((Below.refl _ _).alloc (Nat.le_refl _) _)
  have hs3 : ((w2.alloc (.cells z24 50)).setCells w2.heap.size 0 (pcells mb kb M nc (↑nc + ↑nd)).toList).heap.size = w2.heap.size + 1 := by rw [setCells_size]; simp
  have hp3 : ((w2.alloc (.cells z24 50)).setCells w2.heap.size 0 (pcells mb kb M nc (↑nc + ↑nd)).toList).heap[w2.heap.size]? = some (.cells (pcells mb kb M nc (↑nc + ↑nd)) 50 (0, 0)) :=
    (setCells_heap w2.heap.size 50 (0, 0) _ 0 _ _ (al_new w2 (.cells z24 50) w2.heap.size rfl)).trans (by rw [fill_p])
  have hL3 : Lo ((w2.alloc (.cells z24 50)).setCells w2.heap.size 0 (pcells mb kb M nc (↑nc + ↑nd)).toList) w2.heap.size mb kb (w2.heap.size + 1) (cf nc nd M code) (sm0 nc nd M code data) 0 :=
    lo0 (by omega) (by omega) (by omega) (Nat.le_of_eq hs3.symm) (by omega) (by omega) n3 hp3 (fun k hk => (hB3.cell (p := ⟨mb, k, none⟩) hmlt).trans (hm2 k hk)) (fun k hk => (hB3.cell (p := ⟨kb, k, none⟩) hklt).trans (hk2 k hk))
      (fun o => ⟨(hB3.frozen (p := ⟨mb, o, none⟩) hmlt).trans (hf2 o).1, (hB3.frozen (p := ⟨kb, o, none⟩) hklt).trans (hf2 o).2⟩)
  go_at_call 19
  refine (goOn_any hL3 (cell_of hp3 19) rfl rfl rfl HOk.out fuel hfu).mono ?_
  rintro e w4 ⟨rfl, hL4, hK4⟩
  obtain ⟨ov, hov, hown⟩ := hL4.own
  have hq4 : w4.heap[w.heap.size + 1]? = some (.cells z24 50 (0, 0)) := (hK4.block (w.heap.size + 1) (by rw [hs3]; omega) (by omega) (by omega) (by omega)).trans ((hB3.block (w.heap.size + 1) (by omega)).trans hq2)
  have hB4 : Below w.heap.size w w4 := (hb2'.trans (hB3.mono hb2'.size)).trans (hK4.below hb2'.size (by omega) (by omega) (by rw [hs3]; omega))
  have HR := hide (hL4.range ov hov)
  have HO := hide (own_one hown)
  have HN := hide hown
  have hob : w.heap.size + 1 < ((w2.alloc (.cells z24 50)).setCells w2.heap.size 0 (pcells mb kb M nc (↑nc + ↑nd)).toList).heap.size + 1 := by rw [hs3]; omega
  clear hL3 hL4 hK4 hB3 hp3 hm2 hk2 hf2 hown hov hq2 HT2 HOk
  generalize hse : run (cf nc nd M code) fuel (sm0 nc nd M code data) = s' at *
  have HSE := hide hse
  clear hse
  generalize hce : cf nc nd M code = c at *
  have HCE := hide hce
  clear hce
  have HT4 : Hid (w4.there (w.heap.size + 1) 0 (fcells s' s'.fin ov mb kb c).size) := there_block hq4 _ rfl
  clear hq4
  go_wp2_with (first | (refine wpList_load_mid rfl 50 (.tmp 7) rfl w2.heap.size 0 rfl (fcells s' s'.fin ov mb kb c).toList _ ?_ Try.underlying50 rfl info50 ?_; exact HR.out) | (refine wpList_store_mid rfl 50 (.tmp 4) (.tmp 25) rfl (w.heap.size + 1) 0 (fcells s' s'.fin ov mb kb c) rfl rfl ?_ info50 (one_f _ _ _ _ _ _ HO.out) ?_; exact HT4.out))
  have hR6 := World.rangeAt_setCells_same w4 (w.heap.size + 1) 0 (fcells s' s'.fin ov mb kb c).toList HT4.out
  have hrun := run_loadVar_mid (P := Try.prog) (w4.setCells (w.heap.size + 1) 0 (fcells s' s'.fin ov mb kb c).toList) (w.heap.size + 1) 0 50 (fcells s' s'.fin ov mb kb c).toList _ hR6 Try.underlying50 rfl info50
  refine bodyPost_ret (v := .tuple #[.agg (fcells s' s'.fin ov mb kb c), .int .i64 0]) (results_cell_tmp Try.results14 _ rfl _ hrun) rfl ?_
  have hse := HSE.out
  have hce := HCE.out
  subst hce
  subst hse
  exact ⟨ov, mb, kb, rfl, ownsRow_base (ownsRow_setCells (w.heap.size + 1) hob _ 0 _ HN.out) (by omega), setCells_below (w.heap.size + 1) (by omega) _ 0 _ hB4⟩
end Go.Proofs.Ytofhiooodgopeaa.V

namespace Go.Proofs.Ytofhiooodgopeaa.V
open Go.RowKit Go.Proofs.Ytofhiooodgopeaa.M
set_option linter.unusedVariables false
set_option linter.unusedSimpArgs false

/-- From a block on all that was there is as it was. -/
def Above (B : Nat) (w0 w1 : World) : Prop := ∀ k, B ≤ k → k < w0.heap.size → w1.heap[k]? = w0.heap[k]?
theorem ext_at (C : Array Value) (off n j : Nat) (v : Value) (h : (C.extract off (off + n)).toList[j]? = some v) : C.toList[off + j]? = some v := by
  rw [Array.getElem?_toList] at *
  rw [Array.getElem?_extract] at h
  split at h
  · exact h
  · cases h
theorem info27 : (Try.prog.info? 27).map (·.size) = some 4 := by kernel_rfl
theorem info33 : (Try.prog.info? 33).map (·.size) = some 17 := by kernel_rfl
abbrev zz27 : Array Value := #[.int .i64 0, .int .i32 0, .slice none 0 0, .int .i64 0]
abbrev zz33 : Array Value := #[.int .i32 0, .int .i32 0, .int .i32 0, .int .i32 0, .int .i32 0, .int .i32 0, .int .i32 0, .int .i32 0, .int .i32 0, .int .i32 0, .int .i32 0, .int .i32 0, .int .i32 0, .int .i32 0, .int .i32 0, .int .i32 0, .int .i64 0]

set_option maxRecDepth 100000 in
set_option maxHeartbeats 1000000 in
theorem run_gen (ca da : Option Addr) (nc cc nd cd : Nat) (M fuel er : Int) {Res : Array Value → World → Prop} (w : World) (hRes : ∀ C w0 w1, Above (w.heap.size + 2) w0 w1 → Res C w0 → Res C w1)
    (hp : ∀ w', Below w.heap.size w w' → w'.heap.size = w.heap.size + 2 → Calls Try.prog 14 #[.agg #[.slice ca nc cc, .slice da nd cd, .int .i64 M], .int .i64 fuel] w' fun e w'' => ∃ C : Array Value, C.size = 24 ∧ C.all (·.oneCell') = true ∧ e = .returned (.tuple #[.agg C, .int .i64 er]) ∧ Res C w'' ∧ Below w'.heap.size w' w'') :
    Calls Try.prog 5 #[.agg #[.slice ca nc cc, .slice da nd cd, .int .i64 M], .int .i64 fuel] w fun e w' => ∃ C : Array Value, C.size = 24 ∧ e = .returned (.tuple #[.agg (C.extract 17 21), .int .i64 er]) ∧ Res C w' ∧ Below w.heap.size w w' := by
  have HP := hide hp
  have HRs := hide hRes
  clear hp hRes
  go_enter Try.func5, Try.ntmps5
  go_wp2_with fail
  go_at_call 14
  refine (HP.out _ (((Below.refl _ _).alloc (Nat.le_refl _) _).alloc (by simp) _) (by simp)).mono ?_
  rintro e w1 ⟨C, hC, h1, rfl, hR, hb1⟩
  have hq : w1.heap[w.heap.size + 1]? = some (.cells zz27 27 (0, 0)) := (hb1.block (w.heap.size + 1) (by simp)).trans (al_new _ _ _ (by simp))
  have hB : Below w.heap.size w w1 := (((Below.refl _ _).alloc (Nat.le_refl _) _).alloc (by simp) _).trans (hb1.mono (by simp; omega))
  have hz1 : w.heap.size + 1 < w1.heap.size := by have := hb1.size; simp at this; omega
  have hth : (w1.alloc (.cells z24 50)).there w1.heap.size 0 C.size := there_block (al_new w1 (.cells z24 50) w1.heap.size rfl) _ (by rw [hC]; rfl)
  have HT1 := hide hth
  have hi1 : (Try.prog.info? 50).map (·.size) = some C.size := by rw [hC]; exact info50
  have hrg : ((w1.alloc (.cells z24 50)).setCells w1.heap.size 0 C.toList).rangeAt w1.heap.size 17 (C.extract 17 21).toList := fun j v hv => by
    have hh := World.rangeAt_setCells_same (w1.alloc (.cells z24 50)) w1.heap.size 0 C.toList (by simpa using hth)
    have hj : j < 4 := by
      have := (List.getElem?_eq_some_iff.1 hv).1
      simp [hC] at this
      exact this
    have h2 := hh (17 + j) v (ext_at C 17 4 j v hv)
    simpa using h2
  have hq2 : ((w1.alloc (.cells z24 50)).setCells w1.heap.size 0 C.toList).heap[w.heap.size + 1]? = some (.cells zz27 27 (0, 0)) := (setCells_other w1.heap.size (w.heap.size + 1) (by omega) _ _ _).trans ((al_old _ _ _ hz1).trans hq)
  have hone : ∀ v ∈ (C.extract 17 21).toList, v.oneCell' = true := by
    rw [Array.all_eq_true_iff_forall_mem] at h1
    intro v hv
    refine h1 v ?_
    obtain ⟨i, hi, rfl⟩ := Array.mem_iff_getElem.1 (Array.mem_toList_iff.1 hv)
    rw [Array.getElem_extract]
    exact Array.getElem_mem _
  have hpl : (C.extract 17 21).toList.length = 4 := by simp [hC]
  have hpe : (C.extract 17 21).toList.toArray = C.extract 17 21 := Array.toArray_toList
  generalize (C.extract 17 21).toList = P at *
  have HRg := hide hrg
  have HT2 : Hid (((w1.alloc (.cells z24 50)).setCells w1.heap.size 0 C.toList).there (w.heap.size + 1) 0 P.toArray.size) := there_block hq2 _ (by simp [hpl])
  have hi2 : (Try.prog.info? 27).map (·.size) = some P.toArray.size := by rw [List.size_toArray, hpl]; exact info27
  have hi3 : (Try.prog.info? 27).map (·.size) = some P.length := by rw [hpl]; exact info27
  have HH := hide (And.intro h1 (And.intro (all_oneCell_toArray hone) (And.intro hi1 (And.intro hi2 hi3))))
  have HRes := hide hR
  have HPE := hide hpe
  have HPL := hide hpl
  clear hb1 HP hq hq2 hrg hth h1 hone hi1 hi2 hi3 hR hpe hpl
  go_wp2_with (first | (refine wpList_store_mid rfl 50 (.tmp 6) (.tmp 12) rfl w1.heap.size 0 C rfl rfl ?_ HH.out.2.2.1 HH.out.1 ?_; exact HT1.out) | (refine wpList_load_mid rfl 27 (.tmp 14) rfl w1.heap.size 17 rfl P _ ?_ Try.underlying27 rfl HH.out.2.2.2.2 ?_; exact HRg.out) | (refine wpList_store_mid rfl 27 (.tmp 4) (.tmp 15) rfl (w.heap.size + 1) 0 P.toArray rfl rfl ?_ HH.out.2.2.2.1 HH.out.2.1 ?_; exact HT2.out))
  have hR6 := World.rangeAt_setCells_same ((w1.alloc (.cells z24 50)).setCells w1.heap.size 0 C.toList) (w.heap.size + 1) 0 P (by have := HT2.out; rw [List.size_toArray] at this; exact this)
  have hrun := run_loadVar_mid (P := Try.prog) (((w1.alloc (.cells z24 50)).setCells w1.heap.size 0 C.toList).setCells (w.heap.size + 1) 0 P) (w.heap.size + 1) 0 27 P _ hR6 Try.underlying27 rfl HH.out.2.2.2.2
  refine bodyPost_ret (v := .tuple #[.agg P.toArray, .int .i64 er]) (results_cell_tmp Try.results5 _ rfl _ hrun) rfl ⟨C, hC, by rw [HPE.out], ?_, ?_⟩
  · refine HRs.out _ _ _ (fun k h1 h2 => ?_) HRes.out
    exact (setCells_other (w.heap.size + 1) k (by omega) _ _ _).trans ((setCells_other w1.heap.size k (by omega) _ _ _).trans (al_old _ _ _ h2))
  · exact setCells_below (w.heap.size + 1) (by omega) _ 0 _ (setCells_below w1.heap.size hB.size _ 0 _ (hB.alloc hB.size _))

set_option maxRecDepth 100000 in
set_option maxHeartbeats 1000000 in
theorem shown_gen (ca da : Option Addr) (nc cc nd cd : Nat) (M fuel er : Int) {Res : Array Value → World → Prop} (w : World) (hRes : ∀ C w0 w1, Above (w.heap.size + 2) w0 w1 → Res C w0 → Res C w1)
    (hp : ∀ w', Below w.heap.size w w' → w'.heap.size = w.heap.size + 2 → Calls Try.prog 14 #[.agg #[.slice ca nc cc, .slice da nd cd, .int .i64 M], .int .i64 fuel] w' fun e w'' => ∃ C : Array Value, C.size = 24 ∧ C.all (·.oneCell') = true ∧ e = .returned (.tuple #[.agg C, .int .i64 er]) ∧ Res C w'' ∧ Below w'.heap.size w' w'') :
    Calls Try.prog 6 #[.agg #[.slice ca nc cc, .slice da nd cd, .int .i64 M], .int .i64 fuel] w fun e w' => ∃ C : Array Value, C.size = 24 ∧ e = .returned (.tuple #[.agg (C.extract 0 17), .int .i64 er]) ∧ Res C w' ∧ Below w.heap.size w w' := by
  have HP := hide hp
  have HRs := hide hRes
  clear hp hRes
  go_enter Try.func6, Try.ntmps6
  go_wp2_with fail
  go_at_call 14
  refine (HP.out _ (((Below.refl _ _).alloc (Nat.le_refl _) _).alloc (by simp) _) (by simp)).mono ?_
  rintro e w1 ⟨C, hC, h1, rfl, hR, hb1⟩
  have hq : w1.heap[w.heap.size + 1]? = some (.cells zz33 33 (0, 0)) := (hb1.block (w.heap.size + 1) (by simp)).trans (al_new _ _ _ (by simp))
  have hB : Below w.heap.size w w1 := (((Below.refl _ _).alloc (Nat.le_refl _) _).alloc (by simp) _).trans (hb1.mono (by simp; omega))
  have hz1 : w.heap.size + 1 < w1.heap.size := by have := hb1.size; simp at this; omega
  have hth : (w1.alloc (.cells z24 50)).there w1.heap.size 0 C.size := there_block (al_new w1 (.cells z24 50) w1.heap.size rfl) _ (by rw [hC]; rfl)
  have HT1 := hide hth
  have hi1 : (Try.prog.info? 50).map (·.size) = some C.size := by rw [hC]; exact info50
  have hrg : ((w1.alloc (.cells z24 50)).setCells w1.heap.size 0 C.toList).rangeAt w1.heap.size 0 (C.extract 0 17).toList := fun j v hv => by
    have hh := World.rangeAt_setCells_same (w1.alloc (.cells z24 50)) w1.heap.size 0 C.toList (by simpa using hth)
    have hj : j < 17 := by
      have := (List.getElem?_eq_some_iff.1 hv).1
      simp [hC] at this
      exact this
    have h2 := hh (0 + j) v (ext_at C 0 17 j v hv)
    simpa using h2
  have hq2 : ((w1.alloc (.cells z24 50)).setCells w1.heap.size 0 C.toList).heap[w.heap.size + 1]? = some (.cells zz33 33 (0, 0)) := (setCells_other w1.heap.size (w.heap.size + 1) (by omega) _ _ _).trans ((al_old _ _ _ hz1).trans hq)
  have hone : ∀ v ∈ (C.extract 0 17).toList, v.oneCell' = true := by
    rw [Array.all_eq_true_iff_forall_mem] at h1
    intro v hv
    refine h1 v ?_
    obtain ⟨i, hi, rfl⟩ := Array.mem_iff_getElem.1 (Array.mem_toList_iff.1 hv)
    rw [Array.getElem_extract]
    exact Array.getElem_mem _
  have hpl : (C.extract 0 17).toList.length = 17 := by simp [hC]
  have hpe : (C.extract 0 17).toList.toArray = C.extract 0 17 := Array.toArray_toList
  generalize (C.extract 0 17).toList = P at *
  have HRg := hide hrg
  have HT2 : Hid (((w1.alloc (.cells z24 50)).setCells w1.heap.size 0 C.toList).there (w.heap.size + 1) 0 P.toArray.size) := there_block hq2 _ (by simp [hpl])
  have hi2 : (Try.prog.info? 33).map (·.size) = some P.toArray.size := by rw [List.size_toArray, hpl]; exact info33
  have hi3 : (Try.prog.info? 33).map (·.size) = some P.length := by rw [hpl]; exact info33
  have HH := hide (And.intro h1 (And.intro (all_oneCell_toArray hone) (And.intro hi1 (And.intro hi2 hi3))))
  have HRes := hide hR
  have HPE := hide hpe
  have HPL := hide hpl
  clear hb1 HP hq hq2 hrg hth h1 hone hi1 hi2 hi3 hR hpe hpl
  go_wp2_with (first | (refine wpList_store_mid rfl 50 (.tmp 6) (.tmp 12) rfl w1.heap.size 0 C rfl rfl ?_ HH.out.2.2.1 HH.out.1 ?_; exact HT1.out) | (refine wpList_load_mid rfl 33 (.tmp 14) rfl w1.heap.size 0 rfl P _ ?_ Try.underlying33 rfl HH.out.2.2.2.2 ?_; exact HRg.out) | (refine wpList_store_mid rfl 33 (.tmp 4) (.tmp 15) rfl (w.heap.size + 1) 0 P.toArray rfl rfl ?_ HH.out.2.2.2.1 HH.out.2.1 ?_; exact HT2.out))
  have hR6 := World.rangeAt_setCells_same ((w1.alloc (.cells z24 50)).setCells w1.heap.size 0 C.toList) (w.heap.size + 1) 0 P (by have := HT2.out; rw [List.size_toArray] at this; exact this)
  have hrun := run_loadVar_mid (P := Try.prog) (((w1.alloc (.cells z24 50)).setCells w1.heap.size 0 C.toList).setCells (w.heap.size + 1) 0 P) (w.heap.size + 1) 0 33 P _ hR6 Try.underlying33 rfl HH.out.2.2.2.2
  refine bodyPost_ret (v := .tuple #[.agg P.toArray, .int .i64 er]) (results_cell_tmp Try.results6 _ rfl _ hrun) rfl ⟨C, hC, by rw [HPE.out], ?_, ?_⟩
  · refine HRs.out _ _ _ (fun k h1 h2 => ?_) HRes.out
    exact (setCells_other (w.heap.size + 1) k (by omega) _ _ _).trans ((setCells_other w1.heap.size k (by omega) _ _ _).trans (al_old _ _ _ h2))
  · exact setCells_below (w.heap.size + 1) (by omega) _ 0 _ (setCells_below w1.heap.size hB.size _ 0 _ (hB.alloc hB.size _))
end Go.Proofs.Ytofhiooodgopeaa.V

namespace Go.Proofs.Ytofhiooodgopeaa.V
open Go.RowKit Go.Proofs.Ytofhiooodgopeaa.M
set_option linter.unusedVariables false
set_option linter.unusedSimpArgs false

theorem ext_z27 : z24.extract 17 21 = zz27 := rfl
theorem ext_z33 : z24.extract 0 17 = zz33 := rfl
theorem ext_f27 (s : Sm) (en : Int) (ov : Value) (mb kb : Nat) (c : Cf) : (fcells s en ov mb kb c).extract 17 21 = #[.int .i64 en, .int .i32 s.val, ov, .int .i64 s.steps] := rfl
abbrev rcells (R : Nat → Int) (pc : Int) : Array Value := #[.int .i32 (R 0), .int .i32 (R 1), .int .i32 (R 2), .int .i32 (R 3), .int .i32 (R 4), .int .i32 (R 5), .int .i32 (R 6), .int .i32 (R 7), .int .i32 (R 8), .int .i32 (R 9), .int .i32 (R 10), .int .i32 (R 11), .int .i32 (R 12), .int .i32 (R 13), .int .i32 (R 14), .int .i32 (R 15), .int .i64 pc]
theorem ext_f33 (s : Sm) (en : Int) (ov : Value) (mb kb : Nat) (c : Cf) : (fcells s en ov mb kb c).extract 0 17 = rcells s.R s.pc := by kernel_rfl
theorem own_above {B : Nat} {w0 w1 : World} {e : TypeId} {z : Nat} {v : Value} {n : Nat} {xs : List Value} (h : w0.ownsRow B e z v n xs) (ha : Above B w0 w1) : w1.ownsRow B e z v n xs := by
  refine ⟨h.1, ?_⟩
  rcases h.2 with h2 | ⟨g, cap, cur, hv, hg, hh, r⟩
  · exact Or.inl h2
  · have hlt : g < w0.heap.size := by
      rcases Nat.lt_or_ge g w0.heap.size with hlt | hge
      · exact hlt
      · rw [Array.getElem?_eq_none hge] at hh; cases hh
    exact Or.inr ⟨g, cap, cur, hv, hg, (ha g hg hlt).trans hh, r⟩

/-- An image's words lie in the world. -/
structure Img (w : World) (ca da : Option Addr) (nc nd : Nat) (code data : Nat → Int) : Prop where
  cs : 0 < nc → ∃ cb co, ca = some ⟨cb, co, none⟩ ∧ cb < w.heap.size ∧ ∀ k, k < nc → w.cell? ⟨cb, co + k, none⟩ = some (.int .u32 (code k))
  ds : 0 < nd → ∃ db do', da = some ⟨db, do', none⟩ ∧ db < w.heap.size ∧ ∀ k, k < nd → w.cell? ⟨db, do' + k, none⟩ = some (.int .i32 (data k))
  c32 : ∀ k, k < nc → 0 ≤ code k ∧ code k ≤ 4294967295
  d32 : ∀ k, k < nd → Fit (data k)
  nc : nc ≤ 140737488355328
  nd : nd ≤ 140737488355328
theorem Img.below {w w' : World} {ca da : Option Addr} {nc nd : Nat} {code data : Nat → Int} (h : Img w ca da nc nd code data) (hb : Below w.heap.size w w') : Img w' ca da nc nd code data := by
  refine ⟨fun hp => ?_, fun hp => ?_, h.c32, h.d32, h.nc, h.nd⟩
  · obtain ⟨cb, co, e1, e2, e3⟩ := h.cs hp
    exact ⟨cb, co, e1, Nat.lt_of_lt_of_le e2 hb.size, fun k hk => (hb.cell (p := ⟨cb, co + k, none⟩) e2).trans (e3 k hk)⟩
  · obtain ⟨cb, co, e1, e2, e3⟩ := h.ds hp
    exact ⟨cb, co, e1, Nat.lt_of_lt_of_le e2 hb.size, fun k hk => (hb.cell (p := ⟨cb, co + k, none⟩) e2).trans (e3 k hk)⟩

variable {w : World} {ca da : Option Addr} {nc cc nd cd : Nat} {code data : Nat → Int}
/-- What played leaves, in the three cases. -/
theorem played_gen_may (h : Img w ca da nc nd code data) (M fuel : Int) (M0 : -9223372036854775808 ≤ M) (M1 : M ≤ 9223372036854775807) (hm : mayB nc nd M = false) : ∀ w', Below w.heap.size w w' → w'.heap.size = w.heap.size + 2 →
    Calls Try.prog 14 #[.agg #[.slice ca nc cc, .slice da nd cd, .int .i64 M], .int .i64 fuel] w' fun e w'' => ∃ C : Array Value, C.size = 24 ∧ C.all (·.oneCell') = true ∧ e = .returned (.tuple #[.agg C, .int .i64 1]) ∧ C = z24 ∧ Below w'.heap.size w' w'' :=
  fun w' _ _ => (played_may ca da nc cc nd cd M fuel w' h.nc h.nd M0 M1 hm).mono fun e w'' ⟨he, hb⟩ => ⟨z24, rfl, one_z, he, rfl, hb⟩
theorem played_gen_fuel (h : Img w ca da nc nd code data) (M fuel : Int) (M0 : -9223372036854775808 ≤ M) (M1 : M ≤ 9223372036854775807) (hm : mayB nc nd M = true) (hf : fuel < 0 ∨ (¬ fuel < 0 ∧ 300000 < fuel)) : ∀ w', Below w.heap.size w w' → w'.heap.size = w.heap.size + 2 →
    Calls Try.prog 14 #[.agg #[.slice ca nc cc, .slice da nd cd, .int .i64 M], .int .i64 fuel] w' fun e w'' => ∃ C : Array Value, C.size = 24 ∧ C.all (·.oneCell') = true ∧ e = .returned (.tuple #[.agg C, .int .i64 6]) ∧ C = z24 ∧ Below w'.heap.size w' w'' :=
  fun w' _ _ => (played_fuel ca da nc cc nd cd M fuel w' h.nc h.nd M0 M1 hm hf).mono fun e w'' ⟨he, hb⟩ => ⟨z24, rfl, one_z, he, rfl, hb⟩
/-- The machine that an image is, when it ran. -/
abbrev fin (nc nd M fuel : Nat) (code data : Nat → Int) : Sm := run (cf nc nd M code) fuel (sm0 nc nd M code data)
def Res (B : Nat) (nc nd M fuel : Nat) (code data : Nat → Int) (C : Array Value) (w0 : World) : Prop :=
  ∃ ov mb kb, C = fcells (fin nc nd M fuel code data) (fin nc nd M fuel code data).fin ov mb kb (cf nc nd M code) ∧ w0.ownsRow B 21 1 ov (fin nc nd M fuel code data).out.length ((fin nc nd M fuel code data).out.map (Value.int .i32))
theorem played_gen_ok (h : Img w ca da nc nd code data) (M fuel : Nat) (hm : mayB nc nd M = true) (hf : fuel ≤ 300000) : ∀ w', Below w.heap.size w w' → w'.heap.size = w.heap.size + 2 →
    Calls Try.prog 14 #[.agg #[.slice ca nc cc, .slice da nd cd, .int .i64 M], .int .i64 fuel] w' fun e w'' => ∃ C : Array Value, C.size = 24 ∧ C.all (·.oneCell') = true ∧ e = .returned (.tuple #[.agg C, .int .i64 0]) ∧ Res (w.heap.size + 2) nc nd M fuel code data C w'' ∧ Below w'.heap.size w' w'' := by
  intro w' hb hs
  have hmm : 1 ≤ nc ∧ nc ≤ 6000 ∧ (32 : Int) ≤ M ∧ (M : Int) ≤ 16000 ∧ (nc : Int) + nd ≤ M - 16 := by simpa [mayB] using hm
  obtain ⟨cb, co, rfl, e2, e3⟩ := (h.below hb).cs (by omega)
  refine (played_ok cb co nc cc nd cd M fuel da code data w' hm hf e2 e3 h.c32 h.d32 (h.below hb).ds).mono ?_
  rintro e w'' ⟨ov, mb, kb, he, ho, hb'⟩
  refine ⟨_, rfl, one_f _ _ _ _ _ _ (own_one ho), he, ⟨ov, mb, kb, rfl, ?_⟩, hb'⟩
  rw [← hs]
  exact ho

theorem run_may (h : Img w ca da nc nd code data) (M fuel : Int) (M0 : -9223372036854775808 ≤ M) (M1 : M ≤ 9223372036854775807) (hm : mayB nc nd M = false) :
    Calls Try.prog 5 #[.agg #[.slice ca nc cc, .slice da nd cd, .int .i64 M], .int .i64 fuel] w fun e w' => e = .returned (.tuple #[.agg zz27, .int .i64 1]) ∧ Below w.heap.size w w' :=
  (run_gen ca da nc cc nd cd M fuel 1 (Res := fun C _ => C = z24) w (fun _ _ _ _ h => h) (played_gen_may h M fuel M0 M1 hm)).mono fun e w' ⟨C, _, he, hC, hb⟩ => ⟨by rw [he, hC, ext_z27], hb⟩
theorem run_fuel (h : Img w ca da nc nd code data) (M fuel : Int) (M0 : -9223372036854775808 ≤ M) (M1 : M ≤ 9223372036854775807) (hm : mayB nc nd M = true) (hf : fuel < 0 ∨ (¬ fuel < 0 ∧ 300000 < fuel)) :
    Calls Try.prog 5 #[.agg #[.slice ca nc cc, .slice da nd cd, .int .i64 M], .int .i64 fuel] w fun e w' => e = .returned (.tuple #[.agg zz27, .int .i64 6]) ∧ Below w.heap.size w w' :=
  (run_gen ca da nc cc nd cd M fuel 6 (Res := fun C _ => C = z24) w (fun _ _ _ _ h => h) (played_gen_fuel h M fuel M0 M1 hm hf)).mono fun e w' ⟨C, _, he, hC, hb⟩ => ⟨by rw [he, hC, ext_z27], hb⟩
theorem run_ok' (h : Img w ca da nc nd code data) (M fuel : Nat) (hm : mayB nc nd M = true) (hf : fuel ≤ 300000) :
    Calls Try.prog 5 #[.agg #[.slice ca nc cc, .slice da nd cd, .int .i64 M], .int .i64 fuel] w fun e w' => ∃ ov, e = .returned (.tuple #[.agg #[.int .i64 (fin nc nd M fuel code data).fin, .int .i32 (fin nc nd M fuel code data).val, ov, .int .i64 (fin nc nd M fuel code data).steps], .int .i64 0])
      ∧ w'.ownsRow w.heap.size 21 1 ov (fin nc nd M fuel code data).out.length ((fin nc nd M fuel code data).out.map (Value.int .i32)) ∧ Below w.heap.size w w' :=
  (run_gen ca da nc cc nd cd M fuel 0 (Res := Res (w.heap.size + 2) nc nd M fuel code data) w (fun _ _ _ ha ⟨ov, mb, kb, h1, h2⟩ => ⟨ov, mb, kb, h1, own_above h2 ha⟩) (played_gen_ok h M fuel hm hf)).mono fun e w' ⟨C, _, he, ⟨ov, mb, kb, hC, ho⟩, hb⟩ =>
    ⟨ov, by rw [he, hC, ext_f27], ownsRow_base ho (by omega), hb⟩
theorem shown_may (h : Img w ca da nc nd code data) (M fuel : Int) (M0 : -9223372036854775808 ≤ M) (M1 : M ≤ 9223372036854775807) (hm : mayB nc nd M = false) :
    Calls Try.prog 6 #[.agg #[.slice ca nc cc, .slice da nd cd, .int .i64 M], .int .i64 fuel] w fun e w' => e = .returned (.tuple #[.agg zz33, .int .i64 1]) ∧ Below w.heap.size w w' :=
  (shown_gen ca da nc cc nd cd M fuel 1 (Res := fun C _ => C = z24) w (fun _ _ _ _ h => h) (played_gen_may h M fuel M0 M1 hm)).mono fun e w' ⟨C, _, he, hC, hb⟩ => ⟨by rw [he, hC, ext_z33], hb⟩
theorem shown_fuel (h : Img w ca da nc nd code data) (M fuel : Int) (M0 : -9223372036854775808 ≤ M) (M1 : M ≤ 9223372036854775807) (hm : mayB nc nd M = true) (hf : fuel < 0 ∨ (¬ fuel < 0 ∧ 300000 < fuel)) :
    Calls Try.prog 6 #[.agg #[.slice ca nc cc, .slice da nd cd, .int .i64 M], .int .i64 fuel] w fun e w' => e = .returned (.tuple #[.agg zz33, .int .i64 6]) ∧ Below w.heap.size w w' :=
  (shown_gen ca da nc cc nd cd M fuel 6 (Res := fun C _ => C = z24) w (fun _ _ _ _ h => h) (played_gen_fuel h M fuel M0 M1 hm hf)).mono fun e w' ⟨C, _, he, hC, hb⟩ => ⟨by rw [he, hC, ext_z33], hb⟩
theorem shown_ok (h : Img w ca da nc nd code data) (M fuel : Nat) (hm : mayB nc nd M = true) (hf : fuel ≤ 300000) :
    Calls Try.prog 6 #[.agg #[.slice ca nc cc, .slice da nd cd, .int .i64 M], .int .i64 fuel] w fun e w' => e = .returned (.tuple #[.agg (rcells (fin nc nd M fuel code data).R (fin nc nd M fuel code data).pc), .int .i64 0]) ∧ Below w.heap.size w w' :=
  (shown_gen ca da nc cc nd cd M fuel 0 (Res := Res (w.heap.size + 2) nc nd M fuel code data) w (fun _ _ _ ha ⟨ov, mb, kb, h1, h2⟩ => ⟨ov, mb, kb, h1, own_above h2 ha⟩) (played_gen_ok h M fuel hm hf)).mono fun e w' ⟨C, _, he, ⟨ov, mb, kb, hC, ho⟩, hb⟩ =>
    ⟨by rw [he, hC, ext_f33], hb⟩
end Go.Proofs.Ytofhiooodgopeaa.V
