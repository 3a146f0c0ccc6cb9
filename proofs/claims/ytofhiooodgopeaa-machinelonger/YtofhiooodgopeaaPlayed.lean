/- The contract of machine.played. -/
import Derived.Test.YtofhiooodgopeaaBegun
namespace Go.Proofs.Ytofhiooodgopeaa.V
open Go.RowKit Go.Proofs.Ytofhiooodgopeaa.M
set_option linter.unusedVariables false
set_option linter.unusedSimpArgs false

/-- A machine's cells that are all zero. -/
abbrev z24 : Array Value := #[.int .i32 0, .int .i32 0, .int .i32 0, .int .i32 0, .int .i32 0, .int .i32 0, .int .i32 0, .int .i32 0, .int .i32 0, .int .i32 0, .int .i32 0, .int .i32 0, .int .i32 0, .int .i32 0, .int .i32 0, .int .i32 0, .int .i64 0, .int .i64 0, .int .i32 0, .slice none 0 0, .int .i64 0, .slice none 0 0, .slice none 0 0, .int .i64 0]
theorem one_z : z24.all (·.oneCell') = true := by simp [z24, Value.oneCell']
/-- A machine's cells. -/
abbrev fcells (s : Sm) (en : Int) (ov : Value) (mb kb : Nat) (c : Cf) : Array Value := #[.int .i32 (s.R 0), .int .i32 (s.R 1), .int .i32 (s.R 2), .int .i32 (s.R 3), .int .i32 (s.R 4), .int .i32 (s.R 5), .int .i32 (s.R 6), .int .i32 (s.R 7), .int .i32 (s.R 8), .int .i32 (s.R 9), .int .i32 (s.R 10), .int .i32 (s.R 11), .int .i32 (s.R 12), .int .i32 (s.R 13), .int .i32 (s.R 14), .int .i32 (s.R 15),
  .int .i64 s.pc, .int .i64 en, .int .i32 s.val, ov, .int .i64 s.steps, .slice (some ⟨mb, 0, none⟩) c.M c.M, .slice (some ⟨kb, 0, none⟩) c.n c.n, .int .i64 c.low]
theorem one_f (s : Sm) (en : Int) (ov : Value) (mb kb : Nat) (c : Cf) (ho : ov.oneCell' = true) : (fcells s en ov mb kb c).all (·.oneCell') = true := by simpa [fcells, Value.oneCell'] using ho
theorem Lo.range {w : World} {b mb kb ob : Nat} {c : Cf} {s : Sm} {en : Int} (h : Lo w b mb kb ob c s en) (ov : Value) (ho : w.cell? ⟨b, 19, none⟩ = some ov) : w.rangeAt b 0 (fcells s en ov mb kb c).toList := by
  intro j v hv
  rw [Nat.zero_add]
  have hj : j < 24 := by
    have := (List.getElem?_eq_some_iff.1 hv).1
    simpa using this
  have hr := h.reg
  have : j = 0 ∨ j = 1 ∨ j = 2 ∨ j = 3 ∨ j = 4 ∨ j = 5 ∨ j = 6 ∨ j = 7 ∨ j = 8 ∨ j = 9 ∨ j = 10 ∨ j = 11 ∨ j = 12 ∨ j = 13 ∨ j = 14 ∨ j = 15 ∨ j = 16 ∨ j = 17 ∨ j = 18 ∨ j = 19 ∨ j = 20 ∨ j = 21 ∨ j = 22 ∨ j = 23 := by omega
  rcases this with rfl | rfl | rfl | rfl | rfl | rfl | rfl | rfl | rfl | rfl | rfl | rfl | rfl | rfl | rfl | rfl | rfl | rfl | rfl | rfl | rfl | rfl | rfl | rfl
  · exact (hr 0 (by omega)).trans hv
  · exact (hr 1 (by omega)).trans hv
  · exact (hr 2 (by omega)).trans hv
  · exact (hr 3 (by omega)).trans hv
  · exact (hr 4 (by omega)).trans hv
  · exact (hr 5 (by omega)).trans hv
  · exact (hr 6 (by omega)).trans hv
  · exact (hr 7 (by omega)).trans hv
  · exact (hr 8 (by omega)).trans hv
  · exact (hr 9 (by omega)).trans hv
  · exact (hr 10 (by omega)).trans hv
  · exact (hr 11 (by omega)).trans hv
  · exact (hr 12 (by omega)).trans hv
  · exact (hr 13 (by omega)).trans hv
  · exact (hr 14 (by omega)).trans hv
  · exact (hr 15 (by omega)).trans hv
  · exact h.c16.trans hv
  · exact h.c17.trans hv
  · exact h.c18.trans hv
  · exact ho.trans hv
  · exact h.c20.trans hv
  · exact h.c21.trans hv
  · exact h.c22.trans hv
  · exact h.c23.trans hv
set_option maxRecDepth 100000 in
theorem fill_p (mb kb M n : Nat) (l : Int) : fill z24 0 (pcells mb kb M n l).toList = pcells mb kb M n l := by simp [fill, pcells]
/-- The machine of an image ahead of the first step. -/
def cf (nc nd M : Nat) (code : Nat → Int) : Cf := ⟨nc, M, (nc : Int) + nd, code⟩
def sm0 (nc nd M : Nat) (code data : Nat → Int) : Sm := ⟨fun k => if k = 13 then (M : Int) else 0, mem0 nc nd code data, 0, [], 0, 0, 0⟩
theorem ok0 (nc nd M : Nat) (code data : Nat → Int) (h2 : nc ≤ 6000) (h3 : M ≤ 16000) (h4 : nc + nd + 16 ≤ M) (hc32 : ∀ k, k < nc → 0 ≤ code k ∧ code k ≤ 4294967295) (hd32 : ∀ k, k < nd → Fit (data k)) : Ok (cf nc nd M code) (sm0 nc nd M code data) where
  reg := fun k => by unfold sm0 Fit; show _ ≤ (if _ then _ else _) ∧ (if _ then _ else _) ≤ _; split <;> omega
  mem := fun k => by
    show Fit (mem0 nc nd code data k)
    unfold mem0
    split
    · exact fit_wrap _
    · split
      · exact hd32 _ (by omega)
      · unfold Fit; omega
  pc := by show Fit 0; unfold Fit; omega
  code := fun k hk => by
    have := hc32 k hk
    refine ⟨this.1, this.2, ?_⟩
    show mem0 nc nd code data k = _
    unfold mem0
    rw [if_pos (show k < nc from hk)]
    rfl
  n0 := by show nc ≤ M; omega
  nM := h3
  low := by show 0 ≤ (nc : Int) + nd ∧ (nc : Int) + nd ≤ M; omega
theorem lo0 {w : World} {b mb kb ob nc nd M : Nat} {code data : Nat → Int} (lb : b < ob) (lmb : mb < ob) (lkb : kb < ob) (lo : ob ≤ w.heap.size) (n1 : b ≠ mb) (n2 : b ≠ kb) (n3 : mb ≠ kb) (hb : w.heap[b]? = some (.cells (pcells mb kb M nc (↑nc + ↑nd)) 50 (0, 0)))
    (hm : ∀ k, k < M → w.cell? ⟨mb, k, none⟩ = some (.int .i32 (mem0 nc nd code data k))) (hk : ∀ k, k < nc * 5 → w.cell? ⟨kb, k, none⟩ = some (.int .i64 0)) (hf : ∀ o, w.frozen? ⟨mb, o, none⟩ = false ∧ w.frozen? ⟨kb, o, none⟩ = false) :
    Lo w b mb kb ob (cf nc nd M code) (sm0 nc nd M code data) 0 := by
  have hc := cell_of hb
  refine ⟨lb, lmb, lkb, lo, n1, n2, n3, fun k hk => ?_, hc 16, hc 17, hc 18, ⟨_, hc 19, rfl, Or.inl ⟨rfl, rfl⟩⟩, hc 20, hc 21, hc 22, hc 23, hm, fun k hk' => Or.inl fun j hj => hk _ ?_, fun o => ⟨frozen_of hb o, hf o⟩⟩
  · rw [hc k]
    show _ = some (Value.int .i32 (if k = 13 then (M : Int) else 0))
    have : k = 0 ∨ k = 1 ∨ k = 2 ∨ k = 3 ∨ k = 4 ∨ k = 5 ∨ k = 6 ∨ k = 7 ∨ k = 8 ∨ k = 9 ∨ k = 10 ∨ k = 11 ∨ k = 12 ∨ k = 13 ∨ k = 14 ∨ k = 15 := by omega
    rcases this with rfl | rfl | rfl | rfl | rfl | rfl | rfl | rfl | rfl | rfl | rfl | rfl | rfl | rfl | rfl | rfl <;> rfl
  · have : k < nc := hk'
    omega
theorem ownsRow_setCells {ob : Nat} {e : TypeId} {z : Nat} {v : Value} {n : Nat} {xs : List Value} (b : Nat) (hb : b < ob) : ∀ (cs : List Value) (o : Nat) (w : World), w.ownsRow ob e z v n xs → (w.setCells b o cs).ownsRow ob e z v n xs
  | [], _, _, h => h
  | u :: r, o, w, h => ownsRow_setCells b hb r (o + 1) _ (ownsRow_setCell_below h hb u)
theorem ownsRow_base {w : World} {ob ob' : Nat} {e : TypeId} {z : Nat} {v : Value} {n : Nat} {xs : List Value} (h : w.ownsRow ob e z v n xs) (hb : ob' ≤ ob) : w.ownsRow ob' e z v n xs := by
  refine ⟨h.1, ?_⟩
  rcases h.2 with h2 | ⟨g, cap, cur, hv, hg, r⟩
  · exact Or.inl h2
  · exact Or.inr ⟨g, cap, cur, hv, Nat.le_trans hb hg, r⟩
theorem own_one {w : World} {ob : Nat} {e : TypeId} {z : Nat} {v : Value} {n : Nat} {xs : List Value} (h : w.ownsRow ob e z v n xs) : v.oneCell' = true := by
  rcases h.2 with ⟨rfl, _⟩ | ⟨g, cap, cur, rfl, _⟩ <;> rfl

set_option maxRecDepth 100000 in
set_option maxHeartbeats 1000000 in
theorem played_may (ca da : Option Addr) (nc cc nd cd : Nat) (M fuel : Int) (w : World) (hc : nc ≤ 140737488355328) (hd : nd ≤ 140737488355328) (M0 : -9223372036854775808 ≤ M) (M1 : M ≤ 9223372036854775807) (hm : mayB nc nd M = false) :
    Calls Try.prog 14 #[.agg #[.slice ca nc cc, .slice da nd cd, .int .i64 M], .int .i64 fuel] w fun e w' => e = .returned (.tuple #[.agg z24, .int .i64 1]) ∧ Below w.heap.size w w' := by
  have hck : chk nc nd M = 1 := by unfold chk; rw [hm]; rfl
  have hcc := fun w' => check_img ca da nc cc nd cd M w' hc hd M0 M1
  rw [hck] at hcc
  clear hm hck
  go_enter Try.func14, Try.ntmps14
  go_wp2_with fail
  go_at_call 7
  refine (hcc _).mono ?_
  rintro e w1 ⟨rfl, hb1⟩
  have hq : w1.heap[w.heap.size + 1]? = some (.cells z24 50 (0, 0)) := (hb1.block (w.heap.size + 1) (by simp)).trans (al_new _ _ _ (by simp))
  have hB : Below w.heap.size w w1 := (((Below.refl _ _).alloc (Nat.le_refl _) _).alloc (by simp) _).trans (hb1.mono (by simp; omega))
  have HT : Hid (w1.there (w.heap.size + 1) 0 z24.size) := there_block hq _ rfl
  clear hb1 hcc
  go_wp2_with (refine wpList_store_mid rfl 50 (.tmp 4) (.tmp 12) rfl (w.heap.size + 1) 0 z24 rfl rfl HT.out info50 one_z ?_)
  have hR6 := World.rangeAt_setCells_same w1 (w.heap.size + 1) 0 z24.toList HT.out
  have hrun := run_loadVar_mid (P := Try.prog) (w1.setCells (w.heap.size + 1) 0 z24.toList) (w.heap.size + 1) 0 50 z24.toList _ hR6 Try.underlying50 rfl info50
  refine bodyPost_ret (v := .tuple #[.agg z24, .int .i64 1]) (results_cell_tmp Try.results14 _ rfl _ hrun) rfl ⟨rfl, setCells_below (w.heap.size + 1) (by omega) _ 0 _ hB⟩

set_option maxRecDepth 100000 in
set_option maxHeartbeats 1000000 in
theorem played_fuel (ca da : Option Addr) (nc cc nd cd : Nat) (M fuel : Int) (w : World) (hc : nc ≤ 140737488355328) (hd : nd ≤ 140737488355328) (M0 : -9223372036854775808 ≤ M) (M1 : M ≤ 9223372036854775807) (hm : mayB nc nd M = true) (hf : fuel < 0 ∨ (¬ fuel < 0 ∧ 300000 < fuel)) :
    Calls Try.prog 14 #[.agg #[.slice ca nc cc, .slice da nd cd, .int .i64 M], .int .i64 fuel] w fun e w' => e = .returned (.tuple #[.agg z24, .int .i64 6]) ∧ Below w.heap.size w w' := by
  have hck : chk nc nd M = 0 := by unfold chk; rw [hm]; rfl
  have hcc := fun w' => check_img ca da nc cc nd cd M w' hc hd M0 M1
  rw [hck] at hcc
  clear hm hck
  rcases hf with hf | ⟨hf, hf2⟩
  all_goals
    go_enter Try.func14, Try.ntmps14
    go_wp2_with fail
    go_at_call 7
    refine (hcc _).mono ?_
    rintro e w1 ⟨rfl, hb1⟩
    have hq : w1.heap[w.heap.size + 1]? = some (.cells z24 50 (0, 0)) := (hb1.block (w.heap.size + 1) (by simp)).trans (al_new _ _ _ (by simp))
    have hB : Below w.heap.size w w1 := (((Below.refl _ _).alloc (Nat.le_refl _) _).alloc (by simp) _).trans (hb1.mono (by simp; omega))
    have HT : Hid (w1.there (w.heap.size + 1) 0 z24.size) := there_block hq _ rfl
    clear hb1 hcc
    go_wp2_with (refine wpList_store_mid rfl 50 (.tmp 4) (.tmp 20) rfl (w.heap.size + 1) 0 z24 rfl rfl HT.out info50 one_z ?_)
    have hR6 := World.rangeAt_setCells_same w1 (w.heap.size + 1) 0 z24.toList HT.out
    have hrun := run_loadVar_mid (P := Try.prog) (w1.setCells (w.heap.size + 1) 0 z24.toList) (w.heap.size + 1) 0 50 z24.toList _ hR6 Try.underlying50 rfl info50
    refine bodyPost_ret (v := .tuple #[.agg z24, .int .i64 6]) (results_cell_tmp Try.results14 _ rfl _ hrun) rfl ⟨rfl, setCells_below (w.heap.size + 1) (by omega) _ 0 _ hB⟩

end Go.Proofs.Ytofhiooodgopeaa.V
