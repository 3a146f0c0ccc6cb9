/- The contract of (*machine).fetch where an instruction is decoded. -/
import Derived.Test.YtofhiooodgopeaaFetch
namespace Go.Proofs.Ytofhiooodgopeaa.V
open Go.RowKit Go.Proofs.Ytofhiooodgopeaa.M
set_option linter.unusedVariables false
set_option linter.unusedSimpArgs false
variable {w : World} {b mb kb ob : Nat} {c : Cf} {s : Sm} {en : Int}

theorem held_of {W w1 : World} {n : Nat} (hn : W.heap.size = n) (h : Below W.heap.size W w1) : Below W.heap.size W w1 ∧ (∀ bb j, bb < n → (w1).cell? ⟨bb, j, none⟩ = W.cell? ⟨bb, j, none⟩) := ⟨h, fun bb o hlt => h.cell (p := ⟨bb, o, none⟩) (by show bb < _; omega)⟩
theorem held_alloc1 {W w1 : World} {n : Nat} (hn : W.heap.size = n) (hb : Below W.drew.heap.size W.drew w1) (o : Obj) : Below W.heap.size W (w1.alloc o) ∧ (∀ bb j, bb < n → ((w1.alloc o)).cell? ⟨bb, j, none⟩ = W.cell? ⟨bb, j, none⟩) :=
  held_of hn (((Below.refl _ _).drew.trans hb).alloc hb.size o)
theorem held_alloc2 {W : World} {n : Nat} (hn : W.heap.size = n) (o : Obj) : Below W.heap.size W (W.alloc o).drew ∧ (∀ bb j, bb < n → ((W.alloc o).drew).cell? ⟨bb, j, none⟩ = W.cell? ⟨bb, j, none⟩) := held_of hn ((Below.refl _ _).alloc (Nat.le_refl _) o).drew
theorem held_call2 {W w1 : World} {n : Nat} {o : Obj} (hn : W.heap.size = n) (hb : Below (W.alloc o).drew.heap.size (W.alloc o).drew w1) : Below W.heap.size W w1 ∧ (∀ bb j, bb < n → (w1).cell? ⟨bb, j, none⟩ = W.cell? ⟨bb, j, none⟩) :=
  held_of hn (((Below.refl _ _).alloc (Nat.le_refl _) o).drew.trans (hb.mono (by simp)))
theorem held_set2 {W w1 : World} {n : Nat} {o : Obj} {x0 x1 x2 x3 x4 : Value} (hn : W.heap.size = n) (hb : Below (W.alloc o).drew.heap.size (W.alloc o).drew w1) :
    Below W.heap.size W (((((w1.setCell ⟨n, 0, none⟩ x0).setCell ⟨n, 1, none⟩ x1).setCell ⟨n, 2, none⟩ x2).setCell ⟨n, 3, none⟩ x3).setCell ⟨n, 4, none⟩ x4) ∧ (∀ bb j, bb < n → ((((((w1.setCell ⟨n, 0, none⟩ x0).setCell ⟨n, 1, none⟩ x1).setCell ⟨n, 2, none⟩ x2).setCell ⟨n, 3, none⟩ x3).setCell ⟨n, 4, none⟩ x4)).cell? ⟨bb, j, none⟩ = W.cell? ⟨bb, j, none⟩) :=
  held_of hn ((((((((Below.refl _ _).alloc (Nat.le_refl _) o).drew.trans (hb.mono (by simp))).setCell (Nat.le_of_eq hn) _).setCell (Nat.le_of_eq hn) _).setCell (Nat.le_of_eq hn) _).setCell (Nat.le_of_eq hn) _).setCell (Nat.le_of_eq hn) _)

theorem set_both {B : Nat} {w w1 : World} (h : Below B w w1) (p : Addr) (v : Value) : Below B (w.setCell p v) (w1.setCell p v) := by
  refine ⟨h.os, h.tape, h.output, by simp only [set_size]; exact h.size, fun k hk => ?_⟩
  simp only [World.setCell, Array.getElem?_modify, h.block k hk]
/-- The world with an instruction laid in its place. -/
abbrev kn5 (w : World) (kb t : Nat) (op a r k m : Int) : World :=
  ((((w.setCell ⟨kb, t * 5, none⟩ (.int .i64 op)).setCell ⟨kb, t * 5 + 1, none⟩ (.int .i64 a)).setCell ⟨kb, t * 5 + 2, none⟩ (.int .i64 r)).setCell ⟨kb, t * 5 + 3, none⟩ (.int .i64 k)).setCell ⟨kb, t * 5 + 4, none⟩ (.int .i64 m)
theorem kn5_both {B : Nat} {w w1 : World} (h : Below B w w1) (kb t : Nat) (op a r k m : Int) : Below B (kn5 w kb t op a r k m) (kn5 w1 kb t op a r k m) :=
  set_both (set_both (set_both (set_both (set_both h _ _) _ _) _ _) _ _) _ _
theorem new_cells {W w1 : World} {n : Nat} {xs : Array Value} (hn : W.heap.size = n) (hb : Below (W.alloc (.cells xs 57)).drew.heap.size (W.alloc (.cells xs 57)).drew w1) :
    (∀ o, w1.cell? ⟨n, o, none⟩ = xs[o]?) ∧ (∀ o, w1.frozen? ⟨n, o, none⟩ = false) ∧ n < w1.heap.size := by
  subst hn
  have hlt : W.heap.size < (W.alloc (.cells xs 57)).drew.heap.size := by simp
  refine ⟨fun o => (hb.cell (p := ⟨W.heap.size, o, none⟩) hlt).trans (World.cell?_alloc_at _ _ _ _ rfl), fun o => (hb.frozen (p := ⟨W.heap.size, o, none⟩) hlt).trans ?_, Nat.lt_of_lt_of_le hlt hb.size⟩
  simp

set_option maxRecDepth 100000 in
set_option maxHeartbeats 600000 in
theorem fetch_new (h : Lo w b mb kb ob c s en) (hok : Ok c s) (t : Nat) (ht : s.pc = t) (hn : t < c.n) (v : Int) (hv0 : 0 ≤ v) (hv1 : v ≤ 4294967295) (hv : s.mem t = wrap32 v) (hd : dck v = 0) (hz : ∀ j, j < 5 → w.cell? ⟨kb, t * 5 + j, none⟩ = some (.int .i64 0)) :
    Calls Try.prog 27 #[.pointer (some ⟨b, 0, none⟩)] w fun e w' => e = .returned (.agg #[.int .i64 (fOp v), .int .i64 (fA v), .int .i64 (fB v), .int .i64 (fC v), .int .i64 (fM v)])
      ∧ Below w.heap.size (kn5 w kb t (fOp v) (fA v) (fB v) (fC v) (fM v)) w' := by
  have hb : b < w.heap.size := by have := h.lb; have := h.lo; omega
  have hkb : kb < w.heap.size := by have := h.lkb; have := h.lo; omega
  have hmb : mb < w.heap.size := by have := h.lmb; have := h.lo; omega
  have h0 := hz 0 (by omega)
  have h1 := hz 1 (by omega)
  have h2 := hz 2 (by omega)
  have h3 := hz 3 (by omega)
  have h4 := hz 4 (by omega)
  have f0 := (h.fz (t * 5)).2.2
  have f1 := (h.fz (t * 5 + 1)).2.2
  have f2 := (h.fz (t * 5 + 2)).2.2
  have f3 := (h.fz (t * 5 + 3)).2.2
  have f4 := (h.fz (t * 5 + 4)).2.2
  simp only [Nat.add_zero] at h0
  have e16 := h.c16
  have e21 := h.c21
  have e22 := h.c22
  have hem := h.memc t (by have := hok.n0; omega)
  rw [ht] at e16
  have hvm : IntKind.u32.wrap (s.mem t) = v := by rw [hv, IntKind.wrap_u32, AM.w32]; omega
  have ht' : (0 : Int) ≤ t ∧ (t : Int) < c.n := by omega
  have ht2 : (0 : Int) ≤ t ∧ (t : Int) < c.M := by have := hok.n0; omega
  have hd0 : decide ((t : Int) < 0) = false := by simp
  have hd2 : ¬ ((c.n : Int) ≤ t) := by omega
  have f := f_facts hv0 hv1 hd
  have hdec := fun w' => W.decode_ok v w' hv0 hv1 hd
  rw [f.2.2.2.2.2.2.2.1, f.2.2.2.2.2.2.2.2.1, f.2.2.2.2.2.2.2.2.2, show v / 16777216 = fOp v from rfl, show dM (kind (fOp v)) (v % 65536) = fM v from rfl] at hdec
  have HL := hide h
  clear h ht hz f hv
  generalize s.mem t = y at *
  generalize fOp v = op at *
  generalize (fA v : Int) = a at *
  generalize (fB v : Int) = r at *
  generalize (fC v : Int) = k at *
  generalize fM v = m at *
  go_enter Try.func27, Try.ntmps27
  go_wp2
  go_quiet (fail)
  generalize nq = n1
  go_wp2
  go_quiet (fail)
  go_wp2_with fail
  have hBW : Below w.heap.size w ((w.alloc (.cells #[.int .i64 0, .int .i64 0, .int .i64 0, .int .i64 0, .int .i64 0] 57)).drewN (n1 + nq)) := below_drewN ((Below.refl _ _).alloc (Nat.le_refl _) _) _
  have g3 : ∀ o, ((w.alloc (.cells #[.int .i64 0, .int .i64 0, .int .i64 0, .int .i64 0, .int .i64 0] 57)).drewN (n1 + nq)).cell? ⟨w.heap.size, o, none⟩ = (#[Value.int .i64 0, .int .i64 0, .int .i64 0, .int .i64 0, .int .i64 0])[o]? := fun o => World.cell?_alloc_at _ _ _ _ rfl
  have g4 : ∀ o, ((w.alloc (.cells #[.int .i64 0, .int .i64 0, .int .i64 0, .int .i64 0, .int .i64 0] 57)).drewN (n1 + nq)).frozen? ⟨w.heap.size, o, none⟩ = false := fun o => by simp
  have g5 : ((w.alloc (.cells #[.int .i64 0, .int .i64 0, .int .i64 0, .int .i64 0, .int .i64 0] 57)).drewN (n1 + nq)).heap.size = w.heap.size + 1 := by simp
  generalize (w.alloc (.cells #[.int .i64 0, .int .i64 0, .int .i64 0, .int .i64 0, .int .i64 0] 57)).drewN (n1 + nq) = W at *
  clear n1 nq
  have i16 := (hBW.cell (p := ⟨b, 16, none⟩) hb).trans e16
  have i21 := (hBW.cell (p := ⟨b, 21, none⟩) hb).trans e21
  have iem := (hBW.cell (p := ⟨mb, t, none⟩) hmb).trans hem
  have jb : b < w.heap.size + 1 := by omega
  have jmb : mb < w.heap.size + 1 := by omega
  have iw0 := (hBW.cell (p := ⟨kb, t * 5, none⟩) hkb).trans h0
  have iw1 := (hBW.cell (p := ⟨kb, t * 5 + 1, none⟩) hkb).trans h1
  have iw2 := (hBW.cell (p := ⟨kb, t * 5 + 2, none⟩) hkb).trans h2
  have iw3 := (hBW.cell (p := ⟨kb, t * 5 + 3, none⟩) hkb).trans h3
  have iw4 := (hBW.cell (p := ⟨kb, t * 5 + 4, none⟩) hkb).trans h4
  have jkb : kb < w.heap.size + 1 := by omega
  clear e16 e21 hem e22
  go_region_held (fun w' => Below W.heap.size W w' ∧ (∀ bb o, bb < w.heap.size + 1 → w'.cell? ⟨bb, o, none⟩ = W.cell? ⟨bb, o, none⟩)) (first | with_reducible exact held_drew _ _ | with_reducible exact held_next g5 (held_drew _ _) (by assumption) | with_reducible exact held_alloc1 g5 (by assumption) _ | with_reducible exact held_alloc2 g5 _ | with_reducible exact held_call2 g5 (by assumption) | with_reducible exact held_set2 g5 (by assumption)) ((go_at_call 41; refine (hdec _).mono ?_; rintro e w1 ⟨rfl, hb1⟩; obtain ⟨hce, hfr⟩ := bcell hb1; have hzz := hb1.size; simp [g5] at hzz))
  · have hBc : Below w.heap.size w (w1.alloc (.cells #[.int .i64 op, .int .i64 a, .int .i64 r, .int .i64 k, .int .i64 m] 57)) := hBW.trans ((held_alloc1 g5 hb1 _).1.mono (by omega))
    have d : ∀ o, (w1.alloc (.cells #[.int .i64 op, .int .i64 a, .int .i64 r, .int .i64 k, .int .i64 m] 57)).cell? ⟨w1.heap.size, o, none⟩ = (#[Value.int .i64 op, .int .i64 a, .int .i64 r, .int .i64 k, .int .i64 m])[o]? := fun o => World.cell?_alloc_at _ _ _ _ rfl
    have hq : w.heap.size < W.heap.size := by omega
    have y : ∀ o, (w1.alloc (.cells #[.int .i64 op, .int .i64 a, .int .i64 r, .int .i64 k, .int .i64 m] 57)).cell? ⟨w.heap.size, o, none⟩ = (#[Value.int .i64 0, .int .i64 0, .int .i64 0, .int .i64 0, .int .i64 0])[o]? := fun o => ((held_alloc1 g5 hb1 _).1.cell (p := ⟨w.heap.size, o, none⟩) hq).trans (g3 o)
    have z : ∀ o, (w1.alloc (.cells #[.int .i64 op, .int .i64 a, .int .i64 r, .int .i64 k, .int .i64 m] 57)).frozen? ⟨w.heap.size, o, none⟩ = false := fun o => ((held_alloc1 g5 hb1 _).1.frozen (p := ⟨w.heap.size, o, none⟩) hq).trans (g4 o)
    have hne0 : w1.heap.size ≠ w.heap.size := by have := hb1.size; simp at this; omega
    have hne2 : w1.heap.size ≠ kb := by have := hb1.size; simp at this; omega
    clear hce hfr hzz hb1 i16 i21 iem
    generalize w1.alloc (.cells #[.int .i64 op, .int .i64 a, .int .i64 r, .int .i64 k, .int .i64 m] 57) = Wc at *
    generalize w1.heap.size = q at *
    have k0 := (hBc.cell (p := ⟨kb, t * 5, none⟩) hkb).trans h0
    have k1 := (hBc.cell (p := ⟨kb, t * 5 + 1, none⟩) hkb).trans h1
    have k2 := (hBc.cell (p := ⟨kb, t * 5 + 2, none⟩) hkb).trans h2
    have k3 := (hBc.cell (p := ⟨kb, t * 5 + 3, none⟩) hkb).trans h3
    have k4 := (hBc.cell (p := ⟨kb, t * 5 + 4, none⟩) hkb).trans h4
    have x0 := (hBc.frozen (p := ⟨kb, t * 5, none⟩) hkb).trans f0
    have x1 := (hBc.frozen (p := ⟨kb, t * 5 + 1, none⟩) hkb).trans f1
    have x2 := (hBc.frozen (p := ⟨kb, t * 5 + 2, none⟩) hkb).trans f2
    have x3 := (hBc.frozen (p := ⟨kb, t * 5 + 3, none⟩) hkb).trans f3
    have x4 := (hBc.frozen (p := ⟨kb, t * 5 + 4, none⟩) hkb).trans f4
    have hne1 : kb ≠ w.heap.size := by omega
    have HBc := hide hBc
    clear hBc h0 h1 h2 h3 h4 f0 f1 f2 f3 f4 hBW g4
    go_wp2_with fail
    refine bodyPost_ret (v := .agg #[.int .i64 op, .int .i64 a, .int .i64 r, .int .i64 k, .int .i64 m]) (by simp [results, Try.results27, go_sem, y, z, hne1, g3]) rfl ⟨rfl, ?_⟩
    exact (((((kn5_both HBc.out kb t op a r k m).setCell (Nat.le_refl _) _).setCell (Nat.le_refl _) _).setCell (Nat.le_refl _) _).setCell (Nat.le_refl _) _).setCell (Nat.le_refl _) _
  · obtain ⟨nc1, nc2, nc3⟩ := new_cells g5 hb1
    have hBc : Below w.heap.size w (((((w1.setCell ⟨w.heap.size + 1, 0, none⟩ (.int .i64 op)).setCell ⟨w.heap.size + 1, 1, none⟩ (.int .i64 a)).setCell ⟨w.heap.size + 1, 2, none⟩ (.int .i64 r)).setCell ⟨w.heap.size + 1, 3, none⟩ (.int .i64 k)).setCell ⟨w.heap.size + 1, 4, none⟩ (.int .i64 m)) := hBW.trans ((held_set2 g5 hb1).1.mono (by omega))
    have d0 : (((((w1.setCell ⟨w.heap.size + 1, 0, none⟩ (.int .i64 op)).setCell ⟨w.heap.size + 1, 1, none⟩ (.int .i64 a)).setCell ⟨w.heap.size + 1, 2, none⟩ (.int .i64 r)).setCell ⟨w.heap.size + 1, 3, none⟩ (.int .i64 k)).setCell ⟨w.heap.size + 1, 4, none⟩ (.int .i64 m)).cell? ⟨w.heap.size + 1, 0, none⟩ = some (.int .i64 op) := by rw [set_off _ _ _ _ _ (by omega), set_off _ _ _ _ _ (by omega), set_off _ _ _ _ _ (by omega), set_off _ _ _ _ _ (by omega)]; exact set_same _ _ _ (.int .i64 0) (nc1 0)
    have d1 : (((((w1.setCell ⟨w.heap.size + 1, 0, none⟩ (.int .i64 op)).setCell ⟨w.heap.size + 1, 1, none⟩ (.int .i64 a)).setCell ⟨w.heap.size + 1, 2, none⟩ (.int .i64 r)).setCell ⟨w.heap.size + 1, 3, none⟩ (.int .i64 k)).setCell ⟨w.heap.size + 1, 4, none⟩ (.int .i64 m)).cell? ⟨w.heap.size + 1, 1, none⟩ = some (.int .i64 a) := by rw [set_off _ _ _ _ _ (by omega), set_off _ _ _ _ _ (by omega), set_off _ _ _ _ _ (by omega)]; exact set_same _ _ _ (.int .i64 0) (by rw [set_off _ _ _ _ _ (by omega)]; exact nc1 1)
    have d2 : (((((w1.setCell ⟨w.heap.size + 1, 0, none⟩ (.int .i64 op)).setCell ⟨w.heap.size + 1, 1, none⟩ (.int .i64 a)).setCell ⟨w.heap.size + 1, 2, none⟩ (.int .i64 r)).setCell ⟨w.heap.size + 1, 3, none⟩ (.int .i64 k)).setCell ⟨w.heap.size + 1, 4, none⟩ (.int .i64 m)).cell? ⟨w.heap.size + 1, 2, none⟩ = some (.int .i64 r) := by rw [set_off _ _ _ _ _ (by omega), set_off _ _ _ _ _ (by omega)]; exact set_same _ _ _ (.int .i64 0) (by rw [set_off _ _ _ _ _ (by omega), set_off _ _ _ _ _ (by omega)]; exact nc1 2)
    have d3 : (((((w1.setCell ⟨w.heap.size + 1, 0, none⟩ (.int .i64 op)).setCell ⟨w.heap.size + 1, 1, none⟩ (.int .i64 a)).setCell ⟨w.heap.size + 1, 2, none⟩ (.int .i64 r)).setCell ⟨w.heap.size + 1, 3, none⟩ (.int .i64 k)).setCell ⟨w.heap.size + 1, 4, none⟩ (.int .i64 m)).cell? ⟨w.heap.size + 1, 3, none⟩ = some (.int .i64 k) := by rw [set_off _ _ _ _ _ (by omega)]; exact set_same _ _ _ (.int .i64 0) (by rw [set_off _ _ _ _ _ (by omega), set_off _ _ _ _ _ (by omega), set_off _ _ _ _ _ (by omega)]; exact nc1 3)
    have d4 : (((((w1.setCell ⟨w.heap.size + 1, 0, none⟩ (.int .i64 op)).setCell ⟨w.heap.size + 1, 1, none⟩ (.int .i64 a)).setCell ⟨w.heap.size + 1, 2, none⟩ (.int .i64 r)).setCell ⟨w.heap.size + 1, 3, none⟩ (.int .i64 k)).setCell ⟨w.heap.size + 1, 4, none⟩ (.int .i64 m)).cell? ⟨w.heap.size + 1, 4, none⟩ = some (.int .i64 m) := by exact set_same _ _ _ (.int .i64 0) (by rw [set_off _ _ _ _ _ (by omega), set_off _ _ _ _ _ (by omega), set_off _ _ _ _ _ (by omega), set_off _ _ _ _ _ (by omega)]; exact nc1 4)
    have hq : w.heap.size < W.heap.size := by omega
    have y : ∀ o, (((((w1.setCell ⟨w.heap.size + 1, 0, none⟩ (.int .i64 op)).setCell ⟨w.heap.size + 1, 1, none⟩ (.int .i64 a)).setCell ⟨w.heap.size + 1, 2, none⟩ (.int .i64 r)).setCell ⟨w.heap.size + 1, 3, none⟩ (.int .i64 k)).setCell ⟨w.heap.size + 1, 4, none⟩ (.int .i64 m)).cell? ⟨w.heap.size, o, none⟩ = (#[Value.int .i64 0, .int .i64 0, .int .i64 0, .int .i64 0, .int .i64 0])[o]? := fun o => ((held_set2 g5 hb1).1.cell (p := ⟨w.heap.size, o, none⟩) hq).trans (g3 o)
    have z : ∀ o, (((((w1.setCell ⟨w.heap.size + 1, 0, none⟩ (.int .i64 op)).setCell ⟨w.heap.size + 1, 1, none⟩ (.int .i64 a)).setCell ⟨w.heap.size + 1, 2, none⟩ (.int .i64 r)).setCell ⟨w.heap.size + 1, 3, none⟩ (.int .i64 k)).setCell ⟨w.heap.size + 1, 4, none⟩ (.int .i64 m)).frozen? ⟨w.heap.size, o, none⟩ = false := fun o => ((held_set2 g5 hb1).1.frozen (p := ⟨w.heap.size, o, none⟩) hq).trans (g4 o)
    have hne0 : w.heap.size + 1 ≠ w.heap.size := by omega
    have hne2 : w.heap.size + 1 ≠ kb := by omega
    clear hce hfr hzz hb1 i16 i21 iem nc1 nc2 nc3
    generalize (((((w1.setCell ⟨w.heap.size + 1, 0, none⟩ (.int .i64 op)).setCell ⟨w.heap.size + 1, 1, none⟩ (.int .i64 a)).setCell ⟨w.heap.size + 1, 2, none⟩ (.int .i64 r)).setCell ⟨w.heap.size + 1, 3, none⟩ (.int .i64 k)).setCell ⟨w.heap.size + 1, 4, none⟩ (.int .i64 m)) = Wc at *
    have k0 := (hBc.cell (p := ⟨kb, t * 5, none⟩) hkb).trans h0
    have k1 := (hBc.cell (p := ⟨kb, t * 5 + 1, none⟩) hkb).trans h1
    have k2 := (hBc.cell (p := ⟨kb, t * 5 + 2, none⟩) hkb).trans h2
    have k3 := (hBc.cell (p := ⟨kb, t * 5 + 3, none⟩) hkb).trans h3
    have k4 := (hBc.cell (p := ⟨kb, t * 5 + 4, none⟩) hkb).trans h4
    have x0 := (hBc.frozen (p := ⟨kb, t * 5, none⟩) hkb).trans f0
    have x1 := (hBc.frozen (p := ⟨kb, t * 5 + 1, none⟩) hkb).trans f1
    have x2 := (hBc.frozen (p := ⟨kb, t * 5 + 2, none⟩) hkb).trans f2
    have x3 := (hBc.frozen (p := ⟨kb, t * 5 + 3, none⟩) hkb).trans f3
    have x4 := (hBc.frozen (p := ⟨kb, t * 5 + 4, none⟩) hkb).trans f4
    have hne1 : kb ≠ w.heap.size := by omega
    have HBc := hide hBc
    clear hBc h0 h1 h2 h3 h4 f0 f1 f2 f3 f4 hBW g4
    go_wp2_with fail
    refine bodyPost_ret (v := .agg #[.int .i64 op, .int .i64 a, .int .i64 r, .int .i64 k, .int .i64 m]) (by simp [results, Try.results27, go_sem, y, z, hne1, g3]) rfl ⟨rfl, ?_⟩
    exact (((((kn5_both HBc.out kb t op a r k m).setCell (Nat.le_refl _) _).setCell (Nat.le_refl _) _).setCell (Nat.le_refl _) _).setCell (Nat.le_refl _) _).setCell (Nat.le_refl _) _
end Go.Proofs.Ytofhiooodgopeaa.V
