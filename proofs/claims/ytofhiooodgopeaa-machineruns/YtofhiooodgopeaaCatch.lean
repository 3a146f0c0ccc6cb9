/- The contract of (*machine).fetch, whole. -/
import Derived.Test.YtofhiooodgopeaaFnew
import Derived.Test.YtofhiooodgopeaaGive
import Derived.Defers
import Derived.Recover
namespace Go.Proofs.Ytofhiooodgopeaa.V
open Go.RowKit Go.Proofs.Ytofhiooodgopeaa.M
set_option linter.unusedVariables false
set_option linter.unusedSimpArgs false
variable {w : World} {b mb kb ob : Nat} {c : Cf} {s : Sm} {en : Int}

set_option maxRecDepth 100000 in
set_option maxHeartbeats 600000 in
theorem fetch_bad (h : Lo w b mb kb ob c s en) (hok : Ok c s) (t : Nat) (ht : s.pc = t) (hn : t < c.n) (v : Int) (hv0 : 0 ≤ v) (hv1 : v ≤ 4294967295) (hv : s.mem t = wrap32 v) (hd : ¬ dck v = 0) (hz : ∀ j, j < 5 → w.cell? ⟨kb, t * 5 + j, none⟩ = some (.int .i64 0)) :
    Calls Try.prog 27 #[.pointer (some ⟨b, 0, none⟩)] w fun e w' => e = thrown 4 ∧ Below w.heap.size w w' := by
  have hb : b < w.heap.size := by have := h.lb; have := h.lo; omega
  have hkb : kb < w.heap.size := by have := h.lkb; have := h.lo; omega
  have hmb : mb < w.heap.size := by have := h.lmb; have := h.lo; omega
  have h0 := hz 0 (by omega)
  have h1 := hz 1 (by omega)
  have h2 := hz 2 (by omega)
  have h3 := hz 3 (by omega)
  have h4 := hz 4 (by omega)
  have f0 := (h.fz (t * 5)).2.2
  have f1 := (h.fz (t * 5 + 1)).2.2
  have f2 := (h.fz (t * 5 + 2)).2.2
  have f3 := (h.fz (t * 5 + 3)).2.2
  have f4 := (h.fz (t * 5 + 4)).2.2
  simp only [Nat.add_zero] at h0
  have e16 := h.c16
  have e21 := h.c21
  have e22 := h.c22
  have hem := h.memc t (by have := hok.n0; omega)
  rw [ht] at e16
  have hvm : IntKind.u32.wrap (s.mem t) = v := by rw [hv, IntKind.wrap_u32, AM.w32]; omega
  have ht' : (0 : Int) ≤ t ∧ (t : Int) < c.n := by omega
  have ht2 : (0 : Int) ≤ t ∧ (t : Int) < c.M := by have := hok.n0; omega
  have hd0 : decide ((t : Int) < 0) = false := by simp
  have hd2 : ¬ ((c.n : Int) ≤ t) := by omega
  have hdec := fun w' => W.decode_bad v w' hv0 hv1 hd
  have HL := hide h
  clear h ht hz hv
  generalize s.mem t = y at *
  go_enter Try.func27, Try.ntmps27
  go_wp2
  go_quiet (fail)
  generalize nq = n1
  go_wp2
  go_quiet (fail)
  go_wp2_with fail
  have hBW : Below w.heap.size w ((w.alloc (.cells #[.int .i64 0, .int .i64 0, .int .i64 0, .int .i64 0, .int .i64 0] 57)).drewN (n1 + nq)) := below_drewN ((Below.refl _ _).alloc (Nat.le_refl _) _) _
  have g3 : ∀ o, ((w.alloc (.cells #[.int .i64 0, .int .i64 0, .int .i64 0, .int .i64 0, .int .i64 0] 57)).drewN (n1 + nq)).cell? ⟨w.heap.size, o, none⟩ = (#[Value.int .i64 0, .int .i64 0, .int .i64 0, .int .i64 0, .int .i64 0])[o]? := fun o => World.cell?_alloc_at _ _ _ _ rfl
  have g4 : ∀ o, ((w.alloc (.cells #[.int .i64 0, .int .i64 0, .int .i64 0, .int .i64 0, .int .i64 0] 57)).drewN (n1 + nq)).frozen? ⟨w.heap.size, o, none⟩ = false := fun o => by simp
  have g5 : ((w.alloc (.cells #[.int .i64 0, .int .i64 0, .int .i64 0, .int .i64 0, .int .i64 0] 57)).drewN (n1 + nq)).heap.size = w.heap.size + 1 := by simp
  generalize (w.alloc (.cells #[.int .i64 0, .int .i64 0, .int .i64 0, .int .i64 0, .int .i64 0] 57)).drewN (n1 + nq) = W at *
  clear n1 nq
  have i16 := (hBW.cell (p := ⟨b, 16, none⟩) hb).trans e16
  have i21 := (hBW.cell (p := ⟨b, 21, none⟩) hb).trans e21
  have iem := (hBW.cell (p := ⟨mb, t, none⟩) hmb).trans hem
  have jb : b < w.heap.size + 1 := by omega
  have jmb : mb < w.heap.size + 1 := by omega
  have iw0 := (hBW.cell (p := ⟨kb, t * 5, none⟩) hkb).trans h0
  have iw1 := (hBW.cell (p := ⟨kb, t * 5 + 1, none⟩) hkb).trans h1
  have iw2 := (hBW.cell (p := ⟨kb, t * 5 + 2, none⟩) hkb).trans h2
  have iw3 := (hBW.cell (p := ⟨kb, t * 5 + 3, none⟩) hkb).trans h3
  have iw4 := (hBW.cell (p := ⟨kb, t * 5 + 4, none⟩) hkb).trans h4
  have jkb : kb < w.heap.size + 1 := by omega
  clear e16 e21 hem e22
  go_region_held (fun w' => Below W.heap.size W w' ∧ (∀ bb o, bb < w.heap.size + 1 → w'.cell? ⟨bb, o, none⟩ = W.cell? ⟨bb, o, none⟩)) (first | with_reducible exact held_drew _ _ | with_reducible exact held_next g5 (held_drew _ _) (by assumption) | with_reducible exact held_alloc1 g5 (by assumption) _ | with_reducible exact held_alloc2 g5 _ | with_reducible exact held_call2 g5 (by assumption) | with_reducible exact held_set2 g5 (by assumption)) ((go_at_call 41; refine (hdec _).mono ?_; rintro e w1 ⟨rfl, hb1⟩; obtain ⟨hce, hfr⟩ := bcell hb1; have hzz := hb1.size; simp [g5] at hzz))
  · have hBc : Below w.heap.size w (w1.alloc (.cells #[.int .i64 0, .int .i64 0, .int .i64 0, .int .i64 0, .int .i64 0] 57)) := hBW.trans ((held_alloc1 g5 hb1 _).1.mono (by omega))
    clear hce hfr hzz hb1 i16 i21 iem
    generalize w1.alloc (.cells #[.int .i64 0, .int .i64 0, .int .i64 0, .int .i64 0, .int .i64 0] 57) = Wc at *
    go_wp2_with fail
    exact ⟨rfl, rfl, hBc⟩
  · have hBc : Below w.heap.size w (((((w1.setCell ⟨w.heap.size + 1, 0, none⟩ (.int .i64 0)).setCell ⟨w.heap.size + 1, 1, none⟩ (.int .i64 0)).setCell ⟨w.heap.size + 1, 2, none⟩ (.int .i64 0)).setCell ⟨w.heap.size + 1, 3, none⟩ (.int .i64 0)).setCell ⟨w.heap.size + 1, 4, none⟩ (.int .i64 0)) := hBW.trans ((held_set2 g5 hb1).1.mono (by omega))
    clear hce hfr hzz hb1 i16 i21 iem
    generalize (((((w1.setCell ⟨w.heap.size + 1, 0, none⟩ (.int .i64 0)).setCell ⟨w.heap.size + 1, 1, none⟩ (.int .i64 0)).setCell ⟨w.heap.size + 1, 2, none⟩ (.int .i64 0)).setCell ⟨w.heap.size + 1, 3, none⟩ (.int .i64 0)).setCell ⟨w.heap.size + 1, 4, none⟩ (.int .i64 0)) = Wc at *
    go_wp2_with fail
    exact ⟨rfl, rfl, hBc⟩

theorem kp_kn5 (kb t : Nat) (op a r k m : Int) : Kp b mb kb ob w (kn5 w kb t op a r k m) :=
  (Kp.set ⟨kb, t * 5, none⟩ (.int .i64 op) (Or.inr (Or.inr rfl))).trans ((Kp.set ⟨kb, t * 5 + 1, none⟩ (.int .i64 a) (Or.inr (Or.inr rfl))).trans ((Kp.set ⟨kb, t * 5 + 2, none⟩ (.int .i64 r) (Or.inr (Or.inr rfl))).trans
    ((Kp.set ⟨kb, t * 5 + 3, none⟩ (.int .i64 k) (Or.inr (Or.inr rfl))).trans (Kp.set ⟨kb, t * 5 + 4, none⟩ (.int .i64 m) (Or.inr (Or.inr rfl))))))
theorem size_kn5 (kb t : Nat) (op a r k m : Int) : (kn5 w kb t op a r k m).heap.size = w.heap.size := by simp only [set_size]
theorem fetch_no (h : Lo w b mb kb ob c s en) (hok : Ok c s) (hi : isI c s = false) :
    Calls Try.prog 27 #[.pointer (some ⟨b, 0, none⟩)] w fun e w' => e = thrown 4 ∧ Below w.heap.size w w' := by
  by_cases hp : 0 ≤ s.pc ∧ s.pc < c.n
  · have hd : ¬ dck (c.code s.pc.toNat) = 0 := fun e => by simp [isI, hp, e] at hi
    have hc := hok.code s.pc.toNat (by omega)
    refine fetch_bad h hok s.pc.toNat (by omega) (by omega) (c.code s.pc.toNat) hc.1 hc.2.1 hc.2.2 hd ?_
    rcases h.knc s.pc.toNat (by omega) with hz | hz
    · exact hz
    · exact absurd hz.1 hd
  · exact fetch_out h (by omega)
theorem fetch_ok (h : Lo w b mb kb ob c s en) (hok : Ok c s) (hi : isI c s = true) :
    Calls Try.prog 27 #[.pointer (some ⟨b, 0, none⟩)] w fun e w' => e = .returned (.agg #[.int .i64 (fOp (c.code s.pc.toNat)), .int .i64 (fA (c.code s.pc.toNat)), .int .i64 (fB (c.code s.pc.toNat)), .int .i64 (fC (c.code s.pc.toNat)), .int .i64 (fM (c.code s.pc.toNat))])
      ∧ Lo w' b mb kb ob c s en ∧ Kp b mb kb ob w w' := by
  simp [isI] at hi
  obtain ⟨hp, hd⟩ := hi
  have hn : s.pc.toNat < c.n := by omega
  have hc := hok.code s.pc.toNat hn
  rcases h.knc s.pc.toNat hn with hz | ⟨_, h0, h1, h2, h3, h4⟩
  · refine (fetch_new h hok s.pc.toNat (by omega) hn (c.code s.pc.toNat) hc.1 hc.2.1 hc.2.2 hd hz).mono fun e w' ⟨he, hb⟩ => ⟨he, ?_, ?_⟩
    · refine (h.setKn s.pc.toNat hn hd).below ?_
      rw [size_kn5]
      exact hb
    · have hK := kp_kn5 (w := w) (b := b) (mb := mb) (ob := ob) kb s.pc.toNat (fOp (c.code s.pc.toNat)) (fA (c.code s.pc.toNat)) (fB (c.code s.pc.toNat)) (fC (c.code s.pc.toNat)) (fM (c.code s.pc.toNat))
      refine hK.trans (Kp.of_below ?_ ?_)
      · rw [size_kn5]; exact hb
      · rw [size_kn5]; exact h.lo
  · have f := f_facts hc.1 hc.2.1 hd
    exact (fetch_known h s.pc.toNat (by omega) hn _ _ _ _ _ h0 h1 h2 h3 h4 f.1).mono fun e w' ⟨he, hb⟩ => ⟨he, h.below hb, Kp.of_below hb h.lo⟩
end Go.Proofs.Ytofhiooodgopeaa.V

namespace Go.Proofs.Ytofhiooodgopeaa.V
open Go.RowKit
set_option linter.unusedVariables false
set_option linter.unusedSimpArgs false

set_option maxRecDepth 100000 in
set_option maxHeartbeats 1000000 in
theorem catch_idle (q : Nat) (w : World) :
    CallsD Try.prog 25 #[.pointer (some ⟨q, 0, none⟩)] .returning w fun e u' w' => e = .returned (.tuple #[]) ∧ u' = .returning ∧ w' = w := by
  refine callsD_of_wpS Try.func25 rfl fun c₀ cs hu => ?_
  apply wpS_seq
  apply wpS_region
  simp [wpOpsS, go_sem, recoverD, hu, Try.ntmps25, Exit.thenS]
  refine wpS_of_wp ?_
  change Code.wp _ _ _ ⟨#[.pointer (some ⟨q, 0, none⟩), .nilIface, .nilIface, undef, undef, undef, undef, undef, undef, undef, undef], []⟩ _
  go_wp2
  cases c₀
  simp_all [bodyPostS, results, Try.results25]
set_option maxRecDepth 100000 in
set_option maxHeartbeats 1000000 in
theorem catch_panicking (q b : Nat) (x y : Int) (older : List PanicEntry) (w : World) (hq : w.cell? ⟨q, 0, none⟩ = some (.pointer (some ⟨b, 0, none⟩))) (hc : w.cell? ⟨b, 17, none⟩ = some (.int .i64 y)) (hz : w.frozen? ⟨b, 17, none⟩ = false) :
    CallsD Try.prog 25 #[.pointer (some ⟨q, 0, none⟩)] (.panicking ({ v := .iface 67 (.int .i64 x), recovered := false } :: older)) w fun e u' w' =>
      e = .returned (.tuple #[]) ∧ u' = .panicking ({ v := .iface 67 (.int .i64 x), recovered := true } :: older) ∧ w' = (w.setCell ⟨b, 17, none⟩ (.int .i64 x)).drew := by
  have hta : ∀ (w : World), (Instr.typeAssert (.iface 67 (.int .i64 x)) 20 67 false).run Try.prog w = .ok (.int .i64 x) w := fun _ => by kernel_rfl
  refine callsD_of_wpS Try.func25 rfl fun c₀ cs hu => ?_
  apply wpS_seq
  apply wpS_region
  simp [wpOpsS, go_sem, recoverD, hu, Try.ntmps25, Exit.thenS]
  refine wpS_of_wp ?_
  change Code.wp _ _ _ ⟨#[.pointer (some ⟨q, 0, none⟩), .iface 67 (.int .i64 x), .iface 67 (.int .i64 x), undef, undef, undef, undef, undef, undef, undef, undef], []⟩ _
  go_wp2
  go_region
  all_goals
    go_wp2
    simp [bodyPostS, results, Try.results25]
end Go.Proofs.Ytofhiooodgopeaa.V
