/- The contract of (*machine).do: it does what exec says. -/
import Derived.Test.YtofhiooodgopeaaDoA
import Derived.Test.YtofhiooodgopeaaDoOut
import Derived.Test.YtofhiooodgopeaaDoMade
import Derived.Test.YtofhiooodgopeaaDec
namespace Go.Proofs.Ytofhiooodgopeaa.V
open Go.RowKit Go.Proofs.Ytofhiooodgopeaa.M
set_option linter.unusedVariables false
variable {w : World} {b mb kb ob : Nat} {c : Cf} {s : Sm} {en : Int}

theorem Lo.fin (h : Lo w b mb kb ob c s en) (x : Int) : Lo w b mb kb ob c { s with fin := x } en :=
  ⟨h.lb, h.lmb, h.lkb, h.lo, h.n1, h.n2, h.n3, h.reg, h.c16, h.c17, h.c18, h.own, h.c20, h.c21, h.c22, h.c23, h.memc, h.knc, h.fz⟩
theorem doEnd_go {r : Sm × Int} (h : r.1.fin = 0) : doEnd r = .returned (.int .i64 r.2) := by unfold doEnd; rw [if_pos h]
theorem doEnd_end {r : Sm × Int} {x : Int} (h : r.1.fin = x) (hx : x ≠ 0) : doEnd r = thrown x := by subst h; unfold doEnd; rw [if_neg hx]

theorem do_any (h : Lo w b mb kb ob c s en) (hok : Ok c s) (hfin : s.fin = 0) (op : Int) (a r k : Nat) (m : Int) (ha : a < 16) (hr : r < 16) (hk : k < 16) (m0 : -32768 ≤ m) (m1 : m ≤ 65535) (hp : 0 ≤ s.pc ∧ s.pc < c.n)
    (o0 : 1 ≤ op) (o1 : op ≤ 25) (o3 : op = 3 → 0 ≤ m) (hlen : s.out.length ≤ 1000000) :
    Calls Try.prog 26 #[.pointer (some ⟨b, 0, none⟩), .agg #[.int .i64 op, .int .i64 a, .int .i64 r, .int .i64 k, .int .i64 m]] w fun e w' => e = doEnd (exec c s op a r k m) ∧ Lo w' b mb kb ob c (exec c s op a r k m).1 en ∧ Kp b mb kb ob w w' := by
  have nM := hok.nM
  have n0 := hok.n0
  by_cases c19 : op = 19
  · subst c19
    refine (do_jump h hok a r k m ha hr hk m0 m1 hp).mono fun e w' ⟨he, hb⟩ => ?_
    exact ⟨by rw [he]; exact (doEnd_go (r := exec c s 19 a r k m) hfin).symm, h.below hb, Kp.of_below hb h.lo⟩
  by_cases c20 : op = 20
  · subst c20
    refine (do_zero h hok a r k m ha hr hk m0 m1 hp).mono fun e w' ⟨he, hb⟩ => ?_
    exact ⟨by rw [he]; exact (doEnd_go (r := exec c s 20 a r k m) hfin).symm, h.below hb, Kp.of_below hb h.lo⟩
  by_cases c21 : op = 21
  · subst c21
    refine (do_call h hok a r k m ha hr hk m0 m1 hp).mono fun e w' ⟨he, hl, hK⟩ => ?_
    exact ⟨by rw [he]; exact (doEnd_go (r := exec c s 21 a r k m) hfin).symm, hl, hK⟩
  by_cases c22 : op = 22
  · subst c22
    refine (do_callr h hok a r k m ha hr hk m0 m1 hp).mono fun e w' ⟨he, hl, hK⟩ => ?_
    exact ⟨by rw [he]; exact (doEnd_go (r := exec c s 22 a r k m) hfin).symm, hl, hK⟩
  by_cases c23 : op = 23
  · subst c23
    refine (do_jumpr h hok a r k m ha hr hk m0 m1 hp).mono fun e w' ⟨he, hb⟩ => ?_
    exact ⟨by rw [he]; exact (doEnd_go (r := exec c s 23 a r k m) hfin).symm, h.below hb, Kp.of_below hb h.lo⟩
  by_cases c24 : op = 24
  · subst c24
    refine (do_out h hok a r k m ha hr hk m0 m1 hp hlen).mono fun e w' ⟨he, hl, hK⟩ => ?_
    exact ⟨by rw [he]; exact (doEnd_go (r := exec c s 24 a r k m) hfin).symm, hl, hK⟩
  by_cases c25 : op = 25
  · subst c25
    refine (do_exit h hok a r k m ha hr hk m0 m1 hp).mono fun e w' ⟨he, hl, hK⟩ => ?_
    exact ⟨by rw [he]; exact (doEnd_end (r := exec c s 25 a r k m) (x := 1) rfl (by omega)).symm, hl.fin 1, hK⟩
  by_cases c18 : op = 18
  · subst c18
    by_cases hg : (c.n : Int) ≤ s.R r + m ∧ s.R r + m < c.M
    · have E : exec c s 18 a r k m = ({ s with mem := upd s.mem (s.R r + m).toNat (s.R a) }, s.pc + 1) := by
        unfold exec
        rw [if_neg (by omega), if_neg (by omega), if_neg (by omega), if_neg (by omega), if_neg (by omega), if_pos rfl, if_pos hg]
      rw [E]
      refine (do_store h hok a r k m ha hr hk m0 m1 hp (s.R r + m).toNat (by omega) (by omega) (by omega)).mono fun e w' ⟨he, hl, hK⟩ => ?_
      exact ⟨by rw [he]; exact (doEnd_go (r := ({ s with mem := upd s.mem (s.R r + m).toNat (s.R a) }, s.pc + 1)) hfin).symm, hl, hK⟩
    · have E : exec c s 18 a r k m = ({ s with fin := 4 }, s.pc + 1) := by
        unfold exec
        rw [if_neg (by omega), if_neg (by omega), if_neg (by omega), if_neg (by omega), if_neg (by omega), if_pos rfl, if_neg hg]
      rw [E]
      have hend : ∀ (e : Ending) (w' : World), e = thrown 4 ∧ Below w.heap.size w w' → e = doEnd (({ s with fin := 4 }, s.pc + 1) : Sm × Int) ∧ Lo w' b mb kb ob c (({ s with fin := 4 }, s.pc + 1) : Sm × Int).1 en ∧ Kp b mb kb ob w w' := fun e w' ⟨he, hb⟩ =>
        ⟨by rw [he]; exact (doEnd_end (r := ({ s with fin := 4 }, s.pc + 1)) (x := 4) rfl (by omega)).symm, (h.below hb).fin 4, Kp.of_below hb h.lo⟩
      by_cases hx : s.R r + m < 0 ∨ (¬ s.R r + m < 0 ∧ (c.M : Int) ≤ s.R r + m)
      · exact (do_store_bad h hok a r k m ha hr hk m0 m1 hp hx).mono hend
      · exact (do_store_code h hok a r k m ha hr hk m0 m1 hp (s.R r + m).toNat (by omega) (by omega) (by omega)).mono hend
  · have ho : Makes op m := ⟨⟨o0, by omega⟩, o3⟩
    by_cases hf : madeFin c s op r k m = 0
    · have E : exec c s op a r k m = ({ s with R := upd s.R a (madeVal s op a r k m), fin := giveFin c a (madeVal s op a r k m) }, s.pc + 1) := by
        unfold exec
        rw [if_neg c19, if_neg c20, if_neg c21, if_neg c22, if_neg c23, if_neg c18, if_neg c24, if_neg c25, if_pos hf]
      rw [E]
      by_cases hg : giveFin c a (madeVal s op a r k m) = 0
      · refine (do_made h hok op a r k m ha hr hk m0 m1 hp ho hf hg).mono fun e w' ⟨he, hl, hK⟩ => ?_
        exact ⟨by rw [he]; exact (doEnd_go (r := ({ s with R := upd s.R a (madeVal s op a r k m), fin := giveFin c a (madeVal s op a r k m) }, s.pc + 1)) hg).symm, hl.fin _, hK⟩
      · refine (do_made_end h hok op a r k m ha hr hk m0 m1 hp ho hf hg).mono fun e w' ⟨he, hl, hK⟩ => ?_
        exact ⟨by rw [he]; exact (doEnd_end (r := ({ s with R := upd s.R a (madeVal s op a r k m), fin := giveFin c a (madeVal s op a r k m) }, s.pc + 1)) rfl hg).symm, hl.fin _, hK⟩
    · have E : exec c s op a r k m = ({ s with fin := madeFin c s op r k m }, s.pc + 1) := by
        unfold exec
        rw [if_neg c19, if_neg c20, if_neg c21, if_neg c22, if_neg c23, if_neg c18, if_neg c24, if_neg c25, if_neg hf]
      rw [E]
      refine (do_made_bad h hok op a r k m ha hr hk m0 m1 hp ho hf).mono fun e w' ⟨he, hb⟩ => ?_
      exact ⟨by rw [he]; exact (doEnd_end (r := ({ s with fin := madeFin c s op r k m }, s.pc + 1)) rfl hf).symm, (h.below hb).fin _, Kp.of_below hb h.lo⟩
end Go.Proofs.Ytofhiooodgopeaa.V

namespace Go.Proofs.Ytofhiooodgopeaa.V
open Go.RowKit Go.Proofs.Ytofhiooodgopeaa.M
set_option linter.unusedVariables false
set_option linter.unusedSimpArgs false
variable {w : World} {b mb kb ob : Nat} {c : Cf} {s : Sm} {en : Int}

set_option maxRecDepth 100000 in
set_option maxHeartbeats 2000000 in
theorem fetch_out (h : Lo w b mb kb ob c s en) (hp : s.pc < 0 ∨ (¬ s.pc < 0 ∧ (c.n : Int) ≤ s.pc)) :
    Calls Try.prog 27 #[.pointer (some ⟨b, 0, none⟩)] w fun e w' => e = thrown 4 ∧ Below w.heap.size w w' := by
  have hb : b < w.heap.size := by have := h.lb; have := h.lo; omega
  have e16 := h.c16
  have e22 := h.c22
  rcases hp with h1 | ⟨h1, h2⟩
  · have hd : decide (s.pc < 0) = true := by simpa using h1
    go_enter Try.func27, Try.ntmps27
    go_wp2
    go_quiet (fail)
    go_wp2
    exact ⟨rfl, rfl, below_drewN ((Below.refl _ _).alloc (Nat.le_refl _) _) _⟩
  · have hd : decide (s.pc < 0) = false := by simpa using h1
    go_enter Try.func27, Try.ntmps27
    go_wp2
    go_quiet (fail)
    go_wp2
    exact ⟨rfl, rfl, below_drewN ((Below.refl _ _).alloc (Nat.le_refl _) _) _⟩

set_option maxRecDepth 100000 in
set_option maxHeartbeats 2000000 in
theorem fetch_known (h : Lo w b mb kb ob c s en) (t : Nat) (ht : s.pc = t) (hn : t < c.n) (op a r k m : Int) (h0 : w.cell? ⟨kb, t * 5, none⟩ = some (.int .i64 op)) (h1 : w.cell? ⟨kb, t * 5 + 1, none⟩ = some (.int .i64 a)) (h2 : w.cell? ⟨kb, t * 5 + 2, none⟩ = some (.int .i64 r))
    (h3 : w.cell? ⟨kb, t * 5 + 3, none⟩ = some (.int .i64 k)) (h4 : w.cell? ⟨kb, t * 5 + 4, none⟩ = some (.int .i64 m)) (ho : 1 ≤ op) :
    Calls Try.prog 27 #[.pointer (some ⟨b, 0, none⟩)] w fun e w' => e = .returned (.agg #[.int .i64 op, .int .i64 a, .int .i64 r, .int .i64 k, .int .i64 m]) ∧ Below w.heap.size w w' := by
  have hb : b < w.heap.size := by have := h.lb; have := h.lo; omega
  have hkb : kb < w.heap.size := by have := h.lkb; have := h.lo; omega
  have hop : (op == 0) = false := beq_eq_false_iff_ne.2 (by omega)
  have e16 := h.c16
  have e22 := h.c22
  rw [ht] at e16
  have ht' : (0 : Int) ≤ t ∧ (t : Int) < c.n := by omega
  have hd : decide ((t : Int) < 0) = false := by simp
  have hd2 : ¬ ((c.n : Int) ≤ t) := by omega
  clear h ht
  go_enter Try.func27, Try.ntmps27
  go_wp2
  go_quiet (fail)
  go_wp2
  go_quiet (fail)
  go_wp2
  refine bodyPost_ret (v := .agg #[.int .i64 op, .int .i64 a, .int .i64 r, .int .i64 k, .int .i64 m]) (by simp [results, Try.results27, go_sem]) rfl ⟨rfl, ?_⟩
  exact (((((below_drewN ((Below.refl _ _).alloc (Nat.le_refl _) _) _).setCell (Nat.le_refl _) _).setCell (Nat.le_refl _) _).setCell (Nat.le_refl _) _).setCell (Nat.le_refl _) _).setCell (Nat.le_refl _) _

end Go.Proofs.Ytofhiooodgopeaa.V
