/- The reference's machine behind an append to what it told. -/
import Derived.Test.YtofhiooodgopeaaRins
import Derived.Test.YtofhiooodgopeaaDoOut
import Derived.Deep.AppendLies
import Derived.Test.YtofhiooodgopeaaRinsB
import Derived.Test.YtofhiooodgopeaaRinsC
import Derived.Test.YtofhiooodgopeaaRinsE
import Derived.Test.YtofhiooodgopeaaRinsF
import Derived.Test.YtofhiooodgopeaaRinsG
import Derived.Test.YtofhiooodgopeaaRinsI
import Derived.Test.YtofhiooodgopeaaRinsK
namespace Go.Proofs.Ytofhiooodgopeaa.V
open Go.RowKit Go.Proofs.Ytofhiooodgopeaa.M
set_option linter.unusedVariables false
variable {b mb kc ki ob p1 p2 : Nat} {c : Cf} {s : Sm} {en : Int}
theorem rout_cells {w1 w2 : World} {v : Value} (h : Rl w1 b mb kc ki ob p1 p2 c s en) (hge : ∀ k, v.ownBlock = some k → ob ≤ k) (hg : w1.grownBy w2 v.ownBlock) :
    (∃ u, w2.cell? ⟨b, 21, none⟩ = some u) ∧ w2.frozen? ⟨b, 21, none⟩ = false ∧ Hid (∀ l v2, w2.ownsRow ob 21 1 v2 (l : List Int).length (l.map (Value.int .i32)) →
      Rl (w2.setCell ⟨b, 21, none⟩ v2) b mb kc ki ob p1 p2 c { s with out := l } en ∧ Kp b mb mb ob w1 (w2.setCell ⟨b, 21, none⟩ v2)) := by
  have hc := grown_cells h.lo hge hg
  obtain ⟨u, hu, _⟩ := h.own
  have hu2 := (hc.1 b 21 h.lb).trans hu
  refine ⟨⟨u, hu2⟩, (hc.2 b 21 h.lb).trans (h.fz 21).1, fun l v2 hv => ?_⟩
  have hL2 : Rl (w2.setCell ⟨b, 21, none⟩ v2) b mb kc ki ob p1 p2 c { s with out := l } en := {
      lb := h.lb, lmb := h.lmb, lkc := h.lkc, lki := h.lki, n1 := h.n1, n2 := h.n2, n3 := h.n3, n4 := h.n4, n5 := h.n5
      lo := by rw [set_size]; exact Nat.le_trans h.lo hg.size
      x0 := ((set_off _ _ _ _ _ (by omega)).trans (hc.1 _ _ h.lb)).trans h.x0
      x1 := ((set_off _ _ _ _ _ (by omega)).trans (hc.1 _ _ h.lb)).trans h.x1
      x2 := ((set_off _ _ _ _ _ (by omega)).trans (hc.1 _ _ h.lb)).trans h.x2
      x3 := ((set_off _ _ _ _ _ (by omega)).trans (hc.1 _ _ h.lb)).trans h.x3
      reg := fun k hk => ((set_off _ _ _ _ _ (by omega)).trans (hc.1 _ _ h.lb)).trans (h.reg k hk)
      x20 := ((set_off _ _ _ _ _ (by omega)).trans (hc.1 _ _ h.lb)).trans h.x20
      own := ⟨v2, set_same _ _ _ _ hu2, ownsRow_setCell_below hv h.lb _⟩
      x22 := ((set_off _ _ _ _ _ (by omega)).trans (hc.1 _ _ h.lb)).trans h.x22
      x23 := ((set_off _ _ _ _ _ (by omega)).trans (hc.1 _ _ h.lb)).trans h.x23
      x24 := ((set_off _ _ _ _ _ (by omega)).trans (hc.1 _ _ h.lb)).trans h.x24
      memc := fun k hk => ((set_blk _ _ _ _ _ _ h.n1).trans (hc.1 _ _ h.lmb)).trans (h.memc k hk)
      isc := fun k hk => ((set_blk _ _ _ _ _ _ h.n3).trans (hc.1 _ _ h.lki)).trans (h.isc k hk)
      cdc := fun k hk hd => by
        obtain ⟨a0, a1, a2, a3, a4⟩ := h.cdc k hk hd
        exact ⟨((set_blk _ _ _ _ _ _ h.n2).trans (hc.1 _ _ h.lkc)).trans a0, ((set_blk _ _ _ _ _ _ h.n2).trans (hc.1 _ _ h.lkc)).trans a1, ((set_blk _ _ _ _ _ _ h.n2).trans (hc.1 _ _ h.lkc)).trans a2, ((set_blk _ _ _ _ _ _ h.n2).trans (hc.1 _ _ h.lkc)).trans a3, ((set_blk _ _ _ _ _ _ h.n2).trans (hc.1 _ _ h.lkc)).trans a4⟩
      fz := fun o => by simp only [set_frozen, hc.2 _ _ h.lb, hc.2 _ _ h.lmb]; exact h.fz o }
  have hlo := h.lo
  exact ⟨hL2, Kp.trans ⟨hg.os, hg.tape, hg.output, hg.size, fun k a1 _ _ _ => hg.block k (by omega) (fun e => by have := hge k e.symm; omega)⟩ (Kp.set _ _ (Or.inl rfl))⟩
end Go.Proofs.Ytofhiooodgopeaa.V

namespace Go.Proofs.Ytofhiooodgopeaa.V
open Go.RowKit Go.Proofs.Ytofhiooodgopeaa.M
set_option linter.unusedVariables false
set_option linter.unusedSimpArgs false
variable {w : World} {b mb kc ki ob p1 p2 : Nat} {c : Cf} {s : Sm}
theorem list_out {w : World} {ops : Array Oper} {rest : List Oper} {o : Oper} {a : Act} {Q : Exit → Act → World → Prop} (p q : Operand) (hgd : o.guard = none)
    (ho : o.op = .call { callee := .builtin .append, args := #[p, q], argTypes := #[23, 23] })
    (ob : Nat) (v : Value) (l : List Int) (hs : a.eval p = v) (hown : w.ownsRow ob 21 1 v l.length (l.map (Value.int .i32)))
    (B : Nat) (x : Int) (hx : a.eval q = .slice (some ⟨B, 0, none⟩) 1 1) (hB : w.heap[B]? = some (.cells #[.int .i32 x] 21 (0, 0)))
    (hn : l.length ≤ 1000000) (hob : ob ≤ w.heap.size)
    (h : ∀ g cap w', w'.ownsRow ob 21 1 (.slice (some ⟨g, 0, none⟩) (l.length + 1) cap) (l ++ [x]).length ((l ++ [x]).map (Value.int .i32)) → w.grownBy w' v.ownBlock → wpList Try.prog ops Q rest (a.put o.dst (.slice (some ⟨g, 0, none⟩) (l.length + 1) cap)) w') :
    wpList Try.prog ops Q (o :: rest) a w := by
  obtain ⟨i0, hi, hz0, hz1, hz2⟩ := info_parts info21
  refine wpList_append_lies w hgd p q 23 ho ob 21 i0 (.int .i32 0) 1 4 Try.underlying23 hi hz0 hz1 hz2 rfl (by decide) v l.length (l.map (Value.int .i32)) hs hown ⟨B, 0, none⟩ 1 1 [.int .i32 x] hx rfl (World.news_of_block hB) ?_ (by decide) (by unfold maxLen; omega) (by omega) hob w.heap.size rfl ?_
  · intro u hu; simp at hu; subst hu; rfl
  · intro g cap w' h1 h2 _ _
    refine h g cap w' ?_ h2
    simpa using h1

set_option maxRecDepth 100000 in
set_option maxHeartbeats 4000000 in
theorem step_tell (h : Rl w b mb kc ki ob p1 p2 c s (-1)) (hok : Ok c s) (hst : s.steps ≤ 300000) (t : Nat) (ht : s.pc = t) (hn : t < c.n) (a r k : Nat) (m : Int) (hA : At w ki kc t 24 a r k m) (ha : a < 16) (hr : r < 16) (hk : k < 16) (m0 : -32768 ≤ m) (m1 : m ≤ 65535) (hlen : s.out.length ≤ 1000000) :
    Calls Try.prog 17 #[.pointer (some ⟨b, 0, none⟩)] w fun e w' => e = .returned (.tuple #[]) ∧ Rl w' b mb kc ki ob p1 p2 c { count s with out := s.out ++ [s.R a], pc := s.pc + 1 } (-1) ∧ Kp b mb mb ob w w' := by
  have hnM : c.n ≤ 16000 := by have := hok.n0; have := hok.nM; omega
  have e24 := h.x24
  have f24 := (h.fz 24).1
  have e20 := h.x20
  rw [ht] at e20
  have e0 := h.x0
  have e1 := h.x1
  have hb : b < w.heap.size := by have := h.lb; have := h.lo; omega
  have hki : ki < w.heap.size := by have := h.lki; have := h.lo; omega
  have hkc : kc < w.heap.size := by have := h.lkc; have := h.lo; omega
  have n2 := h.n2
  have n3 := h.n3
  obtain ⟨eis, i0, i1, i2, i3, i4⟩ := hA
  have hd0 : decide ((t : Int) < 0) = false := by simp
  have hd1 : decide ((c.n : Int) ≤ t) = false := by simp; omega
  have hd3 : decide (c.n ≤ t) = false := by simp; omega
  have hidx : (0 : Int) ≤ t ∧ (t : Int) < c.n := by omega
  have hd2 : ¬ (c.n : Int) ≤ t := by omega
  have ha' : (0 : Int) ≤ a ∧ (a : Int) < 16 := by omega
  have hr' : (0 : Int) ≤ r ∧ (r : Int) < 16 := by omega
  have hk' : (0 : Int) ≤ k ∧ (k : Int) < 16 := by omega
  have hL1 := h.setSteps (s.steps + 1)
  have HK0 : Hid (Kp b mb mb ob w (w.setCell ⟨b, 24, none⟩ (.int .i64 (↑s.steps + 1)))) := Kp.set ⟨b, 24, none⟩ _ (Or.inl rfl)
  have HL1 := hide hL1
  have HOk := hide hok
  clear h hL1 hok
  go_enter Try.func17, Try.ntmps17
  go_wp2_with fail
  go_quiet (fail)
  generalize nq = q0
  go_wp2_with fail
  have hB0 : Below (w.setCell ⟨b, 24, none⟩ (.int .i64 (↑s.steps + 1))).heap.size (w.setCell ⟨b, 24, none⟩ (.int .i64 (↑s.steps + 1))) ((w.setCell ⟨b, 24, none⟩ (.int .i64 (↑s.steps + 1))).drewN q0) := below_drewN (Below.refl _ _) q0
  have hL2 : Rl ((w.setCell ⟨b, 24, none⟩ (.int .i64 (↑s.steps + 1))).drewN q0) b mb kc ki ob p1 p2 c (count s) (-1) := HL1.out.below hB0
  have HK2 : Hid (Kp b mb mb ob w ((w.setCell ⟨b, 24, none⟩ (.int .i64 (↑s.steps + 1))).drewN q0)) := HK0.out.trans (Kp.of_below hB0 HL1.out.lo)
  have j0 : ((w.setCell ⟨b, 24, none⟩ (.int .i64 (↑s.steps + 1))).drewN q0).cell? ⟨kc, t * 5, none⟩ = some (.int .i64 24) := (set_blk _ _ _ _ _ _ n2).trans i0
  have j1 : ((w.setCell ⟨b, 24, none⟩ (.int .i64 (↑s.steps + 1))).drewN q0).cell? ⟨kc, t * 5 + 1, none⟩ = some (.int .i64 a) := (set_blk _ _ _ _ _ _ n2).trans i1
  have j2 : ((w.setCell ⟨b, 24, none⟩ (.int .i64 (↑s.steps + 1))).drewN q0).cell? ⟨kc, t * 5 + 2, none⟩ = some (.int .i64 r) := (set_blk _ _ _ _ _ _ n2).trans i2
  have j3 : ((w.setCell ⟨b, 24, none⟩ (.int .i64 (↑s.steps + 1))).drewN q0).cell? ⟨kc, t * 5 + 3, none⟩ = some (.int .i64 k) := (set_blk _ _ _ _ _ _ n2).trans i3
  have j4 : ((w.setCell ⟨b, 24, none⟩ (.int .i64 (↑s.steps + 1))).drewN q0).cell? ⟨kc, t * 5 + 4, none⟩ = some (.int .i64 m) := (set_blk _ _ _ _ _ _ n2).trans i4
  have hz2 : w.heap.size = ((w.setCell ⟨b, 24, none⟩ (.int .i64 (↑s.steps + 1))).drewN q0).heap.size := (set_size _ _ _).symm
  clear e24 f24 e20 e0 e1 eis i0 i1 i2 i3 i4 hB0 HK0 HL1
  generalize (w.setCell ⟨b, 24, none⟩ (.int .i64 (↑s.steps + 1))).drewN q0 = W at *
  have e20 := hL2.x20
  have e20' : W.cell? ⟨b, 20, none⟩ = some (.int .i64 t) := by rw [e20]; show some (Value.int .i64 s.pc) = _; rw [ht]
  clear e20
  have e0 := hL2.x0
  have era := hL2.reg a ha
  have err := hL2.reg r hr
  have erk := hL2.reg k hk
  rw [hz2] at hb hkc hki
  have HL2 := hide hL2
  clear hL2 hz2
  go_region_held (fun w' => (∀ bb o, bb < W.heap.size → w'.cell? ⟨bb, o, none⟩ = W.cell? ⟨bb, o, none⟩)) (first | exact fun _ _ _ => rfl | exact fun bb o hlt => (World.cell?_alloc_past _ _ _ hlt)) (fail)
  have hBX : Below W.heap.size W (W.alloc (.cells #[.int .i64 24, .int .i64 a, .int .i64 r, .int .i64 k, .int .i64 m] 57)).drew := ((Below.refl _ _).alloc (Nat.le_refl _) _).drew
  have y : ∀ o, (W.alloc (.cells #[.int .i64 24, .int .i64 a, .int .i64 r, .int .i64 k, .int .i64 m] 57)).drew.cell? ⟨W.heap.size, o, none⟩ = (#[Value.int .i64 24, .int .i64 a, .int .i64 r, .int .i64 k, .int .i64 m])[o]? := fun o => World.cell?_alloc_at _ _ _ _ rfl
  have hL3 := HL2.out.below hBX
  have HK3 : Hid (Kp b mb mb ob w (W.alloc (.cells #[.int .i64 24, .int .i64 a, .int .i64 r, .int .i64 k, .int .i64 m] 57)).drew) := HK2.out.trans (Kp.of_below hBX HL2.out.lo)
  have e22W := HL2.out.x22
  have e23W := HL2.out.x23
  have e18W := HL2.out.reg 14 (by omega)
  clear j0 j1 j2 j3 j4 hBX HK2
  generalize (W.alloc (.cells #[.int .i64 24, .int .i64 a, .int .i64 r, .int .i64 k, .int .i64 m] 57)).drew = X at *
  have z20 : X.cell? ⟨b, 20, none⟩ = some (.int .i64 t) := by rw [hL3.x20]; show some (Value.int .i64 s.pc) = _; rw [ht]
  have zra := hL3.reg a ha
  have zrr := hL3.reg r hr
  have zrk := hL3.reg k hk
  have z22 := hL3.x22
  have f20 := (hL3.fz 20).1
  have HL3 := hide hL3
  clear hL3
  go_wp2_with fail
  go_quiet (fail)
  generalize nq = q1
  go_wp2_with fail
  go_quiet (fail)
  generalize nq = q2
  have hB1 : Below (X.drewN (q1 + q2)).heap.size (X.drewN (q1 + q2)) ((X.drewN (q1 + q2)).alloc (.cells #[.int .i32 ((count s).R a)] 21)) := (Below.refl _ _).alloc (Nat.le_refl _) _
  have hL4 := (HL3.out.below (below_drewN (Below.refl _ _) (q1 + q2))).below hB1
  have hK4 : Kp b mb mb ob w ((X.drewN (q1 + q2)).alloc (.cells #[.int .i32 ((count s).R a)] 21)) := (HK3.out.trans (Kp.of_below (below_drewN (Below.refl _ _) (q1 + q2)) HL3.out.lo)).trans (Kp.of_below hB1 HL3.out.lo)
  obtain ⟨v, e21a, HO⟩ := hL4.own
  have hbX : b < X.heap.size := by have := HL3.out.lb; have := HL3.out.lo; omega
  have e21X : X.cell? ⟨b, 21, none⟩ = some v := (World.cell?_alloc_past (w := X.drewN (q1 + q2)) _ _ _ hbX).symm.trans e21a
  have e21W : W.cell? ⟨b, 21, none⟩ = some v := (‹∀ bb o, bb < W.heap.size → X.cell? ⟨bb, o, none⟩ = W.cell? ⟨bb, o, none⟩› b 21 hb).symm.trans e21X
  have hhe : ((X.drewN (q1 + q2)).alloc (.cells #[.int .i32 ((count s).R a)] 21)).heap[X.heap.size]? = some (.cells #[.int .i32 ((count s).R a)] 21 (0, 0)) := heap_alloc_new (X.drewN (q1 + q2)) (.cells #[.int .i32 ((count s).R a)] 21)
  have hge := fun k hk => (own_ge HO k hk).1
  have HL4 := hide hL4
  have HK4 := hide hK4
  have HX := hide (And.intro HO (And.intro hhe (And.intro hL4.lo hge)))
  clear hL4 hK4 HO hhe hge e21a hB1
  go_wp2_with (at_builtin; refine list_out _ _ rfl rfl ob v s.out ?e1 ?e2 X.heap.size ((count s).R a) ?e3 ?e4 hlen ?e5 ?_; (case e1 => rfl); (case e2 => exact HX.out.1); (case e3 => rfl); (case e4 => exact HX.out.2.1); (case e5 => exact HX.out.2.2.1); intro g cap w1 hown1 hgr; obtain ⟨⟨u1, r1⟩, r2, Q3⟩ := rout_cells HL4.out HX.out.2.2.2 hgr; have hc := grown_cells HX.out.2.2.1 HX.out.2.2.2 hgr; have k22 := (hc.1 b 22 HL4.out.lb).trans HL4.out.x22; have k20 := (hc.1 b 20 HL4.out.lb).trans HL4.out.x20; have l20 := (hc.2 b 20 HL4.out.lb).trans (HL4.out.fz 20).1; have O1 := hide hown1; clear hown1 hgr hc)
  go_end0
  have Q4 := Q3.out _ _ O1.out
  refine ⟨rfl, ?_, (HK4.out.trans Q4.2).trans (Kp.set ⟨b, 20, none⟩ _ (Or.inl rfl))⟩
  rw [ht]
  exact Q4.1.setPc _
end Go.Proofs.Ytofhiooodgopeaa.V

namespace Go.Proofs.Ytofhiooodgopeaa.V
open Go.RowKit Go.Proofs.Ytofhiooodgopeaa.M
set_option linter.unusedVariables false
variable {w : World} {b mb kc ki ob p1 p2 : Nat} {c : Cf} {s : Sm}

theorem gone_fin (r : Sm × Int) : (gone r).fin = r.1.fin := by unfold gone; split <;> rfl
theorem gave_fin (c : Cf) (s : Sm) (a : Nat) (x : Int) : (gave c s a x).fin = giveFin c a x := by unfold gave; rw [gone_fin]
/-- An instruction that makes a word, done. -/
theorem made_go {op : Int} {a r k : Nat} {m : Int} (h1 : op ≤ 17) (h : madeFin c (count s) op r k m = 0) (x : Int) (hx : madeVal (count s) op a r k m = x) : gone (exec c (count s) op a r k m) = gave c s a x := by
  subst hx
  unfold exec
  rw [if_neg (by omega), if_neg (by omega), if_neg (by omega), if_neg (by omega), if_neg (by omega), if_neg (by omega), if_neg (by omega), if_neg (by omega), if_pos h]
  rfl
theorem made_end {op : Int} {a r k : Nat} {m : Int} (h1 : op ≤ 17) (x : Int) (hx : madeFin c (count s) op r k m = x) (h : x ≠ 0) : gone (exec c (count s) op a r k m) = { count s with fin := x } := by
  subst hx
  unfold exec
  rw [if_neg (by omega), if_neg (by omega), if_neg (by omega), if_neg (by omega), if_neg (by omega), if_neg (by omega), if_neg (by omega), if_neg (by omega), if_neg h, gone_end (by exact h)]

theorem step_any (h : Rl w b mb kc ki ob p1 p2 c s (-1)) (hok : Ok c s) (hf : s.fin = 0) (hst : s.steps ≤ 300000) (hlen : s.out.length ≤ 1000000) :
    Calls Try.prog 17 #[.pointer (some ⟨b, 0, none⟩)] w fun e w' => e = .returned (.tuple #[]) ∧ Rl w' b mb kc ki ob p1 p2 c (M.step c s) (endOf (M.step c s).fin) ∧ Kp b mb mb ob w w' := by
  have key : ∀ S en, M.step c s = S → endOf S.fin = en → (Calls Try.prog 17 #[.pointer (some ⟨b, 0, none⟩)] w fun e w' => e = .returned (.tuple #[]) ∧ Rl w' b mb kc ki ob p1 p2 c S en ∧ Kp b mb mb ob w w') →
      Calls Try.prog 17 #[.pointer (some ⟨b, 0, none⟩)] w fun e w' => e = .returned (.tuple #[]) ∧ Rl w' b mb kc ki ob p1 p2 c (M.step c s) (endOf (M.step c s).fin) ∧ Kp b mb mb ob w w' := fun S en e1 e2 hC => by
    subst e1 e2; exact hC
  have end0 : endOf 0 = -1 := rfl
  have hcf : (count s).fin = 0 := hf
  by_cases hi : isI c s = true
  · have hi2 := hi
    simp [isI] at hi2
    obtain ⟨t, ht⟩ : ∃ t : Nat, s.pc = t := ⟨s.pc.toNat, by omega⟩
    have htn : s.pc.toNat = t := by omega
    have hn : t < c.n := by omega
    have hd : dck (c.code t) = 0 := by rw [← htn]; exact hi2.2
    have hc := hok.code t hn
    have F := f_facts hc.1 hc.2.1 hd
    have hmv := f_movh hd
    have hS : M.step c s = gone (exec c (count s) (fOp (c.code t)) (fA (c.code t)) (fB (c.code t)) (fC (c.code t)) (fM (c.code t))) := by
      unfold M.step; rw [if_pos hi, htn]
    have hA : At w ki kc t (fOp (c.code t)) (fA (c.code t)) (fB (c.code t)) (fC (c.code t)) (fM (c.code t)) := by
      have e := h.isc t hn
      rw [decide_eq_true hd] at e
      obtain ⟨a0, a1, a2, a3, a4⟩ := h.cdc t hn hd
      exact ⟨e, a0, a1, a2, a3, a4⟩
    obtain ⟨q0, q1, ha, hr, hk, m0, m1, -⟩ := F
    generalize fOp (c.code t) = op at *
    generalize fA (c.code t) = a at *
    generalize fB (c.code t) = r at *
    generalize fC (c.code t) = k at *
    generalize fM (c.code t) = m at *
    have hg : ∀ x, op ≤ 17 → madeFin c (count s) op r k m = 0 → madeVal (count s) op a r k m = x → (Calls Try.prog 17 #[.pointer (some ⟨b, 0, none⟩)] w fun e w' => e = .returned (.tuple #[]) ∧ Rl w' b mb kc ki ob p1 p2 c (gave c s a x) (endOf (giveFin c a x)) ∧ Kp b mb mb ob w w') →
      Calls Try.prog 17 #[.pointer (some ⟨b, 0, none⟩)] w fun e w' => e = .returned (.tuple #[]) ∧ Rl w' b mb kc ki ob p1 p2 c (M.step c s) (endOf (M.step c s).fin) ∧ Kp b mb mb ob w w' := fun x h1 h2 h3 hC =>
      key _ _ (hS.trans (made_go h1 h2 x h3)) (by rw [gave_fin]) hC
    by_cases c19 : op = 19
    · subst c19
      exact key _ _ (by rw [hS]; unfold exec; rw [if_pos rfl, gone_go (by exact hf)]; try rfl) (by show endOf s.fin = _; rw [hf, end0]) (step_jump h hok hst t ht hn a r k m hA ha hr hk m0 m1)
    by_cases c20 : op = 20
    · subst c20
      by_cases hz : s.R a = 0
      · exact key _ _ (by rw [hS]; unfold exec; rw [if_neg (by decide), if_pos rfl, if_pos (by exact hz), gone_go (by exact hf)]; try rfl) (by show endOf s.fin = _; rw [hf, end0]) (step_zero_t h hok hst t ht hn a r k m hA ha hr hk m0 m1 hz)
      · exact key _ _ (by rw [hS]; unfold exec; rw [if_neg (by decide), if_pos rfl, if_neg (by exact hz), gone_go (by exact hf)]; try rfl) (by show endOf s.fin = _; rw [hf, end0]) (step_zero_f h hok hst t ht hn a r k m hA ha hr hk m0 m1 hz)
    by_cases c21 : op = 21
    · subst c21
      exact key _ _ (by rw [hS]; unfold exec; rw [if_neg (by decide), if_neg (by decide), if_pos rfl, gone_go (by exact hf)]; try rfl) (by show endOf s.fin = _; rw [hf, end0]) (step_call h hok hst t ht hn a r k m hA ha hr hk m0 m1)
    by_cases c22 : op = 22
    · subst c22
      exact key _ _ (by rw [hS]; unfold exec; rw [if_neg (by decide), if_neg (by decide), if_neg (by decide), if_pos rfl, gone_go (by exact hf)]; try rfl) (by show endOf s.fin = _; rw [hf, end0]) (step_callr h hok hst t ht hn a r k m hA ha hr hk m0 m1)
    by_cases c23 : op = 23
    · subst c23
      exact key _ _ (by rw [hS]; unfold exec; rw [if_neg (by decide), if_neg (by decide), if_neg (by decide), if_neg (by decide), if_pos rfl, gone_go (by exact hf)]; try rfl) (by show endOf s.fin = _; rw [hf, end0]) (step_jumpr h hok hst t ht hn a r k m hA ha hr hk m0 m1)
    by_cases c18 : op = 18
    · subst c18
      by_cases hx : (c.n : Int) ≤ s.R r + m ∧ s.R r + m < c.M
      · exact key _ _ (by rw [hS]; unfold exec; rw [if_neg (by decide), if_neg (by decide), if_neg (by decide), if_neg (by decide), if_neg (by decide), if_pos rfl, if_pos (by exact hx), gone_go (by exact hf)]; try rfl) (by show endOf s.fin = _; rw [hf, end0]) (step_store h hok hst t ht hn a r k m hA ha hr hk m0 m1 hx)
      · exact key _ _ (by rw [hS]; unfold exec; rw [if_neg (by decide), if_neg (by decide), if_neg (by decide), if_neg (by decide), if_neg (by decide), if_pos rfl, if_neg (by exact hx), gone_end (by show (4 : Int) ≠ 0; decide)]; try rfl) rfl (step_store_bad h hok hst t ht hn a r k m hA ha hr hk m0 m1 hx)
    by_cases c24 : op = 24
    · subst c24
      exact key _ _ (by rw [hS]; unfold exec; rw [if_neg (by decide), if_neg (by decide), if_neg (by decide), if_neg (by decide), if_neg (by decide), if_neg (by decide), if_pos rfl, gone_go (by exact hf)]; try rfl) (by show endOf s.fin = _; rw [hf, end0]) (step_tell h hok hst t ht hn a r k m hA ha hr hk m0 m1 hlen)
    by_cases c25 : op = 25
    · subst c25
      exact key _ _ (by rw [hS]; unfold exec; rw [if_neg (by decide), if_neg (by decide), if_neg (by decide), if_neg (by decide), if_neg (by decide), if_neg (by decide), if_neg (by decide), if_pos rfl, gone_end (by show (1 : Int) ≠ 0; decide)]; try rfl) rfl (step_exit h hok hst t ht hn a r k m hA ha hr hk m0 m1)
    by_cases c17 : op = 17
    · subst c17
      by_cases hx : 0 ≤ s.R r + m ∧ s.R r + m < c.M
      · exact hg _ (by omega) (by unfold madeFin; rw [if_pos rfl, if_pos (by exact hx)]) (by unfold madeVal; rw [if_neg (by decide), if_neg (by decide), if_neg (by decide), if_neg (by decide), if_pos rfl]; try rfl) (step_load h hok hst t ht hn a r k m hA ha hr hk m0 m1 hx)
      · exact key _ _ (hS.trans (made_end (by omega) 4 (by unfold madeFin; rw [if_pos rfl, if_neg (by exact hx)]) (by decide))) rfl (step_load_bad h hok hst t ht hn a r k m hA ha hr hk m0 m1 hx)
    have mf : ¬ (4 ≤ op ∧ op ≤ 15) → madeFin c (count s) op r k m = 0 := fun e => by unfold madeFin; rw [if_neg c17, if_neg e]
    by_cases c1 : op = 1
    · subst c1
      exact hg _ (by omega) (mf (by omega)) (by unfold madeVal; rw [if_pos rfl]; try rfl) (step_mov h hok hst t ht hn a r k m hA ha hr hk m0 m1)
    by_cases c2 : op = 2
    · subst c2
      exact hg _ (by omega) (mf (by omega)) (by unfold madeVal; rw [if_neg (by decide), if_pos rfl]; try rfl) (step_movi h hok hst t ht hn a r k m hA ha hr hk m0 m1)
    by_cases c3 : op = 3
    · subst c3
      exact hg _ (by omega) (mf (by omega)) (by unfold madeVal; rw [if_neg (by decide), if_neg (by decide), if_pos rfl]; try rfl) (step_movh h hok hst t ht hn a r k m hA ha hr hk m0 m1 (hmv rfl))
    by_cases c16 : op = 16
    · subst c16
      exact hg _ (by omega) (mf (by omega)) (by unfold madeVal AW.opN; rw [if_neg (by decide), if_neg (by decide), if_neg (by decide), if_pos rfl, if_pos rfl]; try rfl) (step_addi h hok hst t ht hn a r k m hA ha hr hk m0 m1)
    have o4 : 4 ≤ op := by omega
    have o15 : op ≤ 15 := by omega
    by_cases hB : AW.opB (op - 3) (s.R k) = true
    · exact hg _ (by omega) (by unfold madeFin; rw [if_neg c17, if_pos ⟨o4, o15⟩, if_pos (by exact hB)]) (by unfold madeVal; rw [if_neg c1, if_neg c2, if_neg c3, if_neg c16, if_neg c17]; try rfl) (step_op h hok hst t ht hn op a r k m hA ha hr hk m0 m1 o4 o15 hB)
    · exact key _ _ (hS.trans (made_end (by omega) 2 (by unfold madeFin; rw [if_neg c17, if_pos ⟨o4, o15⟩, if_neg (by exact hB)]) (by decide))) rfl (step_op_bad h hok hst t ht hn op a r k m hA ha hr hk m0 m1 o4 o15 (show _ = _ from Bool.eq_false_iff.mpr hB))
  · have hi' : isI c s = false := by simpa using hi
    exact key _ _ (by unfold M.step; rw [if_neg hi]) rfl (step_no h hst hi')
end Go.Proofs.Ytofhiooodgopeaa.V
