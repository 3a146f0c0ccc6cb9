/- The contract of (*machine).do at an out. -/
import Derived.Test.YtofhiooodgopeaaLay
import Derived.Test.YtofhiooodgopeaaLoad
import Derived.Deep.RegionLaw
namespace Go.Proofs.Ytofhiooodgopeaa.V
open Go.RowKit Go.Proofs.Ytofhiooodgopeaa.M
set_option linter.unusedVariables false
set_option linter.unusedSimpArgs false

theorem info21 : (Try.prog.info? 21).map (fun i => (i.zero, i.size, i.bytes)) = some (some (.int .i32 0), 1, 4) := by kernel_rfl
theorem info_parts {P : Program} {e : TypeId} {z : Value} {n m : Nat} (h : (P.info? e).map (fun i => (i.zero, i.size, i.bytes)) = some (some z, n, m)) : ∃ i, P.info? e = some i ∧ i.zero = some z ∧ i.size = n ∧ i.bytes = m := by
  cases hi : P.info? e with
  | none => rw [hi] at h; cases h
  | some i =>
    rw [hi] at h
    simp at h
    exact ⟨i, rfl, h.1, h.2.1, h.2.2⟩

/-- One word more, as a step of a region that draws. -/
theorem step_out {w : World} {ops : Array Oper} {o : Oper} {a : Act} {K : Act → World → Prop} {Q : Exit → Act → World → Prop} {E : Prop} (p q : Operand) (hgd : o.guard = none)
    (ho : o.op = .call { callee := .builtin .append, args := #[p, q], argTypes := #[23, 23] })
    (ob : Nat) (v : Value) (l : List Int) (hs : a.eval p = v) (hown : w.ownsRow ob 21 1 v l.length (l.map (Value.int .i32)))
    (B : Nat) (x : Int) (hx : a.eval q = .slice (some ⟨B, 0, none⟩) 1 1) (hB : w.heap[B]? = some (.cells #[.int .i32 x] 21 (0, 0)))
    (hn : l.length ≤ 1000000) (hob : ob ≤ w.heap.size)
    (h : ∀ g cap w', w'.ownsRow ob 21 1 (.slice (some ⟨g, 0, none⟩) (l.length + 1) cap) (l ++ [x]).length ((l ++ [x]).map (Value.int .i32)) → w.grownBy w' v.ownBlock → K (a.put o.dst (.slice (some ⟨g, 0, none⟩) (l.length + 1) cap)) w') :
    if Region.wanted o (yielded ops a.tmps) = true then Oper.wp Try.prog o a w K Q else E := by
  obtain ⟨i0, hi, hz0, hz1, hz2⟩ := info_parts info21
  refine step_append_lies w hgd p q 23 ho ob 21 i0 (.int .i32 0) 1 4 Try.underlying23 hi hz0 hz1 hz2 rfl (by decide) v l.length (l.map (Value.int .i32)) hs hown ⟨B, 0, none⟩ 1 1 [.int .i32 x] hx rfl (World.news_of_block hB) ?_ (by decide) (by unfold maxLen; omega) (by omega) hob _ rfl ?_
  · intro u hu; simp at hu; subst hu; rfl
  · intro g cap w' h1 h2 _ _
    refine h g cap w' ?_ h2
    simpa using h1

/-- A row of what was told is none of the machine's own blocks. -/
theorem own_ge {w : World} {ob : Nat} {e : TypeId} {z : Nat} {v : Value} {n : Nat} {xs : List Value} (h : w.ownsRow ob e z v n xs) (k : Nat) (hk : v.ownBlock = some k) : ob ≤ k ∧ k < w.heap.size := by
  rcases h.2 with ⟨rfl, _⟩ | ⟨g, cap, cur, rfl, hg, hh, _⟩
  · cases hk
  · have : g = k := by simpa [Value.ownBlock] using hk
    subst this
    refine ⟨hg, ?_⟩
    rcases Nat.lt_or_ge g w.heap.size with hlt | hge
    · exact hlt
    · rw [Array.getElem?_eq_none hge] at hh; cases hh
variable {w : World} {b mb kb ob : Nat} {c : Cf} {s : Sm} {en : Int}
/-- Behind the append the machine is seen as it was, but for the row of what was told. -/
theorem grown_cells {w1 w2 : World} {v : Value} (hob : ob ≤ w1.heap.size) (hv : ∀ k, v.ownBlock = some k → ob ≤ k) (hg : w1.grownBy w2 v.ownBlock) :
    (∀ k o, k < ob → w2.cell? ⟨k, o, none⟩ = w1.cell? ⟨k, o, none⟩) ∧ (∀ k o, k < ob → w2.frozen? ⟨k, o, none⟩ = w1.frozen? ⟨k, o, none⟩) :=
  ⟨fun k o hk => hg.cell_far ⟨k, o, none⟩ (by show k < _; omega) (fun e => by have := hv k e.symm; omega), fun k o hk => hg.frozen_far ⟨k, o, none⟩ (by show k < _; omega) (fun e => by have := hv k e.symm; omega)⟩

theorem out_cells {w1 w2 : World} {v : Value} {n : Nat} {xs : List Value} {P : Prop} (HL : Hid (Lo w b mb kb ob c s en))
    (HX : Hid (Below w.heap.size w w1 ∧ w1.ownsRow ob 21 1 v n xs ∧ P ∧ ob ≤ w1.heap.size ∧ ∀ k, v.ownBlock = some k → ob ≤ k)) (hg : w1.grownBy w2 v.ownBlock) :
    (∃ u, w2.cell? ⟨b, 19, none⟩ = some u) ∧ w2.frozen? ⟨b, 19, none⟩ = false ∧ Hid ((∀ l v, w2.ownsRow ob 21 1 v (l : List Int).length (l.map (Value.int .i32)) → Lo (w2.setCell ⟨b, 19, none⟩ v) b mb kb ob c { s with out := l } en ∧ Kp b mb kb ob w (w2.setCell ⟨b, 19, none⟩ v))) := by
  obtain ⟨hB, hown, _, hob, hge⟩ := HX.out
  have hL1 := HL.out.below hB
  have hc := grown_cells hob hge hg
  obtain ⟨u, hu, _⟩ := hL1.own
  have hu2 := (hc.1 b 19 HL.out.lb).trans hu
  refine ⟨⟨u, hu2⟩, (hc.2 b 19 HL.out.lb).trans (hL1.fz 19).1, fun l v hv => ?_⟩
  -- the machine without what it told
  have hL2 : Lo (w2.setCell ⟨b, 19, none⟩ v) b mb kb ob c { s with out := l } en := by
    have h := hL1
    exact {
      lb := h.lb, lmb := h.lmb, lkb := h.lkb, n1 := h.n1, n2 := h.n2, n3 := h.n3
      lo := by rw [set_size]; exact Nat.le_trans h.lo hg.size
      reg := fun k hk => ((set_off _ _ _ _ _ (by omega)).trans (hc.1 _ _ h.lb)).trans (h.reg k hk)
      c16 := ((set_off _ _ _ _ _ (by omega)).trans (hc.1 _ _ h.lb)).trans h.c16
      c17 := ((set_off _ _ _ _ _ (by omega)).trans (hc.1 _ _ h.lb)).trans h.c17
      c18 := ((set_off _ _ _ _ _ (by omega)).trans (hc.1 _ _ h.lb)).trans h.c18
      own := ⟨v, set_same _ _ _ _ hu2, ownsRow_setCell_below hv h.lb _⟩
      c20 := ((set_off _ _ _ _ _ (by omega)).trans (hc.1 _ _ h.lb)).trans h.c20
      c21 := ((set_off _ _ _ _ _ (by omega)).trans (hc.1 _ _ h.lb)).trans h.c21
      c22 := ((set_off _ _ _ _ _ (by omega)).trans (hc.1 _ _ h.lb)).trans h.c22
      c23 := ((set_off _ _ _ _ _ (by omega)).trans (hc.1 _ _ h.lb)).trans h.c23
      memc := fun k hk => ((set_blk _ _ _ _ _ _ h.n1).trans (hc.1 _ _ h.lmb)).trans (h.memc k hk)
      knc := fun k hk => (h.knc k hk).of_cells fun j _ => (set_blk _ _ _ _ _ _ h.n2).trans (hc.1 _ _ h.lkb)
      fz := fun o => by simp only [set_frozen, hc.2 _ _ h.lb, hc.2 _ _ h.lmb, hc.2 _ _ h.lkb]; exact h.fz o }
  refine ⟨hL2, ((Kp.of_below hB HL.out.lo).trans ?_).trans (Kp.set _ _ (Or.inl rfl))⟩
  exact ⟨hg.os, hg.tape, hg.output, hg.size, fun k a1 _ _ _ => hg.block k (by omega) (fun e => by have := hge k e.symm; omega)⟩

set_option maxRecDepth 100000 in
set_option maxHeartbeats 2000000 in
theorem do_out (h : Lo w b mb kb ob c s en) (hok : Ok c s) (a r k : Nat) (m : Int) (ha : a < 16) (hr : r < 16) (hk : k < 16) (m0 : -32768 ≤ m) (m1 : m ≤ 65535) (hp : 0 ≤ s.pc ∧ s.pc < c.n) (hlen : s.out.length ≤ 1000000) :
    Calls Try.prog 26 #[.pointer (some ⟨b, 0, none⟩), .agg #[.int .i64 24, .int .i64 a, .int .i64 r, .int .i64 k, .int .i64 m]] w fun e w' => e = .returned (.int .i64 (s.pc + 1)) ∧ Lo w' b mb kb ob c { s with out := s.out ++ [s.R a] } en ∧ Kp b mb kb ob w w' := by
  have ha' : (0 : Int) ≤ a ∧ (a : Int) < 16 := by omega
  have hb : b < w.heap.size := by have := h.lb; have := h.lo; omega
  have hpc1 : s.pc ≤ 16000 := by have := hok.n0; have := hok.nM; omega
  have hpc0 : 0 ≤ s.pc := hp.1
  have e16 := h.c16
  have era := h.reg a ha
  have hlo := h.lo
  have hlb := h.lb
  obtain ⟨v, e19, hown⟩ := h.own
  have f19 := (h.fz 19).1
  have hB1 : Below w.heap.size w (((w.alloc (.cells #[.int .i64 24, .int .i64 a, .int .i64 r, .int .i64 k, .int .i64 m] 57)).alloc (.cells #[.int .i32 (s.R a)] 21)).drew) := (((Below.refl _ _).alloc (Nat.le_refl _) _).alloc (by simp) _).drew
  have HO := ownsRow_below hown hB1
  have hh : (((w.alloc (.cells #[.int .i64 24, .int .i64 a, .int .i64 r, .int .i64 k, .int .i64 m] 57)).alloc (.cells #[.int .i32 (s.R a)] 21)).drew).heap[w.heap.size + 1]? = some (.cells #[.int .i32 (s.R a)] 21 (0, 0)) := by
    have hh0 : ((w.alloc (.cells #[.int .i64 24, .int .i64 a, .int .i64 r, .int .i64 k, .int .i64 m] 57)).alloc (.cells #[.int .i32 (s.R a)] 21)).heap[w.heap.size + 1]? = some (.cells #[.int .i32 (s.R a)] 21 (0, 0)) := by
      have := heap_alloc_new (w.alloc (.cells #[.int .i64 24, .int .i64 a, .int .i64 r, .int .i64 k, .int .i64 m] 57)) (.cells #[.int .i32 (s.R a)] 21)
      simpa using this
    exact hh0
  have hn : ob ≤ (((w.alloc (.cells #[.int .i64 24, .int .i64 a, .int .i64 r, .int .i64 k, .int .i64 m] 57)).alloc (.cells #[.int .i32 (s.R a)] 21)).drew).heap.size := by simp; omega
  have hge := fun k hk => (own_ge HO k hk).1
  have HL := hide h
  have HX := hide (And.intro hB1 (And.intro HO (And.intro hh (And.intro hn hge))))
  clear h hB1 HO hh hn hge hown
  generalize s.R a = x at *
  go_enter Try.func26, Try.ntmps26
  go_wp2_with fail
  go_region_law (refine step_out (.tmp 86) (.tmp 95) rfl rfl ob v s.out ?e1 ?e2 (w.heap.size + 1) x ?e3 ?e4 hlen ?e5 ?_; (case e1 => rfl); (case e2 => exact HX.out.2.1); (case e3 => rfl); (case e4 => exact HX.out.2.2.1); (case e5 => exact HX.out.2.2.2.1); intro g cap w1 hown1 hgr; obtain ⟨⟨u1, q1⟩, q2, Q3⟩ := out_cells HL HX hgr; have O1 := hide hown1; clear hown1 hgr)
  all_goals
    go_wp2_with fail
    go_ret
    exact ⟨rfl, Q3.out _ _ O1.out⟩
end Go.Proofs.Ytofhiooodgopeaa.V
