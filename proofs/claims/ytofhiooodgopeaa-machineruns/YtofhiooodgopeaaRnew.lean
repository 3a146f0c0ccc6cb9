/- The contract of the reference's New. -/
import Derived.Test.YtofhiooodgopeaaRnm
import Derived.Test.YtofhiooodgopeaaRun2
import Derived.Test.YtofhiooodgopeaaARop
import Derived.LoopTactic
import Derived.Deep.DeepCutAuto
import Derived.Deep.RegionHeldLaw
namespace Go.Proofs.Ytofhiooodgopeaa.V
open Go.RowKit Go.Proofs.Ytofhiooodgopeaa.M
set_option linter.unusedVariables false
set_option linter.unusedSimpArgs false

abbrev ncells (mb M : Nat) (l : Int) : Array Value := #[.slice none 0 0, .slice none 0 0, .slice (some ⟨mb, 0, none⟩) M M, .int .i64 l, .int .i32 0, .int .i32 0, .int .i32 0, .int .i32 0, .int .i32 0, .int .i32 0, .int .i32 0, .int .i32 0, .int .i32 0, .int .i32 0, .int .i32 0, .int .i32 0, .int .i32 0, .int .i32 0, .int .i32 0, .int .i32 0,
  .int .i64 0, .slice none 0 0, .int .i64 (-1), .int .i32 0, .int .i64 0]

set_option maxRecDepth 100000 in
theorem nm0 (W : World) (q nc M : Nat) (low : Int) (code : Nat → Int) (hq : W.heap.size = q) : Nm W ((W.alloc (.cells (madeCells #[.int .i32 0] M) 21)).alloc (.cells (ncells q M low) 45)).drew (q + 1) q (q + 1 + 1) nc M low code (fun _ => 0) 0 0 := by
  have hB : Below W.heap.size W ((W.alloc (.cells (madeCells #[.int .i32 0] M) 21)).alloc (.cells (ncells q M low) 45)).drew := (((Below.refl _ _).alloc (Nat.le_refl _) _).alloc (by simp) _).drew
  have e1 : ((W.alloc (.cells (madeCells #[.int .i32 0] M) 21)).alloc (.cells (ncells q M low) 45)).drew.heap[q + 1]? = some (.cells (ncells q M low) 45 (0, 0)) := al_new _ _ _ (by simp [hq])
  have e2 : ((W.alloc (.cells (madeCells #[.int .i32 0] M) 21)).alloc (.cells (ncells q M low) 45)).drew.heap[q]? = some (.cells (madeCells #[.int .i32 0] M) 21 (0, 0)) := (al_old _ _ _ (by simp; omega)).trans (al_new _ _ _ hq)
  have hz : ((W.alloc (.cells (madeCells #[.int .i32 0] M) 21)).alloc (.cells (ncells q M low) 45)).drew.heap.size = q + 1 + 1 := by simp [World.drew, hq]
  have c := cell_of e1
  refine ⟨hB, by omega, by omega, by omega, by omega, by omega, by omega, ⟨_, [], c 0, ⟨rfl, Or.inl ⟨rfl, rfl⟩⟩, fun j hj => absurd hj (Nat.not_lt_zero _)⟩, ⟨_, c 1, rfl, Or.inl ⟨rfl, rfl⟩⟩, c 2, c 3, fun k hk => ?_, c 20, c 21, c 22, c 23, c 24, fun k hk => (cell_of e2 k).trans (made1 M k hk), fun o => ⟨frozen_of e1 o, frozen_of e2 o⟩⟩
  rw [c (4 + k)]
  have : k = 0 ∨ k = 1 ∨ k = 2 ∨ k = 3 ∨ k = 4 ∨ k = 5 ∨ k = 6 ∨ k = 7 ∨ k = 8 ∨ k = 9 ∨ k = 10 ∨ k = 11 ∨ k = 12 ∨ k = 13 ∨ k = 14 ∨ k = 15 := by omega
  rcases this with rfl | rfl | rfl | rfl | rfl | rfl | rfl | rfl | rfl | rfl | rfl | rfl | rfl | rfl | rfl | rfl <;> rfl
/-- The memory in the midst. -/
def memk (code : Nat → Int) (k : Nat) : Nat → Int := fun j => if j < k then wrap32 (code j) else 0
theorem memk_next (code : Nat → Int) (k : Nat) : upd (memk code k) k (wrap32 (code k)) = memk code (k + 1) := by
  funext j
  unfold upd memk
  by_cases e : j = k
  · subst e; rw [if_pos rfl, if_pos (by omega)]
  · rw [if_neg e]
    by_cases f : j < k
    · rw [if_pos f, if_pos (by omega)]
    · rw [if_neg f, if_neg (by omega)]
def memd (nc : Nat) (code data : Nat → Int) (i : Nat) : Nat → Int := mem0 nc i code data
theorem memd_zero (nc : Nat) (code data : Nat → Int) : memd nc code data 0 = memk code nc := by
  funext j
  unfold memd mem0 memk
  by_cases f : j < nc
  · rw [if_pos f, if_pos f]
  · rw [if_neg f, if_neg f, if_neg (by omega)]
theorem memd_next (nc : Nat) (code data : Nat → Int) (i : Nat) : upd (memd nc code data i) (nc + i) (data i) = memd nc code data (i + 1) := by
  funext j
  unfold upd memd mem0
  by_cases e : j = nc + i
  · subst e; rw [if_pos rfl, if_neg (by omega), if_pos (by omega), show nc + i - nc = i by omega]
  · rw [if_neg e]
    by_cases f : j < nc
    · rw [if_pos f, if_pos f]
    · rw [if_neg f, if_neg f]
      by_cases g : j < nc + i
      · rw [if_pos g, if_pos (by omega)]
      · rw [if_neg g, if_neg (by omega)]
theorem info57' : (Try.prog.info? 57).map (fun i => (i.zero, i.size, i.bytes)) = some (some (.agg #[.int .i64 0, .int .i64 0, .int .i64 0, .int .i64 0, .int .i64 0]), 5, 40) := by kernel_rfl
theorem info4 : (Try.prog.info? 4).map (fun i => (i.zero, i.size, i.bytes)) = some (some (.bool false), 1, 1) := by kernel_rfl
/-- One instruction more, as a step of a region that draws. -/
theorem step_code {w : World} {ops : Array Oper} {o : Oper} {a : Act} {K : Act → World → Prop} {Q : Exit → Act → World → Prop} {E : Prop} (p q : Operand) (hgd : o.guard = none)
    (ho : o.op = .call { callee := .builtin .append, args := #[p, q], argTypes := #[42, 42] })
    (ob : Nat) (v : Value) (n : Nat) (L : List Value) (hs : a.eval p = v) (hown : w.ownsRow ob 57 5 v n L)
    (B : Nat) (z0 z1 z2 z3 z4 : Int) (hx : a.eval q = .slice (some ⟨B, 0, none⟩) 1 1) (hB : w.heap[B]? = some (.cells #[.int .i64 z0, .int .i64 z1, .int .i64 z2, .int .i64 z3, .int .i64 z4] 57 (0, 0)))
    (hn : n ≤ 16000) (hob : ob ≤ w.heap.size)
    (h : ∀ g cap w', w'.ownsRow ob 57 5 (.slice (some ⟨g, 0, none⟩) (n + 1) cap) (n + 1) (L ++ [.int .i64 z0, .int .i64 z1, .int .i64 z2, .int .i64 z3, .int .i64 z4]) → w.grownBy w' v.ownBlock → K (a.put o.dst (.slice (some ⟨g, 0, none⟩) (n + 1) cap)) w') :
    if Region.wanted o (yielded ops a.tmps) = true then Oper.wp Try.prog o a w K Q else E := by
  obtain ⟨i0, hi, hz0, hz1, hz2⟩ := info_parts info57'
  refine step_append_lies w hgd p q 42 ho ob 57 i0 _ 5 40 Try.underlying42 hi hz0 hz1 hz2 rfl (by decide) v n L hs hown ⟨B, 0, none⟩ 1 1 [.int .i64 z0, .int .i64 z1, .int .i64 z2, .int .i64 z3, .int .i64 z4] hx rfl (World.news_of_block hB) ?_ (by decide) (by unfold maxLen; omega) (by omega) hob _ rfl ?_
  · intro u hu; simp at hu; rcases hu with rfl | rfl | rfl | rfl | rfl <;> rfl
  · intro g cap w' h1 h2 _ _
    exact h g cap w' h1 h2
theorem list_is {w : World} {ops : Array Oper} {rest : List Oper} {o : Oper} {a : Act} {Q : Exit → Act → World → Prop} (p q : Operand) (hgd : o.guard = none)
    (ho : o.op = .call { callee := .builtin .append, args := #[p, q], argTypes := #[43, 43] })
    (ob : Nat) (v : Value) (n : Nat) (L : List Value) (hs : a.eval p = v) (hown : w.ownsRow ob 4 1 v n L)
    (B : Nat) (x : Bool) (hx : a.eval q = .slice (some ⟨B, 0, none⟩) 1 1) (hB : w.heap[B]? = some (.cells #[.bool x] 4 (0, 0)))
    (hn : n ≤ 16000) (hob : ob ≤ w.heap.size)
    (h : ∀ g cap w', w'.ownsRow ob 4 1 (.slice (some ⟨g, 0, none⟩) (n + 1) cap) (n + 1) (L ++ [.bool x]) → w.grownBy w' v.ownBlock → wpList Try.prog ops Q rest (a.put o.dst (.slice (some ⟨g, 0, none⟩) (n + 1) cap)) w') :
    wpList Try.prog ops Q (o :: rest) a w := by
  obtain ⟨i0, hi, hz0, hz1, hz2⟩ := info_parts info4
  refine wpList_append_lies w hgd p q 43 ho ob 4 i0 (.bool false) 1 1 Try.underlying43 hi hz0 hz1 hz2 rfl (by decide) v n L hs hown ⟨B, 0, none⟩ 1 1 [.bool x] hx rfl (World.news_of_block hB) ?_ (by decide) (by unfold maxLen; omega) (by omega) hob w.heap.size rfl ?_
  · intro u hu; simp at hu; subst hu; rfl
  · intro g cap w' h1 h2 _ _
    exact h g cap w' h1 h2

set_option maxRecDepth 100000 in
set_option maxHeartbeats 2000000 in
theorem new_any (cb co nc cc nd cd M : Nat) (da : Option Addr) (code data : Nat → Int) (w : World) (h1 : 1 ≤ nc) (h2 : nc ≤ 6000) (h3 : M ≤ 16000) (h4 : nc + nd + 16 ≤ M)
    (hcb : cb < w.heap.size) (hcode : ∀ k, k < nc → w.cell? ⟨cb, co + k, none⟩ = some (.int .u32 (code k))) (hc32 : ∀ k, k < nc → 0 ≤ code k ∧ code k ≤ 4294967295)
    (hdata : 0 < nd → ∃ db do', da = some ⟨db, do', none⟩ ∧ db < w.heap.size ∧ ∀ k, k < nd → w.cell? ⟨db, do' + k, none⟩ = some (.int .i32 (data k))) :
    Calls Try.prog 16 #[.agg #[.slice (some ⟨cb, co, none⟩) nc cc, .slice da nd cd, .int .i64 M]] w fun e w' => ∃ b mb kc ki p1 p2, e = .returned (.pointer (some ⟨b, 0, none⟩)) ∧ Below w.heap.size w w' ∧ w.heap.size ≤ b ∧ w.heap.size ≤ mb
      ∧ Rl w' b mb kc ki w'.heap.size p1 p2 (cf nc nd M code) (sm0 nc nd M code data) (-1) := by
  have mk1 := make23 M h3
  have hlw : IntKind.i64.wrap (↑nc + ↑nd) = (nc : Int) + nd := by rw [IntKind.wrap_i64]; omega
  go_enter Try.func16, Try.ntmps16
  go_wp2_with fail
  have hW0 : ∀ o, (w.alloc (.cells #[.slice (some ⟨cb, co, none⟩) nc cc, .slice da nd cd, .int .i64 M] 25)).cell? ⟨w.heap.size, o, none⟩ = (#[Value.slice (some ⟨cb, co, none⟩) nc cc, .slice da nd cd, .int .i64 M])[o]? := fun o => World.cell?_alloc_at _ _ _ _ rfl
  have hBW : Below w.heap.size w (w.alloc (.cells #[.slice (some ⟨cb, co, none⟩) nc cc, .slice da nd cd, .int .i64 M] 25)) := (Below.refl _ _).alloc (Nat.le_refl _) _
  have hW1 : (w.alloc (.cells #[.slice (some ⟨cb, co, none⟩) nc cc, .slice da nd cd, .int .i64 M] 25)).heap.size = w.heap.size + 1 := by simp
  generalize w.alloc (.cells #[.slice (some ⟨cb, co, none⟩) nc cc, .slice da nd cd, .int .i64 M] 25) = W at *
  go_region_held (fun w' => ∀ o, w'.cell? ⟨w.heap.size, o, none⟩ = (#[Value.slice (some ⟨cb, co, none⟩) nc cc, .slice da nd cd, .int .i64 M])[o]?) (first | exact hW0 | exact fun o => (World.cell?_alloc_past _ _ _ (by omega)).trans (hW0 o) | exact fun o => (World.cell?_alloc_past _ _ _ (by simp; omega)).trans ((World.cell?_alloc_past _ _ _ (by omega)).trans (hW0 o))) (fail)
  have hN := nm0 W (w.heap.size + 1) nc M (↑nc + ↑nd) code hW1
  have HC : Hid (∀ (w' : World), Below W.heap.size W w' → ∀ k, k < nc → w'.cell? ⟨cb, co + k, none⟩ = some (.int .u32 (code k))) := fun w' hb k hk => (hb.cell (p := ⟨cb, co + k, none⟩) (by show cb < _; omega)).trans ((hBW.cell (p := ⟨cb, co + k, none⟩) hcb).trans (hcode k hk))
  have HBX : Hid (∀ (w' : World), Below W.heap.size W w' → ∀ o, w'.cell? ⟨w.heap.size, o, none⟩ = (#[Value.slice (some ⟨cb, co, none⟩) nc cc, .slice da nd cd, .int .i64 M])[o]?) := fun w' hb o => (hb.cell (p := ⟨w.heap.size, o, none⟩) (by show w.heap.size < _; omega)).trans (hW0 o)
  have HW := hide (And.intro hBW hdata)
  have HN := hide hN
  clear hN hBW hW0 hcode hdata mk1
  generalize ((W.alloc (.cells (madeCells #[.int .i32 0] M) 21)).alloc (.cells (ncells (w.heap.size + 1) M (↑nc + ↑nd)) 45)).drew = X at *
  generalize hbb : w.heap.size + 1 + 1 = b at *
  generalize hmb : w.heap.size + 1 = mb at *
  go_wp2_with fail
  go_loopw [4] (fun i wr => ∃ k : Nat, k ≤ nc ∧ i = .int .i64 k ∧ Hid (Nm W wr b mb (b + 1) nc M (↑nc + ↑nd) code (memk code k) k k)) (fun i _ => nc - (intOf i).toNat)
  case atStart => exact ⟨0, Nat.zero_le _, rfl, HN⟩
  case round =>
    obtain ⟨k, hk, rfl, HK⟩ := hrel
    have hbox := HBX.out wr HK.out.below
    by_cases hlt : k < nc
    · have hlt' : (k : Int) < nc := by omega
      have hidx : (0 : Int) ≤ k ∧ (k : Int) < nc := by omega
      have hidx2 : (0 : Int) ≤ k ∧ (k : Int) < M := by omega
      have r1 := HC.out wr HK.out.below k hlt
      have hcv := hc32 k hlt
      have hdec := fun w' => rdecode_any (code k) w' hcv.1 hcv.2
      go_wp2_with fail
      go_at_call 20
      refine (hdec _).mono ?_
      rintro e w1 ⟨z0, z1, z2, z3, z4, rfl, hz, hb1⟩
      go_wp2_with fail
      have hBV : Below w1.heap.size w1 (w1.alloc (.cells #[.int .i64 z0, .int .i64 z1, .int .i64 z2, .int .i64 z3, .int .i64 z4] 57)) := (Below.refl _ _).alloc (Nat.le_refl _) _
      have y : ∀ o, (w1.alloc (.cells #[.int .i64 z0, .int .i64 z1, .int .i64 z2, .int .i64 z3, .int .i64 z4] 57)).cell? ⟨w1.heap.size, o, none⟩ = (#[Value.int .i64 z0, .int .i64 z1, .int .i64 z2, .int .i64 z3, .int .i64 z4])[o]? := fun o => World.cell?_alloc_at _ _ _ _ rfl
      have hNV := (HK.out.next hb1).next hBV
      have hzV : (w1.alloc (.cells #[.int .i64 z0, .int .i64 z1, .int .i64 z2, .int .i64 z3, .int .i64 z4] 57)).heap.size = w1.heap.size + 1 := by simp
      clear r1 hbox hBV HK hb1 hdec
      generalize w1.alloc (.cells #[.int .i64 z0, .int .i64 z1, .int .i64 z2, .int .i64 z3, .int .i64 z4] 57) = V at *
      obtain ⟨v, L, e0, HO, HI⟩ := hNV.y0
      have f0 := (hNV.fz 0).1
      have hbV : b < w1.heap.size + 1 := by have := hNV.lb; have := hNV.lo; omega
      have hB1 : Below V.heap.size V (V.alloc (.cells #[.int .i64 z0, .int .i64 z1, .int .i64 z2, .int .i64 z3, .int .i64 z4] 57)).drew := ((Below.refl _ _).alloc (Nat.le_refl _) _).drew
      have hh : (V.alloc (.cells #[.int .i64 z0, .int .i64 z1, .int .i64 z2, .int .i64 z3, .int .i64 z4] 57)).drew.heap[w1.heap.size + 1]? = some (.cells #[.int .i64 z0, .int .i64 z1, .int .i64 z2, .int .i64 z3, .int .i64 z4] 57 (0, 0)) := al_new V (.cells #[.int .i64 z0, .int .i64 z1, .int .i64 z2, .int .i64 z3, .int .i64 z4] 57) _ hzV
      have HN2 := hide (And.intro (hNV.next hB1) (And.intro (ownsRow_below HO hB1) (And.intro hh (hNV.next hB1).lo)))
      have HI2 := hide (HI.next HO.1 z0 z1 z2 z3 z4 hz)
      clear hNV HO HI hB1 hh hz
      go_cut [6] from 20 to 68 (fun v6 wx => v6 = .bool (decide (dck (code k) = 0)) ∧ Hid (Nm W wx b mb (b + 1) nc M (↑nc + ↑nd) code (memk code k) (k + 1) k))
      case first =>
        go_region_law (refine step_code (.tmp 40) (.tmp 42) rfl rfl (b + 1) v k L ?e1 ?e2 (w1.heap.size + 1) z0 z1 z2 z3 z4 ?e3 ?e4 (by omega) ?e5 ?_; (case e1 => rfl); (case e2 => exact HN2.out.2.1); (case e3 => rfl); (case e4 => exact HN2.out.2.2.1); (case e5 => exact HN2.out.2.2.2); intro g cap w2 hown hgr; obtain ⟨⟨u1, q1⟩, q2, Q3⟩ := HN2.out.1.app0 HN2.out.2.1 hgr; have O1 := hide hown; clear hown hgr)
        all_goals
          go_wp2_with fail
          go_meet
          case rel => exact ⟨rfl, Q3.out _ _ _ O1.out HI2.out⟩
      case rest =>
        obtain ⟨rfl, HK⟩ := hcut
        clear e0 f0 y hzV hbV HN2 HI2
        obtain ⟨v1, e1, HO⟩ := HK.out.y1
        have f1 := (HK.out.fz 1).1
        have hbV : b < wc.heap.size := by have := HK.out.lb; have := HK.out.lo; omega
        have hB1 : Below wc.heap.size wc (wc.alloc (.cells #[.bool (decide (dck (code k) = 0))] 4)) := (Below.refl _ _).alloc (Nat.le_refl _) _
        have HN3 := hide (And.intro (HK.out.next hB1) (And.intro (ownsRow_below HO hB1) (And.intro (heap_alloc_new wc (.cells #[.bool (decide (dck (code k) = 0))] 4)) (HK.out.next hB1).lo)))
        clear HO hB1
        go_wp2_with (at_builtin; refine list_is _ _ rfl rfl (b + 1) v1 k (Truths code k) ?e1 ?e2 wc.heap.size (decide (dck (code k) = 0)) ?e3 ?e4 (by omega) ?e5 ?_; (case e1 => rfl); (case e2 => exact HN3.out.2.1); (case e3 => rfl); (case e4 => exact HN3.out.2.2.1); (case e5 => exact HN3.out.2.2.2); intro g cap w2 hown hgr; obtain ⟨⟨u1, q1⟩, q2, Q3⟩ := HN3.out.1.app1 HN3.out.2.1 hgr; have O1 := hide hown; clear hown hgr)
        have hN4 := Q3.out (.slice (some ⟨g, 0, none⟩) (k + 1) cap) (k + 1) (by rw [Truths.next]; exact O1.out)
        clear Q3 O1 q1 q2 HN3 e1 f1 HK hbV
        generalize w2.setCell ⟨b, 1, none⟩ (.slice (some ⟨g, 0, none⟩) (k + 1) cap) = Y at *
        have hbox := HBX.out Y hN4.below
        have r1 := HC.out Y hN4.below k hlt
        have x2 := hN4.x2
        have mk := hN4.memc k (by omega)
        have fk := (hN4.fz k).2
        have hwd := fun w' => AW.word_any (code k) w' hcv.1 hcv.2
        have hcw : IntKind.i64.wrap (code k) = code k := by rw [IntKind.wrap_i64]; omega
        have n1 := hN4.n1
        have HN5 : Hid (Nm W (Y.setCell ⟨mb, k, none⟩ (.int .i32 (wrap32 (code k)))).drew b mb (b + 1) nc M (↑nc + ↑nd) code (memk code (k + 1)) (k + 1) (k + 1)) := by
          show Nm _ _ _ _ _ _ _ _ _ _ _ _
          rw [← memk_next]
          exact (hN4.setMem k _ (by omega)).next ((Below.refl _ _).drew)
        clear hN4
        go_region_held (fun w' => w'.cell? ⟨b, 2, none⟩ = some (.slice (some ⟨mb, 0, none⟩) M M) ∧ w'.cell? ⟨cb, co + k, none⟩ = some (.int .u32 (code k)) ∧ ∀ o, w'.cell? ⟨w.heap.size, o, none⟩ = (#[Value.slice (some ⟨cb, co, none⟩) nc cc, .slice da nd cd, .int .i64 M])[o]?)
          (first | exact ⟨x2, r1, hbox⟩ | exact ⟨(set_blk _ _ _ _ _ _ (Ne.symm n1)).trans x2, (set_blk _ _ _ _ _ _ (by omega)).trans r1, fun o => (set_blk _ _ _ _ _ _ (by omega)).trans (hbox o)⟩) ((go_at_call 21; refine (hwd _).mono ?_; rintro e w4 ⟨rfl, rfl⟩))
        go_wp2_with fail
        go_roundw
        case rel => exact ⟨k + 1, by omega, by go_num, HN5⟩
        case measure => simp [intOf]; omega
    · have hkn : k = nc := by omega
      subst hkn
      have hlt' : ¬ (k : Int) < k := by omega
      have HK0 : Hid (Nm W wr b mb (b + 1) k M (↑k + ↑nd) code (memd k code data 0) k k) := by rw [memd_zero]; exact HK
      clear HK HN
      go_wp2_with fail
      clear hbox
      go_loopw [7] (fun i wr => ∃ j : Nat, j ≤ nd ∧ i = .int .i64 j ∧ Hid (Nm W wr b mb (b + 1) k M (↑k + ↑nd) code (memd k code data j) k k)) (fun i _ => nd - (intOf i).toNat)
      case atStart => exact ⟨0, Nat.zero_le _, rfl, HK0⟩
      case round =>
        clear HK0
        obtain ⟨j, hj, rfl, HK⟩ := hrel
        have hbox := HBX.out wr HK.out.below
        by_cases hlj : j < nd
        · have hlj' : (j : Int) < nd := by omega
          have hidx : (0 : Int) ≤ j ∧ (j : Int) < nd := by omega
          have hidx2 : (0 : Int) ≤ ↑k + ↑j ∧ (k : Int) + j < M := by omega
          obtain ⟨db, do', rfl, d2, d3⟩ := HW.out.2 (by omega)
          have r1 : wr.cell? ⟨db, do' + j, none⟩ = some (.int .i32 (data j)) := (HK.out.below.cell (p := ⟨db, do' + j, none⟩) (by show db < _; omega)).trans ((HW.out.1.cell (p := ⟨db, do' + j, none⟩) d2).trans (d3 j hlj))
          have x2 := HK.out.x2
          have mk := HK.out.memc (k + j) (by omega)
          have fk := (HK.out.fz (k + j)).2
          have n1 := HK.out.n1
          have hjw : IntKind.i64.wrap (↑k + ↑j) = (k : Int) + j := by rw [IntKind.wrap_i64]; omega
          have htn : ((k : Int) + j).toNat = k + j := by omega
          have HN5 : Hid (Nm W (wr.setCell ⟨mb, k + j, none⟩ (.int .i32 (data j))).drew b mb (b + 1) k M (↑k + ↑nd) code (memd k code data (j + 1)) k k) := by
            show Nm _ _ _ _ _ _ _ _ _ _ _ _
            rw [← memd_next]
            exact (HK.out.setMem (k + j) _ (by omega)).next ((Below.refl _ _).drew)
          clear HK
          go_wp2_with fail
          go_region_held (fun w' => w'.cell? ⟨b, 2, none⟩ = some (.slice (some ⟨mb, 0, none⟩) M M) ∧ w'.cell? ⟨db, do' + j, none⟩ = some (.int .i32 (data j)) ∧ ∀ o, w'.cell? ⟨w.heap.size, o, none⟩ = (#[Value.slice (some ⟨cb, co, none⟩) k cc, .slice (some ⟨db, do', none⟩) nd cd, .int .i64 M])[o]?)
            (first | exact ⟨x2, r1, hbox⟩ | exact ⟨(set_blk _ _ _ _ _ _ (Ne.symm n1)).trans x2, (set_blk _ _ _ _ _ _ (by omega)).trans r1, fun o => (set_blk _ _ _ _ _ _ (by omega)).trans (hbox o)⟩) (fail)
          go_wp2_with fail
          go_roundw
          case rel => exact ⟨j + 1, by omega, by go_num, HN5⟩
          case measure => simp [intOf]; omega
        · have hjn : j = nd := by omega
          subst hjn
          have hlj' : ¬ (j : Int) < j := by omega
          have hMw : IntKind.i32.wrap (↑M) = (M : Int) := by rw [IntKind.wrap_i32]; omega
          obtain ⟨kc, ki, p1, p2, hR⟩ := HK.out.rl (by omega)
          have r17 : wr.cell? ⟨b, 17, none⟩ = some (.int .i32 0) := hR.reg 13 (by omega)
          have f17 := (hR.fz 17).1
          have hsz : b < wr.heap.size := hR.lb
          have hRE := (hR.setR 13 M (by omega)).below ((Below.refl _ _).drew)
          have HB := hide HK.out.below
          have HG := hide (And.intro HK.out.gb HK.out.gm)
          have HR := hide hRE
          clear hR hRE HK
          go_wp2_with fail
          go_region_held (fun w' => ∀ o, w'.cell? ⟨w.heap.size, o, none⟩ = (#[Value.slice (some ⟨cb, co, none⟩) k cc, .slice da j cd, .int .i64 M])[o]?) (first | exact hbox | exact fun o => (set_blk _ _ _ _ _ _ (by omega)).trans (hbox o)) (fail)
          go_wp2_with fail
          go_ret
          have hbs := HB.out.size
          refine ⟨b, mb, kc, ki, p1, p2, rfl, HW.out.1.trans (((HB.out.mono (by omega)).setCell (by show w.heap.size ≤ b; omega) _).drew), by omega, by omega, ?_⟩
          have e : ((wr.setCell ⟨b, 17, none⟩ (.int .i32 M)).drew).heap.size = wr.heap.size := set_size _ _ _
          rw [e]
          exact HR.out
end Go.Proofs.Ytofhiooodgopeaa.V
