/- The contract of machine.Check. -/
import Derived.Test.YtofhiooodgopeaaGoOn
import Derived.Laws.MakeOwn
import Derived.Laws.CopyOwn
import Derived.Deep.DeepCutAuto
namespace Go.Proofs.Ytofhiooodgopeaa.V
open Go.RowKit Go.Proofs.Ytofhiooodgopeaa.M
set_option linter.unusedVariables false
set_option linter.unusedSimpArgs false

/-- May an image be of so many words of Code and of Data, and so much memory? -/
def mayB (nc nd : Nat) (M : Int) : Bool := decide (1 ≤ nc ∧ nc ≤ 6000 ∧ 32 ≤ M ∧ M ≤ 16000 ∧ (nc : Int) + nd ≤ M - 16)
def chk (nc nd : Nat) (M : Int) : Int := if mayB nc nd M then 0 else 1

set_option maxRecDepth 100000 in
set_option maxHeartbeats 1000000 in
theorem check_img (ca da : Option Addr) (nc cc nd cd : Nat) (M : Int) (w : World) (hc : nc ≤ 140737488355328) (hd : nd ≤ 140737488355328) (M0 : -9223372036854775808 ≤ M) (M1 : M ≤ 9223372036854775807) :
    Calls Try.prog 7 #[.agg #[.slice ca nc cc, .slice da nd cd, .int .i64 M]] w fun e w' => e = .returned (.int .i64 (chk nc nd M)) ∧ Below w.heap.size w w' := by
  have hB : Below w.heap.size w (w.alloc (.cells #[.slice ca nc cc, .slice da nd cd, .int .i64 M] 25)) := (Below.refl _ _).alloc (Nat.le_refl _) _
  have hbad : mayB nc nd M = false → chk nc nd M = 1 := fun h => by unfold chk; rw [h]; rfl
  have hgood : mayB nc nd M = true → chk nc nd M = 0 := fun h => by unfold chk; rw [h]; rfl
  by_cases h1 : (nc : Int) < 1
  · rw [hbad (by unfold mayB; simp; omega)]
    go_enter Try.func7, Try.ntmps7
    go_wp2
    go_ret
    exact ⟨rfl, hB⟩
  by_cases h2 : (6000 : Int) < nc
  · rw [hbad (by unfold mayB; simp; omega)]
    go_enter Try.func7, Try.ntmps7
    go_wp2
    go_ret
    exact ⟨rfl, hB⟩
  by_cases h3 : M < 32
  · rw [hbad (by unfold mayB; simp; omega)]
    go_enter Try.func7, Try.ntmps7
    go_wp2
    go_ret
    exact ⟨rfl, hB⟩
  by_cases h4 : 16000 < M
  · rw [hbad (by unfold mayB; simp; omega)]
    go_enter Try.func7, Try.ntmps7
    go_wp2
    go_ret
    exact ⟨rfl, hB⟩
  by_cases h5 : M - 16 < (nc : Int) + nd
  · rw [hbad (by unfold mayB; simp; omega)]
    go_enter Try.func7, Try.ntmps7
    go_wp2
    go_ret
    exact ⟨rfl, hB⟩
  · rw [hgood (by unfold mayB; simp; omega)]
    go_enter Try.func7, Try.ntmps7
    go_wp2
    go_ret
    exact ⟨rfl, hB⟩
end Go.Proofs.Ytofhiooodgopeaa.V

namespace Go.Proofs.Ytofhiooodgopeaa.V
open Go.RowKit Go.Proofs.Ytofhiooodgopeaa.M
set_option linter.unusedVariables false
set_option linter.unusedSimpArgs false

theorem info57 : (Try.prog.info? 57).map (fun i => (i.zero, i.size, i.bytes)) = some (some (.agg #[.int .i64 0, .int .i64 0, .int .i64 0, .int .i64 0, .int .i64 0]), 5, 40) := by kernel_rfl
theorem make23 (M : Nat) (hM : M ≤ 16000) (w : World) : (Instr.makeSlice 23 (.int .i64 M) (.int .i64 M)).run Try.prog w = .ok (.slice (some ⟨w.heap.size, 0, none⟩) M M) (w.alloc (.cells (madeCells #[.int .i32 0] M) 21)) := by
  obtain ⟨i0, hi, hz0, hz1, hz2⟩ := info_parts info21
  have := run_make (P := Try.prog) w 23 21 i0 (.int .i32 0) Try.underlying23 hi hz0 .i64 .i64 M M (by omega) (by omega) (by rw [hz2]; omega) (by omega)
  rw [hz1, Int.toNat_natCast, Nat.mul_one] at this
  exact this
theorem make42 (n : Nat) (hn : n ≤ 16000) (w : World) : (Instr.makeSlice 42 (.int .i64 n) (.int .i64 n)).run Try.prog w = .ok (.slice (some ⟨w.heap.size, 0, none⟩) n n) (w.alloc (.cells (madeCells #[.int .i64 0, .int .i64 0, .int .i64 0, .int .i64 0, .int .i64 0] (n * 5)) 57)) := by
  obtain ⟨i0, hi, hz0, hz1, hz2⟩ := info_parts info57
  have := run_make (P := Try.prog) w 42 57 i0 _ Try.underlying42 hi hz0 .i64 .i64 n n (by omega) (by omega) (by rw [hz2]; omega) (by omega)
  rw [hz1, Int.toNat_natCast] at this
  exact this
theorem made1 (M k : Nat) (hk : k < M) : (madeCells #[Value.int .i32 0] M)[k]? = some (.int .i32 0) := by
  simp [madeCells, hk, Nat.mod_one]
theorem made5 (n k : Nat) (hk : k < n * 5) : (madeCells #[Value.int .i64 0, .int .i64 0, .int .i64 0, .int .i64 0, .int .i64 0] (n * 5))[k]? = some (.int .i64 0) := by
  simp [madeCells, hk]
  have : k % 5 = 0 ∨ k % 5 = 1 ∨ k % 5 = 2 ∨ k % 5 = 3 ∨ k % 5 = 4 := by omega
  rcases this with h | h | h | h | h <;> rw [h] <;> rfl

/-- The cells of a machine ahead of the first step, without the word of 13. -/
abbrev mcells (mb kb M n : Nat) (l : Int) : Array Value := #[.int .i32 0, .int .i32 0, .int .i32 0, .int .i32 0, .int .i32 0, .int .i32 0, .int .i32 0, .int .i32 0, .int .i32 0, .int .i32 0, .int .i32 0, .int .i32 0, .int .i32 0, .int .i32 0, .int .i32 0, .int .i32 0,
  .int .i64 0, .int .i64 0, .int .i32 0, .slice none 0 0, .int .i64 0, .slice (some ⟨mb, 0, none⟩) M M, .slice (some ⟨kb, 0, none⟩) n n, .int .i64 l]
/-- The three new blocks of a machine. -/
structure Bg (W wx : World) (b mb kb M n : Nat) (l : Int) : Prop where
  below : Below W.heap.size W wx
  gb : W.heap.size ≤ b
  gm : W.heap.size ≤ mb
  gk : W.heap.size ≤ kb
  n1 : b ≠ mb
  n2 : b ≠ kb
  n3 : mb ≠ kb
  hb : wx.heap[b]? = some (.cells (mcells mb kb M n l) 50 (0, 0))
  hm : wx.heap[mb]? = some (.cells (madeCells #[.int .i32 0] M) 21 (0, 0))
  hk : wx.heap[kb]? = some (.cells (madeCells #[.int .i64 0, .int .i64 0, .int .i64 0, .int .i64 0, .int .i64 0] (n * 5)) 57 (0, 0))

theorem al_new (W : World) (o : Obj) (q : Nat) (hq : W.heap.size = q) : (W.alloc o).heap[q]? = some o := by subst hq; exact heap_alloc_new W o
theorem al_old (W : World) (o : Obj) (k : Nat) (hk : k < W.heap.size) : (W.alloc o).heap[k]? = W.heap[k]? := Below.heap_alloc W o k hk
theorem al_size (W : World) (o : Obj) : (W.alloc o).heap.size = W.heap.size + 1 := by simp
theorem three (W : World) (q : Nat) (hq : W.heap.size = q) (o0 o1 o2 : Obj) : (((W.alloc o0).alloc o1).alloc o2).drew.heap[q]? = some o0 ∧ (((W.alloc o0).alloc o1).alloc o2).drew.heap[q + 1]? = some o1 ∧ (((W.alloc o0).alloc o1).alloc o2).drew.heap[q + 1 + 1]? = some o2
    ∧ Below W.heap.size W (((W.alloc o0).alloc o1).alloc o2).drew := by
  subst hq
  refine ⟨?_, ?_, ?_, ((((Below.refl _ _).alloc (Nat.le_refl _) _).alloc (by simp) _).alloc (by simp; omega) _).drew⟩
  · show (((W.alloc o0).alloc o1).alloc o2).heap[W.heap.size]? = _
    rw [al_old _ _ _ (by simp; omega), al_old _ _ _ (by simp), al_new _ _ _ rfl]
  · show (((W.alloc o0).alloc o1).alloc o2).heap[W.heap.size + 1]? = _
    rw [al_old _ _ _ (by simp), al_new _ _ _ (by simp)]
  · show (((W.alloc o0).alloc o1).alloc o2).heap[W.heap.size + 1 + 1]? = _
    rw [al_new _ _ _ (by simp)]


/-- A block whose cells are stored one by one. -/
def fill (xs : Array Value) : Nat → List Value → Array Value
  | _, [] => xs
  | o, v :: r => fill (xs.setIfInBounds o v) (o + 1) r
theorem setCells_heap (b : Nat) (t : TypeId) (fr : Nat × Nat) : ∀ (cs : List Value) (o : Nat) (w : World) (xs : Array Value), w.heap[b]? = some (.cells xs t fr) → (w.setCells b o cs).heap[b]? = some (.cells (fill xs o cs) t fr)
  | [], _, _, _, h => h
  | v :: r, o, w, xs, h => setCells_heap b t fr r (o + 1) _ _ (by simp [World.setCell, Array.getElem?_modify, h])
theorem setCells_other (b k : Nat) (hk : k ≠ b) : ∀ (cs : List Value) (o : Nat) (w : World), (w.setCells b o cs).heap[k]? = w.heap[k]?
  | [], _, _ => rfl
  | v :: r, o, w => (setCells_other b k hk r (o + 1) _).trans (Below.heap_setCell _ _ _ _ hk)
theorem setCells_below {B : Nat} {w0 : World} (b : Nat) (hb : B ≤ b) : ∀ (cs : List Value) (o : Nat) (w : World), Below B w0 w → Below B w0 (w.setCells b o cs)
  | [], _, _, h => h
  | v :: r, o, w, h => setCells_below b hb r (o + 1) _ (h.setCell hb v)
theorem setCells_size (b : Nat) : ∀ (cs : List Value) (o : Nat) (w : World), (w.setCells b o cs).heap.size = w.heap.size
  | [], _, _ => rfl
  | v :: r, o, w => (setCells_size b r (o + 1) _).trans (set_size _ _ _)
theorem there_block {w : World} {b : Nat} {xs : Array Value} {t : TypeId} (h : w.heap[b]? = some (.cells xs t (0, 0))) (n : Nat) (hn : n = xs.size) : w.there b 0 n := fun j hj => by
  subst hn
  simp [World.cell?, World.frozen?, h, hj]
set_option maxRecDepth 100000 in
theorem fill_m (mb kb M n : Nat) (l : Int) : fill #[.int .i32 0, .int .i32 0, .int .i32 0, .int .i32 0, .int .i32 0, .int .i32 0, .int .i32 0, .int .i32 0, .int .i32 0, .int .i32 0, .int .i32 0, .int .i32 0, .int .i32 0, .int .i32 0, .int .i32 0, .int .i32 0, .int .i64 0, .int .i64 0, .int .i32 0, .slice none 0 0, .int .i64 0, .slice none 0 0, .slice none 0 0, .int .i64 0] 0 (mcells mb kb M n l).toList = mcells mb kb M n l := by simp [fill, mcells]
theorem one_m (mb kb M n : Nat) (l : Int) : (mcells mb kb M n l).all (·.oneCell') = true := by simp [mcells, Value.oneCell']
theorem info50 : (Try.prog.info? 50).map (·.size) = some 24 := by kernel_rfl
/-- The three blocks, whichever came first. -/
theorem bg_of {W wx : World} {b mb kb M n : Nat} {l : Int} (hB : Below W.heap.size W wx) (gb : W.heap.size ≤ b) (gm : W.heap.size ≤ mb) (gk : W.heap.size ≤ kb) (n1 : b ≠ mb) (n2 : b ≠ kb) (n3 : mb ≠ kb)
    (hb : wx.heap[b]? = some (.cells #[.int .i32 0, .int .i32 0, .int .i32 0, .int .i32 0, .int .i32 0, .int .i32 0, .int .i32 0, .int .i32 0, .int .i32 0, .int .i32 0, .int .i32 0, .int .i32 0, .int .i32 0, .int .i32 0, .int .i32 0, .int .i32 0, .int .i64 0, .int .i64 0, .int .i32 0, .slice none 0 0, .int .i64 0, .slice none 0 0, .slice none 0 0, .int .i64 0] 50)) (hm : wx.heap[mb]? = some (.cells (madeCells #[.int .i32 0] M) 21)) (hk : wx.heap[kb]? = some (.cells (madeCells #[.int .i64 0, .int .i64 0, .int .i64 0, .int .i64 0, .int .i64 0] (n * 5)) 57)) :
    Bg W (wx.setCells b 0 (mcells mb kb M n l).toList) b mb kb M n l where
  below := setCells_below b gb _ _ _ hB
  gb := gb
  gm := gm
  gk := gk
  n1 := n1
  n2 := n2
  n3 := n3
  hb := (setCells_heap b 50 (0, 0) _ 0 wx _ hb).trans (by rw [fill_m])
  hm := (setCells_other b mb (Ne.symm n1) _ _ _).trans hm
  hk := (setCells_other b kb (Ne.symm n2) _ _ _).trans hk
/-- The machine's own cells ahead of the first step. -/
abbrev pcells (mb kb M n : Nat) (l : Int) : Array Value := #[.int .i32 0, .int .i32 0, .int .i32 0, .int .i32 0, .int .i32 0, .int .i32 0, .int .i32 0, .int .i32 0, .int .i32 0, .int .i32 0, .int .i32 0, .int .i32 0, .int .i32 0, .int .i32 M, .int .i32 0, .int .i32 0,
  .int .i64 0, .int .i64 0, .int .i32 0, .slice none 0 0, .int .i64 0, .slice (some ⟨mb, 0, none⟩) M M, .slice (some ⟨kb, 0, none⟩) n n, .int .i64 l]
theorem one_p (mb kb M n : Nat) (l : Int) : (pcells mb kb M n l).all (·.oneCell') = true := by simp [pcells, Value.oneCell']
/-- The memory when so many words of Code were laid. -/
def memL (code : Nat → Int) (M k : Nat) : List Value := (List.range k).map (fun j => Value.int .i32 (wrap32 (code j))) ++ List.replicate (M - k) (.int .i32 0)
theorem memL_len (code : Nat → Int) (M k : Nat) (hk : k ≤ M) : (memL code M k).length = M := by simp [memL]; omega
theorem memL_zero (code : Nat → Int) (M : Nat) : madeCells #[Value.int .i32 0] M = (memL code M 0).toArray := by
  apply Array.ext
  · simp [madeCells, memL]
  · intro i h1 h2
    simp [madeCells, memL, Nat.mod_one]
theorem memL_set (code : Nat → Int) (M k : Nat) (hk : k < M) : (memL code M k).set k (.int .i32 (wrap32 (code k))) = memL code M (k + 1) := by
  have hl : ((List.range k).map (fun j => Value.int .i32 (wrap32 (code j)))).length = k := by simp
  have hr : List.replicate (M - k) (Value.int .i32 0) = .int .i32 0 :: List.replicate (M - (k + 1)) (.int .i32 0) := by
    rw [show M - k = (M - (k + 1)) + 1 by omega, List.replicate_succ]
  unfold memL
  rw [List.set_append_right _ _ (by omega), hl, Nat.sub_self, hr, List.set_cons_zero, List.range_succ, List.map_append, List.append_assoc]
  rfl
theorem memL_at (code : Nat → Int) (M k j : Nat) (hk : k ≤ M) (hj : j < M) : (memL code M k)[j]? = some (.int .i32 (if j < k then wrap32 (code j) else 0)) := by
  unfold memL
  by_cases h : j < k
  · rw [List.getElem?_append_left (by simpa using h), if_pos h]
    simp [h]
  · rw [List.getElem?_append_right (by simp; omega), if_neg h, List.getElem?_replicate, if_pos (by simp; omega)]
/-- The memory of an image ahead of the first step. -/
def mem0 (nc nd : Nat) (code data : Nat → Int) : Nat → Int := fun j => if j < nc then wrap32 (code j) else if j < nc + nd then data (j - nc) else 0
theorem mem0_at (nc nd M : Nat) (code data : Nat → Int) (h : nc + nd ≤ M) (j : Nat) (hj : j < M) :
    (splice (memL code M nc) nc ((List.range nd).map (fun i => Value.int .i32 (data i))))[j]? = some (.int .i32 (mem0 nc nd code data j)) := by
  have hl : (memL code M nc).length = M := memL_len code M nc (by omega)
  unfold splice mem0
  by_cases h1 : j < nc
  · rw [List.getElem?_append_left (by simp; omega), List.getElem?_take_of_lt h1, memL_at code M nc j (by omega) hj, if_pos h1, if_pos h1]
  · rw [List.getElem?_append_right (by simp; omega), if_neg h1]
    have ht : ((memL code M nc).take nc).length = nc := by simp; omega
    rw [ht]
    by_cases h2 : j < nc + nd
    · rw [List.getElem?_append_left (by simp; omega), if_pos h2, List.getElem?_map, List.getElem?_range (by omega)]
      rfl
    · rw [List.getElem?_append_right (by simp; omega), if_neg h2]
      simp only [List.length_map, List.length_range, List.getElem?_drop]
      rw [show nc + nd + (j - nc - nd) = j by omega, memL_at code M nc j (by omega) hj, if_neg h1]
/-- All but one block is as it was. -/
structure Only (g : Nat) (w w1 : World) : Prop where
  os : w1.os = w.os
  tape : w1.tape = w.tape
  output : w1.output = w.output
  size : w1.heap.size = w.heap.size
  block : ∀ k, k ≠ g → w1.heap[k]? = w.heap[k]?
theorem Only.cell {g : Nat} {w w1 : World} (h : Only g w w1) (k o : Nat) (hk : k ≠ g) : w1.cell? ⟨k, o, none⟩ = w.cell? ⟨k, o, none⟩ := World.cell?_of_block (a := ⟨k, o, none⟩) (h.block k hk)
theorem Only.below {B g : Nat} {w0 w w1 : World} (h : Only g w w1) (hb : Below B w0 w) (hg : B ≤ g) : Below B w0 w1 :=
  hb.trans ⟨h.os, h.tape, h.output, Nat.le_of_eq h.size.symm, fun k hk => h.block k (by omega)⟩
theorem step_copy_only {P : Program} {ops : Array Oper} {o : Oper} {a : Act} {w : World} {K : Act → World → Prop} {Q : Exit → Act → World → Prop} {E : Prop} (hgd : o.guard = none) (d s : Operand) (dT sT : TypeId)
    (ho : o.op = .call { callee := .builtin .copy, args := #[d, s], argTypes := #[dT, sT] }) (elem : TypeId) (hu : P.underlying dT = some (.slice elem)) (hsz : (P.info? elem).map (·.size) = some 1)
    (dp sp : Option Addr) (dLen dCap sLen sCap : Nat) (hd : a.eval d = .slice dp dLen dCap) (hs : a.eval s = .slice sp sLen sCap)
    (g off : Nat) (cur : List Value) (t : TypeId) (hg : w.heap[g]? = some (.cells cur.toArray t (0, 0))) (cs : List Value) (hn : cs.length = Nat.min sLen dLen)
    (hpos : 0 < cs.length → dp = some ⟨g, off, none⟩ ∧ ∃ ad, sp = some ad ∧ ∀ j v, cs[j]? = some v → w.cell? (ad.add j) = some v)
    (hfit : off + cs.length ≤ cur.length) (h1 : ∀ v ∈ cs, v.oneCell' = true)
    (h : ∀ w', Hid (w'.heap[g]? = some (.cells (splice cur off cs).toArray t (0, 0))) → Hid (Only g w w') → K (a.put o.dst (goInt cs.length)) w') :
    if Region.wanted o (yielded ops a.tmps) = true then Oper.wp P o a w K Q else E := by
  have hw : Region.wanted o (yielded ops a.tmps) = true := by simp [Region.wanted, hgd]
  rw [if_pos hw]
  by_cases h0 : cs.length = 0
  · obtain rfl : cs = [] := List.eq_nil_of_length_eq_zero h0
    have hrun := run_copy_none (P := P) w dT sT o.type elem dp sp dLen dCap sLen sCap hu hsz (by simpa using hn.symm)
    unfold Oper.wp
    simp [execOp, ho, resolve, invoke, builtin, hd, hs, hrun, Result.andThen]
    exact h w (show _ = _ by simpa [splice] using hg) ⟨rfl, rfl, rfl, rfl, fun _ _ => rfl⟩
  · obtain ⟨rfl, ad, rfl, hsrc⟩ := hpos (by omega)
    have hrun := run_copy_row (P := P) w dT sT o.type elem g off dLen dCap ad sLen sCap cur.toArray t cs hu hsz hg hn hsrc (by simpa using hfit) h1
    unfold Oper.wp
    simp [execOp, ho, resolve, invoke, builtin, hd, hs, hrun, Result.andThen]
    exact h _ (show _ = _ by simpa [splice] using setRow_heap w g _ _ t _ hg) ⟨rfl, rfl, rfl, by simp [World.setRow], fun k hk => setRow_other _ _ _ _ hk⟩
theorem results_cell {P : Program} {fn : Func} {t : Tmp} {ty : TypeId} {q : Addr} {v : Value} (h : fn.results = #[.cell t ty]) (tmps : Array Value) (ht : tmps.getD t undef = .pointer (some q)) (w : World) (hr : (loadVar ty q).run P w = .ok v w) : (results fn tmps).run P w = .ok v w := by
  have ht' : tmps[t]?.getD undef = .pointer (some q) := by simpa using ht
  simp [results, h, asAddr, ht', hr]
theorem results_cell_tmp {P : Program} {fn : Func} {t u : Tmp} {ty : TypeId} {q : Addr} {v : Value} (h : fn.results = #[.cell t ty, .tmp u]) (tmps : Array Value) (ht : tmps.getD t undef = .pointer (some q)) (w : World) (hr : (loadVar ty q).run P w = .ok v w) : (results fn tmps).run P w = .ok (.tuple #[v, tmps.getD u undef]) w := by
  have ht' : tmps[t]?.getD undef = .pointer (some q) := by simpa using ht
  simp [results, h, asAddr, ht', hr]
theorem size21 : (Try.prog.info? 21).map (·.size) = some 1 := by kernel_rfl
/-- The world in the midst of laying Code. -/
structure Bm (W wr : World) (b mb kb M n : Nat) (l : Int) (L : List Value) : Prop where
  below : Below W.heap.size W wr
  hb : wr.heap[b]? = some (.cells (mcells mb kb M n l) 50 (0, 0))
  hm : wr.heap[mb]? = some (.cells L.toArray 21 (0, 0))
  hk : wr.heap[kb]? = some (.cells (madeCells #[.int .i64 0, .int .i64 0, .int .i64 0, .int .i64 0, .int .i64 0] (n * 5)) 57 (0, 0))
theorem Bm.put {W wr : World} {b mb kb M n : Nat} {l : Int} {code : Nat → Int} {k : Nat} (h : Bm W wr b mb kb M n l (memL code M k)) (gm : W.heap.size ≤ mb) (n1 : b ≠ mb) (n3 : mb ≠ kb) (hk : k < M) :
    Bm W (wr.setCell ⟨mb, k, none⟩ (.int .i32 (wrap32 (code k)))) b mb kb M n l (memL code M (k + 1)) where
  below := h.below.setCell gm _
  hb := (Below.heap_setCell _ _ _ _ n1).trans h.hb
  hm := by
    have := h.hm
    rw [← memL_set code M k hk]
    simp [World.setCell, Array.getElem?_modify, this]
  hk := (Below.heap_setCell _ _ _ _ (Ne.symm n3)).trans h.hk
theorem cell_of {w : World} {b : Nat} {xs : Array Value} {t : TypeId} (h : w.heap[b]? = some (.cells xs t (0, 0))) (o : Nat) : w.cell? ⟨b, o, none⟩ = xs[o]? := by simp [World.cell?, h]
theorem frozen_of {w : World} {b : Nat} {xs : Array Value} {t : TypeId} (h : w.heap[b]? = some (.cells xs t (0, 0))) (o : Nat) : w.frozen? ⟨b, o, none⟩ = false := by simp [World.frozen?, h]
theorem box_alloc {w1 : World} {q : Nat} {f : Nat → Option Value} (h : ∀ o, w1.cell? ⟨q, o, none⟩ = f o) (hq : q < w1.heap.size) (x : Obj) : ∀ o, (w1.alloc x).cell? ⟨q, o, none⟩ = f o := fun o => (World.cell?_alloc_past _ _ _ hq).trans (h o)

set_option maxRecDepth 100000 in
set_option maxHeartbeats 2000000 in
theorem begun_any (cb co nc cc nd cd M : Nat) (da : Option Addr) (code data : Nat → Int) (w : World) (h1 : 1 ≤ nc) (h2 : nc ≤ 6000) (h3 : M ≤ 16000) (h4 : nc + nd + 16 ≤ M)
    (hcb : cb < w.heap.size) (hcode : ∀ k, k < nc → w.cell? ⟨cb, co + k, none⟩ = some (.int .u32 (code k))) (hc32 : ∀ k, k < nc → 0 ≤ code k ∧ code k ≤ 4294967295)
    (hdata : 0 < nd → ∃ db do', da = some ⟨db, do', none⟩ ∧ db < w.heap.size ∧ ∀ k, k < nd → w.cell? ⟨db, do' + k, none⟩ = some (.int .i32 (data k))) :
    Calls Try.prog 18 #[.agg #[.slice (some ⟨cb, co, none⟩) nc cc, .slice da nd cd, .int .i64 M]] w fun e w' => ∃ mb kb, e = .returned (.agg (pcells mb kb M nc (↑nc + ↑nd))) ∧ Below w.heap.size w w' ∧ w.heap.size ≤ mb ∧ w.heap.size ≤ kb ∧ mb ≠ kb
      ∧ (∀ k, k < M → w'.cell? ⟨mb, k, none⟩ = some (.int .i32 (mem0 nc nd code data k))) ∧ (∀ k, k < nc * 5 → w'.cell? ⟨kb, k, none⟩ = some (.int .i64 0)) ∧ (∀ o, w'.frozen? ⟨mb, o, none⟩ = false ∧ w'.frozen? ⟨kb, o, none⟩ = false) := by
  have mk1 := make23 M h3
  have mk2 := make42 nc (by omega)
  go_enter Try.func18, Try.ntmps18
  go_wp2_with fail
  have hW0 : ∀ o, ((w.alloc (.cells #[.slice (some ⟨cb, co, none⟩) nc cc, .slice da nd cd, .int .i64 M] 25)).alloc (.cells #[.int .i32 0, .int .i32 0, .int .i32 0, .int .i32 0, .int .i32 0, .int .i32 0, .int .i32 0, .int .i32 0, .int .i32 0, .int .i32 0, .int .i32 0, .int .i32 0, .int .i32 0, .int .i32 0, .int .i32 0, .int .i32 0, .int .i64 0, .int .i64 0, .int .i32 0, .slice none 0 0, .int .i64 0, .slice none 0 0, .slice none 0 0, .int .i64 0] 50)).cell? ⟨w.heap.size, o, none⟩ = (#[Value.slice (some ⟨cb, co, none⟩) nc cc, .slice da nd cd, .int .i64 M])[o]? := fun o => (World.cell?_alloc_past _ _ _ (by simp)).trans (World.cell?_alloc_at _ _ _ _ rfl)
  have hW1 : ((w.alloc (.cells #[.slice (some ⟨cb, co, none⟩) nc cc, .slice da nd cd, .int .i64 M] 25)).alloc (.cells #[.int .i32 0, .int .i32 0, .int .i32 0, .int .i32 0, .int .i32 0, .int .i32 0, .int .i32 0, .int .i32 0, .int .i32 0, .int .i32 0, .int .i32 0, .int .i32 0, .int .i32 0, .int .i32 0, .int .i32 0, .int .i32 0, .int .i64 0, .int .i64 0, .int .i32 0, .slice none 0 0, .int .i64 0, .slice none 0 0, .slice none 0 0, .int .i64 0] 50)).heap.size = w.heap.size + 1 + 1 := by simp
  have hq : w.heap.size < w.heap.size + 1 + 1 := by omega
  have hBW : Below w.heap.size w ((w.alloc (.cells #[.slice (some ⟨cb, co, none⟩) nc cc, .slice da nd cd, .int .i64 M] 25)).alloc (.cells #[.int .i32 0, .int .i32 0, .int .i32 0, .int .i32 0, .int .i32 0, .int .i32 0, .int .i32 0, .int .i32 0, .int .i32 0, .int .i32 0, .int .i32 0, .int .i32 0, .int .i32 0, .int .i32 0, .int .i32 0, .int .i32 0, .int .i64 0, .int .i64 0, .int .i32 0, .slice none 0 0, .int .i64 0, .slice none 0 0, .slice none 0 0, .int .i64 0] 50)) := ((Below.refl _ _).alloc (Nat.le_refl _) _).alloc (by simp) _
  have hW2 : ∀ o, ((w.alloc (.cells #[.slice (some ⟨cb, co, none⟩) nc cc, .slice da nd cd, .int .i64 M] 25)).alloc (.cells #[.int .i32 0, .int .i32 0, .int .i32 0, .int .i32 0, .int .i32 0, .int .i32 0, .int .i32 0, .int .i32 0, .int .i32 0, .int .i32 0, .int .i32 0, .int .i32 0, .int .i32 0, .int .i32 0, .int .i32 0, .int .i32 0, .int .i64 0, .int .i64 0, .int .i32 0, .slice none 0 0, .int .i64 0, .slice none 0 0, .slice none 0 0, .int .i64 0] 50)).cell? ⟨w.heap.size + 1, o, none⟩ = (#[.int .i32 0, .int .i32 0, .int .i32 0, .int .i32 0, .int .i32 0, .int .i32 0, .int .i32 0, .int .i32 0, .int .i32 0, .int .i32 0, .int .i32 0, .int .i32 0, .int .i32 0, .int .i32 0, .int .i32 0, .int .i32 0, .int .i64 0, .int .i64 0, .int .i32 0, .slice none 0 0, .int .i64 0, .slice none 0 0, .slice none 0 0, .int .i64 0])[o]? := fun o => World.cell?_alloc_at _ _ _ _ (by simp)
  have hW3 : ((w.alloc (.cells #[.slice (some ⟨cb, co, none⟩) nc cc, .slice da nd cd, .int .i64 M] 25)).alloc (.cells #[.int .i32 0, .int .i32 0, .int .i32 0, .int .i32 0, .int .i32 0, .int .i32 0, .int .i32 0, .int .i32 0, .int .i32 0, .int .i32 0, .int .i32 0, .int .i32 0, .int .i32 0, .int .i32 0, .int .i32 0, .int .i32 0, .int .i64 0, .int .i64 0, .int .i32 0, .slice none 0 0, .int .i64 0, .slice none 0 0, .slice none 0 0, .int .i64 0] 50)).heap[w.heap.size + 1]? = some (.cells #[.int .i32 0, .int .i32 0, .int .i32 0, .int .i32 0, .int .i32 0, .int .i32 0, .int .i32 0, .int .i32 0, .int .i32 0, .int .i32 0, .int .i32 0, .int .i32 0, .int .i32 0, .int .i32 0, .int .i32 0, .int .i32 0, .int .i64 0, .int .i64 0, .int .i32 0, .slice none 0 0, .int .i64 0, .slice none 0 0, .slice none 0 0, .int .i64 0] 50) := al_new _ _ _ (by simp)
  generalize ((w.alloc (.cells #[.slice (some ⟨cb, co, none⟩) nc cc, .slice da nd cd, .int .i64 M] 25)).alloc (.cells #[.int .i32 0, .int .i32 0, .int .i32 0, .int .i32 0, .int .i32 0, .int .i32 0, .int .i32 0, .int .i32 0, .int .i32 0, .int .i32 0, .int .i32 0, .int .i32 0, .int .i32 0, .int .i32 0, .int .i32 0, .int .i32 0, .int .i64 0, .int .i64 0, .int .i32 0, .slice none 0 0, .int .i64 0, .slice none 0 0, .slice none 0 0, .int .i64 0] 50)) = W at *
  go_cut [3] (fun v3 wx => ∃ b mb kb, v3 = .pointer (some ⟨b, 0, none⟩) ∧ Bg W wx b mb kb M nc (IntKind.i64.wrap (↑nc + ↑nd)))
  case first =>
    refine wp_region_held_drew (S := fun w' => ∀ o, w'.cell? ⟨w.heap.size, o, none⟩ = (#[Value.slice (some ⟨cb, co, none⟩) nc cc, .slice da nd cd, .int .i64 M])[o]?) (by kernel_rfl) hW0 (fun hHeld => ?_)
    refine wpAnyH_take (i := 0) (v := ?_) rfl (by kernel_rfl) (by kernel_rfl) (by kernel_rfl) (fun _ _ _ h => h) (Or.inl ⟨by rfl, ?_⟩) (by assumption) ?_
    rotate_left
    · (intro w hSw; (try dsimp only at hSw); go_simp) <;> with_reducible rfl
    (try simp only [Act.put, List.setIfInBounds_toArray, List.set_cons_zero, List.set_cons_succ])
    refine wpAnyH_take (i := 1) (v := ?_) rfl (by kernel_rfl) (by kernel_rfl) (by kernel_rfl) (fun _ _ _ h => h) (Or.inl ⟨by rfl, ?_⟩) (by assumption) ?_
    rotate_left
    · (intro w hSw; (try dsimp only at hSw); go_simp) <;> with_reducible rfl
    (try simp only [Act.put, List.setIfInBounds_toArray, List.set_cons_zero, List.set_cons_succ])
    refine wpAnyH_take (i := 3) (v := ?_) rfl (by kernel_rfl) (by kernel_rfl) (by kernel_rfl) (fun _ _ _ h => h) (Or.inl ⟨by rfl, ?_⟩) (by assumption) ?_
    rotate_left
    · (intro w hSw; (try dsimp only at hSw); go_simp) <;> with_reducible rfl
    (try simp only [Act.put, List.setIfInBounds_toArray, List.set_cons_zero, List.set_cons_succ])
    refine wpAnyH_take (i := 4) (v := ?_) rfl (by kernel_rfl) (by kernel_rfl) (by kernel_rfl) (fun _ _ _ h => h) (Or.inl ⟨by rfl, ?_⟩) (by assumption) ?_
    rotate_left
    · (intro w hSw; (try dsimp only at hSw); go_simp) <;> with_reducible rfl
    (try simp only [Act.put, List.setIfInBounds_toArray, List.set_cons_zero, List.set_cons_succ])
    refine wpAnyH_take (i := 5) (v := ?_) rfl (by kernel_rfl) (by kernel_rfl) (by kernel_rfl) (fun _ _ _ h => h) (Or.inl ⟨by rfl, ?_⟩) (by assumption) ?_
    rotate_left
    · (intro w hSw; (try dsimp only at hSw); go_simp) <;> with_reducible rfl
    (try simp only [Act.put, List.setIfInBounds_toArray, List.set_cons_zero, List.set_cons_succ])
    refine wpAnyH_take (i := 7) (v := ?_) rfl (by kernel_rfl) (by kernel_rfl) (by kernel_rfl) (fun _ _ _ h => h) (Or.inl ⟨by rfl, ?_⟩) (by assumption) ?_
    rotate_left
    · (intro w hSw; (try dsimp only at hSw); go_simp) <;> with_reducible rfl
    (try simp only [Act.put, List.setIfInBounds_toArray, List.set_cons_zero, List.set_cons_succ])
    refine wpAnyH_take (i := 8) (v := ?_) rfl (by kernel_rfl) (by kernel_rfl) (by kernel_rfl) (fun _ _ _ h => h) (Or.inl ⟨by rfl, ?_⟩) (by assumption) ?_
    rotate_left
    · (intro w hSw; (try dsimp only at hSw); go_simp) <;> with_reducible rfl
    (try simp only [Act.put, List.setIfInBounds_toArray, List.set_cons_zero, List.set_cons_succ])
    refine wpAnyH_take (i := 9) (v := ?_) rfl (by kernel_rfl) (by kernel_rfl) (by kernel_rfl) (fun _ _ _ h => h) (Or.inl ⟨by rfl, ?_⟩) (by assumption) ?_
    rotate_left
    · (intro w hSw; (try dsimp only at hSw); go_simp) <;> with_reducible rfl
    (try simp only [Act.put, List.setIfInBounds_toArray, List.set_cons_zero, List.set_cons_succ])
    refine wpAnyH_take (i := 10) (v := ?_) rfl (by kernel_rfl) (by kernel_rfl) (by kernel_rfl) (fun _ _ _ h => h) (Or.inl ⟨by rfl, ?_⟩) (by assumption) ?_
    rotate_left
    · (intro w hSw; (try dsimp only at hSw); go_simp) <;> with_reducible rfl
    (try simp only [Act.put, List.setIfInBounds_toArray, List.set_cons_zero, List.set_cons_succ])
    refine wpAnyH_take (i := 11) (v := ?_) rfl (by kernel_rfl) (by kernel_rfl) (by kernel_rfl) (fun _ _ _ h => h) (Or.inl ⟨by rfl, ?_⟩) (by assumption) ?_
    rotate_left
    · (intro w hSw; (try dsimp only at hSw); go_simp) <;> with_reducible rfl
    (try simp only [Act.put, List.setIfInBounds_toArray, List.set_cons_zero, List.set_cons_succ])
    refine wpAnyH_take (i := 12) (v := ?_) rfl (by kernel_rfl) (by kernel_rfl) (by kernel_rfl) (fun _ _ _ h => h) (Or.inl ⟨by rfl, ?_⟩) (by assumption) ?_
    rotate_left
    · (intro w hSw; (try dsimp only at hSw); go_simp) <;> with_reducible rfl
    (try simp only [Act.put, List.setIfInBounds_toArray, List.set_cons_zero, List.set_cons_succ])
    refine wpAnyH_take (i := 13) (v := ?_) rfl (by kernel_rfl) (by kernel_rfl) (by kernel_rfl) (fun _ _ _ h => h) (Or.inl ⟨by rfl, ?_⟩) (by assumption) ?_
    rotate_left
    · (intro w hSw; (try dsimp only at hSw); go_simp) <;> with_reducible rfl
    (try simp only [Act.put, List.setIfInBounds_toArray, List.set_cons_zero, List.set_cons_succ])
    refine wpAnyH_ready (rs := [2, 6, 15]) (by kernel_rfl) (by simp) ?_
    refine AllReadyH.cons rfl (fun K hK => ?_) ?_
    · go_simp
      refine hK.out _ _ (box_alloc (hHeld) (by simp [hW1]; omega) _) (fun hH1 => ?_)
      clear hK K
      refine wpAnyH_ready (rs := [6, 15]) (by kernel_rfl) (by simp) ?_
      refine AllReadyH.cons rfl (fun K hK => ?_) ?_
      · go_simp
        refine hK.out _ _ (box_alloc (hH1) (by simp [hW1]; omega) _) (fun hH2 => ?_)
        clear hK K
        refine wpAnyH_take (i := 14) (v := ?_) rfl (by kernel_rfl) (by kernel_rfl) (by kernel_rfl) (fun _ _ _ h => h) (Or.inl ⟨by rfl, ?_⟩) (by assumption) ?_
        rotate_left
        · (intro w hSw; (try dsimp only at hSw); go_simp) <;> with_reducible rfl
        (try simp only [Act.put, List.setIfInBounds_toArray, List.set_cons_zero, List.set_cons_succ])
        refine wpAnyH_ready (rs := [15]) (by kernel_rfl) (by simp) ?_
        refine AllReadyH.cons rfl (fun K hK => ?_) ?_
        · go_simp
          refine hK.out _ _ (box_alloc (hH2) (by simp [hW1]; omega) _) (fun hH3 => ?_)
          clear hK K
          refine wpAnyH_ready (rs := [16]) (by kernel_rfl) (by simp) ?_
          refine AllReadyH.cons rfl (fun K hK => ?_) AllReadyH.nil
          rw [if_pos (by rfl)]
          have h3 := three W (w.heap.size + 1 + 1) hW1 (.cells (madeCells #[.int .i32 0] M) 21) (.cells (madeCells #[.int .i64 0, .int .i64 0, .int .i64 0, .int .i64 0, .int .i64 0] (nc * 5)) 57) (.cells #[.int .i32 0, .int .i32 0, .int .i32 0, .int .i32 0, .int .i32 0, .int .i32 0, .int .i32 0, .int .i32 0, .int .i32 0, .int .i32 0, .int .i32 0, .int .i32 0, .int .i32 0, .int .i32 0, .int .i32 0, .int .i32 0, .int .i64 0, .int .i64 0, .int .i32 0, .slice none 0 0, .int .i64 0, .slice none 0 0, .slice none 0 0, .int .i64 0] 50)
          refine wp_store_mid 50 (.tmp 3) (.tmp 20) rfl (w.heap.size + 1 + 1 + 1 + 1) 0 (mcells (w.heap.size + 1 + 1) (w.heap.size + 1 + 1 + 1) M nc (IntKind.i64.wrap (↑nc + ↑nd))) rfl rfl (there_block h3.2.2.1 _ rfl) info50 (one_m _ _ _ _ _) ?_
          refine hK.out _ _ (fun o => (World.cell?_setCells_out _ _ _ _ _ (fun e => by simp at e; omega)).trans (hH3 o)) (fun hHeld9 => ?_)
          refine wpAnyH_done (by kernel_rfl) ?_ _
          clear hK K
          (try simp only [Act.put])
          go_wp2_with fail
          go_meet
          case rel => exact ⟨_, _, _, rfl, bg_of h3.2.2.2 (by omega) (by omega) (by omega) (by omega) (by omega) (by omega) h3.2.2.1 h3.1 h3.2.1⟩
        exact AllReadyH.nil
      refine AllReadyH.cons rfl (fun K hK => ?_) ?_
      · go_simp
        refine hK.out _ _ (box_alloc (hH1) (by simp [hW1]; omega) _) (fun hH2 => ?_)
        clear hK K
        refine wpAnyH_ready (rs := [6]) (by kernel_rfl) (by simp) ?_
        refine AllReadyH.cons rfl (fun K hK => ?_) ?_
        · go_simp
          refine hK.out _ _ (box_alloc (hH2) (by simp [hW1]; omega) _) (fun hH3 => ?_)
          clear hK K
          refine wpAnyH_take (i := 14) (v := ?_) rfl (by kernel_rfl) (by kernel_rfl) (by kernel_rfl) (fun _ _ _ h => h) (Or.inl ⟨by rfl, ?_⟩) (by assumption) ?_
          rotate_left
          · (intro w hSw; (try dsimp only at hSw); go_simp) <;> with_reducible rfl
          (try simp only [Act.put, List.setIfInBounds_toArray, List.set_cons_zero, List.set_cons_succ])
          refine wpAnyH_ready (rs := [16]) (by kernel_rfl) (by simp) ?_
          refine AllReadyH.cons rfl (fun K hK => ?_) AllReadyH.nil
          rw [if_pos (by rfl)]
          have h3 := three W (w.heap.size + 1 + 1) hW1 (.cells (madeCells #[.int .i32 0] M) 21) (.cells #[.int .i32 0, .int .i32 0, .int .i32 0, .int .i32 0, .int .i32 0, .int .i32 0, .int .i32 0, .int .i32 0, .int .i32 0, .int .i32 0, .int .i32 0, .int .i32 0, .int .i32 0, .int .i32 0, .int .i32 0, .int .i32 0, .int .i64 0, .int .i64 0, .int .i32 0, .slice none 0 0, .int .i64 0, .slice none 0 0, .slice none 0 0, .int .i64 0] 50) (.cells (madeCells #[.int .i64 0, .int .i64 0, .int .i64 0, .int .i64 0, .int .i64 0] (nc * 5)) 57)
          refine wp_store_mid 50 (.tmp 3) (.tmp 20) rfl (w.heap.size + 1 + 1 + 1) 0 (mcells (w.heap.size + 1 + 1) (w.heap.size + 1 + 1 + 1 + 1) M nc (IntKind.i64.wrap (↑nc + ↑nd))) rfl rfl (there_block h3.2.1 _ rfl) info50 (one_m _ _ _ _ _) ?_
          refine hK.out _ _ (fun o => (World.cell?_setCells_out _ _ _ _ _ (fun e => by simp at e; omega)).trans (hH3 o)) (fun hHeld9 => ?_)
          refine wpAnyH_done (by kernel_rfl) ?_ _
          clear hK K
          (try simp only [Act.put])
          go_wp2_with fail
          go_meet
          case rel => exact ⟨_, _, _, rfl, bg_of h3.2.2.2 (by omega) (by omega) (by omega) (by omega) (by omega) (by omega) h3.2.1 h3.1 h3.2.2.1⟩
        exact AllReadyH.nil
      exact AllReadyH.nil
    refine AllReadyH.cons rfl (fun K hK => ?_) ?_
    · go_simp
      refine hK.out _ _ (box_alloc (hHeld) (by simp [hW1]; omega) _) (fun hH1 => ?_)
      clear hK K
      refine wpAnyH_ready (rs := [2, 15]) (by kernel_rfl) (by simp) ?_
      refine AllReadyH.cons rfl (fun K hK => ?_) ?_
      · go_simp
        refine hK.out _ _ (box_alloc (hH1) (by simp [hW1]; omega) _) (fun hH2 => ?_)
        clear hK K
        refine wpAnyH_take (i := 14) (v := ?_) rfl (by kernel_rfl) (by kernel_rfl) (by kernel_rfl) (fun _ _ _ h => h) (Or.inl ⟨by rfl, ?_⟩) (by assumption) ?_
        rotate_left
        · (intro w hSw; (try dsimp only at hSw); go_simp) <;> with_reducible rfl
        (try simp only [Act.put, List.setIfInBounds_toArray, List.set_cons_zero, List.set_cons_succ])
        refine wpAnyH_ready (rs := [15]) (by kernel_rfl) (by simp) ?_
        refine AllReadyH.cons rfl (fun K hK => ?_) ?_
        · go_simp
          refine hK.out _ _ (box_alloc (hH2) (by simp [hW1]; omega) _) (fun hH3 => ?_)
          clear hK K
          refine wpAnyH_ready (rs := [16]) (by kernel_rfl) (by simp) ?_
          refine AllReadyH.cons rfl (fun K hK => ?_) AllReadyH.nil
          rw [if_pos (by rfl)]
          have h3 := three W (w.heap.size + 1 + 1) hW1 (.cells (madeCells #[.int .i64 0, .int .i64 0, .int .i64 0, .int .i64 0, .int .i64 0] (nc * 5)) 57) (.cells (madeCells #[.int .i32 0] M) 21) (.cells #[.int .i32 0, .int .i32 0, .int .i32 0, .int .i32 0, .int .i32 0, .int .i32 0, .int .i32 0, .int .i32 0, .int .i32 0, .int .i32 0, .int .i32 0, .int .i32 0, .int .i32 0, .int .i32 0, .int .i32 0, .int .i32 0, .int .i64 0, .int .i64 0, .int .i32 0, .slice none 0 0, .int .i64 0, .slice none 0 0, .slice none 0 0, .int .i64 0] 50)
          refine wp_store_mid 50 (.tmp 3) (.tmp 20) rfl (w.heap.size + 1 + 1 + 1 + 1) 0 (mcells (w.heap.size + 1 + 1 + 1) (w.heap.size + 1 + 1) M nc (IntKind.i64.wrap (↑nc + ↑nd))) rfl rfl (there_block h3.2.2.1 _ rfl) info50 (one_m _ _ _ _ _) ?_
          refine hK.out _ _ (fun o => (World.cell?_setCells_out _ _ _ _ _ (fun e => by simp at e; omega)).trans (hH3 o)) (fun hHeld9 => ?_)
          refine wpAnyH_done (by kernel_rfl) ?_ _
          clear hK K
          (try simp only [Act.put])
          go_wp2_with fail
          go_meet
          case rel => exact ⟨_, _, _, rfl, bg_of h3.2.2.2 (by omega) (by omega) (by omega) (by omega) (by omega) (by omega) h3.2.2.1 h3.2.1 h3.1⟩
        exact AllReadyH.nil
      refine AllReadyH.cons rfl (fun K hK => ?_) ?_
      · go_simp
        refine hK.out _ _ (box_alloc (hH1) (by simp [hW1]; omega) _) (fun hH2 => ?_)
        clear hK K
        refine wpAnyH_ready (rs := [2]) (by kernel_rfl) (by simp) ?_
        refine AllReadyH.cons rfl (fun K hK => ?_) ?_
        · go_simp
          refine hK.out _ _ (box_alloc (hH2) (by simp [hW1]; omega) _) (fun hH3 => ?_)
          clear hK K
          refine wpAnyH_take (i := 14) (v := ?_) rfl (by kernel_rfl) (by kernel_rfl) (by kernel_rfl) (fun _ _ _ h => h) (Or.inl ⟨by rfl, ?_⟩) (by assumption) ?_
          rotate_left
          · (intro w hSw; (try dsimp only at hSw); go_simp) <;> with_reducible rfl
          (try simp only [Act.put, List.setIfInBounds_toArray, List.set_cons_zero, List.set_cons_succ])
          refine wpAnyH_ready (rs := [16]) (by kernel_rfl) (by simp) ?_
          refine AllReadyH.cons rfl (fun K hK => ?_) AllReadyH.nil
          rw [if_pos (by rfl)]
          have h3 := three W (w.heap.size + 1 + 1) hW1 (.cells (madeCells #[.int .i64 0, .int .i64 0, .int .i64 0, .int .i64 0, .int .i64 0] (nc * 5)) 57) (.cells #[.int .i32 0, .int .i32 0, .int .i32 0, .int .i32 0, .int .i32 0, .int .i32 0, .int .i32 0, .int .i32 0, .int .i32 0, .int .i32 0, .int .i32 0, .int .i32 0, .int .i32 0, .int .i32 0, .int .i32 0, .int .i32 0, .int .i64 0, .int .i64 0, .int .i32 0, .slice none 0 0, .int .i64 0, .slice none 0 0, .slice none 0 0, .int .i64 0] 50) (.cells (madeCells #[.int .i32 0] M) 21)
          refine wp_store_mid 50 (.tmp 3) (.tmp 20) rfl (w.heap.size + 1 + 1 + 1) 0 (mcells (w.heap.size + 1 + 1 + 1 + 1) (w.heap.size + 1 + 1) M nc (IntKind.i64.wrap (↑nc + ↑nd))) rfl rfl (there_block h3.2.1 _ rfl) info50 (one_m _ _ _ _ _) ?_
          refine hK.out _ _ (fun o => (World.cell?_setCells_out _ _ _ _ _ (fun e => by simp at e; omega)).trans (hH3 o)) (fun hHeld9 => ?_)
          refine wpAnyH_done (by kernel_rfl) ?_ _
          clear hK K
          (try simp only [Act.put])
          go_wp2_with fail
          go_meet
          case rel => exact ⟨_, _, _, rfl, bg_of h3.2.2.2 (by omega) (by omega) (by omega) (by omega) (by omega) (by omega) h3.2.1 h3.2.2.1 h3.1⟩
        exact AllReadyH.nil
      exact AllReadyH.nil
    refine AllReadyH.cons rfl (fun K hK => ?_) ?_
    · go_simp
      refine hK.out _ _ (box_alloc (hHeld) (by simp [hW1]; omega) _) (fun hH1 => ?_)
      clear hK K
      refine wpAnyH_ready (rs := [2, 6]) (by kernel_rfl) (by simp) ?_
      refine AllReadyH.cons rfl (fun K hK => ?_) ?_
      · go_simp
        refine hK.out _ _ (box_alloc (hH1) (by simp [hW1]; omega) _) (fun hH2 => ?_)
        clear hK K
        refine wpAnyH_ready (rs := [6]) (by kernel_rfl) (by simp) ?_
        refine AllReadyH.cons rfl (fun K hK => ?_) ?_
        · go_simp
          refine hK.out _ _ (box_alloc (hH2) (by simp [hW1]; omega) _) (fun hH3 => ?_)
          clear hK K
          refine wpAnyH_take (i := 14) (v := ?_) rfl (by kernel_rfl) (by kernel_rfl) (by kernel_rfl) (fun _ _ _ h => h) (Or.inl ⟨by rfl, ?_⟩) (by assumption) ?_
          rotate_left
          · (intro w hSw; (try dsimp only at hSw); go_simp) <;> with_reducible rfl
          (try simp only [Act.put, List.setIfInBounds_toArray, List.set_cons_zero, List.set_cons_succ])
          refine wpAnyH_ready (rs := [16]) (by kernel_rfl) (by simp) ?_
          refine AllReadyH.cons rfl (fun K hK => ?_) AllReadyH.nil
          rw [if_pos (by rfl)]
          have h3 := three W (w.heap.size + 1 + 1) hW1 (.cells #[.int .i32 0, .int .i32 0, .int .i32 0, .int .i32 0, .int .i32 0, .int .i32 0, .int .i32 0, .int .i32 0, .int .i32 0, .int .i32 0, .int .i32 0, .int .i32 0, .int .i32 0, .int .i32 0, .int .i32 0, .int .i32 0, .int .i64 0, .int .i64 0, .int .i32 0, .slice none 0 0, .int .i64 0, .slice none 0 0, .slice none 0 0, .int .i64 0] 50) (.cells (madeCells #[.int .i32 0] M) 21) (.cells (madeCells #[.int .i64 0, .int .i64 0, .int .i64 0, .int .i64 0, .int .i64 0] (nc * 5)) 57)
          refine wp_store_mid 50 (.tmp 3) (.tmp 20) rfl (w.heap.size + 1 + 1) 0 (mcells (w.heap.size + 1 + 1 + 1) (w.heap.size + 1 + 1 + 1 + 1) M nc (IntKind.i64.wrap (↑nc + ↑nd))) rfl rfl (there_block h3.1 _ rfl) info50 (one_m _ _ _ _ _) ?_
          refine hK.out _ _ (fun o => (World.cell?_setCells_out _ _ _ _ _ (fun e => by simp at e; omega)).trans (hH3 o)) (fun hHeld9 => ?_)
          refine wpAnyH_done (by kernel_rfl) ?_ _
          clear hK K
          (try simp only [Act.put])
          go_wp2_with fail
          go_meet
          case rel => exact ⟨_, _, _, rfl, bg_of h3.2.2.2 (by omega) (by omega) (by omega) (by omega) (by omega) (by omega) h3.1 h3.2.1 h3.2.2.1⟩
        exact AllReadyH.nil
      refine AllReadyH.cons rfl (fun K hK => ?_) ?_
      · go_simp
        refine hK.out _ _ (box_alloc (hH1) (by simp [hW1]; omega) _) (fun hH2 => ?_)
        clear hK K
        refine wpAnyH_ready (rs := [2]) (by kernel_rfl) (by simp) ?_
        refine AllReadyH.cons rfl (fun K hK => ?_) ?_
        · go_simp
          refine hK.out _ _ (box_alloc (hH2) (by simp [hW1]; omega) _) (fun hH3 => ?_)
          clear hK K
          refine wpAnyH_take (i := 14) (v := ?_) rfl (by kernel_rfl) (by kernel_rfl) (by kernel_rfl) (fun _ _ _ h => h) (Or.inl ⟨by rfl, ?_⟩) (by assumption) ?_
          rotate_left
          · (intro w hSw; (try dsimp only at hSw); go_simp) <;> with_reducible rfl
          (try simp only [Act.put, List.setIfInBounds_toArray, List.set_cons_zero, List.set_cons_succ])
          refine wpAnyH_ready (rs := [16]) (by kernel_rfl) (by simp) ?_
          refine AllReadyH.cons rfl (fun K hK => ?_) AllReadyH.nil
          rw [if_pos (by rfl)]
          have h3 := three W (w.heap.size + 1 + 1) hW1 (.cells #[.int .i32 0, .int .i32 0, .int .i32 0, .int .i32 0, .int .i32 0, .int .i32 0, .int .i32 0, .int .i32 0, .int .i32 0, .int .i32 0, .int .i32 0, .int .i32 0, .int .i32 0, .int .i32 0, .int .i32 0, .int .i32 0, .int .i64 0, .int .i64 0, .int .i32 0, .slice none 0 0, .int .i64 0, .slice none 0 0, .slice none 0 0, .int .i64 0] 50) (.cells (madeCells #[.int .i64 0, .int .i64 0, .int .i64 0, .int .i64 0, .int .i64 0] (nc * 5)) 57) (.cells (madeCells #[.int .i32 0] M) 21)
          refine wp_store_mid 50 (.tmp 3) (.tmp 20) rfl (w.heap.size + 1 + 1) 0 (mcells (w.heap.size + 1 + 1 + 1 + 1) (w.heap.size + 1 + 1 + 1) M nc (IntKind.i64.wrap (↑nc + ↑nd))) rfl rfl (there_block h3.1 _ rfl) info50 (one_m _ _ _ _ _) ?_
          refine hK.out _ _ (fun o => (World.cell?_setCells_out _ _ _ _ _ (fun e => by simp at e; omega)).trans (hH3 o)) (fun hHeld9 => ?_)
          refine wpAnyH_done (by kernel_rfl) ?_ _
          clear hK K
          (try simp only [Act.put])
          go_wp2_with fail
          go_meet
          case rel => exact ⟨_, _, _, rfl, bg_of h3.2.2.2 (by omega) (by omega) (by omega) (by omega) (by omega) (by omega) h3.1 h3.2.2.1 h3.2.1⟩
        exact AllReadyH.nil
      exact AllReadyH.nil
    exact AllReadyH.nil
  case rest =>
    obtain ⟨b, mb, kb, rfl, hB⟩ := hcut
    have hl : IntKind.i64.wrap ((nc : Int) + nd) = nc + nd := by rw [IntKind.wrap_i64]; omega
    rw [hl] at hB
    have hb0 := hB.gb
    have hm0 := hB.gm
    have hk0 := hB.gk
    have n1 := hB.n1
    have n2 := hB.n2
    have n3 := hB.n3
    rw [hW1] at hb0 hm0 hk0
    have hBm : Bm W wc b mb kb M nc (↑nc + ↑nd) (memL code M 0) := ⟨hB.below, hB.hb, by rw [hB.hm, memL_zero code], hB.hk⟩
    have hbox : ∀ o, wc.cell? ⟨w.heap.size, o, none⟩ = (#[Value.slice (some ⟨cb, co, none⟩) nc cc, .slice da nd cd, .int .i64 M])[o]? := fun o => (hB.below.cell (p := ⟨w.heap.size, o, none⟩) (by show w.heap.size < _; omega)).trans (hW0 o)
    have hcodeW : ∀ (w' : World), Below W.heap.size W w' → ∀ k, k < nc → w'.cell? ⟨cb, co + k, none⟩ = some (.int .u32 (code k)) := fun w' hb k hk => (hb.cell (p := ⟨cb, co + k, none⟩) (by show cb < _; omega)).trans ((hBW.cell (p := ⟨cb, co + k, none⟩) hcb).trans (hcode k hk))
    have HB := hide hBm
    have HC := hide hcodeW
    have HW := hide (And.intro hBW (And.intro hW0 (And.intro hW2 (And.intro hW3 hW1))))
    have HD := hide hdata
    clear hB hBm hcodeW hBW hW0 hW2 hW3 hcode hdata mk1 mk2
    go_wp2_with fail
    go_loopw [24] (fun i wr => ∃ k : Nat, k ≤ nc ∧ i = .int .i64 k ∧ Hid (Bm W wr b mb kb M nc (↑nc + ↑nd) (memL code M k))) (fun i _ => nc - (intOf i).toNat)
    case atStart => exact ⟨0, Nat.zero_le _, rfl, HB⟩
    case round =>
      obtain ⟨k, hk, rfl, HK⟩ := hrel
      by_cases hlt : k < nc
      · have hlt' : (k : Int) < nc := by omega
        have hidx : (0 : Int) ≤ k ∧ (k : Int) < nc := by omega
        have hidx2 : (0 : Int) ≤ k ∧ (k : Int) < M := by omega
        have r1 := HC.out wr HK.out.below k hlt
        have r2 : wr.cell? ⟨b, 21, none⟩ = some (.slice (some ⟨mb, 0, none⟩) M M) := (cell_of HK.out.hb 21)
        have r3 : wr.cell? ⟨mb, k, none⟩ = some (.int .i32 0) := by
          rw [cell_of HK.out.hm k]
          simp [memL_at code M k k (by omega) (by omega)]
        have r4 : wr.frozen? ⟨mb, k, none⟩ = false := frozen_of HK.out.hm k
        have HP : Hid (Bm W (wr.setCell ⟨mb, k, none⟩ (.int .i32 (wrap32 (code k)))) b mb kb M nc (↑nc + ↑nd) (memL code M (k + 1))) := HK.out.put (by omega) n1 n3 (by omega)
        have hcv := hc32 k hlt
        go_wp2_with fail
        go_roundw
        case rel => exact ⟨k + 1, by omega, by go_num, HP⟩
        case measure => simp [intOf]; omega
      · have hkn : k = nc := by omega
        subst hkn
        have hlt' : ¬ (k : Int) < k := by omega
        have r2 : wr.cell? ⟨b, 21, none⟩ = some (.slice (some ⟨mb, 0, none⟩) M M) := (cell_of HK.out.hb 21)
        have hboxr : ∀ o, wr.cell? ⟨w.heap.size, o, none⟩ = (#[Value.slice (some ⟨cb, co, none⟩) k cc, .slice da nd cd, .int .i64 M])[o]? := fun o => (HK.out.below.cell (p := ⟨w.heap.size, o, none⟩) (by show w.heap.size < _; omega)).trans (HW.out.2.1 o)
        have hsl : ¬ (M : Int) < k := by omega
        have hsl2 : k < M := by omega
        clear hbox HB
        obtain ⟨cs, hcs⟩ : ∃ cs, cs = (List.range nd).map (fun i => Value.int .i32 (data i)) := ⟨_, rfl⟩
        have hcl : cs.length = nd := by rw [hcs]; simp
        have hE4 : cs.length = Nat.min nd (M - k) := by rw [hcl]; show nd = min nd (M - k); omega
        have hE5 : 0 < cs.length → (if M = k then some (⟨mb, 0, none⟩ : Addr) else some ⟨mb, k, none⟩) = some ⟨mb, k, none⟩ ∧ ∃ ad, da = some ad ∧ ∀ j v, cs[j]? = some v → wr.drew.cell? (ad.add j) = some v := fun hp => by
          refine ⟨if_neg (by omega), ?_⟩
          obtain ⟨db, do', e1, e2, e3⟩ := HD.out (by omega)
          refine ⟨_, e1, fun j v hv => ?_⟩
          have hj : j < nd := by
            rw [← hcl]
            exact (List.getElem?_eq_some_iff.1 hv).1
          rw [hcs, List.getElem?_map, List.getElem?_range hj] at hv
          simp at hv
          subst hv
          rw [Addr.add_mid]
          exact (HK.out.below.cell (p := ⟨db, do' + j, none⟩) (by show db < _; omega)).trans ((HW.out.1.cell (p := ⟨db, do' + j, none⟩) e2).trans (e3 j hj))
        have hE6 : k + cs.length ≤ (memL code M k).length := by rw [memL_len _ _ _ (by omega), hcl]; omega
        have hE7 : ∀ v ∈ cs, v.oneCell' = true := fun v hv => by
          rw [hcs] at hv
          simp at hv
          obtain ⟨j, _, rfl⟩ := hv
          rfl
        have HCS := hide hcs
        clear hcs
        go_wp2_with fail
        go_region_held_law (fun w' => w'.cell? ⟨b, 21, none⟩ = some (.slice (some ⟨mb, 0, none⟩) M M) ∧ ∀ o, w'.cell? ⟨w.heap.size, o, none⟩ = (#[Value.slice (some ⟨cb, co, none⟩) k cc, .slice da nd cd, .int .i64 M])[o]?)
          (first | exact ⟨r2, hboxr⟩ | exact ⟨(HO.out.cell b 21 n1).trans r2, fun o => (HO.out.cell w.heap.size o (by omega)).trans (hboxr o)⟩)
          ((refine step_copy_only rfl (.tmp 41) (.tmp 43) 23 23 rfl 21 Try.underlying23 size21 _ _ _ _ _ _ rfl rfl mb k (memL code M k) 21 HK.out.hm cs hE4 hE5 hE6 hE7 ?_; intro w4 H4 HO))
        have hB4 : Below W.heap.size W w4 := HO.out.below HK.out.below.drew (by omega)
        have hb4 : w4.heap[b]? = some (.cells (mcells mb kb M k (↑k + ↑nd)) 50 (0, 0)) := (HO.out.block b n1).trans HK.out.hb
        have hk4 := (HO.out.block kb (Ne.symm n3)).trans HK.out.hk
        have hq4 : w4.heap[w.heap.size + 1]? = some (.cells #[.int .i32 0, .int .i32 0, .int .i32 0, .int .i32 0, .int .i32 0, .int .i32 0, .int .i32 0, .int .i32 0, .int .i32 0, .int .i32 0, .int .i32 0, .int .i32 0, .int .i32 0, .int .i32 0, .int .i32 0, .int .i32 0, .int .i64 0, .int .i64 0, .int .i32 0, .slice none 0 0, .int .i64 0, .slice none 0 0, .slice none 0 0, .int .i64 0] 50) := (hB4.block (w.heap.size + 1) (by omega)).trans HW.out.2.2.2.1
        have s1 := cell_of hb4
        have s2 := frozen_of hb4
        have s5 : ∀ o, w4.cell? ⟨w.heap.size, o, none⟩ = (#[Value.slice (some ⟨cb, co, none⟩) k cc, .slice da nd cd, .int .i64 M])[o]? := fun o => (hB4.cell (p := ⟨w.heap.size, o, none⟩) (by show w.heap.size < _; omega)).trans (HW.out.2.1 o)
        have hb5 : (w4.setCell ⟨b, 13, none⟩ (.int .i32 M)).heap[b]? = some (.cells (pcells mb kb M k (↑k + ↑nd)) 50 (0, 0)) := by
          simp [World.setCell, Array.getElem?_modify, hb4]
        have hq5 : (w4.setCell ⟨b, 13, none⟩ (.int .i32 M)).heap[w.heap.size + 1]? = some (.cells #[.int .i32 0, .int .i32 0, .int .i32 0, .int .i32 0, .int .i32 0, .int .i32 0, .int .i32 0, .int .i32 0, .int .i32 0, .int .i32 0, .int .i32 0, .int .i32 0, .int .i32 0, .int .i32 0, .int .i32 0, .int .i32 0, .int .i64 0, .int .i64 0, .int .i32 0, .slice none 0 0, .int .i64 0, .slice none 0 0, .slice none 0 0, .int .i64 0] 50) := (Below.heap_setCell _ _ _ _ (by show w.heap.size + 1 ≠ b; omega)).trans hq4
        have HR : Hid ((w4.setCell ⟨b, 13, none⟩ (.int .i32 M)).rangeAt b 0 (pcells mb kb M k (↑k + ↑nd)).toList) := fun j v hv => by
          rw [cell_of hb5]; simpa using hv
        have HT : Hid ((w4.setCell ⟨b, 13, none⟩ (.int .i32 M)).there (w.heap.size + 1) 0 (pcells mb kb M k (↑k + ↑nd)).size) := there_block hq5 _ rfl
        have HB4 := hide (And.intro hB4 (And.intro hb4 (And.intro hk4 hq4)))
        clear hB4 hb4 hk4 hq4 hb5 hq5 r2 hboxr hE4 hE5 hE6 hE7
        go_wp2_with (first | (refine wpList_load_mid rfl 50 (.tmp 3) rfl b 0 rfl (pcells mb kb M k (↑k + ↑nd)).toList _ HR.out Try.underlying50 rfl info50 ?_) | (refine wpList_store_mid rfl 50 (.tmp 2) (.tmp 51) rfl (w.heap.size + 1) 0 (pcells mb kb M k (↑k + ↑nd)) rfl rfl HT.out info50 (one_p _ _ _ _ _) ?_))
        have hR6 := World.rangeAt_setCells_same (w4.setCell ⟨b, 13, none⟩ (.int .i32 M)) (w.heap.size + 1) 0 (pcells mb kb M k (↑k + ↑nd)).toList HT.out
        have hrun := run_loadVar_mid (P := Try.prog) ((w4.setCell ⟨b, 13, none⟩ (.int .i32 M)).setCells (w.heap.size + 1) 0 (pcells mb kb M k (↑k + ↑nd)).toList) (w.heap.size + 1) 0 50 (pcells mb kb M k (↑k + ↑nd)).toList _ hR6 Try.underlying50 rfl info50
        refine bodyPost_ret (v := .agg (pcells mb kb M k (↑k + ↑nd))) (results_cell Try.results18 _ rfl _ hrun) rfl ?_
        obtain ⟨hB4, hb4, hk4, hq4⟩ := HB4.out
        have hBw4 : Below w.heap.size w w4 := HW.out.1.trans (hB4.mono (by omega))
        have hm6 : ((w4.setCell ⟨b, 13, none⟩ (.int .i32 M)).setCells (w.heap.size + 1) 0 (pcells mb kb M k (↑k + ↑nd)).toList).heap[mb]? = some (.cells (splice (memL code M k) k cs).toArray 21 (0, 0)) :=
          ((setCells_other (w.heap.size + 1) mb (by omega) _ _ _).trans (Below.heap_setCell _ _ _ _ (Ne.symm n1))).trans H4.out
        have hk6 : ((w4.setCell ⟨b, 13, none⟩ (.int .i32 M)).setCells (w.heap.size + 1) 0 (pcells mb kb M k (↑k + ↑nd)).toList).heap[kb]? = some (.cells (madeCells #[.int .i64 0, .int .i64 0, .int .i64 0, .int .i64 0, .int .i64 0] (k * 5)) 57 (0, 0)) :=
          ((setCells_other (w.heap.size + 1) kb (by omega) _ _ _).trans (Below.heap_setCell _ _ _ _ (Ne.symm n2))).trans hk4
        refine ⟨mb, kb, rfl, setCells_below (w.heap.size + 1) (by omega) _ 0 _ (hBw4.setCell (by show w.heap.size ≤ b; omega) _), by omega, by omega, n3, fun j hj => ?_, fun j hj => ?_, fun o => ⟨frozen_of hm6 o, frozen_of hk6 o⟩⟩
        · rw [cell_of hm6, HCS.out, List.getElem?_toArray]
          exact mem0_at k nd M code data (by omega) j hj
        · rw [cell_of hk6]
          exact made5 k j hj
end Go.Proofs.Ytofhiooodgopeaa.V
