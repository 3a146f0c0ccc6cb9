/- The contracts of the program's reader: reloc, symbol. -/
import Derived.Test.YtnjcknlfecednaaQj
namespace Go.Proofs.Ytnjcknlfecednaa.T
open Go.RowKit Go.Proofs.Ytnjcknlfecednaa.M
set_option linter.unusedVariables false
set_option linter.unusedSimpArgs false
/-- What a reader's method leaves. -/
def PR {α : Type} (val : α → Value) (w0 : World) (b : Nat) (L : List Rs) (r : Rq α) (e : Ending) (w' : World) : Prop := (∃ x t, r = some (x, t) ∧ e = .returned (val x) ∧ Rg w0 w' b t L) ∨ (r = none ∧ e = upE ∧ Fr w0.heap.size w0 w' L)
theorem PR.yes {α : Type} {val : α → Value} {w0 : World} {b : Nat} {L : List Rs} {r : Rq α} {e : Ending} {w' : World} {x : α} {t : List UInt8} (h : PR val w0 b L r e w') (hr : r = some (x, t)) : e = .returned (val x) ∧ Rg w0 w' b t L := by
  rcases h with ⟨x', t', h1, h2, h3⟩ | ⟨h1, -⟩
  · rw [hr] at h1; cases h1; exact ⟨h2, h3⟩
  · rw [hr] at h1; cases h1
theorem PR.no {α : Type} {val : α → Value} {w0 : World} {b : Nat} {L : List Rs} {r : Rq α} {e : Ending} {w' : World} (h : PR val w0 b L r e w') (hr : r = none) : e = upE ∧ Fr w0.heap.size w0 w' L := by
  rcases h with ⟨x', t', h1, h2, h3⟩ | ⟨-, h1, h2⟩
  · rw [hr] at h1; cases h1
  · exact ⟨h1, h2⟩
def relV (r : Re) : Value := .agg #[.int .i64 r.pl, .int .i64 r.sym, .int .i64 r.add]
def symV (s : Sy) : Value := .agg #[.string s.name, .int .i64 s.kind, .bool s.stat, .int .i64 s.pl, .int .i64 s.size, .string s.sign, .int .i64 s.frame]
theorem rt47 {fn : Func} {t : Tmp} {q : Nat} {c0 c1 c2 : Value} {tmps : Array Value} {w : World} (h : fn.results = #[.cell t 47]) (ht : tmps.getD t undef = .pointer (some ⟨q, 0, none⟩)) (hb : w.heap[q]? = some (.cells #[c0, c1, c2] 47 (0, 0))) : (results fn tmps).run Try.prog w = .ok (.agg #[c0, c1, c2]) w := by
  have ht' : tmps[t]?.getD undef = .pointer (some ⟨q, 0, none⟩) := by simpa using ht
  have hc := fr_cells hb
  have hl := (Array.getElem?_eq_some_iff.1 hb).1
  simp [results, h, asAddr, ht', loadVar, go_sem, hc, hl]
theorem rt44 {fn : Func} {t : Tmp} {q : Nat} {c0 c1 c2 c3 c4 c5 c6 : Value} {tmps : Array Value} {w : World} (h : fn.results = #[.cell t 44]) (ht : tmps.getD t undef = .pointer (some ⟨q, 0, none⟩)) (hb : w.heap[q]? = some (.cells #[c0, c1, c2, c3, c4, c5, c6] 44 (0, 0))) : (results fn tmps).run Try.prog w = .ok (.agg #[c0, c1, c2, c3, c4, c5, c6]) w := by
  have ht' : tmps[t]?.getD undef = .pointer (some ⟨q, 0, none⟩) := by simpa using ht
  have hc := fr_cells hb
  have hl := (Array.getElem?_eq_some_iff.1 hb).1
  simp [results, h, asAddr, ht', loadVar, go_sem, hc, hl]
set_option maxRecDepth 100000 in
set_option maxHeartbeats 4000000 in
theorem rel_any {w0 w : World} {b : Nat} {t : List UInt8} {L : List Rs} (h : Rg w0 w b t L) : Calls Try.prog 34 #[.pointer (some ⟨b, 0, none⟩)] w (PR relV w0 b L (qRel t)) := by
  have HG := hide ((h.alloc (q := w.heap.size) rfl #[.int .i64 0, .int .i64 0, .int .i64 0] 47).alloc (q := w.heap.size + 1) (by simp) #[.int .i64 0, .int .i64 0, .int .i64 0] 47)
  clear h
  go_enter Try.func34, Try.ntmps34
  go_wp2_with fail
  go_at_call 53
  cases h1 : qUp 2147483647 t with
  | none =>
    refine (num_no HG.out h1).mono ?_
    rintro e w1 ⟨rfl, hf⟩
    exact ⟨rfl, Or.inr ⟨by simp [qRel, h1], rfl, hf.tail.tail⟩⟩
  | some p1 =>
  obtain ⟨x1, t1⟩ := p1
  refine (num_yes HG.out h1).mono ?_
  rintro e w1 ⟨rfl, hg⟩
  replace HG := hide hg
  clear hg
  try clear c0 f0
  have c0 := HG.out.cell 0 rfl
  have f0 := HG.out.frz 0 rfl
  replace HG := hide (HG.out.set 0 rfl 0 (.int .i64 x1))
  go_wp2_with fail
  go_at_call 53
  cases h2 : qUp 2147483647 t1 with
  | none =>
    refine (num_no HG.out h2).mono ?_
    rintro e w1 ⟨rfl, hf⟩
    exact ⟨rfl, Or.inr ⟨by simp [qRel, h1, h2], rfl, hf.tail.tail⟩⟩
  | some p2 =>
  obtain ⟨x2, t2⟩ := p2
  refine (num_yes HG.out h2).mono ?_
  rintro e w1 ⟨rfl, hg⟩
  replace HG := hide hg
  clear hg
  try clear c0 f0
  have c0 := HG.out.cell 0 rfl
  have f0 := HG.out.frz 0 rfl
  replace HG := hide (HG.out.set 0 rfl 1 (.int .i64 x2))
  go_wp2_with fail
  go_at_call 53
  cases h3 : qUp 2147483647 t2 with
  | none =>
    refine (num_no HG.out h3).mono ?_
    rintro e w1 ⟨rfl, hf⟩
    exact ⟨rfl, Or.inr ⟨by simp [qRel, h1, h2, h3], rfl, hf.tail.tail⟩⟩
  | some p3 =>
  obtain ⟨x3, t3⟩ := p3
  refine (num_yes HG.out h3).mono ?_
  rintro e w1 ⟨rfl, hg⟩
  replace HG := hide hg
  clear hg
  try clear c0 f0
  have c0 := HG.out.cell 0 rfl
  have f0 := HG.out.frz 0 rfl
  replace HG := hide (HG.out.set 0 rfl 2 (.int .i64 x3))
  have c1 := HG.out.cell 0 rfl
  have c2 := HG.out.cell 1 rfl
  have f2 := HG.out.frz 1 rfl
  have HE := hide (HG.out.set 1 rfl 0 (.int .i64 x1))
  replace HE := hide (HE.out.set 1 rfl 1 (.int .i64 x2))
  replace HE := hide (HE.out.set 1 rfl 2 (.int .i64 x3))
  go_wp2_with fail
  refine bodyPost_ret (rt47 Try.results34 rfl (HE.out.fr.get (i := 1) rfl).2) rfl ?_
  exact Or.inl ⟨⟨x1, x2, x3⟩, t3, by simp [qRel, h1, h2, h3], rfl, HE.out.tail.tail⟩
set_option maxRecDepth 100000 in
set_option maxHeartbeats 8000000 in
theorem sym_any {w0 w : World} {b : Nat} {t : List UInt8} {L : List Rs} (h : Rg w0 w b t L) : Calls Try.prog 32 #[.pointer (some ⟨b, 0, none⟩)] w (PR symV w0 b L (qSym t)) := by
  have hmf : ∀ (fn : Fn) (first cap : Array Value) (w : World), (Instr.makeFunc fn first cap).run Try.prog w = .ok (.func fn first cap) w := fun _ _ _ _ => rfl
  have HG := hide (((h.alloc (q := w.heap.size) rfl #[.pointer (some ⟨b, 0, none⟩)] 59).alloc (q := w.heap.size + 1) (by simp) #[.string ⟨#[]⟩, .int .i64 0, .bool false, .int .i64 0, .int .i64 0, .string ⟨#[]⟩, .int .i64 0] 44).alloc (q := w.heap.size + 1 + 1) (by simp) #[.string ⟨#[]⟩, .int .i64 0, .bool false, .int .i64 0, .int .i64 0, .string ⟨#[]⟩, .int .i64 0] 44)
  replace HG := hide (HG.out.perm (K := [.blk (w.heap.size + 1 + 1) #[.string ⟨#[]⟩, .int .i64 0, .bool false, .int .i64 0, .int .i64 0, .string ⟨#[]⟩, .int .i64 0] 44, .blk w.heap.size #[.pointer (some ⟨b, 0, none⟩)] 59, .blk (w.heap.size + 1) #[.string ⟨#[]⟩, .int .i64 0, .bool false, .int .i64 0, .int .i64 0, .string ⟨#[]⟩, .int .i64 0] 44] ++ L) ((List.Perm.swap _ _ _).cons _))
  clear h
  have y0 := HG.out.cell 1 rfl
  go_enter Try.func32, Try.ntmps32
  go_wp2_with fail
  go_at_call 52
  cases h1 : qTxt 16 t with
  | none =>
    refine (txt_no 16 (by omega) (by omega) (j := 1) rfl HG.out h1).mono ?_
    rintro e w1 ⟨rfl, hf⟩
    exact ⟨rfl, Or.inr ⟨by simp [qSym, h1], rfl, hf.tail.tail.tail⟩⟩
  | some p1 =>
  obtain ⟨x1, t1⟩ := p1
  refine (txt_yes 16 (by omega) (by omega) (j := 1) rfl HG.out h1).mono ?_
  rintro e w1 ⟨rfl, hg⟩
  replace HG := hide hg
  clear hg
  try clear c0 f0 z0
  try clear y0
  have c0 := HG.out.cell 0 rfl
  have z0 := HG.out.cell 1 rfl
  have f0 := HG.out.frz 0 rfl
  replace HG := hide (HG.out.set 0 rfl 0 (.string x1))
  have y0 := HG.out.cell 1 rfl
  go_wp2_with fail
  go_at_call 53
  cases h2 : qUp 2147483647 t1 with
  | none =>
    refine (num_no HG.out h2).mono ?_
    rintro e w1 ⟨rfl, hf⟩
    exact ⟨rfl, Or.inr ⟨by simp [qSym, h1, h2], rfl, hf.tail.tail.tail⟩⟩
  | some p2 =>
  obtain ⟨x2, t2⟩ := p2
  refine (num_yes HG.out h2).mono ?_
  rintro e w1 ⟨rfl, hg⟩
  replace HG := hide hg
  clear hg
  try clear c0 f0 z0
  try clear y0
  have c0 := HG.out.cell 0 rfl
  have z0 := HG.out.cell 1 rfl
  have f0 := HG.out.frz 0 rfl
  replace HG := hide (HG.out.set 0 rfl 1 (.int .i64 x2))
  have y0 := HG.out.cell 1 rfl
  go_wp2_with fail
  go_at_call 50
  cases h3 : qUp 1 t2 with
  | none =>
    refine (up_no 1 (by omega) (by omega) HG.out h3).mono ?_
    rintro e w1 ⟨rfl, hf⟩
    exact ⟨rfl, Or.inr ⟨by simp [qSym, h1, h2, h3], rfl, hf.tail.tail.tail⟩⟩
  | some p3 =>
  obtain ⟨x3, t3⟩ := p3
  refine (up_yes 1 (by omega) (by omega) HG.out h3).mono ?_
  rintro e w1 ⟨rfl, hg⟩
  replace HG := hide hg
  clear hg
  try clear c0 f0 z0
  try clear y0
  have c0 := HG.out.cell 0 rfl
  have z0 := HG.out.cell 1 rfl
  have f0 := HG.out.frz 0 rfl
  replace HG := hide (HG.out.set 0 rfl 2 (.bool (decide (x3 = 1))))
  have y0 := HG.out.cell 1 rfl
  go_wp2_with fail
  go_at_call 53
  cases h4 : qUp 2147483647 t3 with
  | none =>
    refine (num_no HG.out h4).mono ?_
    rintro e w1 ⟨rfl, hf⟩
    exact ⟨rfl, Or.inr ⟨by simp [qSym, h1, h2, h3, h4], rfl, hf.tail.tail.tail⟩⟩
  | some p4 =>
  obtain ⟨x4, t4⟩ := p4
  refine (num_yes HG.out h4).mono ?_
  rintro e w1 ⟨rfl, hg⟩
  replace HG := hide hg
  clear hg
  try clear c0 f0 z0
  try clear y0
  have c0 := HG.out.cell 0 rfl
  have z0 := HG.out.cell 1 rfl
  have f0 := HG.out.frz 0 rfl
  replace HG := hide (HG.out.set 0 rfl 3 (.int .i64 x4))
  have y0 := HG.out.cell 1 rfl
  go_wp2_with fail
  go_at_call 53
  cases h5 : qUp 2147483647 t4 with
  | none =>
    refine (num_no HG.out h5).mono ?_
    rintro e w1 ⟨rfl, hf⟩
    exact ⟨rfl, Or.inr ⟨by simp [qSym, h1, h2, h3, h4, h5], rfl, hf.tail.tail.tail⟩⟩
  | some p5 =>
  obtain ⟨x5, t5⟩ := p5
  refine (num_yes HG.out h5).mono ?_
  rintro e w1 ⟨rfl, hg⟩
  replace HG := hide hg
  clear hg
  try clear c0 f0 z0
  try clear y0
  have c0 := HG.out.cell 0 rfl
  have z0 := HG.out.cell 1 rfl
  have f0 := HG.out.frz 0 rfl
  replace HG := hide (HG.out.set 0 rfl 4 (.int .i64 x5))
  have y0 := HG.out.cell 1 rfl
  go_wp2_with fail
  go_at_call 52
  cases h6 : qTxt 2000 t5 with
  | none =>
    refine (txt_no 2000 (by omega) (by omega) (j := 1) rfl HG.out h6).mono ?_
    rintro e w1 ⟨rfl, hf⟩
    exact ⟨rfl, Or.inr ⟨by simp [qSym, h1, h2, h3, h4, h5, h6], rfl, hf.tail.tail.tail⟩⟩
  | some p6 =>
  obtain ⟨x6, t6⟩ := p6
  refine (txt_yes 2000 (by omega) (by omega) (j := 1) rfl HG.out h6).mono ?_
  rintro e w1 ⟨rfl, hg⟩
  replace HG := hide hg
  clear hg
  try clear c0 f0 z0
  try clear y0
  have c0 := HG.out.cell 0 rfl
  have z0 := HG.out.cell 1 rfl
  have f0 := HG.out.frz 0 rfl
  replace HG := hide (HG.out.set 0 rfl 5 (.string x6))
  have y0 := HG.out.cell 1 rfl
  go_wp2_with fail
  go_at_call 53
  cases h7 : qUp 2147483647 t6 with
  | none =>
    refine (num_no HG.out h7).mono ?_
    rintro e w1 ⟨rfl, hf⟩
    exact ⟨rfl, Or.inr ⟨by simp [qSym, h1, h2, h3, h4, h5, h6, h7], rfl, hf.tail.tail.tail⟩⟩
  | some p7 =>
  obtain ⟨x7, t7⟩ := p7
  refine (num_yes HG.out h7).mono ?_
  rintro e w1 ⟨rfl, hg⟩
  replace HG := hide hg
  clear hg
  try clear c0 f0 z0
  try clear y0
  have c0 := HG.out.cell 0 rfl
  have z0 := HG.out.cell 1 rfl
  have f0 := HG.out.frz 0 rfl
  replace HG := hide (HG.out.set 0 rfl 6 (.int .i64 x7))
  have y0 := HG.out.cell 1 rfl
  have c1 := HG.out.cell 0 rfl
  have c2 := HG.out.cell 2 rfl
  have f2 := HG.out.frz 2 rfl
  have HE := hide (HG.out.set 2 rfl 0 (.string x1))
  replace HE := hide (HE.out.set 2 rfl 1 (.int .i64 x2))
  replace HE := hide (HE.out.set 2 rfl 2 (.bool (decide (x3 = 1))))
  replace HE := hide (HE.out.set 2 rfl 3 (.int .i64 x4))
  replace HE := hide (HE.out.set 2 rfl 4 (.int .i64 x5))
  replace HE := hide (HE.out.set 2 rfl 5 (.string x6))
  replace HE := hide (HE.out.set 2 rfl 6 (.int .i64 x7))
  go_wp2_with fail
  refine bodyPost_ret (rt44 Try.results32 rfl (HE.out.fr.get (i := 2) rfl).2) rfl ?_
  exact Or.inl ⟨⟨x1, x2, decide (x3 = 1), x4, x5, x6, x7⟩, t7, by simp [qSym, h1, h2, h3, h4, h5, h6, h7], rfl, HE.out.tail.tail.tail⟩
end Go.Proofs.Ytnjcknlfecednaa.T
