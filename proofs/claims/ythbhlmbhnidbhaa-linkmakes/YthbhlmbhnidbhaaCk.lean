/- The contract of the reference's Check of what is linked. -/
import Derived.Test.YthbhlmbhnidbhaaCp
namespace Go.Proofs.Ythbhlmbhnidbhaa.T
open Go.RowKit Go.Proofs.Ythbhlmbhnidbhaa.M
set_option linter.unusedVariables false
set_option linter.unusedSimpArgs false
theorem rtT {fn : Func} {t : Tmp} {q : Nat} {c0 c1 c2 : Value} {tmps : Array Value} {w : World} (h : fn.results = #[.cell t 30]) (ht : tmps.getD t undef = .pointer (some ⟨q, 0, none⟩)) (hb : w.heap[q]? = some (.cells #[c0, c1, c2] 30 (0, 0))) (h1 : c0.oneCell' = true) : (results fn tmps).run Try.prog w = .ok (.agg #[c0, c1, c2]) w := by
  have ht' : tmps[t]?.getD undef = .pointer (some ⟨q, 0, none⟩) := by simpa using ht
  have hc := fr_cells hb
  have hl := (Array.getElem?_eq_some_iff.1 hb).1
  simp [results, h, asAddr, ht', loadVar, go_sem, hc, hl]
theorem chk_form {l : List Ob} (h1 : ¬ (l.length < 1 ∨ 4 < l.length)) (hA : l.findIdx? (fun o => !mayO o) = none) (hB : find2 (twiceP l) l 0 = none) (hC : find2 (fun _ s => decide (outC l s ≠ 0)) l 0 = none) : chkL l = (0, mainC l, 0) := by
  unfold chkL
  rw [if_neg h1, hA, hB, hC]
theorem chk_A {l : List Ob} {u : Nat} (h1 : ¬ (l.length < 1 ∨ 4 < l.length)) (hA : l.findIdx? (fun o => !mayO o) = some u) : chkL l = ((u : Int), 2, 0) := by
  unfold chkL
  rw [if_neg h1, hA]
theorem chk_B {l : List Ob} {u i : Nat} (h1 : ¬ (l.length < 1 ∨ 4 < l.length)) (hA : l.findIdx? (fun o => !mayO o) = none) (hB : find2 (twiceP l) l 0 = some (u, i)) : chkL l = ((u : Int), 5, (i : Int)) := by
  unfold chkL
  rw [if_neg h1, hA, hB]
theorem chk_C {l : List Ob} {u i : Nat} (h1 : ¬ (l.length < 1 ∨ 4 < l.length)) (hA : l.findIdx? (fun o => !mayO o) = none) (hB : find2 (twiceP l) l 0 = none) (hC : find2 (fun _ s => decide (outC l s ≠ 0)) l 0 = some (u, i)) : chkL l = ((u : Int), outC l (symO l ((u : Int), (i : Int))), (i : Int)) := by
  unfold chkL
  rw [if_neg h1, hA, hB, hC]
theorem find2_yes0 {p : Nat → Sy → Bool} {l : List Ob} {u i : Nat} (hu : u < l.length) (h : l[u].syms.findIdx? (p u) = some i) (hn : ∀ v (hv : v < u), (l[v]'(by omega)).syms.findIdx? (p v) = none) : find2 p l 0 = some (u, i) := by
  have := find2_yes p l 0 u i hu (by rw [Nat.zero_add]; exact h) (fun v hv => by rw [Nat.zero_add]; exact hn v hv)
  rw [this, Nat.zero_add]
theorem find2_no0 {p : Nat → Sy → Bool} {l : List Ob} (hn : ∀ v (hv : v < l.length), l[v].syms.findIdx? (p v) = none) : find2 p l 0 = none := find2_no p l 0 fun v hv => by rw [Nat.zero_add]; exact hn v hv
end Go.Proofs.Ythbhlmbhnidbhaa.T
