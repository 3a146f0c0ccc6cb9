/- The contract of the reference's Link: where something is wrong at once. -/
import Derived.Test.YthbhlmbhnidbhaaLm
import Derived.Test.YthbhlmbhnidbhaaCl
import Derived.Test.YthbhlmbhnidbhaaFb
import Derived.Test.YthbhlmbhnidbhaaRenc
import Derived.Deep.RegionLaw
import Derived.Deep.RegionHeldLaw
namespace Go.Proofs.Ythbhlmbhnidbhaa.T
open Go.RowKit Go.Proofs.Ythbhlmbhnidbhaa.M
set_option linter.unusedVariables false
set_option linter.unusedSimpArgs false
theorem rtL {fn : Func} {t u z : Tmp} {q p : Nat} {c0 c1 c2 d0 d1 d2 v : Value} {tmps : Array Value} {w : World} (h : fn.results = #[.cell t 26, .tmp u, .cell z 30]) (ht : tmps.getD t undef = .pointer (some ⟨q, 0, none⟩)) (hu : tmps.getD u undef = v) (hz : tmps.getD z undef = .pointer (some ⟨p, 0, none⟩)) (hb : w.heap[q]? = some (.cells #[c0, c1, c2] 26 (0, 0))) (hd : w.heap[p]? = some (.cells #[d0, d1, d2] 30 (0, 0))) (h1 : d0.oneCell' = true) : (results fn tmps).run Try.prog w = .ok (.tuple #[.agg #[c0, c1, c2], v, .agg #[d0, d1, d2]]) w := by
  have ht' : tmps[t]?.getD undef = .pointer (some ⟨q, 0, none⟩) := by simpa using ht
  have hu' : tmps[u]?.getD undef = v := by simpa using hu
  have hz' : tmps[z]?.getD undef = .pointer (some ⟨p, 0, none⟩) := by simpa using hz
  have hc := fr_cells hb
  have hl := (Array.getElem?_eq_some_iff.1 hb).1
  have hc2 := fr_cells hd
  have hl2 := (Array.getElem?_eq_some_iff.1 hd).1
  simp [results, h, asAddr, ht', hu', hz', loadVar, go_sem, hc, hl, hc2, hl2]
/-- What Link leaves. -/
def PLink (w : World) (l : List Ob) (mem : Int) (e : Ending) (w' : World) : Prop := Below w.heap.size w w' ∧ ∃ v, e = .returned v ∧ LrV w' (linkO l mem) v
theorem PLink.no {w w' : World} {l : List Ob} {mem : Int} {t : Int × Int × Int} (h : linkO l mem = noL t) (hb : Below w.heap.size w w') : PLink w l mem (.returned (.tuple #[.agg #[.slice none 0 0, .slice none 0 0, .int .i64 0], .slice none 0 0, .agg #[.int .i64 t.1, .int .i64 t.2.1, .int .i64 t.2.2]])) w' := ⟨hb, _, rfl, by rw [h]; exact LrV.no w' t⟩
set_option maxRecDepth 100000 in
set_option maxHeartbeats 4000000 in
theorem linkr_bad (a : Option Addr) (n c : Nat) (l : List Ob) (mem : Int) (w : World) (hv : Obs w (.slice a n c) l) (hbad : (chkL l).2.1 ≠ 0) : Calls Try.prog 5 #[.slice a n c, .int .i64 mem] w (PLink w l mem) := by
  have HR : Hid (∀ w', Below w.heap.size w w' → PLink w l mem _ w') := fun w' hb => PLink.no (show linkO l mem = noL (chkL l) by unfold linkO; rw [if_pos hbad]) hb
  have HF := hide (((Fr.start w).alloc (q := w.heap.size) rfl #[.slice none 0 0, .slice none 0 0, .int .i64 0] 26).alloc (q := w.heap.size + 1) (by simp) #[.int .i64 0, .int .i64 0, .int .i64 0] 30)
  have HC := hide (fun (w' : World) (hb : Below w.heap.size w w') => chkl_any a n c l w' (hv.below hb))
  generalize chkL l = T at *
  obtain ⟨t0, t1, t2⟩ := T
  simp only at hbad HC HR
  have hb' : (t1 != 0) = true := by simpa using hbad
  go_enter Try.func5, Try.ntmps5
  go_wp2_with fail
  go_at_call 8
  refine (HC.out _ HF.out.below).mono ?_
  rintro e w1 ⟨rfl, hb⟩
  replace HF := hide ((HF.out.call hb).alloc (q := w1.heap.size) rfl #[.int .i64 t0, .int .i64 t1, .int .i64 t2] 30)
  clear hb HC
  have s0 := HF.out.cell 0 rfl
  have s1 := HF.out.frz 1 rfl
  have s2 := HF.out.frz 2 rfl
  have s3 := HF.out.cell 1 rfl
  have s4 := HF.out.cell 2 rfl
  go_wp2_with fail
  generalize hwa : w1.alloc _ = wa at *
  generalize hb2 : w1.heap.size = b2 at *
  generalize hb1 : w.heap.size + 1 = b1 at *
  generalize hb0 : w.heap.size = b0 at *
  clear hwa hb2 hb1
  have n20 := HF.out.apart 0 2 rfl rfl (by decide)
  have n21 := HF.out.apart 0 1 rfl rfl (by decide)
  have n10 := HF.out.apart 1 2 rfl rfl (by decide)
  have n02 := n20.symm
  have n12 := n21.symm
  have n01 := n10.symm
  go_region
  have HG := hide ((((((HF.out.set 2 rfl 0 (.slice none 0 0)).set 2 rfl 1 (.slice none 0 0)).set 2 rfl 2 (.int .i64 0)).set 1 rfl 0 (.int .i64 t0)).set 1 rfl 1 (.int .i64 t1)).set 1 rfl 2 (.int .i64 t2)).drew
  clear s0 s1 s2 s3 s4
  go_wp2_with fail
  refine bodyPost_ret (rtL Try.results5 rfl rfl rfl (HG.out.get (i := 2) rfl).2 (HG.out.get (i := 1) rfl).2 rfl) rfl ?_
  exact HR.out _ HG.out.below
end Go.Proofs.Ythbhlmbhnidbhaa.T
