/- The contracts of the linker's isOwn, meets, symbol; of machine.Check. -/
import Derived.Test.YthbhlmbhnidbhaaXa
namespace Go.Proofs.Ythbhlmbhnidbhaa.T
open Go.RowKit Go.Proofs.Ythbhlmbhnidbhaa.M
set_option linter.unusedVariables false
set_option linter.unusedSimpArgs false
theorem isown_any (nm : ByteArray) (kd : Int) (st : Bool) (pl sz : Int) (sg : ByteArray) (fr : Int) (w : World) : Calls Try.prog 28 #[.agg #[.string nm, .int .i64 kd, .bool st, .int .i64 pl, .int .i64 sz, .string sg, .int .i64 fr]] w fun e w' => e = .returned (.bool (decide (kd = 1) || decide (kd = 2))) ∧ Below w.heap.size w w' := by
  have HF := hide ((Fr.start w).alloc rfl #[.string nm, .int .i64 kd, .bool st, .int .i64 pl, .int .i64 sz, .string sg, .int .i64 fr] 59)
  by_cases h1 : kd = 1
  · subst h1
    go_enter Try.func28, Try.ntmps28
    go_wp2_with fail
    go_ret
    exact ⟨by simp, HF.out.below⟩
  · have h1' : (kd == 1) = false := by simpa using h1
    by_cases h2 : kd = 2
    · subst h2
      go_enter Try.func28, Try.ntmps28
      go_wp2_with fail
      go_ret
      exact ⟨by simp, HF.out.below⟩
    · have h2' : (kd == 2) = false := by simpa using h2
      go_enter Try.func28, Try.ntmps28
      go_wp2_with fail
      go_ret
      exact ⟨by simp [h1, h2], HF.out.below⟩
set_option maxRecDepth 100000 in
set_option maxHeartbeats 2000000 in
theorem meets_any (nm : ByteArray) (kd : Int) (st : Bool) (pl sz : Int) (sg : ByteArray) (fr : Int) (nm2 : ByteArray) (kd2 : Int) (st2 : Bool) (pl2 sz2 : Int) (sg2 : ByteArray) (fr2 : Int) (w : World) :
    Calls Try.prog 29 #[.agg #[.string nm, .int .i64 kd, .bool st, .int .i64 pl, .int .i64 sz, .string sg, .int .i64 fr], .agg #[.string nm2, .int .i64 kd2, .bool st2, .int .i64 pl2, .int .i64 sz2, .string sg2, .int .i64 fr2]] w fun e w' => e = .returned (.bool (meetB ⟨nm, kd, st, pl, sz, sg, fr⟩ ⟨nm2, kd2, st2, pl2, sz2, sg2, fr2⟩)) ∧ Below w.heap.size w w' := by
  have HF := hide (((Fr.start w).alloc (q := w.heap.size) rfl #[.string nm, .int .i64 kd, .bool st, .int .i64 pl, .int .i64 sz, .string sg, .int .i64 fr] 59).alloc (q := w.heap.size + 1) (by simp) #[.string nm2, .int .i64 kd2, .bool st2, .int .i64 pl2, .int .i64 sz2, .string sg2, .int .i64 fr2] 59)
  have HM : Hid (meetB ⟨nm, kd, st, pl, sz, sg, fr⟩ ⟨nm2, kd2, st2, pl2, sz2, sg2, fr2⟩ = ((decide (kd = 3) == decide (kd2 = 1)) && decide (sg = sg2))) := rfl
  generalize meetB ⟨nm, kd, st, pl, sz, sg, fr⟩ ⟨nm2, kd2, st2, pl2, sz2, sg2, fr2⟩ = R at *
  have c0 := HF.out.cell 0 rfl
  have c1 := HF.out.cell 1 rfl
  by_cases h3 : kd = 3
  · subst h3
    by_cases h1 : kd2 = 1
    · subst h1
      by_cases hs : sg = sg2
      · subst hs
        obtain rfl : R = true := by rw [HM.out]; simp [*]
        clear HM
        go_enter Try.func29, Try.ntmps29
        go_wp2_with fail
        go_ret
        exact ⟨rfl, HF.out.below⟩
      · have hs' : (sg.toList == sg2.toList) = false := by rw [str_eq]; simpa using hs
        obtain rfl : R = false := by rw [HM.out]; simp [*]
        clear HM
        go_enter Try.func29, Try.ntmps29
        go_wp2_with fail
        go_ret
        exact ⟨rfl, HF.out.below⟩
    · have h1' : (kd2 == 1) = false := by simpa using h1
      obtain rfl : R = false := by rw [HM.out]; simp [*]
      clear HM
      go_enter Try.func29, Try.ntmps29
      go_wp2_with fail
      go_ret
      exact ⟨rfl, HF.out.below⟩
  · have h3' : (kd == 3) = false := by simpa using h3
    by_cases h1 : kd2 = 1
    · subst h1
      obtain rfl : R = false := by rw [HM.out]; simp [*]
      clear HM
      go_enter Try.func29, Try.ntmps29
      go_wp2_with fail
      go_ret
      exact ⟨rfl, HF.out.below⟩
    · have h1' : (kd2 == 1) = false := by simpa using h1
      by_cases hs : sg = sg2
      · subst hs
        obtain rfl : R = true := by rw [HM.out]; simp [*]
        clear HM
        go_enter Try.func29, Try.ntmps29
        go_wp2_with fail
        go_ret
        exact ⟨rfl, HF.out.below⟩
      · have hs' : (sg.toList == sg2.toList) = false := by rw [str_eq]; simpa using hs
        obtain rfl : R = false := by rw [HM.out]; simp [*]
        clear HM
        go_enter Try.func29, Try.ntmps29
        go_wp2_with fail
        go_ret
        exact ⟨rfl, HF.out.below⟩
theorem rtS {fn : Func} {t : Tmp} {q : Nat} {c0 c1 c2 c3 c4 c5 c6 : Value} {tmps : Array Value} {w : World} (h : fn.results = #[.cell t 59]) (ht : tmps.getD t undef = .pointer (some ⟨q, 0, none⟩)) (hb : w.heap[q]? = some (.cells #[c0, c1, c2, c3, c4, c5, c6] 59 (0, 0))) (h1 : c0.oneCell' = true) : (results fn tmps).run Try.prog w = .ok (.agg #[c0, c1, c2, c3, c4, c5, c6]) w := by
  have ht' : tmps[t]?.getD undef = .pointer (some ⟨q, 0, none⟩) := by simpa using ht
  have hc := fr_cells hb
  have hl := (Array.getElem?_eq_some_iff.1 hb).1
  simp [results, h, asAddr, ht', loadVar, go_sem, hc, hl]
def syV (s : Sy) : Value := .agg #[.string s.name, .int .i64 s.kind, .bool s.stat, .int .i64 s.pl, .int .i64 s.size, .string s.sign, .int .i64 s.frame]
set_option maxRecDepth 100000 in
set_option maxHeartbeats 4000000 in
theorem psym_any {W w : World} {b mb : Nat} {a : Option Addr} {n c : Nat} {mem : Int} {CO DA : List Int} {ST : List (Int × Int)} {RG : List Rg} {k : Nat} {f : ByteArray → Option (Nat × Nat)} {L : List Rs} (l : List Ob) (hO : Obs W (.slice a n c) l) (h : LS W.heap.size W w b mb a n c mem CO DA ST RG k f L) (u i : Nat) (hu : u < l.length) (hi : i < l[u].syms.length) :
    Calls Try.prog 30 #[.pointer (some ⟨b, 0, none⟩), .agg #[.int .i64 u, .int .i64 i]] w fun e w' => e = .returned (syV l[u].syms[i]) ∧ Below w.heap.size w w' := by
  have HB := hide ((((Fr.start w).alloc (q := w.heap.size) rfl #[.int .i64 u, .int .i64 i] 75)).alloc (q := w.heap.size + 1) (by simp) #[.string ⟨#[]⟩, .int .i64 0, .bool false, .int .i64 0, .int .i64 0, .string ⟨#[]⟩, .int .i64 0] 59)
  obtain ⟨ca, cc, da, dc, sa, sc, ra, rc, hF⟩ := h
  have HF := hide ((hF.alloc (q := w.heap.size) rfl #[.int .i64 u, .int .i64 i] 75).alloc (q := w.heap.size + 1) (by simp) #[.string ⟨#[]⟩, .int .i64 0, .bool false, .int .i64 0, .int .i64 0, .string ⟨#[]⟩, .int .i64 0] 59)
  clear hF
  obtain ⟨hnl, hlc, hc63, HA⟩ := hO.at
  have hun : u < n := by omega
  obtain ⟨g, oo, rfl, HE⟩ := HA (by omega)
  obtain ⟨oca, occ, oda, odc, osa, osc, ora, orc, e0, e1, e2, e3, HOb⟩ := HE.out _ HF.out.below u hu
  obtain ⟨-, hs63, HS⟩ := HOb.syms
  obtain ⟨gs, os, rfl, HSE⟩ := HS (by omega)
  obtain ⟨r0, r1, r2, r3, r4, r5, r6⟩ := HSE.out _ (Below.refl _ _) i hi
  have hidx : (0 : Int) ≤ u ∧ (u : Int) < n := by omega
  have hidx2 : (0 : Int) ≤ i ∧ (i : Int) < l[u].syms.length := by omega
  clear HA HE HS HSE HOb hO e0 e1 e3
  unfold syV
  generalize l[u].syms[i] = S at *
  generalize l[u].syms.length = ns at *
  obtain ⟨nm, kd, st, pl, sz, sg, fr⟩ := S
  simp only at r0 r1 r2 r3 r4 r5 r6
  have q0 := HF.out.cell 0 rfl
  have q1 := HF.out.cell 1 rfl
  have q2 := HF.out.cell 2 rfl
  have f0 := HF.out.frz 0 rfl
  have n01 := HF.out.apart 0 1 rfl rfl (by decide)
  have n02 := HF.out.apart 0 2 rfl rfl (by decide)
  have n10 := n01.symm
  have n20 := n02.symm
  clear HF
  go_enter Try.func30, Try.ntmps30
  go_wp2_with fail
  generalize hwa : (w.alloc (.cells #[.int .i64 u, .int .i64 i] 75)).alloc _ = wa at *
  generalize hb1 : w.heap.size + 1 = b1 at *
  generalize hb0 : w.heap.size = b0 at *
  have HB0 := hide hb0
  clear hwa hb1 hb0
  go_region
  have HG := hide (((((((HB.out.set 0 rfl 0 (.string nm)).set 0 rfl 1 (.int .i64 kd)).set 0 rfl 2 (.bool st)).set 0 rfl 3 (.int .i64 pl)).set 0 rfl 4 (.int .i64 sz)).set 0 rfl 5 (.string sg)).set 0 rfl 6 (.int .i64 fr)).drew
  clear q0 q1 q2 f0
  go_wp2_with fail
  refine bodyPost_ret (rtS Try.results30 rfl (HG.out.get (i := 0) rfl).2 rfl) rfl ?_
  exact ⟨rfl, by rw [HB0.out]; exact HG.out.below⟩
theorem check_img (ca da : Option Addr) (nc cc nd cd : Nat) (M : Int) (w : World) (hc : nc ≤ 140737488355328) (hd : nd ≤ 140737488355328) (M0 : -9223372036854775808 ≤ M) (M1 : M ≤ 9223372036854775807) :
    Calls Try.prog 36 #[.agg #[.slice ca nc cc, .slice da nd cd, .int .i64 M]] w fun e w' => e = .returned (.int .i64 (if mayI nc nd M then 0 else 1)) ∧ Below w.heap.size w w' := by
  have hB : Below w.heap.size w (w.alloc (.cells #[.slice ca nc cc, .slice da nd cd, .int .i64 M] 26)) := (Below.refl _ _).alloc (Nat.le_refl _) _
  by_cases h3 : (nc : Int) < 1
  · rw [show mayI nc nd M = false by unfold mayI; simp; omega]
    go_enter Try.func36, Try.ntmps36
    go_wp2
    go_ret
    exact ⟨rfl, hB⟩
  by_cases h4 : (6000 : Int) < nc
  · rw [show mayI nc nd M = false by unfold mayI; simp; omega]
    go_enter Try.func36, Try.ntmps36
    go_wp2
    go_ret
    exact ⟨rfl, hB⟩
  by_cases h5 : M < 32
  · rw [show mayI nc nd M = false by unfold mayI; simp; omega]
    go_enter Try.func36, Try.ntmps36
    go_wp2
    go_ret
    exact ⟨rfl, hB⟩
  by_cases h6 : 16000 < M
  · rw [show mayI nc nd M = false by unfold mayI; simp; omega]
    go_enter Try.func36, Try.ntmps36
    go_wp2
    go_ret
    exact ⟨rfl, hB⟩
  by_cases h6 : (nc : Int) + nd ≤ M - 16
  · rw [show mayI nc nd M = true by unfold mayI; simp; omega]
    have h6' : ¬ M - 16 < (nc : Int) + nd := by omega
    go_enter Try.func36, Try.ntmps36
    go_wp2
    go_ret
    exact ⟨rfl, hB⟩
  · rw [show mayI nc nd M = false by unfold mayI; simp; omega]
    have h6' : M - 16 < (nc : Int) + nd := by omega
    go_enter Try.func36, Try.ntmps36
    go_wp2
    go_ret
    exact ⟨rfl, hB⟩
end Go.Proofs.Ythbhlmbhnidbhaa.T
