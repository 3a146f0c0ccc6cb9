/- The contract of the program's May (of an object). -/
import Derived.Test.YthbhlmbhnidbhaaQc
import Derived.Test.YthbhlmbhnidbhaaQd
import Derived.Test.YthbhlmbhnidbhaaQe
namespace Go.Proofs.Ythbhlmbhnidbhaa.T
open Go.RowKit Go.Proofs.Ythbhlmbhnidbhaa.M
set_option linter.unusedVariables false
set_option linter.unusedSimpArgs false
theorem RowV.keep {α : Type} {P : World → α → List Value → Prop} {k : Nat} {w w' : World} {v : Value} {L : List α} (hP : ∀ x cs, P w x cs → P w' x cs) (h : RowV P k w v L) (hb : Below w.heap.size w w') : RowV P k w' v L := RowV.below hP h hb
set_option maxRecDepth 100000 in
set_option maxHeartbeats 4000000 in
theorem pmay_any (o : Ob) (v : Value) (w : World) (hv : ObV w o v) : Calls Try.prog 27 #[v] w fun e w' => e = .returned (.bool (mayO o)) ∧ Below w.heap.size w w' := by
  rw [← mayP_eq]
  have HV := hide (fun (w' : World) (hb : Below w.heap.size w w') => hv.below hb)
  obtain ⟨cv, dv, sv, rv, rfl, ⟨ca, cc, rfl, hc1, hc2, -⟩, ⟨da, dc, rfl, hd1, hd2, -⟩, ⟨sa, sc, rfl, hs1, hs2, hS⟩, ⟨ra, rc, rfl, hr1, hr2, -⟩⟩ := hv
  have HS := hide (fun (w' : World) (hb : Below w.heap.size w w') => RowV.below (w := w) (w' := w') (P := syC) (k := 7) (L := o.syms) (fun _ _ h => h) ⟨sa, sc, rfl, hs1, hs2, hS⟩ hb)
  have HM : Hid (mayP o = (decide (o.code.length ≤ 6000) && decide (o.data.length ≤ 16000) && decide (o.syms.length ≤ 400) && decide (o.rels.length ≤ 6000) && symsB o.syms && fillB o.syms 1 o.code.length && fillB o.syms 2 o.data.length && (List.range o.rels.length).all (relB o))) := rfl
  have H20 := hide (fun w' hb => syms_any o.syms _ w' (HS.out w' hb))
  have H21a := hide (fun w' hb hw => fill_any o.syms 1 o.code.length _ w' (HS.out w' hb) hw (by unfold In64; omega))
  have H21b := hide (fun w' hb hw => fill_any o.syms 2 o.data.length _ w' (HS.out w' hb) hw (by unfold In64; omega))
  have H22 := hide (fun w' hb => rels_any o _ w' (HV.out w' hb))
  clear HV HS hS
  generalize mayP o = M at *
  generalize symsB o.syms = S at *
  generalize fillB o.syms 1 o.code.length = F1 at *
  generalize fillB o.syms 2 o.data.length = F2 at *
  generalize (List.range o.rels.length).all (relB o) = R at *
  generalize o.code.length = nc at *
  generalize o.data.length = nd at *
  generalize o.syms.length = ns at *
  generalize o.rels.length = nr at *
  have HF := hide ((Fr.start w).alloc (q := w.heap.size) rfl #[.slice ca nc cc, .slice da nd dc, .slice sa ns sc, .slice ra nr rc] 57)
  have c0 := HF.out.cell 0 rfl
  by_cases h0 : nc ≤ 6000
  case neg =>
    have h0' : ¬ (nc : Int) ≤ 6000 := by omega
    obtain rfl : M = false := by rw [HM.out]; simp [h0]
    clear HM
    go_enter Try.func27, Try.ntmps27
    go_wp2_with fail
    go_ret
    exact ⟨rfl, HF.out.below⟩
  have h0' : (nc : Int) ≤ 6000 := by omega
  by_cases h1 : nd ≤ 16000
  case neg =>
    have h1' : ¬ (nd : Int) ≤ 16000 := by omega
    obtain rfl : M = false := by rw [HM.out]; simp [h1]
    clear HM
    go_enter Try.func27, Try.ntmps27
    go_wp2_with fail
    go_ret
    exact ⟨rfl, HF.out.below⟩
  have h1' : (nd : Int) ≤ 16000 := by omega
  by_cases h2 : ns ≤ 400
  case neg =>
    have h2' : ¬ (ns : Int) ≤ 400 := by omega
    obtain rfl : M = false := by rw [HM.out]; simp [h2]
    clear HM
    go_enter Try.func27, Try.ntmps27
    go_wp2_with fail
    go_ret
    exact ⟨rfl, HF.out.below⟩
  have h2' : (ns : Int) ≤ 400 := by omega
  by_cases h3 : nr ≤ 6000
  case neg =>
    have h3' : ¬ (nr : Int) ≤ 6000 := by omega
    obtain rfl : M = false := by rw [HM.out]; simp [h3]
    clear HM
    go_enter Try.func27, Try.ntmps27
    go_wp2_with fail
    go_ret
    exact ⟨rfl, HF.out.below⟩
  have h3' : (nr : Int) ≤ 6000 := by omega
  have HM2 : Hid (M = (S && F1 && F2 && R)) := HM.out.trans (by simp [h0, h1, h2, h3])
  clear HM
  go_enter Try.func27, Try.ntmps27
  go_wp2_with fail
  go_at_call 42
  refine (H20.out _ HF.out.below).mono ?_
  rintro e w1 ⟨rfl, hb⟩
  replace HF := hide (HF.out.call hb)
  clear hb c0 H20
  have c0 := HF.out.cell 0 rfl
  cases S with
  | false =>
    obtain rfl : M = false := HM2.out
    go_wp2_with fail
    go_ret
    exact ⟨rfl, HF.out.below⟩
  | true =>
  go_wp2_with fail
  go_at_call 43
  refine (H21a.out _ HF.out.below (by omega)).mono ?_
  rintro e w2 ⟨rfl, hb⟩
  replace HF := hide (HF.out.call hb)
  clear hb c0
  have c0 := HF.out.cell 0 rfl
  cases F1 with
  | false =>
    obtain rfl : M = false := HM2.out
    go_wp2_with fail
    go_ret
    exact ⟨rfl, HF.out.below⟩
  | true =>
  go_wp2_with fail
  go_at_call 43
  refine (H21b.out _ HF.out.below (by omega)).mono ?_
  rintro e w3 ⟨rfl, hb⟩
  replace HF := hide (HF.out.call hb)
  clear hb c0
  have c0 := HF.out.cell 0 rfl
  cases F2 with
  | false =>
    obtain rfl : M = false := HM2.out
    go_wp2_with fail
    go_ret
    exact ⟨rfl, HF.out.below⟩
  | true =>
  go_wp2_with fail
  go_at_call 44
  refine (H22.out _ HF.out.below).mono ?_
  rintro e w4 ⟨rfl, hb⟩
  replace HF := hide (HF.out.call hb)
  clear hb c0
  obtain rfl : M = R := HM2.out
  clear HM2
  go_wp2_with fail
  go_ret
  exact ⟨rfl, HF.out.below⟩
end Go.Proofs.Ythbhlmbhnidbhaa.T
