/- For all objects and every memory the call LinkMakes(l, memory) returns true, and both arguments read behind it as they did: no condition beside the form's own reach. -/
import Derived.Test.YthbhlmbhnidbhaaLf
import Derived.ProofKit
import Derived.OpenShut
import Derived.SizedLaws
import Derived.Carry
import Derived.Deep.MidRow
import Derived.Test.YthbhlmbhnidbhaaLk
import Derived.Test.YthbhlmbhnidbhaaXn
import Derived.Test.YthbhlmbhnidbhaaXg
import Derived.Test.YthbhlmbhnidbhaaXk
import Derived.Test.YthbhlmbhnidbhaaLl
import Derived.Test.YthbhlmbhnidbhaaRows
import Derived.WalkKit
namespace Go.Proofs.Ythbhlmbhnidbhaa.T
open Go.ChangeShapes Go.WideShapes Go.ChangeAt Go.RowKit Go.Proofs.Ythbhlmbhnidbhaa.M
set_option linter.unusedVariables false
theorem spot_none {w : World} {a : Addr} {u : Value} (h : w.cell? a = some u) : a.spot = none := by
  obtain ⟨b, o, s⟩ := a
  cases s with
  | none => rfl
  | some s =>
    exfalso
    unfold World.cell? at h
    split at h <;> simp at h
theorem c57 : Try.prog.cellsOf 57 = 4 := by kernel_rfl
theorem c59 : Try.prog.cellsOf 59 = 7 := by kernel_rfl
theorem c63 : Try.prog.cellsOf 63 = 3 := by kernel_rfl
theorem c34 : Try.prog.cellsOf 34 = 1 := by kernel_rfl
theorem c21 : Try.prog.cellsOf 21 = 1 := by kernel_rfl
theorem c5 : Try.prog.cellsOf 5 = 1 := by kernel_rfl
theorem c3 : Try.prog.cellsOf 3 = 1 := by kernel_rfl
theorem c4 : Try.prog.cellsOf 4 = 1 := by kernel_rfl
theorem c9 : Try.prog.cellsOf 9 = 1 := by kernel_rfl
theorem c23 : Try.prog.cellsOf 23 = 1 := by kernel_rfl
theorem c24 : Try.prog.cellsOf 24 = 1 := by kernel_rfl
theorem c54 : Try.prog.cellsOf 54 = 1 := by kernel_rfl
theorem c55 : Try.prog.cellsOf 55 = 1 := by kernel_rfl
theorem choose_lt {α : Type} (d : α) {n : Nat} {p : Nat → α → Prop} (h : ∀ i, i < n → ∃ a, p i a) : ∃ f : Nat → α, ∀ i, i < n → p i (f i) := by
  classical
  refine ⟨fun i => if hi : i < n then Classical.choose (h i hi) else d, fun i hi => ?_⟩
  simp only [dif_pos hi]
  exact Classical.choose_spec (h i hi)
section
variable {H : Type} {enc : TypeId × Value → H} {W : World} {sp : Nat → Bool}
/-- A row that came in, of things that can be opened. -/
theorem open_row {α : Type} (d : α) {P : World → α → List Value → Prop} {t e : TypeId} {k : Nat} (ht : Try.prog.underlying t = some (.slice e)) (hc : Try.prog.cellsOf e = k) (hk : 0 < k)
    (hop : ∀ fuel cs y, DataW.trod enc Try.prog W 0 sp true fuel e cs = some y → ∃ x, P W x cs) (fuel : Nat) (k0 : Value) (y : DataW H × List MemPlace) (h : DataW.trod enc Try.prog W 0 sp true fuel t [k0] = some y) : ∃ L, RowV P k W k0 L := by
  have hm : maxLen = 9223372036854775807 := rfl
  rcases DataW.trod_slice ht h with ⟨h1, _⟩ | ⟨a, len, cap, elems, rest, n', hn', h1, _, _, hlc, hcm, hel, hE, _, _⟩
  · simp at h1
    exact ⟨[], none, 0, h1, by simp, by simp, fun h => absurd h (by simp)⟩
  · simp at h1
    rw [hc] at hE
    have each : ∀ i, i < len → ∃ x : α, ∃ cs, P W x cs ∧ W.cells? 0 (a.add (i * k)) k = some cs := fun i hi => by
      have h2 := hE i hi
      rw [List.getElem?_eq_getElem (by omega)] at h2
      obtain ⟨cs', h3, h4⟩ := Option.bind_eq_some_iff.1 h2
      obtain ⟨x, hx⟩ := hop _ _ _ h4
      exact ⟨x, cs', hx, h3⟩
    obtain ⟨f, hf⟩ := choose_lt d each
    have hL : ((List.range len).map f).length = len := by simp
    refine ⟨(List.range len).map f, some a, cap, by rw [hL]; exact h1, by rw [hL]; omega, by omega, fun hpos => ?_⟩
    rw [hL] at hpos
    obtain ⟨cs0, -, hc0⟩ := hf 0 hpos
    obtain ⟨_, g2, g3⟩ := World.cells?_some hc0
    have ha0 : a.add (0 * k) = a := by unfold Addr.add; simp
    have ha1 : a.add 0 = a := by unfold Addr.add; simp
    have h0 := g3 0 (by omega)
    rw [ha0, ha1, List.getElem?_eq_getElem (by omega)] at h0
    have hs := spot_none h0
    obtain ⟨b, o, s⟩ := a
    simp only at hs
    subst hs
    refine ⟨b, o, rfl, World.block_lt_of_cell? W ⟨b, o, none⟩ h0, fun j hj => ?_⟩
    have hj' : j < len := by rw [hL] at hj; exact hj
    obtain ⟨cs, hP, hcs⟩ := hf j hj'
    obtain ⟨_, u3, u4⟩ := World.cells?_some hcs
    simp only [Addr.add_mid] at u4
    have hget : ((List.range len).map f)[j] = f j := by simp
    rw [hget]
    refine ⟨cs, hP, fun i u hu => ?_⟩
    have hi : i < cs.length := (List.getElem?_eq_some_iff.1 hu).1
    rw [u4 i (by omega)]
    exact hu
theorem open_u32 (fuel : Nat) (cs : List Value) (y : DataW H × List MemPlace) (h : DataW.trod enc Try.prog W 0 sp true fuel 34 cs = some y) : ∃ x, u32C W x cs := by
  obtain ⟨x, q, -, hw⟩ := DataW.trod_int Try.underlying34 h
  have := bounds_u32 hw
  exact ⟨x, q, by unfold N4; omega⟩
theorem open_i32 (fuel : Nat) (cs : List Value) (y : DataW H × List MemPlace) (h : DataW.trod enc Try.prog W 0 sp true fuel 21 cs = some y) : ∃ x, i32C W x cs := by
  obtain ⟨x, q, -, hw⟩ := DataW.trod_int Try.underlying21 h
  exact ⟨x, q, bounds_i32 hw⟩
theorem open_u8 (fuel : Nat) (cs : List Value) (y : DataW H × List MemPlace) (h : DataW.trod enc Try.prog W 0 sp true fuel 5 cs = some y) : ∃ x, u8C W x cs := by
  obtain ⟨x, q, -, hw⟩ := DataW.trod_int Try.underlying5 h
  have hb := bounds_u8 hw
  refine ⟨UInt8.ofNat x.toNat, ?_⟩
  unfold u8C
  rw [q, show ((UInt8.ofNat x.toNat).toNat : Int) = x by rw [UInt8.toNat_ofNat']; omega]
set_option maxRecDepth 100000 in
theorem open_sy (fuel : Nat) (cs : List Value) (y : DataW H × List MemPlace) (h : DataW.trod enc Try.prog W 0 sp true fuel 59 cs = some y) : ∃ s, syC W s cs := by
  obtain ⟨xs, n, hn, hx, hl, hlen, hp⟩ := DataW.trod_struct Try.underlying59 h
  rw [c59] at hl
  obtain ⟨k0, k1, k2, k3, k4, k5, k6, rfl⟩ : ∃ k0 k1 k2 k3 k4 k5 k6, cs = [k0, k1, k2, k3, k4, k5, k6] := by
    match cs, hl with
    | [k0, k1, k2, k3, k4, k5, k6], _ => exact ⟨k0, k1, k2, k3, k4, k5, k6, rfl⟩
  obtain ⟨y0, y1, y2, y3, y4, y5, y6, rfl⟩ : ∃ y0 y1 y2 y3 y4 y5 y6, xs = [y0, y1, y2, y3, y4, y5, y6] := by
    match xs, hlen with
    | [y0, y1, y2, y3, y4, y5, y6], _ => exact ⟨y0, y1, y2, y3, y4, y5, y6, rfl⟩
  have e0 := hp 0 _ rfl
  have e1 := hp 1 _ rfl
  have e2 := hp 2 _ rfl
  have e3 := hp 3 _ rfl
  have e4 := hp 4 _ rfl
  have e5 := hp 5 _ rfl
  have e6 := hp 6 _ rfl
  simp [c3, c4, c9] at e0 e1 e2 e3 e4 e5 e6
  obtain ⟨x0, q0, -, w0⟩ := DataW.trod_string Try.underlying9 e0
  obtain ⟨x1, q1, -, w1⟩ := DataW.trod_int Try.underlying3 e1
  obtain ⟨x2, q2, -⟩ := DataW.trod_bool Try.underlying4 e2
  obtain ⟨x3, q3, -, w3⟩ := DataW.trod_int Try.underlying3 e3
  obtain ⟨x4, q4, -, w4⟩ := DataW.trod_int Try.underlying3 e4
  obtain ⟨x5, q5, -, w5⟩ := DataW.trod_string Try.underlying9 e5
  obtain ⟨x6, q6, -, w6⟩ := DataW.trod_int Try.underlying3 e6
  simp at q0 q1 q2 q3 q4 q5 q6
  subst q0 q1 q2 q3 q4 q5 q6
  exact ⟨⟨x0, x1, x2, x3, x4, x5, x6⟩, rfl, bounds_i64 w1, bounds_i64 w3, bounds_i64 w4, bounds_i64 w6, w0, w5⟩
set_option maxRecDepth 100000 in
theorem open_re (fuel : Nat) (cs : List Value) (y : DataW H × List MemPlace) (h : DataW.trod enc Try.prog W 0 sp true fuel 63 cs = some y) : ∃ s, reC W s cs := by
  obtain ⟨xs, n, hn, hx, hl, hlen, hp⟩ := DataW.trod_struct Try.underlying63 h
  rw [c63] at hl
  obtain ⟨k0, k1, k2, rfl⟩ : ∃ k0 k1 k2, cs = [k0, k1, k2] := by
    match cs, hl with
    | [k0, k1, k2], _ => exact ⟨k0, k1, k2, rfl⟩
  obtain ⟨y0, y1, y2, rfl⟩ : ∃ y0 y1 y2, xs = [y0, y1, y2] := by
    match xs, hlen with
    | [y0, y1, y2], _ => exact ⟨y0, y1, y2, rfl⟩
  have e0 := hp 0 _ rfl
  have e1 := hp 1 _ rfl
  have e2 := hp 2 _ rfl
  simp [c3] at e0 e1 e2
  obtain ⟨x0, q0, -, w0⟩ := DataW.trod_int Try.underlying3 e0
  obtain ⟨x1, q1, -, w1⟩ := DataW.trod_int Try.underlying3 e1
  obtain ⟨x2, q2, -, w2⟩ := DataW.trod_int Try.underlying3 e2
  simp at q0 q1 q2
  subst q0 q1 q2
  exact ⟨⟨x0, x1, x2⟩, rfl, bounds_i64 w0, bounds_i64 w1, bounds_i64 w2⟩
set_option maxRecDepth 100000 in
theorem open_ob (fuel : Nat) (cs : List Value) (y : DataW H × List MemPlace) (h : DataW.trod enc Try.prog W 0 sp true fuel 57 cs = some y) : ∃ o, ∃ cv dv sv rv, cs = [cv, dv, sv, rv] ∧ ObV W o (.agg #[cv, dv, sv, rv]) := by
  obtain ⟨xs, n, hn, hx, hl, hlen, hp⟩ := DataW.trod_struct Try.underlying57 h
  rw [c57] at hl
  obtain ⟨k0, k1, k2, k3, rfl⟩ : ∃ k0 k1 k2 k3, cs = [k0, k1, k2, k3] := by
    match cs, hl with
    | [k0, k1, k2, k3], _ => exact ⟨k0, k1, k2, k3, rfl⟩
  obtain ⟨y0, y1, y2, y3, rfl⟩ : ∃ y0 y1 y2 y3, xs = [y0, y1, y2, y3] := by
    match xs, hlen with
    | [y0, y1, y2, y3], _ => exact ⟨y0, y1, y2, y3, rfl⟩
  have e0 := hp 0 _ rfl
  have e1 := hp 1 _ rfl
  have e2 := hp 2 _ rfl
  have e3 := hp 3 _ rfl
  simp [c23, c24, c54, c55] at e0 e1 e2 e3
  obtain ⟨C, hC⟩ := open_row (0 : Int) Try.underlying23 c34 (by decide) open_u32 _ _ _ e0
  obtain ⟨D, hD⟩ := open_row (0 : Int) Try.underlying24 c21 (by decide) open_i32 _ _ _ e1
  obtain ⟨S, hS⟩ := open_row (⟨⟨#[]⟩, 0, false, 0, 0, ⟨#[]⟩, 0⟩ : Sy) Try.underlying54 c59 (by decide) open_sy _ _ _ e2
  obtain ⟨R, hR⟩ := open_row (⟨0, 0, 0⟩ : Re) Try.underlying55 c63 (by decide) open_re _ _ _ e3
  exact ⟨⟨C, D, S, R⟩, k0, k1, k2, k3, rfl, k0, k1, k2, k3, rfl, hC, hD, hS, hR⟩
end
set_option maxRecDepth 100000 in
theorem open_object {H : Type} {enc : TypeId × Value → H} {W : World} {r : Reach} {b0 : Nat} {v : Value} {d : DataW H} {p : List MemPlace} {sp : Nat → Bool}
    (hv : Value.okWide Try.prog W r b0 57 v) (h : DataW.Trod enc Try.prog W 0 sp true 57 v d p) : ∃ o, ObV W o v := by
  obtain ⟨cs, rfl, hsz⟩ := okWide_struct Try.underlying57 hv
  obtain ⟨fuel, hf⟩ := h
  obtain ⟨o, cv, dv, sv, rv, e, h⟩ := open_ob fuel _ _ hf
  refine ⟨o, ?_⟩
  have e' : cs.toList = [cv, dv, sv, rv] := e
  rw [show cs = #[cv, dv, sv, rv] from by rw [← Array.toArray_toList (xs := cs), e']]
  exact h
set_option maxRecDepth 100000 in
theorem open_bytes {H : Type} {enc : TypeId × Value → H} {W : World} {r : Reach} {b0 : Nat} {v : Value} {d : DataW H} {p : List MemPlace} {sp : Nat → Bool}
    (hv : Value.okWide Try.prog W r b0 113 v) (h : DataW.Trod enc Try.prog W 0 sp true 113 v d p) : ∃ a n c l, v = .slice a n c ∧ Bys W v l := by
  obtain ⟨a, n, c, rfl⟩ := okWide_slice Try.underlying113 hv
  obtain ⟨fuel, hf⟩ := h
  obtain ⟨L, hL⟩ := open_row (0 : UInt8) Try.underlying113 c5 (by decide) open_u8 fuel _ _ hf
  exact ⟨a, n, c, L, rfl, hL⟩
theorem post_below2 {H : Type} {enc : TypeId × Value → H} {P : Program} {f : Func} {s : ChangeSpec} {apart fresh handsOn : Bool} {W W' : World} {args : Array Value} {v : Value} {ds gs : List (DataW H)} {before pa pv : List MemPlace}
    (hW : DataW.Whole enc P f.params.toList s.vars apart W args.toList ds gs before)
    (hres : ∀ (b : Nat) (sp : Nat → Bool) (hd : Bool), DataW.TrodAll enc P W' b sp hd f.resultTypes.toList (v.resultList f.resultTypes.size) (s.fn H (ds ++ gs)).results [])
    (hargs : DataW.TrodAll enc P W' 0 (fun b => decide (b < W.heap.size)) true f.params.toList args.toList (s.fn H (ds ++ gs)).args pa)
    (hvars : DataW.TrodVars enc P W' (fun b => decide (b < W.heap.size)) s.vars (s.fn H (ds ++ gs)).vars pv)
    (hps : before = pa ++ pv) (hb : Below W.heap.size W W') :
    s.post enc P f apart fresh handsOn false W args v W' := by
  refine ⟨ds, gs, before, [], pa, pv, hW, hres _ _ _, hargs, hvars, World.keptBut_mono (fun p hp => ⟨hp, ?_⟩) (hb.frame (· ∈ before)), fun h => by cases h⟩
  rw [hps, List.mem_append] at hp
  exact Or.inr hp
end Go.Proofs.Ythbhlmbhnidbhaa.T
namespace Go.Proofs.Ythbhlmbhnidbhaa.T
open Go.ChangeShapes Go.WideShapes Go.ChangeAt Go.RowKit Go.Proofs.Ythbhlmbhnidbhaa.M
set_option linter.unusedVariables false
set_option maxRecDepth 100000 in
theorem open_objects {H : Type} {enc : TypeId × Value → H} {W : World} {r : Reach} {b0 : Nat} {v : Value} {d : DataW H} {p : List MemPlace} {sp : Nat → Bool}
    (hv : Value.okWide Try.prog W r b0 22 v) (h : DataW.Trod enc Try.prog W 0 sp true 22 v d p) : ∃ a n c l, v = .slice a n c ∧ Obs W v l := by
  obtain ⟨a, n, c, rfl⟩ := okWide_slice Try.underlying22 hv
  obtain ⟨fuel, hf⟩ := h
  obtain ⟨L, hL⟩ := open_row (P := obC) (⟨[], [], [], []⟩ : Ob) Try.underlying22 c57 (by decide) open_ob fuel _ _ hf
  exact ⟨a, n, c, L, rfl, hL⟩
end Go.Proofs.Ythbhlmbhnidbhaa.T
namespace Go.Proofs.Ythbhlmbhnidbhaa.T
open Go.RowKit Go.Proofs.Ythbhlmbhnidbhaa.M
set_option linter.unusedVariables false
set_option linter.unusedSimpArgs false
/-- What each step finds wrong. -/
def tT (l : List Ob) (n : Nat) (mem : Int) : Nat → Int × Int × Int
  | 0 => countT n
  | 1 => formT l
  | 2 => gathT l
  | 3 => resT l
  | 4 => begT l
  | 5 => layT l mem
  | _ => spkT l
theorem z0 {n : Nat} (h : (countT n).2.1 = 0) : ¬ (n < 1 ∨ 4 < n) := fun e => by
  unfold countT at h
  rw [if_pos e] at h
  simp at h
theorem z1 {l : List Ob} (h : (formT l).2.1 = 0) : l.findIdx? (fun o => !mayO o) = none := by
  unfold formT at h
  cases e : l.findIdx? (fun o => !mayO o) with
  | none => rfl
  | some u => rw [e] at h; simp at h
theorem z2 {l : List Ob} (h : (gathT l).2.1 = 0) : find2 (twiceP l) l 0 = none := by
  unfold gathT at h
  cases e : find2 (twiceP l) l 0 with
  | none => rfl
  | some q => rw [e] at h; obtain ⟨u, i⟩ := q; simp at h
theorem z3 {l : List Ob} (h : (resT l).2.1 = 0) : find2 (fun _ s => decide (outC l s ≠ 0)) l 0 = none := by
  unfold resT at h
  cases e : find2 (fun _ s => decide (outC l s ≠ 0)) l 0 with
  | none => rfl
  | some q =>
    rw [e] at h
    obtain ⟨u, i⟩ := q
    obtain ⟨v, hv, hi, e2, hp⟩ := find2_some e
    obtain rfl : u = v := by omega
    simp only at h
    rw [symO_at hv hi] at h
    simp [h] at hp
theorem z5 {l : List Ob} {mem : Int} (h : (layT l mem).2.1 = 0) : mayI (2 + cS l l.length) (dS l l.length) mem = true := by
  unfold layT at h
  cases e : mayI (2 + cS l l.length) (dS l l.length) mem with
  | true => rfl
  | false => rw [e] at h; simp at h
theorem z6 {l : List Ob} (h : (spkT l).2.1 = 0) : badR l = none := by
  unfold spkT at h
  cases e : badR l with
  | none => rfl
  | some q => rw [e] at h; obtain ⟨u, i⟩ := q; simp at h
theorem chk_zero {l : List Ob} {n : Nat} {mem : Int} (hn : l.length = n) (hz : ∀ i, i < 5 → (tT l n mem i).2.1 = 0) : chkL l = (0, 0, 0) ∧ mainC l = 0 := by
  subst hn
  have h4 : mainC l = 0 := hz 4 (by omega)
  refine ⟨?_, h4⟩
  rw [chk_form (z0 (hz 0 (by omega))) (z1 (hz 1 (by omega))) (z2 (hz 2 (by omega))) (z3 (hz 3 (by omega))), h4]
theorem link_bad {l : List Ob} {n : Nat} {mem : Int} (hn : l.length = n) : ∀ j, j < 7 → (∀ i, i < j → (tT l n mem i).2.1 = 0) → (tT l n mem j).2.1 ≠ 0 → linkO l mem = noL (tT l n mem j)
  | 0, _, hz, hb => by
    subst hn
    have e : chkL l = countT l.length := by
      have h1 : l.length < 1 ∨ 4 < l.length := by
        by_cases q : l.length < 1 ∨ 4 < l.length
        · exact q
        · exfalso
          apply hb
          show (countT l.length).2.1 = 0
          unfold countT
          rw [if_neg q]
      unfold chkL countT
      rw [if_pos h1, if_pos h1]
    unfold linkO
    rw [e]
    exact if_pos hb
  | 1, _, hz, hb => by
    subst hn
    have e : chkL l = formT l := by
      cases q : l.findIdx? (fun o => !mayO o) with
      | none =>
        exfalso
        apply hb
        show (formT l).2.1 = 0
        unfold formT
        rw [q]
      | some u => rw [chk_A (z0 (hz 0 (by omega))) q]; unfold formT; rw [q]
    unfold linkO
    rw [e]
    exact if_pos hb
  | 2, _, hz, hb => by
    subst hn
    have e : chkL l = gathT l := by
      cases q : find2 (twiceP l) l 0 with
      | none =>
        exfalso
        apply hb
        show (gathT l).2.1 = 0
        unfold gathT
        rw [q]
      | some p =>
        obtain ⟨u, i⟩ := p
        rw [chk_B (z0 (hz 0 (by omega))) (z1 (hz 1 (by omega))) q]
        unfold gathT
        rw [q]
    unfold linkO
    rw [e]
    exact if_pos hb
  | 3, _, hz, hb => by
    subst hn
    have e : chkL l = resT l := by
      cases q : find2 (fun _ s => decide (outC l s ≠ 0)) l 0 with
      | none =>
        exfalso
        apply hb
        show (resT l).2.1 = 0
        unfold resT
        rw [q]
      | some p =>
        obtain ⟨u, i⟩ := p
        rw [chk_C (z0 (hz 0 (by omega))) (z1 (hz 1 (by omega))) (z2 (hz 2 (by omega))) q]
        unfold resT
        rw [q]
    unfold linkO
    rw [e]
    exact if_pos hb
  | 4, _, hz, hb => by
    subst hn
    have e : chkL l = begT l := chk_form (z0 (hz 0 (by omega))) (z1 (hz 1 (by omega))) (z2 (hz 2 (by omega))) (z3 (hz 3 (by omega)))
    unfold linkO
    rw [e]
    exact if_pos hb
  | 5, _, hz, hb => by
    have e := (chk_zero hn hz).1
    have h5 : mayI (2 + cS l l.length) (dS l l.length) mem = false := by
      cases q : mayI (2 + cS l l.length) (dS l l.length) mem with
      | false => rfl
      | true =>
        exfalso
        apply hb
        show (layT l mem).2.1 = 0
        unfold layT
        rw [q]
        rfl
    unfold linkO
    rw [e, if_neg (by simp), if_pos h5]
    show _ = noL (layT l mem)
    unfold layT
    rw [h5]
    rfl
  | 6, _, hz, hb => by
    have e := (chk_zero hn (fun i hi => hz i (by omega))).1
    have h5 : mayI (2 + cS l l.length) (dS l l.length) mem = true := z5 (hz 5 (by omega))
    unfold linkO
    rw [e, if_neg (by simp), if_neg (by rw [h5]; simp)]
    show _ = noL (spkT l)
    unfold spkT
    cases q : badR l with
    | none =>
      exfalso
      apply hb
      show (spkT l).2.1 = 0
      unfold spkT
      rw [q]
    | some p => rfl
  | j + 7, hj, _, _ => absurd hj (by omega)
theorem link_good {l : List Ob} {n : Nat} {mem : Int} (hn : l.length = n) (hz : ∀ i, i < 7 → (tT l n mem i).2.1 = 0) : linkO l mem = ⟨patL l l.length, daL l l.length, mem, rgL l l.length, (0, 0, 0)⟩ := by
  have e := (chk_zero hn (fun i hi => hz i (by omega))).1
  have h5 : mayI (2 + cS l l.length) (dS l l.length) mem = true := z5 (hz 5 (by omega))
  have h6 : badR l = none := z6 (hz 6 (by omega))
  unfold linkO
  rw [e, if_neg (by simp), if_neg (by rw [h5]; simp), h6]
/-- What holds ahead of each step. -/
def StL (W w : World) (b mb : Nat) (a : Option Addr) (n c : Nat) (mem : Int) (l : List Ob) (L : List Rs) : Nat → Prop
  | 0 => LS W.heap.size W w b mb a n c mem [] [] [] [] 0 (fun _ => none) L
  | 1 => LS W.heap.size W w b mb a n c mem [] [] [] [] 0 (fun _ => none) L
  | 2 => LS W.heap.size W w b mb a n c mem [] [] [] [] 0 (fun _ => none) L
  | 3 => ∃ k, LS W.heap.size W w b mb a n c mem [] [] [] [] k (homeQ l) L
  | 4 => ∃ k, LS W.heap.size W w b mb a n c mem [] [] [] [] k (homeQ l) L
  | 5 => ∃ k, LS W.heap.size W w b mb a n c mem [] [] [] [] k (homeQ l) L
  | 6 => ∃ k, LS W.heap.size W w b mb a n c mem (cdL l l.length) (daL l l.length) (stL l) (rgL l l.length) k (homeQ l) L
  | _ => ∃ k, LS W.heap.size W w b mb a n c mem (patL l l.length) (daL l l.length) (stL l) (rgL l l.length) k (homeQ l) L
theorem StL.fr {W w : World} {b mb : Nat} {a : Option Addr} {n c : Nat} {mem : Int} {l : List Ob} {L : List Rs} : ∀ j, StL W w b mb a n c mem l L j → Fr W.heap.size W w L
  | 0, h => LS.fr h
  | 1, h => LS.fr h
  | 2, h => LS.fr h
  | 3, ⟨_, h⟩ => LS.fr h
  | 4, ⟨_, h⟩ => LS.fr h
  | 5, ⟨_, h⟩ => LS.fr h
  | 6, ⟨_, h⟩ => LS.fr h
  | _ + 7, ⟨_, h⟩ => LS.fr h
theorem StL.call {w' : World} {W w : World} {b mb : Nat} {a : Option Addr} {n c : Nat} {mem : Int} {l : List Ob} {L : List Rs} (hb : Below w.heap.size w w') : ∀ j, StL W w b mb a n c mem l L j → StL W w' b mb a n c mem l L j
  | 0, h => LS.call h hb
  | 1, h => LS.call h hb
  | 2, h => LS.call h hb
  | 3, ⟨k, h⟩ => ⟨k, LS.call h hb⟩
  | 4, ⟨k, h⟩ => ⟨k, LS.call h hb⟩
  | 5, ⟨k, h⟩ => ⟨k, LS.call h hb⟩
  | 6, ⟨k, h⟩ => ⟨k, LS.call h hb⟩
  | _ + 7, ⟨k, h⟩ => ⟨k, LS.call h hb⟩
/-- What a step leaves. -/
def PSt (W : World) (b mb : Nat) (a : Option Addr) (n c : Nat) (mem : Int) (l : List Ob) (L : List Rs) (t : Int × Int × Int) (j : Nat) (e : Ending) (w' : World) : Prop := e = .returned (trV t) ∧ Fr W.heap.size W w' L ∧ (t.2.1 = 0 → StL W w' b mb a n c mem l L j)
theorem oks_of {l : List Ob} {n : Nat} (hn : l.length = n) (h0 : ¬ (n < 1 ∨ 4 < n)) (h1 : l.findIdx? (fun o => !mayO o) = none) : Oks l := ⟨by omega, fun o ho => by
  rw [List.findIdx?_eq_none_iff] at h1
  simpa using h1 o ho⟩
theorem step_any {W w : World} {b mb : Nat} {a : Option Addr} {n c : Nat} {mem : Int} {l : List Ob} {L : List Rs} (hO : Obs W (.slice a n c) l) (hm0 : -9223372036854775808 ≤ mem) (hm1 : mem ≤ 9223372036854775807) : ∀ j, j < 7 → (∀ i, i < j → (tT l n mem i).2.1 = 0) → StL W w b mb a n c mem l L j → Calls Try.prog (15 + j) #[.pointer (some ⟨b, 0, none⟩)] w (PSt W b mb a n c mem l L (tT l n mem j) (j + 1))
  | 0, _, hz, h => by
    obtain ⟨hnl, hlc, hc63, -⟩ := hO.at
    refine (count_any h (by omega)).mono ?_
    rintro e w' ⟨rfl, hb⟩
    exact ⟨rfl, (LS.call h hb).fr, fun _ => LS.call h hb⟩
  | 1, _, hz, h => by
    refine (form_any l hO h).mono ?_
    rintro e w' ⟨rfl, hb⟩
    exact ⟨rfl, (LS.call h hb).fr, fun _ => LS.call h hb⟩
  | 2, _, hz, h => by
    obtain ⟨hnl, -⟩ := hO.at
    have hK : Oks l := oks_of hnl.symm (z0 (hz 0 (by omega))) (z1 (hz 1 (by omega)))
    refine (gather_any l hO hK h).mono ?_
    rintro e w' ⟨rfl, k, f, hL, hq⟩
    exact ⟨rfl, hL.fr, fun hc => ⟨k, by have := hq hc; subst this; exact hL⟩⟩
  | 3, _, hz, ⟨k, h⟩ => by
    obtain ⟨hnl, -⟩ := hO.at
    have hK : Oks l := oks_of hnl.symm (z0 (hz 0 (by omega))) (z1 (hz 1 (by omega)))
    refine (resolve_any l hO hK h).mono ?_
    rintro e w' ⟨rfl, hL⟩
    exact ⟨rfl, hL.fr, fun _ => ⟨k, hL⟩⟩
  | 4, _, hz, ⟨k, h⟩ => by
    refine (begin_any l hO h).mono ?_
    rintro e w' ⟨rfl, hL⟩
    exact ⟨rfl, hL.fr, fun _ => ⟨k, hL⟩⟩
  | 5, _, hz, ⟨k, h⟩ => by
    obtain ⟨hnl, -⟩ := hO.at
    have hc := chk_zero hnl.symm hz
    refine (lay_any l hO (chk_fine (by rw [hc.1])) hc.2 hm0 hm1 h).mono ?_
    rintro e w' ⟨rfl, hL⟩
    exact ⟨rfl, hL.fr, fun _ => ⟨k, hL⟩⟩
  | 6, _, hz, ⟨k, h⟩ => by
    obtain ⟨hnl, -⟩ := hO.at
    have hc := chk_zero hnl.symm (fun i hi => hz i (by omega))
    refine (speak_any l hO (chk_fine (by rw [hc.1])) h).mono ?_
    rintro e w' ⟨rfl, CO, hL, hq⟩
    exact ⟨rfl, hL.fr, fun hc => ⟨k, by have := hq hc; subst this; exact hL⟩⟩
  | j + 7, hj, _, _ => absurd hj (by omega)
end Go.Proofs.Ythbhlmbhnidbhaa.T
namespace Go.Proofs.Ythbhlmbhnidbhaa.T
open Go.RowKit Go.Proofs.Ythbhlmbhnidbhaa.M
set_option linter.unusedVariables false
set_option linter.unusedSimpArgs false
set_option maxRecDepth 100000 in
theorem steps_any (b : Nat) (w : World) : Calls Try.prog 7 #[.pointer (some ⟨b, 0, none⟩)] w fun e w' => e = .returned (.slice (some ⟨w.heap.size, 0, none⟩) 7 7) ∧ w' = w.alloc (.cells #[.func (.func 15) #[.pointer (some ⟨b, 0, none⟩)] #[], .func (.func 16) #[.pointer (some ⟨b, 0, none⟩)] #[], .func (.func 17) #[.pointer (some ⟨b, 0, none⟩)] #[], .func (.func 18) #[.pointer (some ⟨b, 0, none⟩)] #[], .func (.func 19) #[.pointer (some ⟨b, 0, none⟩)] #[], .func (.func 20) #[.pointer (some ⟨b, 0, none⟩)] #[], .func (.func 21) #[.pointer (some ⟨b, 0, none⟩)] #[]] 45) := by
  have hmf : ∀ (fn : Fn) (first cap : Array Value) (w : World), (Instr.makeFunc fn first cap).run Try.prog w = .ok (.func fn first cap) w := fun _ _ _ _ => rfl
  go_enter Try.func7, Try.ntmps7
  go_wp2_with fail
  go_ret
  exact ⟨rfl, rfl⟩
theorem fs_at (b : Nat) : ∀ j, j < 7 → (#[.func (.func 15) #[.pointer (some ⟨b, 0, none⟩)] #[], .func (.func 16) #[.pointer (some ⟨b, 0, none⟩)] #[], .func (.func 17) #[.pointer (some ⟨b, 0, none⟩)] #[], .func (.func 18) #[.pointer (some ⟨b, 0, none⟩)] #[], .func (.func 19) #[.pointer (some ⟨b, 0, none⟩)] #[], .func (.func 20) #[.pointer (some ⟨b, 0, none⟩)] #[], .func (.func 21) #[.pointer (some ⟨b, 0, none⟩)] #[]] : Array Value)[j]? = some (.func (.func (15 + j)) #[.pointer (some ⟨b, 0, none⟩)] #[])
  | 0, _ => rfl
  | 1, _ => rfl
  | 2, _ => rfl
  | 3, _ => rfl
  | 4, _ => rfl
  | 5, _ => rfl
  | 6, _ => rfl
  | j + 7, h => absurd h (by omega)
theorem cw_n4 {l : List Ob} (hf : Fine l) : N4 (callW l) := by
  unfold callW
  have h0 := Int.emod_nonneg (adrA l (homeO l mainN).1.toNat (symO l (homeO l mainN))) (show (65536 : Int) ≠ 0 by decide)
  have h1 := Int.emod_lt_of_pos (adrA l (homeO l mainN).1.toNat (symO l (homeO l mainN))) (show (0 : Int) < 65536 by decide)
  exact enc_n4 (ck_call _ h0 (by omega))
theorem find3_none {p : Nat → Ob → Re → Bool} : ∀ {l : List Ob} {u0 : Nat}, find3 p l u0 = none → ∀ v (hv : v < l.length), l[v].rels.findIdx? (p (u0 + v) l[v]) = none
  | [], _, _, v, hv => absurd hv (by simp)
  | o :: r, u0, h, v, hv => by
    unfold find3 at h
    cases h2 : o.rels.findIdx? (p u0 o) with
    | some i => rw [h2] at h; cases h
    | none =>
      rw [h2] at h
      cases v with
      | zero => exact h2
      | succ v =>
        have := find3_none h v (by simpa using hv)
        rw [show u0 + (v + 1) = u0 + 1 + v by omega]
        exact this
theorem bad_at {l : List Ob} (h : badR l = none) {u : Nat} (hu : u < l.length) {k : Nat} (hk : k < l[u].rels.length) : rCk l u l[u] l[u].rels[k] = 0 := by
  have := find3_none h u hu
  rw [Nat.zero_add] at this
  exact bad_none hu this k hk
theorem plink_end {W w' : World} {l : List Ob} {mem : Int} {b : Nat} {cs : Array Value} {CO DA : List Int} {RG : List Rg} {ca da ra : Option Addr} {cc dc rc : Nat} {R3 : Rs} {L : List Rs} (h : Fr W.heap.size W w' (.blk b cs 42 :: .row (.slice ca CO.length cc) 34 1 CO.length (CO.map (Value.int .u32)) :: .row (.slice da DA.length dc) 21 1 DA.length (DA.map (Value.int .i32)) :: R3 :: .row (.slice ra RG.length rc) 36 5 RG.length (RG.flatMap rgV) :: L)) (hres : linkO l mem = ⟨CO, DA, mem, RG, (0, 0, 0)⟩) (hP4 : ∀ x, x ∈ CO → N4 x) (hD4 : ∀ x, x ∈ DA → -2147483648 ≤ x ∧ x ≤ 2147483647) (hR4 : ∀ (w' : World) x, x ∈ RG → rgC w' x (rgV x)) : PLink W l mem (.returned (.tuple #[.agg #[.slice ca CO.length cc, .slice da DA.length dc, .int .i64 mem], .slice ra RG.length rc, .agg #[.int .i64 0, .int .i64 0, .int .i64 0]])) w' := by
  refine ⟨h.below, _, rfl, ?_⟩
  rw [hres]
  exact ⟨_, _, _, rfl, row_u32 (h.get (i := 1) rfl) hP4, row_i32 (h.get (i := 2) rfl) hD4, row_flat rgV 36 5 rgV_len (by decide) (h.get (i := 4) rfl) (hR4 _)⟩
def stepF (b j : Nat) : Value := .func (.func (15 + j)) #[.pointer (some ⟨b, 0, none⟩)] #[]
set_option maxRecDepth 100000 in
set_option maxHeartbeats 16000000 in
theorem plink_any (a : Option Addr) (n c : Nat) (l : List Ob) (mem : Int) (W : World) (hO : Obs W (.slice a n c) l) (hm0 : -9223372036854775808 ≤ mem) (hm1 : mem ≤ 9223372036854775807) : Calls Try.prog 4 #[.slice a n c, .int .i64 mem] W (PLink W l mem) := by
  have HStep := hide (fun b mb w L j hj hz h => step_any (W := W) (w := w) (b := b) (mb := mb) (L := L) hO hm0 hm1 j hj hz h)
  obtain ⟨hnl, -⟩ := hO.at
  have HBad := hide (fun j hj hz hb => link_bad (mem := mem) hnl.symm j hj hz hb)
  have HGood := hide (fun hz => link_good (mem := mem) hnl.symm hz)
  have HZc := hide (fun hz => chk_zero (mem := mem) hnl.symm hz)
  have HWf := hide hO.wf
  have HNl : Hid (l.length = n) := hnl.symm
  have h1 := ((((Fr.start W).alloc (q := W.heap.size) rfl #[.slice none 0 0, .slice none 0 0, .int .i64 0] 26).alloc (q := W.heap.size + 1) (by simp) #[.int .i64 0, .int .i64 0, .int .i64 0] 30).moMade (q := W.heap.size + 2) (by simp))
  have h2 := LS.start (a := a) (n := n) (c := c) (mem := mem) h1
  rw [show (((W.alloc (.cells #[.slice none 0 0, .slice none 0 0, .int .i64 0] 26)).alloc (.cells #[.int .i64 0, .int .i64 0, .int .i64 0] 30)).alloc (.map #[] 0)).heap.size = W.heap.size + 3 by simp] at h2
  have h3 := h2.allocQ (q := W.heap.size + 4) (by simp) #[.func (.func 15) #[.pointer (some ⟨W.heap.size + 3, 0, none⟩)] #[], .func (.func 16) #[.pointer (some ⟨W.heap.size + 3, 0, none⟩)] #[], .func (.func 17) #[.pointer (some ⟨W.heap.size + 3, 0, none⟩)] #[], .func (.func 18) #[.pointer (some ⟨W.heap.size + 3, 0, none⟩)] #[], .func (.func 19) #[.pointer (some ⟨W.heap.size + 3, 0, none⟩)] #[], .func (.func 20) #[.pointer (some ⟨W.heap.size + 3, 0, none⟩)] #[], .func (.func 21) #[.pointer (some ⟨W.heap.size + 3, 0, none⟩)] #[]] 45
  have HS0 : Hid (StL W _ (W.heap.size + 3) (W.heap.size + 2) a n c mem l _ 0) := h3
  have HSt := hide (fun w => steps_any (W.heap.size + 3) w)
  have hmm := @run_makeMap Try.prog
  clear h1 h2 h3 hO hnl
  go_enter Try.func4, Try.ntmps4
  go_wp2_with fail
  go_at_call 7
  refine (HSt.out _).mono ?_
  rintro e w1 ⟨rfl, rfl⟩
  clear HSt
  go_wp2_with fail
  clear hmm
  generalize hqs : W.heap.size + 4 = qs at *
  generalize hb : W.heap.size + 3 = b at *
  generalize hmb : W.heap.size + 2 = mb at *
  generalize hq1 : W.heap.size + 1 = q1 at *
  generalize hq0 : W.heap.size = q0 at *
  have HQ0 := hide hq0
  clear hqs hb hmb hq1 hq0
  go_loopw [20] (fun i wr => ∃ j : Nat, j ≤ 7 ∧ i = .int .i64 j ∧ Hid (∀ i, i < j → (tT l n mem i).2.1 = 0) ∧ Hid (StL W wr b mb a n c mem l (.blk qs #[.func (.func 15) #[.pointer (some ⟨b, 0, none⟩)] #[], .func (.func 16) #[.pointer (some ⟨b, 0, none⟩)] #[], .func (.func 17) #[.pointer (some ⟨b, 0, none⟩)] #[], .func (.func 18) #[.pointer (some ⟨b, 0, none⟩)] #[], .func (.func 19) #[.pointer (some ⟨b, 0, none⟩)] #[], .func (.func 20) #[.pointer (some ⟨b, 0, none⟩)] #[], .func (.func 21) #[.pointer (some ⟨b, 0, none⟩)] #[]] 45 :: .blk q1 #[.int .i64 0, .int .i64 0, .int .i64 0] 30 :: .blk q0 #[.slice none 0 0, .slice none 0 0, .int .i64 0] 26 :: []) j)) (fun i _ => 7 - (intOf i).toNat)
  case atStart => exact ⟨0, by omega, rfl, fun i hi => absurd hi (by omega), HS0⟩
  case round =>
    clear HS0
    obtain ⟨j, hj, rfl, HZ, HSw⟩ := hrel
    by_cases hlt : j < 7
    · have hlt' : (j : Int) < 7 := by omega
      have hidx : (0 : Int) ≤ j ∧ (j : Int) < 7 := by omega
      have HF := hide (StL.fr _ HSw.out)
      have hcj : wr.cell? ⟨qs, j, none⟩ = some (stepF b j) := (HF.out.cell 0 rfl j).trans (fs_at b j hlt)
      clear HF
      go_upto_region 5 with fail
      clear hcj
      go_cut [10] from 24 to 26 (fun p wx => ∃ (bt : Nat) (t0 t1 t2 : Int), p = .pointer (some ⟨bt, 0, none⟩) ∧ Hid (tT l n mem j = (t0, t1, t2)) ∧ Hid (Fr W.heap.size W wx (.blk bt #[.int .i64 t0, .int .i64 t1, .int .i64 t2] 30 :: .blk qs #[.func (.func 15) #[.pointer (some ⟨b, 0, none⟩)] #[], .func (.func 16) #[.pointer (some ⟨b, 0, none⟩)] #[], .func (.func 17) #[.pointer (some ⟨b, 0, none⟩)] #[], .func (.func 18) #[.pointer (some ⟨b, 0, none⟩)] #[], .func (.func 19) #[.pointer (some ⟨b, 0, none⟩)] #[], .func (.func 20) #[.pointer (some ⟨b, 0, none⟩)] #[], .func (.func 21) #[.pointer (some ⟨b, 0, none⟩)] #[]] 45 :: .blk q1 #[.int .i64 0, .int .i64 0, .int .i64 0] 30 :: .blk q0 #[.slice none 0 0, .slice none 0 0, .int .i64 0] 26 :: [])) ∧ Hid (t1 = 0 → StL W wx b mb a n c mem l (.blk qs #[.func (.func 15) #[.pointer (some ⟨b, 0, none⟩)] #[], .func (.func 16) #[.pointer (some ⟨b, 0, none⟩)] #[], .func (.func 17) #[.pointer (some ⟨b, 0, none⟩)] #[], .func (.func 18) #[.pointer (some ⟨b, 0, none⟩)] #[], .func (.func 19) #[.pointer (some ⟨b, 0, none⟩)] #[], .func (.func 20) #[.pointer (some ⟨b, 0, none⟩)] #[], .func (.func 21) #[.pointer (some ⟨b, 0, none⟩)] #[]] 45 :: .blk q1 #[.int .i64 0, .int .i64 0, .int .i64 0] 30 :: .blk q0 #[.slice none 0 0, .slice none 0 0, .int .i64 0] 26 :: []) (j + 1)))
      case first =>
        have hjs : j = 0 ∨ j = 1 ∨ j = 2 ∨ j = 3 ∨ j = 4 ∨ j = 5 ∨ j = 6 := by omega
        clear hlt hlt' hidx
        rcases hjs with rfl | rfl | rfl | rfl | rfl | rfl | rfl
        · have HSj := hide (HStep.out b mb _ _ 0 (by omega) HZ.out HSw.out)
          have hfv : stepF b 0 = .func (.func 15) #[.pointer (some ⟨b, 0, none⟩)] #[] := rfl
          rw [hfv]
          go_wp2_with fail
          go_at_call 15
          refine HSj.out.mono ?_
          rintro e w3 ⟨rfl, hfr, hnx⟩
          have HF3 := hide (hfr.alloc (q := w3.heap.size) rfl #[.int .i64 (tT l n mem 0).1, .int .i64 (tT l n mem 0).2.1, .int .i64 (tT l n mem 0).2.2] 30)
          have HN3 : Hid ((tT l n mem 0).2.1 = 0 → StL W _ b mb a n c mem l (.blk qs #[.func (.func 15) #[.pointer (some ⟨b, 0, none⟩)] #[], .func (.func 16) #[.pointer (some ⟨b, 0, none⟩)] #[], .func (.func 17) #[.pointer (some ⟨b, 0, none⟩)] #[], .func (.func 18) #[.pointer (some ⟨b, 0, none⟩)] #[], .func (.func 19) #[.pointer (some ⟨b, 0, none⟩)] #[], .func (.func 20) #[.pointer (some ⟨b, 0, none⟩)] #[], .func (.func 21) #[.pointer (some ⟨b, 0, none⟩)] #[]] 45 :: .blk q1 #[.int .i64 0, .int .i64 0, .int .i64 0] 30 :: .blk q0 #[.slice none 0 0, .slice none 0 0, .int .i64 0] 26 :: []) (0 + 1)) := fun h => StL.call ((Below.refl _ _).alloc (Nat.le_refl _) (.cells #[.int .i64 (tT l n mem 0).1, .int .i64 (tT l n mem 0).2.1, .int .i64 (tT l n mem 0).2.2] 30)) _ (hnx h)
          clear hfr hnx HSj HSw hfv HStep HBad HGood HZc
          unfold trV
          generalize tT l n mem 0 = TJ at *
          obtain ⟨t0, t1, t2⟩ := TJ
          simp only at HF3 HN3
          go_wp2_with fail
          go_meet
          case rel => exact ⟨_, t0, t1, t2, rfl, rfl, HF3, HN3⟩
        · have HSj := hide (HStep.out b mb _ _ 1 (by omega) HZ.out HSw.out)
          have hfv : stepF b 1 = .func (.func 16) #[.pointer (some ⟨b, 0, none⟩)] #[] := rfl
          rw [hfv]
          go_wp2_with fail
          go_at_call 16
          refine HSj.out.mono ?_
          rintro e w3 ⟨rfl, hfr, hnx⟩
          have HF3 := hide (hfr.alloc (q := w3.heap.size) rfl #[.int .i64 (tT l n mem 1).1, .int .i64 (tT l n mem 1).2.1, .int .i64 (tT l n mem 1).2.2] 30)
          have HN3 : Hid ((tT l n mem 1).2.1 = 0 → StL W _ b mb a n c mem l (.blk qs #[.func (.func 15) #[.pointer (some ⟨b, 0, none⟩)] #[], .func (.func 16) #[.pointer (some ⟨b, 0, none⟩)] #[], .func (.func 17) #[.pointer (some ⟨b, 0, none⟩)] #[], .func (.func 18) #[.pointer (some ⟨b, 0, none⟩)] #[], .func (.func 19) #[.pointer (some ⟨b, 0, none⟩)] #[], .func (.func 20) #[.pointer (some ⟨b, 0, none⟩)] #[], .func (.func 21) #[.pointer (some ⟨b, 0, none⟩)] #[]] 45 :: .blk q1 #[.int .i64 0, .int .i64 0, .int .i64 0] 30 :: .blk q0 #[.slice none 0 0, .slice none 0 0, .int .i64 0] 26 :: []) (1 + 1)) := fun h => StL.call ((Below.refl _ _).alloc (Nat.le_refl _) (.cells #[.int .i64 (tT l n mem 1).1, .int .i64 (tT l n mem 1).2.1, .int .i64 (tT l n mem 1).2.2] 30)) _ (hnx h)
          clear hfr hnx HSj HSw hfv HStep HBad HGood HZc
          unfold trV
          generalize tT l n mem 1 = TJ at *
          obtain ⟨t0, t1, t2⟩ := TJ
          simp only at HF3 HN3
          go_wp2_with fail
          go_meet
          case rel => exact ⟨_, t0, t1, t2, rfl, rfl, HF3, HN3⟩
        · have HSj := hide (HStep.out b mb _ _ 2 (by omega) HZ.out HSw.out)
          have hfv : stepF b 2 = .func (.func 17) #[.pointer (some ⟨b, 0, none⟩)] #[] := rfl
          rw [hfv]
          go_wp2_with fail
          go_at_call 17
          refine HSj.out.mono ?_
          rintro e w3 ⟨rfl, hfr, hnx⟩
          have HF3 := hide (hfr.alloc (q := w3.heap.size) rfl #[.int .i64 (tT l n mem 2).1, .int .i64 (tT l n mem 2).2.1, .int .i64 (tT l n mem 2).2.2] 30)
          have HN3 : Hid ((tT l n mem 2).2.1 = 0 → StL W _ b mb a n c mem l (.blk qs #[.func (.func 15) #[.pointer (some ⟨b, 0, none⟩)] #[], .func (.func 16) #[.pointer (some ⟨b, 0, none⟩)] #[], .func (.func 17) #[.pointer (some ⟨b, 0, none⟩)] #[], .func (.func 18) #[.pointer (some ⟨b, 0, none⟩)] #[], .func (.func 19) #[.pointer (some ⟨b, 0, none⟩)] #[], .func (.func 20) #[.pointer (some ⟨b, 0, none⟩)] #[], .func (.func 21) #[.pointer (some ⟨b, 0, none⟩)] #[]] 45 :: .blk q1 #[.int .i64 0, .int .i64 0, .int .i64 0] 30 :: .blk q0 #[.slice none 0 0, .slice none 0 0, .int .i64 0] 26 :: []) (2 + 1)) := fun h => StL.call ((Below.refl _ _).alloc (Nat.le_refl _) (.cells #[.int .i64 (tT l n mem 2).1, .int .i64 (tT l n mem 2).2.1, .int .i64 (tT l n mem 2).2.2] 30)) _ (hnx h)
          clear hfr hnx HSj HSw hfv HStep HBad HGood HZc
          unfold trV
          generalize tT l n mem 2 = TJ at *
          obtain ⟨t0, t1, t2⟩ := TJ
          simp only at HF3 HN3
          go_wp2_with fail
          go_meet
          case rel => exact ⟨_, t0, t1, t2, rfl, rfl, HF3, HN3⟩
        · have HSj := hide (HStep.out b mb _ _ 3 (by omega) HZ.out HSw.out)
          have hfv : stepF b 3 = .func (.func 18) #[.pointer (some ⟨b, 0, none⟩)] #[] := rfl
          rw [hfv]
          go_wp2_with fail
          go_at_call 18
          refine HSj.out.mono ?_
          rintro e w3 ⟨rfl, hfr, hnx⟩
          have HF3 := hide (hfr.alloc (q := w3.heap.size) rfl #[.int .i64 (tT l n mem 3).1, .int .i64 (tT l n mem 3).2.1, .int .i64 (tT l n mem 3).2.2] 30)
          have HN3 : Hid ((tT l n mem 3).2.1 = 0 → StL W _ b mb a n c mem l (.blk qs #[.func (.func 15) #[.pointer (some ⟨b, 0, none⟩)] #[], .func (.func 16) #[.pointer (some ⟨b, 0, none⟩)] #[], .func (.func 17) #[.pointer (some ⟨b, 0, none⟩)] #[], .func (.func 18) #[.pointer (some ⟨b, 0, none⟩)] #[], .func (.func 19) #[.pointer (some ⟨b, 0, none⟩)] #[], .func (.func 20) #[.pointer (some ⟨b, 0, none⟩)] #[], .func (.func 21) #[.pointer (some ⟨b, 0, none⟩)] #[]] 45 :: .blk q1 #[.int .i64 0, .int .i64 0, .int .i64 0] 30 :: .blk q0 #[.slice none 0 0, .slice none 0 0, .int .i64 0] 26 :: []) (3 + 1)) := fun h => StL.call ((Below.refl _ _).alloc (Nat.le_refl _) (.cells #[.int .i64 (tT l n mem 3).1, .int .i64 (tT l n mem 3).2.1, .int .i64 (tT l n mem 3).2.2] 30)) _ (hnx h)
          clear hfr hnx HSj HSw hfv HStep HBad HGood HZc
          unfold trV
          generalize tT l n mem 3 = TJ at *
          obtain ⟨t0, t1, t2⟩ := TJ
          simp only at HF3 HN3
          go_wp2_with fail
          go_meet
          case rel => exact ⟨_, t0, t1, t2, rfl, rfl, HF3, HN3⟩
        · have HSj := hide (HStep.out b mb _ _ 4 (by omega) HZ.out HSw.out)
          have hfv : stepF b 4 = .func (.func 19) #[.pointer (some ⟨b, 0, none⟩)] #[] := rfl
          rw [hfv]
          go_wp2_with fail
          go_at_call 19
          refine HSj.out.mono ?_
          rintro e w3 ⟨rfl, hfr, hnx⟩
          have HF3 := hide (hfr.alloc (q := w3.heap.size) rfl #[.int .i64 (tT l n mem 4).1, .int .i64 (tT l n mem 4).2.1, .int .i64 (tT l n mem 4).2.2] 30)
          have HN3 : Hid ((tT l n mem 4).2.1 = 0 → StL W _ b mb a n c mem l (.blk qs #[.func (.func 15) #[.pointer (some ⟨b, 0, none⟩)] #[], .func (.func 16) #[.pointer (some ⟨b, 0, none⟩)] #[], .func (.func 17) #[.pointer (some ⟨b, 0, none⟩)] #[], .func (.func 18) #[.pointer (some ⟨b, 0, none⟩)] #[], .func (.func 19) #[.pointer (some ⟨b, 0, none⟩)] #[], .func (.func 20) #[.pointer (some ⟨b, 0, none⟩)] #[], .func (.func 21) #[.pointer (some ⟨b, 0, none⟩)] #[]] 45 :: .blk q1 #[.int .i64 0, .int .i64 0, .int .i64 0] 30 :: .blk q0 #[.slice none 0 0, .slice none 0 0, .int .i64 0] 26 :: []) (4 + 1)) := fun h => StL.call ((Below.refl _ _).alloc (Nat.le_refl _) (.cells #[.int .i64 (tT l n mem 4).1, .int .i64 (tT l n mem 4).2.1, .int .i64 (tT l n mem 4).2.2] 30)) _ (hnx h)
          clear hfr hnx HSj HSw hfv HStep HBad HGood HZc
          unfold trV
          generalize tT l n mem 4 = TJ at *
          obtain ⟨t0, t1, t2⟩ := TJ
          simp only at HF3 HN3
          go_wp2_with fail
          go_meet
          case rel => exact ⟨_, t0, t1, t2, rfl, rfl, HF3, HN3⟩
        · have HSj := hide (HStep.out b mb _ _ 5 (by omega) HZ.out HSw.out)
          have hfv : stepF b 5 = .func (.func 20) #[.pointer (some ⟨b, 0, none⟩)] #[] := rfl
          rw [hfv]
          go_wp2_with fail
          go_at_call 20
          refine HSj.out.mono ?_
          rintro e w3 ⟨rfl, hfr, hnx⟩
          have HF3 := hide (hfr.alloc (q := w3.heap.size) rfl #[.int .i64 (tT l n mem 5).1, .int .i64 (tT l n mem 5).2.1, .int .i64 (tT l n mem 5).2.2] 30)
          have HN3 : Hid ((tT l n mem 5).2.1 = 0 → StL W _ b mb a n c mem l (.blk qs #[.func (.func 15) #[.pointer (some ⟨b, 0, none⟩)] #[], .func (.func 16) #[.pointer (some ⟨b, 0, none⟩)] #[], .func (.func 17) #[.pointer (some ⟨b, 0, none⟩)] #[], .func (.func 18) #[.pointer (some ⟨b, 0, none⟩)] #[], .func (.func 19) #[.pointer (some ⟨b, 0, none⟩)] #[], .func (.func 20) #[.pointer (some ⟨b, 0, none⟩)] #[], .func (.func 21) #[.pointer (some ⟨b, 0, none⟩)] #[]] 45 :: .blk q1 #[.int .i64 0, .int .i64 0, .int .i64 0] 30 :: .blk q0 #[.slice none 0 0, .slice none 0 0, .int .i64 0] 26 :: []) (5 + 1)) := fun h => StL.call ((Below.refl _ _).alloc (Nat.le_refl _) (.cells #[.int .i64 (tT l n mem 5).1, .int .i64 (tT l n mem 5).2.1, .int .i64 (tT l n mem 5).2.2] 30)) _ (hnx h)
          clear hfr hnx HSj HSw hfv HStep HBad HGood HZc
          unfold trV
          generalize tT l n mem 5 = TJ at *
          obtain ⟨t0, t1, t2⟩ := TJ
          simp only at HF3 HN3
          go_wp2_with fail
          go_meet
          case rel => exact ⟨_, t0, t1, t2, rfl, rfl, HF3, HN3⟩
        · have HSj := hide (HStep.out b mb _ _ 6 (by omega) HZ.out HSw.out)
          have hfv : stepF b 6 = .func (.func 21) #[.pointer (some ⟨b, 0, none⟩)] #[] := rfl
          rw [hfv]
          go_wp2_with fail
          go_at_call 21
          refine HSj.out.mono ?_
          rintro e w3 ⟨rfl, hfr, hnx⟩
          have HF3 := hide (hfr.alloc (q := w3.heap.size) rfl #[.int .i64 (tT l n mem 6).1, .int .i64 (tT l n mem 6).2.1, .int .i64 (tT l n mem 6).2.2] 30)
          have HN3 : Hid ((tT l n mem 6).2.1 = 0 → StL W _ b mb a n c mem l (.blk qs #[.func (.func 15) #[.pointer (some ⟨b, 0, none⟩)] #[], .func (.func 16) #[.pointer (some ⟨b, 0, none⟩)] #[], .func (.func 17) #[.pointer (some ⟨b, 0, none⟩)] #[], .func (.func 18) #[.pointer (some ⟨b, 0, none⟩)] #[], .func (.func 19) #[.pointer (some ⟨b, 0, none⟩)] #[], .func (.func 20) #[.pointer (some ⟨b, 0, none⟩)] #[], .func (.func 21) #[.pointer (some ⟨b, 0, none⟩)] #[]] 45 :: .blk q1 #[.int .i64 0, .int .i64 0, .int .i64 0] 30 :: .blk q0 #[.slice none 0 0, .slice none 0 0, .int .i64 0] 26 :: []) (6 + 1)) := fun h => StL.call ((Below.refl _ _).alloc (Nat.le_refl _) (.cells #[.int .i64 (tT l n mem 6).1, .int .i64 (tT l n mem 6).2.1, .int .i64 (tT l n mem 6).2.2] 30)) _ (hnx h)
          clear hfr hnx HSj HSw hfv HStep HBad HGood HZc
          unfold trV
          generalize tT l n mem 6 = TJ at *
          obtain ⟨t0, t1, t2⟩ := TJ
          simp only at HF3 HN3
          go_wp2_with fail
          go_meet
          case rel => exact ⟨_, t0, t1, t2, rfl, rfl, HF3, HN3⟩
      case rest =>
        clear HSw
        obtain ⟨bt, t0, t1, t2, rfl, HT, HF, HSn⟩ := hcut
        have HBj := hide (HBad.out j hlt HZ.out)
        rw [HT.out] at HBj
        have s0 := HF.out.cell 0 rfl
        by_cases ht : t1 = 0
        · have ht' : (t1 != 0) = false := by simp [ht]
          have HZn : Hid (∀ i, i < j + 1 → (tT l n mem i).2.1 = 0) := fun i hi => by
            by_cases q : i = j
            · subst q; rw [HT.out]; exact ht
            · exact HZ.out i (by omega)
          have HSm := hide (HSn.out ht)
          clear HT HSn HBj HZ
          go_wp2_with fail
          go_roundw
          case rel => exact ⟨j + 1, by omega, by go_num, HZn, HSm⟩
          case measure => simp [intOf]; omega
        · have ht' : (t1 != 0) = true := by simpa using ht
          have HR : Hid (∀ w', Below W.heap.size W w' → PLink W l mem _ w') := fun w' hb => PLink.no (HBj.out ht) hb
          clear HT HSn HBj HZ HStep HBad HGood HZc
          have s1 := HF.out.frz 2 rfl
          have s2 := HF.out.frz 3 rfl
          have s3 := HF.out.cell 2 rfl
          have s4 := HF.out.cell 3 rfl
          have n23 := HF.out.apart 2 3 rfl rfl (by decide)
          have n20 := HF.out.apart 2 0 rfl rfl (by decide)
          have n30 := HF.out.apart 3 0 rfl rfl (by decide)
          have n32 := n23.symm
          have n02 := n20.symm
          have n03 := n30.symm
          go_wp2_with fail
          go_region
          have HG := hide ((((((HF.out.set 3 rfl 0 (.slice none 0 0)).set 3 rfl 1 (.slice none 0 0)).set 3 rfl 2 (.int .i64 0)).set 2 rfl 0 (.int .i64 t0)).set 2 rfl 1 (.int .i64 t1)).set 2 rfl 2 (.int .i64 t2)).drew
          clear s0 s1 s2 s3 s4
          go_wp2_with fail
          refine bodyPost_ret (rtL Try.results4 rfl rfl rfl (HG.out.get (i := 3) rfl).2 (HG.out.get (i := 2) rfl).2 rfl) rfl ?_
          exact HR.out _ HG.out.below
    · have hlt' : ¬ (j : Int) < 7 := by omega
      obtain rfl : j = 7 := by omega
      have hfine := chk_fine (l := l) (by rw [(HZc.out (fun i hi => HZ.out i (by omega))).1])
      have hbad := z6 (l := l) (HZ.out 6 (by omega))
      have HRes := hide (HGood.out HZ.out)
      have HP4 : Hid (∀ x, x ∈ patL l l.length → N4 x) := patL_n4 (fun o ho => (HWf.out o ho).1) (cw_n4 hfine) (fun u hu k hk => enc_n4 (bad_at hbad hu hk)) l.length (Nat.le_refl _)
      have HD4 : Hid (∀ x, x ∈ daL l l.length → -2147483648 ≤ x ∧ x ≤ 2147483647) := daL_ok HWf.out l.length
      have HR4 : Hid (∀ (w' : World) x, x ∈ rgL l l.length → rgC w' x (rgV x)) := fun w' => rgL_ok hfine.oks w' l.length (Nat.le_refl _)
      obtain ⟨k, ca, cc, da, dc, sa, sc, ra, rc, hF⟩ := HSw.out
      have HF := hide hF
      clear hF HSw HZ HStep HBad HGood HZc hfine hbad HNl
      have s0 := HF.out.cell 0 rfl
      have s1 := HF.out.frz 7 rfl
      have s2 := HF.out.frz 8 rfl
      have s3 := HF.out.cell 7 rfl
      have s4 := HF.out.cell 8 rfl
      have n78 := HF.out.apart 7 8 rfl rfl (by decide)
      have n70 := HF.out.apart 7 0 rfl rfl (by decide)
      have n80 := HF.out.apart 8 0 rfl rfl (by decide)
      have n87 := n78.symm
      have n07 := n70.symm
      have n08 := n80.symm
      have HG := hide ((((((HF.out.set 8 rfl 0 (.slice ca (patL l l.length).length cc)).set 8 rfl 1 (.slice da (daL l l.length).length dc)).set 8 rfl 2 (.int .i64 mem)).set 7 rfl 0 (.int .i64 0)).set 7 rfl 1 (.int .i64 0)).set 7 rfl 2 (.int .i64 0)).drew
      have HEnd := hide (plink_end HG.out HRes.out HP4.out HD4.out HR4.out)
      clear HRes HP4 HD4 HR4
      generalize (patL l l.length).length = NP at *
      generalize (daL l l.length).length = ND at *
      generalize (rgL l l.length).length = NG at *
      generalize (stL l).length = NS at *
      go_wp2_with fail
      go_region
      clear s0 s1 s2 s3 s4
      go_wp2_with fail
      refine bodyPost_ret (rtL Try.results4 rfl rfl rfl (HG.out.get (i := 8) rfl).2 (HG.out.get (i := 7) rfl).2 rfl) rfl ?_
      exact HEnd.out
theorem pr18 : Pr18 := fun a n c l mem w hv h0 h1 => plink_any a n c l mem w hv h0 h1
end Go.Proofs.Ythbhlmbhnidbhaa.T
namespace Go.Proofs.Ythbhlmbhnidbhaa.linkMakes
open Go.Proofs.Ythbhlmbhnidbhaa Go.Proofs.Ythbhlmbhnidbhaa.T
open Go.ChangeShapes Go.WideShapes Go.ChangeAt Go.RowKit
set_option linter.unusedVariables false

theorem own : ownKnob Try.prog.godebug = none := by kernel_rfl
theorem laidOut : laidOutB Try.prog = true := by kernel_rfl
theorem read22 : Try.prog.readableRec 22 = true := by kernel_rfl
theorem row22 : 22 < Try.prog.types.size := of_decide_eq_true (by kernel_rfl)

set_option maxRecDepth 100000 in
theorem lifted (os : Os) (started : os.Started) (H : Type) (enc : TypeId × Value → H) :
    ReturnsInHanded {} Try.checked os 3 .any (Rows.linkMakesSpec.pre6 enc Try.prog Try.f3 Rows.linkMakesRow.domain false) (Rows.linkMakesSpec.post enc Try.prog Try.f3 false true false false) := by
  have P := pr18
  refine returnsInHanded_of_change_sized (C := Try.checked) own started (by kernel_rfl) Try.func3
    (ChangeSpec.witness6 (enc := enc) (C := Try.checked) false ⟨#[], #[.slice none 0 0, .int .i64 0], []⟩ 8 (by kernel_rfl) (by kernel_rfl) (by kernel_rfl) (by kernel_rfl)) ?_
  intro W base args ds gs before hval0 hW hcnd hsz0 _
  have hval : ∀ (j : Nat) t v, Try.f3.params[j]? = some t → args[j]? = some v → Value.okWide Try.prog W .any base t v := hval0
  have hW' := hW
  obtain ⟨p, q, hA0, hV, rfl, hfz, hnd⟩ := hW
  have hA : DataW.TrodAll enc Try.prog W 0 (fun _ => true) true Try.f3.params.toList args.toList ds p := hA0
  rw [Try.params3] at hA hval
  obtain ⟨v0, v1, d0, d1, p0, p1, rfl, rfl, rfl, h0, h1⟩ := trodAll_two hA
  obtain ⟨rfl, rfl⟩ := trodVars_none hV
  obtain ⟨mem, rfl, rfl, rfl, w1⟩ := open_int Try.underlying3 (hval 1 3 v1 rfl rfl) h1
  obtain ⟨a, n, c, l, rfl, t0⟩ := open_objects (hval 0 22 v0 rfl rfl) h0
  obtain ⟨x0, x1⟩ := bounds_i64 w1
  clear hA0 hval0
  refine (links_law P a n c l mem W t0 x0 x1).mono fun e W' ⟨he, hg⟩ => ?_
  subst he
  have hlt0 : ∀ x ∈ p0, x.block < W.heap.size := fun x hx => hW'.lt x (by simp [hx])
  exact ⟨_, rfl, post_below2 (pa := p0 ++ []) (pv := []) hW' (fun _ _ _ => (trodAll_cons_mk (shut_bool Try.underlying4 _) trodAll_mk0)) (trodAll_mk2 (Below.trod laidOut read22 row22 h0 hg hlt0) (shut_int Try.underlying3 w1)) rfl (by simp)
    hg⟩

theorem over : Rows.linkMakesRow.holds Try.pinned (OpenSpec.ofChange Rows.linkMakesSpec) :=
  OpenClaim.holds_of_wide 3 Try.f3 rfl rfl rfl rfl rfl rfl rfl ⟨rfl, rfl, rfl, rfl, rfl⟩ rfl rfl rfl rfl rfl (by kernel_rfl) Try.func3 (by kernel_rfl)
    (of_decide_eq_true (by kernel_rfl)) (by unfold Func.isWrapper; first | (rw [if_pos (by decide +kernel)]; kernel_rfl) | (rw [if_neg (by decide +kernel)]; exact ⟨rfl, rfl⟩))
    (fun os started H enc _ => lifted os started H enc)

/-- The statement. -/
theorem proved : Rows.LinkMakesSaid :=
  over
#print axioms proved
end Go.Proofs.Ythbhlmbhnidbhaa.linkMakes
