/- Objects and bytes that came in, opened; a row's end where nothing that lay has turned. -/
import Derived.Test.YtnjcknlfecednaaLf
import Derived.ProofKit
import Derived.OpenShut
import Derived.SizedLaws
import Derived.Carry
import Derived.Deep.MidRow
namespace Go.Proofs.Ytnjcknlfecednaa.T
open Go.ChangeShapes Go.WideShapes Go.ChangeAt Go.RowKit Go.Proofs.Ytnjcknlfecednaa.M
set_option linter.unusedVariables false
theorem spot_none {w : World} {a : Addr} {u : Value} (h : w.cell? a = some u) : a.spot = none := by
  obtain ⟨b, o, s⟩ := a
  cases s with
  | none => rfl
  | some s =>
    exfalso
    unfold World.cell? at h
    split at h <;> simp at h
theorem c27 : Try.prog.cellsOf 27 = 4 := by kernel_rfl
theorem c44 : Try.prog.cellsOf 44 = 7 := by kernel_rfl
theorem c47 : Try.prog.cellsOf 47 = 3 := by kernel_rfl
theorem c41 : Try.prog.cellsOf 41 = 1 := by kernel_rfl
theorem c21 : Try.prog.cellsOf 21 = 1 := by kernel_rfl
theorem c5 : Try.prog.cellsOf 5 = 1 := by kernel_rfl
theorem c3 : Try.prog.cellsOf 3 = 1 := by kernel_rfl
theorem c4 : Try.prog.cellsOf 4 = 1 := by kernel_rfl
theorem c9 : Try.prog.cellsOf 9 = 1 := by kernel_rfl
theorem c22 : Try.prog.cellsOf 22 = 1 := by kernel_rfl
theorem c23 : Try.prog.cellsOf 23 = 1 := by kernel_rfl
theorem c24 : Try.prog.cellsOf 24 = 1 := by kernel_rfl
theorem c25 : Try.prog.cellsOf 25 = 1 := by kernel_rfl
theorem choose_lt {α : Type} (d : α) {n : Nat} {p : Nat → α → Prop} (h : ∀ i, i < n → ∃ a, p i a) : ∃ f : Nat → α, ∀ i, i < n → p i (f i) := by
  classical
  refine ⟨fun i => if hi : i < n then Classical.choose (h i hi) else d, fun i hi => ?_⟩
  simp only [dif_pos hi]
  exact Classical.choose_spec (h i hi)
section
variable {H : Type} {enc : TypeId × Value → H} {W : World} {sp : Nat → Bool}
/-- A row that came in, of things that can be opened. -/
theorem open_row {α : Type} (d : α) {P : World → α → List Value → Prop} {t e : TypeId} {k : Nat} (ht : Try.prog.underlying t = some (.slice e)) (hc : Try.prog.cellsOf e = k) (hk : 0 < k)
    (hop : ∀ fuel cs y, DataW.trod enc Try.prog W 0 sp true fuel e cs = some y → ∃ x, P W x cs) (fuel : Nat) (k0 : Value) (y : DataW H × List MemPlace) (h : DataW.trod enc Try.prog W 0 sp true fuel t [k0] = some y) : ∃ L, RowV P k W k0 L := by
  have hm : maxLen = 9223372036854775807 := rfl
  rcases DataW.trod_slice ht h with ⟨h1, _⟩ | ⟨a, len, cap, elems, rest, n', hn', h1, _, _, hlc, hcm, hel, hE, _, _⟩
  · simp at h1
    exact ⟨[], none, 0, h1, by simp, by simp, fun h => absurd h (by simp)⟩
  · simp at h1
    rw [hc] at hE
    have each : ∀ i, i < len → ∃ x : α, ∃ cs, P W x cs ∧ W.cells? 0 (a.add (i * k)) k = some cs := fun i hi => by
      have h2 := hE i hi
      rw [List.getElem?_eq_getElem (by omega)] at h2
      obtain ⟨cs', h3, h4⟩ := Option.bind_eq_some_iff.1 h2
      obtain ⟨x, hx⟩ := hop _ _ _ h4
      exact ⟨x, cs', hx, h3⟩
    obtain ⟨f, hf⟩ := choose_lt d each
    have hL : ((List.range len).map f).length = len := by simp
    refine ⟨(List.range len).map f, some a, cap, by rw [hL]; exact h1, by rw [hL]; omega, by omega, fun hpos => ?_⟩
    rw [hL] at hpos
    obtain ⟨cs0, -, hc0⟩ := hf 0 hpos
    obtain ⟨_, g2, g3⟩ := World.cells?_some hc0
    have ha0 : a.add (0 * k) = a := by unfold Addr.add; simp
    have ha1 : a.add 0 = a := by unfold Addr.add; simp
    have h0 := g3 0 (by omega)
    rw [ha0, ha1, List.getElem?_eq_getElem (by omega)] at h0
    have hs := spot_none h0
    obtain ⟨b, o, s⟩ := a
    simp only at hs
    subst hs
    refine ⟨b, o, rfl, World.block_lt_of_cell? W ⟨b, o, none⟩ h0, fun j hj => ?_⟩
    have hj' : j < len := by rw [hL] at hj; exact hj
    obtain ⟨cs, hP, hcs⟩ := hf j hj'
    obtain ⟨_, u3, u4⟩ := World.cells?_some hcs
    simp only [Addr.add_mid] at u4
    have hget : ((List.range len).map f)[j] = f j := by simp
    rw [hget]
    refine ⟨cs, hP, fun i u hu => ?_⟩
    have hi : i < cs.length := (List.getElem?_eq_some_iff.1 hu).1
    rw [u4 i (by omega)]
    exact hu
theorem open_u32 (fuel : Nat) (cs : List Value) (y : DataW H × List MemPlace) (h : DataW.trod enc Try.prog W 0 sp true fuel 41 cs = some y) : ∃ x, u32C W x cs := by
  obtain ⟨x, q, -, hw⟩ := DataW.trod_int Try.underlying41 h
  have := bounds_u32 hw
  exact ⟨x, q, by unfold N4; omega⟩
theorem open_i32 (fuel : Nat) (cs : List Value) (y : DataW H × List MemPlace) (h : DataW.trod enc Try.prog W 0 sp true fuel 21 cs = some y) : ∃ x, i32C W x cs := by
  obtain ⟨x, q, -, hw⟩ := DataW.trod_int Try.underlying21 h
  exact ⟨x, q, bounds_i32 hw⟩
theorem open_u8 (fuel : Nat) (cs : List Value) (y : DataW H × List MemPlace) (h : DataW.trod enc Try.prog W 0 sp true fuel 5 cs = some y) : ∃ x, u8C W x cs := by
  obtain ⟨x, q, -, hw⟩ := DataW.trod_int Try.underlying5 h
  have hb := bounds_u8 hw
  refine ⟨UInt8.ofNat x.toNat, ?_⟩
  unfold u8C
  rw [q, show ((UInt8.ofNat x.toNat).toNat : Int) = x by rw [UInt8.toNat_ofNat']; omega]
set_option maxRecDepth 100000 in
theorem open_sy (fuel : Nat) (cs : List Value) (y : DataW H × List MemPlace) (h : DataW.trod enc Try.prog W 0 sp true fuel 44 cs = some y) : ∃ s, syC W s cs := by
  obtain ⟨xs, n, hn, hx, hl, hlen, hp⟩ := DataW.trod_struct Try.underlying44 h
  rw [c44] at hl
  obtain ⟨k0, k1, k2, k3, k4, k5, k6, rfl⟩ : ∃ k0 k1 k2 k3 k4 k5 k6, cs = [k0, k1, k2, k3, k4, k5, k6] := by
    match cs, hl with
    | [k0, k1, k2, k3, k4, k5, k6], _ => exact ⟨k0, k1, k2, k3, k4, k5, k6, rfl⟩
  obtain ⟨y0, y1, y2, y3, y4, y5, y6, rfl⟩ : ∃ y0 y1 y2 y3 y4 y5 y6, xs = [y0, y1, y2, y3, y4, y5, y6] := by
    match xs, hlen with
    | [y0, y1, y2, y3, y4, y5, y6], _ => exact ⟨y0, y1, y2, y3, y4, y5, y6, rfl⟩
  have e0 := hp 0 _ rfl
  have e1 := hp 1 _ rfl
  have e2 := hp 2 _ rfl
  have e3 := hp 3 _ rfl
  have e4 := hp 4 _ rfl
  have e5 := hp 5 _ rfl
  have e6 := hp 6 _ rfl
  simp [c3, c4, c9] at e0 e1 e2 e3 e4 e5 e6
  obtain ⟨x0, q0, -, w0⟩ := DataW.trod_string Try.underlying9 e0
  obtain ⟨x1, q1, -, w1⟩ := DataW.trod_int Try.underlying3 e1
  obtain ⟨x2, q2, -⟩ := DataW.trod_bool Try.underlying4 e2
  obtain ⟨x3, q3, -, w3⟩ := DataW.trod_int Try.underlying3 e3
  obtain ⟨x4, q4, -, w4⟩ := DataW.trod_int Try.underlying3 e4
  obtain ⟨x5, q5, -, w5⟩ := DataW.trod_string Try.underlying9 e5
  obtain ⟨x6, q6, -, w6⟩ := DataW.trod_int Try.underlying3 e6
  simp at q0 q1 q2 q3 q4 q5 q6
  subst q0 q1 q2 q3 q4 q5 q6
  exact ⟨⟨x0, x1, x2, x3, x4, x5, x6⟩, rfl, bounds_i64 w1, bounds_i64 w3, bounds_i64 w4, bounds_i64 w6, w0, w5⟩
set_option maxRecDepth 100000 in
theorem open_re (fuel : Nat) (cs : List Value) (y : DataW H × List MemPlace) (h : DataW.trod enc Try.prog W 0 sp true fuel 47 cs = some y) : ∃ s, reC W s cs := by
  obtain ⟨xs, n, hn, hx, hl, hlen, hp⟩ := DataW.trod_struct Try.underlying47 h
  rw [c47] at hl
  obtain ⟨k0, k1, k2, rfl⟩ : ∃ k0 k1 k2, cs = [k0, k1, k2] := by
    match cs, hl with
    | [k0, k1, k2], _ => exact ⟨k0, k1, k2, rfl⟩
  obtain ⟨y0, y1, y2, rfl⟩ : ∃ y0 y1 y2, xs = [y0, y1, y2] := by
    match xs, hlen with
    | [y0, y1, y2], _ => exact ⟨y0, y1, y2, rfl⟩
  have e0 := hp 0 _ rfl
  have e1 := hp 1 _ rfl
  have e2 := hp 2 _ rfl
  simp [c3] at e0 e1 e2
  obtain ⟨x0, q0, -, w0⟩ := DataW.trod_int Try.underlying3 e0
  obtain ⟨x1, q1, -, w1⟩ := DataW.trod_int Try.underlying3 e1
  obtain ⟨x2, q2, -, w2⟩ := DataW.trod_int Try.underlying3 e2
  simp at q0 q1 q2
  subst q0 q1 q2
  exact ⟨⟨x0, x1, x2⟩, rfl, bounds_i64 w0, bounds_i64 w1, bounds_i64 w2⟩
set_option maxRecDepth 100000 in
theorem open_ob (fuel : Nat) (cs : List Value) (y : DataW H × List MemPlace) (h : DataW.trod enc Try.prog W 0 sp true fuel 27 cs = some y) : ∃ o, ∃ cv dv sv rv, cs = [cv, dv, sv, rv] ∧ ObV W o (.agg #[cv, dv, sv, rv]) := by
  obtain ⟨xs, n, hn, hx, hl, hlen, hp⟩ := DataW.trod_struct Try.underlying27 h
  rw [c27] at hl
  obtain ⟨k0, k1, k2, k3, rfl⟩ : ∃ k0 k1 k2 k3, cs = [k0, k1, k2, k3] := by
    match cs, hl with
    | [k0, k1, k2, k3], _ => exact ⟨k0, k1, k2, k3, rfl⟩
  obtain ⟨y0, y1, y2, y3, rfl⟩ : ∃ y0 y1 y2 y3, xs = [y0, y1, y2, y3] := by
    match xs, hlen with
    | [y0, y1, y2, y3], _ => exact ⟨y0, y1, y2, y3, rfl⟩
  have e0 := hp 0 _ rfl
  have e1 := hp 1 _ rfl
  have e2 := hp 2 _ rfl
  have e3 := hp 3 _ rfl
  simp [c22, c23, c24, c25] at e0 e1 e2 e3
  obtain ⟨C, hC⟩ := open_row (0 : Int) Try.underlying22 c41 (by decide) open_u32 _ _ _ e0
  obtain ⟨D, hD⟩ := open_row (0 : Int) Try.underlying23 c21 (by decide) open_i32 _ _ _ e1
  obtain ⟨S, hS⟩ := open_row (⟨⟨#[]⟩, 0, false, 0, 0, ⟨#[]⟩, 0⟩ : Sy) Try.underlying24 c44 (by decide) open_sy _ _ _ e2
  obtain ⟨R, hR⟩ := open_row (⟨0, 0, 0⟩ : Re) Try.underlying25 c47 (by decide) open_re _ _ _ e3
  exact ⟨⟨C, D, S, R⟩, k0, k1, k2, k3, rfl, k0, k1, k2, k3, rfl, hC, hD, hS, hR⟩
end
set_option maxRecDepth 100000 in
theorem open_object {H : Type} {enc : TypeId × Value → H} {W : World} {r : Reach} {b0 : Nat} {v : Value} {d : DataW H} {p : List MemPlace} {sp : Nat → Bool}
    (hv : Value.okWide Try.prog W r b0 27 v) (h : DataW.Trod enc Try.prog W 0 sp true 27 v d p) : ∃ o, ObV W o v := by
  obtain ⟨cs, rfl, hsz⟩ := okWide_struct Try.underlying27 hv
  obtain ⟨fuel, hf⟩ := h
  obtain ⟨o, cv, dv, sv, rv, e, h⟩ := open_ob fuel _ _ hf
  refine ⟨o, ?_⟩
  have e' : cs.toList = [cv, dv, sv, rv] := e
  rw [show cs = #[cv, dv, sv, rv] from by rw [← Array.toArray_toList (xs := cs), e']]
  exact h
set_option maxRecDepth 100000 in
theorem open_bytes {H : Type} {enc : TypeId × Value → H} {W : World} {r : Reach} {b0 : Nat} {v : Value} {d : DataW H} {p : List MemPlace} {sp : Nat → Bool}
    (hv : Value.okWide Try.prog W r b0 28 v) (h : DataW.Trod enc Try.prog W 0 sp true 28 v d p) : ∃ a n c l, v = .slice a n c ∧ Bys W v l := by
  obtain ⟨a, n, c, rfl⟩ := okWide_slice Try.underlying28 hv
  obtain ⟨fuel, hf⟩ := h
  obtain ⟨L, hL⟩ := open_row (0 : UInt8) Try.underlying28 c5 (by decide) open_u8 fuel _ _ hf
  exact ⟨a, n, c, L, rfl, hL⟩
theorem post_below2 {H : Type} {enc : TypeId × Value → H} {P : Program} {f : Func} {s : ChangeSpec} {apart fresh handsOn : Bool} {W W' : World} {args : Array Value} {v : Value} {ds gs : List (DataW H)} {before pa pv : List MemPlace}
    (hW : DataW.Whole enc P f.params.toList s.vars apart W args.toList ds gs before)
    (hres : ∀ (b : Nat) (sp : Nat → Bool) (hd : Bool), DataW.TrodAll enc P W' b sp hd f.resultTypes.toList (v.resultList f.resultTypes.size) (s.fn H (ds ++ gs)).results [])
    (hargs : DataW.TrodAll enc P W' 0 (fun b => decide (b < W.heap.size)) true f.params.toList args.toList (s.fn H (ds ++ gs)).args pa)
    (hvars : DataW.TrodVars enc P W' (fun b => decide (b < W.heap.size)) s.vars (s.fn H (ds ++ gs)).vars pv)
    (hps : before = pa ++ pv) (hb : Below W.heap.size W W') :
    s.post enc P f apart fresh handsOn false W args v W' := by
  refine ⟨ds, gs, before, [], pa, pv, hW, hres _ _ _, hargs, hvars, World.keptBut_mono (fun p hp => ⟨hp, ?_⟩) (hb.frame (· ∈ before)), fun h => by cases h⟩
  rw [hps, List.mem_append] at hp
  exact Or.inr hp
end Go.Proofs.Ytnjcknlfecednaa.T
