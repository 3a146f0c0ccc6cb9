/- Moves that came in, opened; a row's end where nothing that lay has turned. -/
import Derived.Test.YtejionmgpplniaaA
import Derived.ProofKit
import Derived.OpenShut
import Derived.SizedLaws
import Derived.Carry
import Derived.Deep.MidRow
namespace Go.Proofs.Ytejionmgpplniaa.T
open Go.ChangeShapes Go.WideShapes Go.ChangeAt Go.RowKit
set_option linter.unusedVariables false
theorem spot_none {w : World} {a : Addr} {u : Value} (h : w.cell? a = some u) : a.spot = none := by
  obtain ⟨b, o, s⟩ := a
  cases s with
  | none => rfl
  | some s =>
    exfalso
    unfold World.cell? at h
    split at h <;> simp at h
theorem c31 : Try.prog.cellsOf 31 = 2 := by kernel_rfl
theorem c33 : Try.prog.cellsOf 33 = 4 := by kernel_rfl
theorem c3 : Try.prog.cellsOf 3 = 1 := by kernel_rfl
theorem c4 : Try.prog.cellsOf 4 = 1 := by kernel_rfl
theorem open_loc {H : Type} {enc : TypeId × Value → H} {W : World} {sp : Nat → Bool} {fuel : Nat} {cs : List Value} {y : DataW H × List MemPlace} (h : DataW.trod enc Try.prog W 0 sp true fuel 31 cs = some y) : ∃ s x, cs = [.bool s, .int .i64 x] := by
  obtain ⟨xs, n, hn, hx, hl, hlen, hp⟩ := DataW.trod_struct Try.underlying31 h
  rw [c31] at hl
  obtain ⟨k0, k1, rfl⟩ : ∃ k0 k1, cs = [k0, k1] := by
    match cs, hl with
    | [k0, k1], _ => exact ⟨k0, k1, rfl⟩
  obtain ⟨y0, y1, rfl⟩ : ∃ y0 y1, xs = [y0, y1] := by
    match xs, hlen with
    | [y0, y1], _ => exact ⟨y0, y1, rfl⟩
  have e0 := hp 0 _ rfl
  have e1 := hp 1 _ rfl
  simp [c3, c4] at e0 e1
  obtain ⟨s, q0, -⟩ := DataW.trod_bool Try.underlying4 e0
  obtain ⟨x, q1, -, -⟩ := DataW.trod_int Try.underlying3 e1
  simp at q0 q1
  subst q0 q1
  exact ⟨s, x, rfl⟩
theorem open_move {H : Type} {enc : TypeId × Value → H} {W : World} {sp : Nat → Bool} {fuel : Nat} {cs : List Value} {y : DataW H × List MemPlace} (h : DataW.trod enc Try.prog W 0 sp true fuel 33 cs = some y) : ∃ m : Lc × Lc, cs = [.bool m.1.1, .int .i64 m.1.2, .bool m.2.1, .int .i64 m.2.2] := by
  obtain ⟨xs, n, hn, hx, hl, hlen, hp⟩ := DataW.trod_struct Try.underlying33 h
  rw [c33] at hl
  obtain ⟨k0, k1, k2, k3, rfl⟩ : ∃ k0 k1 k2 k3, cs = [k0, k1, k2, k3] := by
    match cs, hl with
    | [k0, k1, k2, k3], _ => exact ⟨k0, k1, k2, k3, rfl⟩
  obtain ⟨y0, y1, rfl⟩ : ∃ y0 y1, xs = [y0, y1] := by
    match xs, hlen with
    | [y0, y1], _ => exact ⟨y0, y1, rfl⟩
  have e0 := hp 0 _ rfl
  have e1 := hp 1 _ rfl
  simp [c31] at e0 e1
  obtain ⟨s, x, q0⟩ := open_loc e0
  obtain ⟨s', x', q1⟩ := open_loc e1
  simp at q0 q1
  obtain ⟨rfl, rfl⟩ := q0
  obtain ⟨rfl, rfl⟩ := q1
  exact ⟨((s, x), (s', x')), rfl⟩
theorem choose_lt {α : Type} [Inhabited α] {n : Nat} {p : Nat → α → Prop} (h : ∀ i, i < n → ∃ a, p i a) : ∃ f : Nat → α, ∀ i, i < n → p i (f i) := by
  classical
  refine ⟨fun i => if hi : i < n then Classical.choose (h i hi) else default, fun i hi => ?_⟩
  simp only [dif_pos hi]
  exact Classical.choose_spec (h i hi)
theorem open_mvs {H : Type} {enc : TypeId × Value → H} {W : World} {sp : Nat → Bool} (fuel : Nat) (k : Value) (y : DataW H × List MemPlace) (h : DataW.trod enc Try.prog W 0 sp true fuel 22 [k] = some y) : ∃ L, Prs W k L ∧ L.length ≤ 9223372036854775807 := by
  have hm : maxLen = 9223372036854775807 := rfl
  rcases DataW.trod_slice Try.underlying22 h with ⟨h1, _⟩ | ⟨a, len, cap, elems, rest, n', hn', h1, _, _, hlc, hcm, hel, hE, _, _⟩
  · simp at h1
    exact ⟨[], ⟨none, 0, h1, fun h => absurd h (by simp)⟩, by simp⟩
  · simp at h1
    rw [c33] at hE
    have each : ∀ i, i < len → ∃ m : Lc × Lc, W.cells? 0 (a.add (i * 4)) 4 = some [.bool m.1.1, .int .i64 m.1.2, .bool m.2.1, .int .i64 m.2.2] := fun i hi => by
      have h2 := hE i hi
      rw [List.getElem?_eq_getElem (by omega)] at h2
      obtain ⟨cs', h3, h4⟩ := Option.bind_eq_some_iff.1 h2
      obtain ⟨m, rfl⟩ := open_move h4
      exact ⟨m, h3⟩
    obtain ⟨f, hf⟩ := choose_lt each
    have hL : ((List.range len).map f).length = len := by simp
    refine ⟨(List.range len).map f, ⟨some a, cap, by rw [hL]; exact h1, fun hpos => ?_⟩, by rw [hL]; omega⟩
    rw [hL] at hpos
    obtain ⟨_, g2, g3⟩ := World.cells?_some (hf 0 hpos)
    have ha0 : a.add (0 * 4) = a := by unfold Addr.add; simp
    have ha1 : a.add 0 = a := by unfold Addr.add; simp
    have h0 := g3 0 (by omega)
    rw [ha0, ha1, List.getElem?_eq_getElem (by omega)] at h0
    have hs := spot_none h0
    obtain ⟨b, o, s⟩ := a
    simp only at hs
    subst hs
    refine ⟨b, o, rfl, World.block_lt_of_cell? W ⟨b, o, none⟩ h0, fun j hj => ?_⟩
    have hj' : j < len := by rw [hL] at hj; exact hj
    obtain ⟨_, u3, u4⟩ := World.cells?_some (hf j hj')
    simp only [Addr.add_mid] at u4
    have hget : ((List.range len).map f)[j] = f j := by simp
    rw [hget]
    exact ⟨u4 0 (by omega), u4 1 (by omega), u4 2 (by omega), u4 3 (by omega)⟩
theorem open_moves {H : Type} {enc : TypeId × Value → H} {W : World} {r : Reach} {b0 : Nat} {v : Value} {d : DataW H} {p : List MemPlace} {sp : Nat → Bool}
    (hv : Value.okWide Try.prog W r b0 22 v) (h : DataW.Trod enc Try.prog W 0 sp true 22 v d p) : ∃ L, Prs W v L ∧ L.length ≤ 9223372036854775807 := by
  obtain ⟨a, n, c, rfl⟩ := okWide_slice Try.underlying22 hv
  obtain ⟨fuel, hf⟩ := h
  exact open_mvs fuel _ _ hf
theorem post_below2 {H : Type} {enc : TypeId × Value → H} {P : Program} {f : Func} {s : ChangeSpec} {apart fresh handsOn : Bool} {W W' : World} {args : Array Value} {v : Value} {ds gs : List (DataW H)} {before pa pv : List MemPlace}
    (hW : DataW.Whole enc P f.params.toList s.vars apart W args.toList ds gs before)
    (hres : ∀ (b : Nat) (sp : Nat → Bool) (hd : Bool), DataW.TrodAll enc P W' b sp hd f.resultTypes.toList (v.resultList f.resultTypes.size) (s.fn H (ds ++ gs)).results [])
    (hargs : DataW.TrodAll enc P W' 0 (fun b => decide (b < W.heap.size)) true f.params.toList args.toList (s.fn H (ds ++ gs)).args pa)
    (hvars : DataW.TrodVars enc P W' (fun b => decide (b < W.heap.size)) s.vars (s.fn H (ds ++ gs)).vars pv)
    (hps : before = pa ++ pv) (hb : Below W.heap.size W W') :
    s.post enc P f apart fresh handsOn false W args v W' := by
  refine ⟨ds, gs, before, [], pa, pv, hW, hres _ _ _, hargs, hvars, World.keptBut_mono (fun p hp => ⟨hp, ?_⟩) (hb.frame (· ∈ before)), fun h => by cases h⟩
  rw [hps, List.mem_append] at hp
  exact Or.inr hp
end Go.Proofs.Ytejionmgpplniaa.T
