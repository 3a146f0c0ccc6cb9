/- A type that came in by value, opened. -/
import Derived.Test.YtmbhcpnlfdgkjaaLb
import Derived.ProofKit
import Derived.OpenShut
import Derived.SizedLaws
import Derived.Carry
import Derived.Deep.Strs
import Derived.Deep.MidRow
namespace Go.Proofs.Ytmbhcpnlfdgkjaa.T
open Go.ChangeShapes Go.WideShapes Go.ChangeAt Go.RowKit Go.Deep
set_option linter.unusedVariables false

instance : Inhabited Ty := ⟨.leaf⟩
theorem spot_none {w : World} {a : Addr} {u : Value} (h : w.cell? a = some u) : a.spot = none := by
  obtain ⟨b, o, s⟩ := a
  cases s with
  | none => rfl
  | some s =>
    exfalso
    unfold World.cell? at h
    split at h <;> simp at h
theorem cells25 : Try.prog.cellsOf 25 = 5 := by kernel_rfl
theorem open_ty {H : Type} {enc : TypeId × Value → H} {W : World} {sp : Nat → Bool} : ∀ (fuel : Nat) (cs : List Value) (y : DataW H × List MemPlace), DataW.trod enc Try.prog W 0 sp true fuel 25 cs = some y → ∃ T, TyV W T (.agg cs.toArray) := by
  have c22 : Try.prog.cellsOf 22 = 1 := by kernel_rfl
  have c23 : Try.prog.cellsOf 23 = 1 := by kernel_rfl
  have c3 : Try.prog.cellsOf 3 = 1 := by kernel_rfl
  have c4 : Try.prog.cellsOf 4 = 1 := by kernel_rfl
  have c9 : Try.prog.cellsOf 9 = 1 := by kernel_rfl
  have hm : maxLen = 9223372036854775807 := rfl
  intro fuel
  induction fuel using Nat.strongRecOn with
  | ind fuel ih =>
    intro cs y h
    obtain ⟨xs, n, hn, hx, hl, hlen, hp⟩ := DataW.trod_struct Try.underlying25 h
    rw [cells25] at hl
    obtain ⟨k0, k1, k2, k3, k4, rfl⟩ : ∃ k0 k1 k2 k3 k4, cs = [k0, k1, k2, k3, k4] := by
      match cs, hl with
      | [k0, k1, k2, k3, k4], _ => exact ⟨k0, k1, k2, k3, k4, rfl⟩
    obtain ⟨y0, y1, y2, y3, y4, rfl⟩ : ∃ y0 y1 y2 y3 y4, xs = [y0, y1, y2, y3, y4] := by
      match xs, hlen with
      | [y0, y1, y2, y3, y4], _ => exact ⟨y0, y1, y2, y3, y4, rfl⟩
    have e0 := hp 0 _ rfl
    have e1 := hp 1 _ rfl
    have e2 := hp 2 _ rfl
    have e3 := hp 3 _ rfl
    have e4 := hp 4 _ rfl
    simp [c22, c23, c3, c4, c9] at e0 e1 e2 e3 e4
    obtain ⟨kind, q0, -, w0⟩ := DataW.trod_int Try.underlying3 e0
    obtain ⟨name, q1, -, w1⟩ := DataW.trod_string Try.underlying9 e1
    obtain ⟨many, q4, -⟩ := DataW.trod_bool Try.underlying4 e4
    simp at q0 q1 q4
    subst q0 q1 q4
    obtain ⟨kb0, kb1⟩ := bounds_i64 w0
    -- the names
    obtain ⟨na, nn, nc, names, rfl, hN, hN2, hN3, hN4⟩ : ∃ (na : Option Addr) (nn nc : Nat) (names : Nat → ByteArray), k2 = .slice na nn nc ∧ (0 < nn → ∃ b o, na = some ⟨b, o, none⟩ ∧ b < W.heap.size ∧ ∀ j, j < nn → W.cell? ⟨b, o + j, none⟩ = some (.string (names j)))
        ∧ (∀ j, j < nn → (names j).size ≤ 9223372036854775807) ∧ nn ≤ nc ∧ nc ≤ 9223372036854775807 := by
      rcases open_strs Try.underlying22 Try.underlying9 c9 e2 with ⟨h1, _⟩ | ⟨a, len, cap, m, Sx, h1, _, hlc, hcm, hmm, _, hS⟩
      · simp at h1
        exact ⟨none, 0, 0, fun _ => ⟨#[]⟩, h1, fun h => by omega, fun j hj => by omega, by omega, by omega⟩
      · simp at h1
        have hlm : len ≤ m := by rw [hmm]; split <;> omega
        refine ⟨some a, len, cap, Sx, h1, fun hpos => ?_, fun j hj => by rw [← hm]; exact (hS j (by omega)).2, hlc, by omega⟩
        have h0 := (hS 0 (by omega)).1
        have ha0 : a.add 0 = a := by unfold Addr.add; simp
        rw [ha0] at h0
        have hs := spot_none h0
        obtain ⟨b, o, s⟩ := a
        simp only at hs
        subst hs
        refine ⟨b, o, rfl, World.block_lt_of_cell? W ⟨b, o, none⟩ h0, fun j hj => ?_⟩
        have := (hS j (by omega)).1
        rwa [Addr.add_mid] at this
    -- the parts
    obtain ⟨pa, pn, pc, parts, rfl, hP, hP2, hP3, hP4⟩ : ∃ (pa : Option Addr) (pn pc : Nat) (parts : Nat → Ty), k3 = .slice pa pn pc ∧ (0 < pn → ∃ b o, pa = some ⟨b, o, none⟩ ∧ b < W.heap.size ∧ ∀ j, j < pn → ∃ k0 k1 k2 k3 k4, W.cell? ⟨b, o + j * 5, none⟩ = some k0 ∧ W.cell? ⟨b, o + j * 5 + 1, none⟩ = some k1 ∧ W.cell? ⟨b, o + j * 5 + 2, none⟩ = some k2 ∧ W.cell? ⟨b, o + j * 5 + 3, none⟩ = some k3 ∧ W.cell? ⟨b, o + j * 5 + 4, none⟩ = some k4
        ∧ TyV W (parts j) (.agg #[k0, k1, k2, k3, k4])) ∧ pn ≤ 9223372036854775807 ∧ pn ≤ pc ∧ pc ≤ 9223372036854775807 := by
      rcases DataW.trod_slice Try.underlying23 e3 with ⟨h1, _⟩ | ⟨a, len, cap, elems, rest, n', hn', h1, _, _, hlc, hcm, hel, hE, _, _⟩
      · simp at h1
        exact ⟨none, 0, 0, fun _ => .leaf, h1, fun h => by omega, by omega, by omega, by omega⟩
      · simp at h1
        rw [cells25] at hE
        have each : ∀ i, i < len → ∃ T : Ty, ∃ cs', W.cells? 0 (a.add (i * 5)) 5 = some cs' ∧ TyV W T (.agg cs'.toArray) := fun i hi => by
          have h2 := hE i hi
          rw [List.getElem?_eq_getElem (by omega)] at h2
          obtain ⟨cs', h3, h4⟩ := Option.bind_eq_some_iff.1 h2
          obtain ⟨T, hT⟩ := ih n' (by omega) cs' _ h4
          exact ⟨T, cs', h3, hT⟩
        obtain ⟨parts, hparts⟩ := choose_lt each
        refine ⟨some a, len, cap, parts, h1, fun hpos => ?_, by omega, hlc, by omega⟩
        obtain ⟨cs0, g1, _⟩ := hparts 0 hpos
        obtain ⟨_, g2, g3⟩ := World.cells?_some g1
        have ha0 : a.add (0 * 5) = a := by unfold Addr.add; simp
        have ha1 : a.add 0 = a := by unfold Addr.add; simp
        have h0 := g3 0 (by omega)
        rw [ha0, ha1, List.getElem?_eq_getElem (by omega)] at h0
        have hs := spot_none h0
        obtain ⟨b, o, s⟩ := a
        simp only at hs
        subst hs
        refine ⟨b, o, rfl, World.block_lt_of_cell? W ⟨b, o, none⟩ h0, fun j hj => ?_⟩
        obtain ⟨cs', u1, u2⟩ := hparts j hj
        obtain ⟨_, u3, u4⟩ := World.cells?_some u1
        obtain ⟨z0, z1, z2, z3, z4, rfl⟩ : ∃ z0 z1 z2 z3 z4, cs' = [z0, z1, z2, z3, z4] := by
          match cs', u3 with
          | [z0, z1, z2, z3, z4], _ => exact ⟨z0, z1, z2, z3, z4, rfl⟩
        simp only [Addr.add_mid] at u4
        exact ⟨z0, z1, z2, z3, z4, u4 0 (by omega), u4 1 (by omega), u4 2 (by omega), u4 3 (by omega), u4 4 (by omega), u2⟩
    refine ⟨.mk kind name nn names pn parts many, ?_⟩
    unfold TyV
    exact ⟨na, nc, pa, pc, rfl, hN, hP, kb0, kb1, by omega, hP2, by omega, hN2, hN3, hN4, hP3, hP4⟩
theorem open_type {H : Type} {enc : TypeId × Value → H} {W : World} {r : Reach} {b0 : Nat} {v : Value} {d : DataW H} {p : List MemPlace} {sp : Nat → Bool}
    (hv : Value.okWide Try.prog W r b0 25 v) (h : DataW.Trod enc Try.prog W 0 sp true 25 v d p) : ∃ T, TyV W T v := by
  obtain ⟨cs, rfl, hsz⟩ := okWide_struct Try.underlying25 hv
  obtain ⟨fuel, hf⟩ := h
  have := open_ty fuel _ _ hf
  simpa [Value.cells] using this
theorem open_tys {H : Type} {enc : TypeId × Value → H} {W : World} {sp : Nat → Bool} (fuel : Nat) (k3 : Value) (y : DataW H × List MemPlace) (e3 : DataW.trod enc Try.prog W 0 sp true fuel 23 [k3] = some y) : ∃ ba bn bc bs, k3 = .slice ba bn bc ∧ Tys W (.slice ba bn bc) bn bs := by
  have hm : maxLen = 9223372036854775807 := rfl
  rcases DataW.trod_slice Try.underlying23 e3 with ⟨h1, _⟩ | ⟨a, len, cap, elems, rest, n', hn', h1, _, _, hlc, hcm, hel, hE, _, _⟩
  · simp at h1
    exact ⟨none, 0, 0, fun _ => .leaf, h1, none, 0, rfl, by omega, by omega, fun h => by omega⟩
  · simp at h1
    rw [cells25] at hE
    have each : ∀ i, i < len → ∃ T : Ty, ∃ cs', W.cells? 0 (a.add (i * 5)) 5 = some cs' ∧ TyV W T (.agg cs'.toArray) := fun i hi => by
      have h2 := hE i hi
      rw [List.getElem?_eq_getElem (by omega)] at h2
      obtain ⟨cs', h3, h4⟩ := Option.bind_eq_some_iff.1 h2
      obtain ⟨T, hT⟩ := open_ty n' cs' _ h4
      exact ⟨T, cs', h3, hT⟩
    obtain ⟨parts, hparts⟩ := choose_lt each
    refine ⟨some a, len, cap, parts, h1, some a, cap, rfl, hlc, by omega, fun hpos => ?_⟩
    obtain ⟨cs0, g1, _⟩ := hparts 0 hpos
    obtain ⟨_, g2, g3⟩ := World.cells?_some g1
    have ha0 : a.add (0 * 5) = a := by unfold Addr.add; simp
    have ha1 : a.add 0 = a := by unfold Addr.add; simp
    have h0 := g3 0 (by omega)
    rw [ha0, ha1, List.getElem?_eq_getElem (by omega)] at h0
    have hs := spot_none h0
    obtain ⟨b, o, s⟩ := a
    simp only at hs
    subst hs
    refine ⟨b, o, rfl, World.block_lt_of_cell? W ⟨b, o, none⟩ h0, fun j hj => ?_⟩
    obtain ⟨cs', u1, u2⟩ := hparts j hj
    obtain ⟨_, u3, u4⟩ := World.cells?_some u1
    obtain ⟨z0, z1, z2, z3, z4, rfl⟩ : ∃ z0 z1 z2 z3 z4, cs' = [z0, z1, z2, z3, z4] := by
      match cs', u3 with
      | [z0, z1, z2, z3, z4], _ => exact ⟨z0, z1, z2, z3, z4, rfl⟩
    simp only [Addr.add_mid] at u4
    exact ⟨z0, z1, z2, z3, z4, u4 0 (by omega), u4 1 (by omega), u4 2 (by omega), u4 3 (by omega), u4 4 (by omega), u2⟩
theorem open_types {H : Type} {enc : TypeId × Value → H} {W : World} {r : Reach} {b0 : Nat} {v : Value} {d : DataW H} {p : List MemPlace} {sp : Nat → Bool}
    (hv : Value.okWide Try.prog W r b0 23 v) (h : DataW.Trod enc Try.prog W 0 sp true 23 v d p) : ∃ ba bn bc bs, v = .slice ba bn bc ∧ Tys W (.slice ba bn bc) bn bs := by
  obtain ⟨a, n, c, rfl⟩ := okWide_slice Try.underlying23 hv
  obtain ⟨fuel, hf⟩ := h
  exact open_tys fuel _ _ hf
end Go.Proofs.Ytmbhcpnlfdgkjaa.T
