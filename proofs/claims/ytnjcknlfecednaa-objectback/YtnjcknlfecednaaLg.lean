/- The law ObjectGets, given what the program answers. -/
import Derived.Test.YtnjcknlfecednaaOl
namespace Go.Proofs.Ytnjcknlfecednaa.T
open Go.RowKit Go.Proofs.Ytnjcknlfecednaa.M
set_option linter.unusedVariables false
set_option linter.unusedSimpArgs false
/-- What Get leaves, in one form: an object, and what is wrong. -/
theorem PGet.form {w : World} {raw : List UInt8} {e : Ending} {w' : World} (h : PGet w raw e w') : ∃ v, e = .returned (.tuple #[v, .int .i64 (if (getO raw).isSome then 0 else 2)]) ∧ ObV w' ((getO raw).getD ⟨[], [], [], []⟩) v ∧ Below w.heap.size w w' := by
  unfold PGet at h
  obtain ⟨hb, h⟩ := h
  cases hg : getO raw with
  | none =>
    rw [hg] at h
    have hz : ∀ {α : Type} {P : World → α → List Value → Prop} {k : Nat}, RowV P k w' (.slice none 0 0) ([] : List α) := ⟨none, 0, rfl, Nat.le_refl 0, by omega, fun h => absurd h (by simp)⟩
    exact ⟨_, h, ⟨_, _, _, _, rfl, hz, hz, hz, hz⟩, hb⟩
  | some o =>
    rw [hg] at h
    obtain ⟨v, he, hv⟩ := h
    exact ⟨v, he, hv, hb⟩
set_option maxRecDepth 100000 in
set_option maxHeartbeats 2000000 in
theorem gets_law (P : Pr17) (a : Option Addr) (n c : Nat) (raw : List UInt8) (w : World) (hraw : Bys w (.slice a n c) raw) : Calls Try.prog 4 #[.slice a n c] w fun e w' => e = .returned (.bool true) ∧ Below w.heap.size w w' := by
  obtain ⟨E, hE⟩ : ∃ E : Int, (if (getO raw).isSome then (0 : Int) else 2) = E := ⟨_, rfl⟩
  obtain ⟨O, hO⟩ : ∃ O, (getO raw).getD ⟨[], [], [], []⟩ = O := ⟨_, rfl⟩
  have HP : Hid (Calls Try.prog 10 #[.slice a n c] w fun e w' => ∃ v, e = .returned (.tuple #[v, .int .i64 E]) ∧ ObV w' O v ∧ Below w.heap.size w w') := (P.get a n c raw w hraw).mono fun e w' h => by have := h.form; rw [hE, hO] at this; exact this
  have HG : Hid (∀ w0, Below w.heap.size w w0 → Calls Try.prog 11 #[.slice a n c] w0 fun e w' => ∃ v, e = .returned (.tuple #[v, .int .i64 E]) ∧ ObV w' O v ∧ Below w0.heap.size w0 w') := fun w0 hb => (getr_any a n c raw w0 (hraw.keep hb)).mono fun e w' h => by have := h.form; rw [hE, hO] at this; exact this
  clear hraw hE hO
  have HF := hide (Fr.start w)
  go_enter Try.func4, Try.ntmps4
  go_wp2_with fail
  go_at_call 10
  refine HP.out.mono ?_
  rintro e w1 ⟨v1, rfl, hv1, hb1⟩
  have HV1 := hide hv1
  obtain ⟨cv1, dv1, sv1, rv1, rfl, ⟨ca1, cc1, rfl, -⟩, ⟨da1, dc1, rfl, -⟩, ⟨sa1, sc1, rfl, -⟩, ⟨ra1, rc1, rfl, -⟩⟩ := hv1
  obtain ⟨nc, HNC⟩ : ∃ n, Hid (O.code.length = n) := ⟨_, rfl⟩
  obtain ⟨nd, HND⟩ : ∃ n, Hid (O.data.length = n) := ⟨_, rfl⟩
  obtain ⟨ns, HNS⟩ : ∃ n, Hid (O.syms.length = n) := ⟨_, rfl⟩
  obtain ⟨nr, HNR⟩ : ∃ n, Hid (O.rels.length = n) := ⟨_, rfl⟩
  simp only [HNC.out, HND.out, HNS.out, HNR.out] at HV1 ⊢
  replace HF := hide ((HF.out.call hb1).alloc (q := w1.heap.size) rfl #[.slice ca1 nc cc1, .slice da1 nd dc1, .slice sa1 ns sc1, .slice ra1 nr rc1] 27)
  replace HV1 := hide (HV1.out.below ((Below.refl w1.heap.size w1).alloc (Nat.le_refl _) (.cells #[.slice ca1 nc cc1, .slice da1 nd dc1, .slice sa1 ns sc1, .slice ra1 nr rc1] 27)))
  clear hb1 HP
  go_wp2_with fail
  go_at_call 11
  refine (HG.out _ HF.out.below).mono ?_
  rintro e w2 ⟨v2, rfl, hv2, hb2⟩
  replace HF := hide (HF.out.call hb2)
  replace HV1 := hide (HV1.out.below hb2)
  have HV2 := hide hv2
  obtain ⟨cv2, dv2, sv2, rv2, rfl, ⟨ca2, cc2, rfl, -⟩, ⟨da2, dc2, rfl, -⟩, ⟨sa2, sc2, rfl, -⟩, ⟨ra2, rc2, rfl, -⟩⟩ := hv2
  simp only [HNC.out, HND.out, HNS.out, HNR.out] at HV2 ⊢
  have HB2 := hide ((Below.refl w2.heap.size w2).alloc (Nat.le_refl _) (.cells #[.slice ca2 nc cc2, .slice da2 nd dc2, .slice sa2 ns sc2, .slice ra2 nr rc2] 27))
  have HC := hide (objects_same O _ _ _ (HV1.out.below HB2.out) (HV2.out.below HB2.out))
  replace HF := hide (HF.out.alloc (q := w2.heap.size) rfl #[.slice ca2 nc cc2, .slice da2 nd dc2, .slice sa2 ns sc2, .slice ra2 nr rc2] 27)
  clear hb2 HG HV1 HV2 HNC HND HNS HNR HB2
  have d1 := HF.out.cell 1 rfl
  have d2 := HF.out.cell 0 rfl
  go_wp2_with fail
  go_at_call 12
  refine HC.out.mono ?_
  rintro e w3 ⟨rfl, hb3⟩
  replace HF := hide (HF.out.call hb3)
  clear hb3 HC
  go_wp2_with fail
  go_ret
  exact ⟨rfl, HF.out.below⟩
end Go.Proofs.Ytnjcknlfecednaa.T
