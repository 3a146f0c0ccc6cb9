/- What the reference's Places answers. -/
import Derived.Test.YtmbhcpnlfdgkjaaWb
import Derived.Test.YtmbhcpnlfdgkjaaFr
import Derived.LoopTactic
import Derived.Deep.DeepCutAuto
namespace Go.Proofs.Ytmbhcpnlfdgkjaa.T
open Go.RowKit
set_option linter.unusedVariables false
set_option linter.unusedSimpArgs false
theorem TyV.shape {w : World} {T : Ty} {k0 k1 k2 k3 k4 : Value} (h : TyV w T (.agg #[k0, k1, k2, k3, k4])) : ∃ kind name na nn nc pa pn pc many, k0 = .int .i64 kind ∧ k1 = .string name ∧ k2 = .slice na nn nc ∧ k3 = .slice pa pn pc ∧ k4 = .bool many ∧ kind = kindT T := by
  rcases T with _ | ⟨kind, name, nn, names, pn, parts, many⟩
  · exact (TyV_leaf h).elim
  · obtain ⟨na, nc, pa, pc, he, _⟩ := h.part
    have e := congrArg Array.toList (Value.agg.inj he)
    simp at e
    obtain ⟨rfl, rfl, rfl, rfl, rfl⟩ := e
    exact ⟨_, _, _, _, _, _, _, _, _, rfl, rfl, rfl, rfl, rfl, rfl⟩
/-- Rows that are read. -/
def Ints (w : World) (v : Value) (l : List Nat) : Prop := ∃ a c, v = .slice a l.length c ∧ (0 < l.length → ∃ g o, a = some ⟨g, o, none⟩ ∧ g < w.heap.size ∧ ∀ j (h : j < l.length), w.cell? ⟨g, o + j, none⟩ = some (.int .i64 l[j]))
def Bools (w : World) (v : Value) (l : List Bool) : Prop := ∃ a c, v = .slice a l.length c ∧ (0 < l.length → ∃ g o, a = some ⟨g, o, none⟩ ∧ g < w.heap.size ∧ ∀ j (h : j < l.length), w.cell? ⟨g, o + j, none⟩ = some (.bool l[j]))
def Rows' (w : World) (v : Value) (l : List (List Lo)) : Prop := ∃ a c, v = .slice a l.length c ∧ (0 < l.length → ∃ g o, a = some ⟨g, o, none⟩ ∧ g < w.heap.size ∧ ∀ j (h : j < l.length), ∃ u, w.cell? ⟨g, o + j, none⟩ = some u ∧ Locs w u l[j])
def Tys (w : World) (v : Value) (n : Nat) (ts : Nat → Ty) : Prop := ∃ a c, v = .slice a n c ∧ n ≤ c ∧ c ≤ 9223372036854775807 ∧ (0 < n → ∃ b o, a = some ⟨b, o, none⟩ ∧ b < w.heap.size ∧ ∀ j, j < n → ∃ k0 k1 k2 k3 k4, w.cell? ⟨b, o + j * 5, none⟩ = some k0 ∧ w.cell? ⟨b, o + j * 5 + 1, none⟩ = some k1 ∧ w.cell? ⟨b, o + j * 5 + 2, none⟩ = some k2 ∧ w.cell? ⟨b, o + j * 5 + 3, none⟩ = some k3 ∧ w.cell? ⟨b, o + j * 5 + 4, none⟩ = some k4 ∧ TyV w (ts j) (.agg #[k0, k1, k2, k3, k4]))
def PlV (w : World) (P : Pl) (v : Value) : Prop := ∃ vp vc vr, v = .agg #[.int .i64 P.result, .int .i64 P.count, vp, vc, vr, .int .i64 P.area, .int .i64 P.extra] ∧ Rows' w vp P.params ∧ Bools w vc P.copied ∧ Ints w vr P.results
def Pl0 : Pl := ⟨0, 0, [], [], [], 0, 0⟩
theorem PlV.zero (w : World) : PlV w Pl0 (.agg #[.int .i64 0, .int .i64 0, .slice none 0 0, .slice none 0 0, .slice none 0 0, .int .i64 0, .int .i64 0]) :=
  ⟨_, _, _, rfl, ⟨none, 0, rfl, fun h => absurd h (by decide)⟩, ⟨none, 0, rfl, fun h => absurd h (by decide)⟩, ⟨none, 0, rfl, fun h => absurd h (by decide)⟩⟩
def badB (t : Ty) : Bool := !(mayN 4 t) || decide (2 < kindT t)
def sumN (ts : Nat → Ty) : Nat → Nat
  | 0 => 0
  | k + 1 => sumN ts k + sizeT (ts k)
def manyT : Ty → Bool
  | .leaf => false
  | .mk _ _ _ _ _ _ m => m
def partsT : Ty → Nat → Ty
  | .leaf => fun _ => .leaf
  | .mk _ _ _ _ _ p _ => p
def pnT : Ty → Nat
  | .leaf => 0
  | .mk _ _ _ _ n _ _ => n
def errP (T : Ty) (bn : Nat) (bs : Nat → Ty) : Nat := if kindT T ≠ 4 ∨ mayN 4 T = false then 3 else if 6 < bn ∨ (0 < bn ∧ manyT T = false) then 6 else if ((List.range bn).any fun i => badB (bs i)) = true then 3 else 0
def plR (T : Ty) (bn : Nat) (bs : Nat → Ty) : Pl := if errP T bn bs = 0 then plT (pnT T) (partsT T) (manyT T) (sumN bs bn) else Pl0
/-- What a call of Places leaves. -/
def PostP (w : World) (T : Ty) (bn : Nat) (bs : Nat → Ty) (e : Ending) (w' : World) : Prop := ∃ v, e = .returned (.tuple #[v, .int .i64 (errP T bn bs)]) ∧ PlV w' (plR T bn bs) v ∧ Below w.heap.size w w'
theorem PostP.bad {w w' : World} {T : Ty} {bn : Nat} {bs : Nat → Ty} {k : Nat} (he : errP T bn bs = k) (hk : k ≠ 0) (hb : Below w.heap.size w w') : PostP w T bn bs (.returned (.tuple #[.agg #[.int .i64 0, .int .i64 0, .slice none 0 0, .slice none 0 0, .slice none 0 0, .int .i64 0, .int .i64 0], .int .i64 k])) w' := by
  refine ⟨_, by rw [he], ?_, hb⟩
  unfold plR
  rw [he, if_neg hk]
  exact PlV.zero w'
theorem rt7 {fn : Func} {t u : Tmp} {q : Nat} {a b d e : Int} {p1 p2 p3 : Option Addr} {n1 n2 n3 c1 c2 c3 : Nat} {tmps : Array Value} {w : World} (h : fn.results = #[.cell t 30, .tmp u]) (ht : tmps.getD t undef = .pointer (some ⟨q, 0, none⟩)) (hb : w.heap[q]? = some (.cells #[.int .i64 a, .int .i64 b, .slice p1 n1 c1, .slice p2 n2 c2, .slice p3 n3 c3, .int .i64 d, .int .i64 e] 30 (0, 0))) : (results fn tmps).run Try.prog w = .ok (.tuple #[.agg #[.int .i64 a, .int .i64 b, .slice p1 n1 c1, .slice p2 n2 c2, .slice p3 n3 c3, .int .i64 d, .int .i64 e], tmps.getD u undef]) w := by
  have ht' : tmps[t]?.getD undef = .pointer (some ⟨q, 0, none⟩) := by simpa using ht
  have hc := fr_cells hb
  have hl := (Array.getElem?_eq_some_iff.1 hb).1
  simp [results, h, asAddr, ht', loadVar, go_sem, hc, hl]
abbrev z7 : Array Value := #[.int .i64 0, .int .i64 0, .slice none 0 0, .slice none 0 0, .slice none 0 0, .int .i64 0, .int .i64 0]
set_option maxRecDepth 100000 in
set_option maxHeartbeats 1000000 in
theorem places_1 (T : Ty) (v bv : Value) (bn : Nat) (bs : Nat → Ty) (w : World) (hv : TyV w T v) (hk : ¬ kindT T = 4) : Calls Try.prog 6 #[v, bv] w (PostP w T bn bs) := by
  rcases T with _ | ⟨kind, name, nn, names, pn, parts, many⟩
  · exact (TyV_leaf hv).elim
  obtain ⟨na, nc, pa, pc, rfl, hS, q1, q2, q3, q4, q5, q6, q7, HP⟩ := hv.part
  have he : errP (.mk kind name nn names pn parts many) bn bs = 3 := by unfold errP; rw [if_pos (Or.inl hk)]
  have k4 : ¬ kind = 4 := hk
  have k4' : (kind == 4) = false := by simpa using k4
  have HE := hide he
  have HF := hide (((Fr.start w).alloc rfl #[.int .i64 kind, .string name, .slice na nn nc, .slice pa pn pc, .bool many] 25).alloc (q := w.heap.size + 1) (by simp) z7 30)
  clear he hv hS hk
  go_enter Try.func6, Try.ntmps6
  go_wp2_with fail
  refine bodyPost_ret (rt7 Try.results6 rfl (HF.out.get (i := 0) rfl).2) rfl ?_
  exact PostP.bad HE.out (by decide) HF.out.below
set_option maxRecDepth 100000 in
set_option maxHeartbeats 1000000 in
theorem places_2 (T : Ty) (v bv : Value) (bn : Nat) (bs : Nat → Ty) (w : World) (hv : TyV w T v) (hk : kindT T = 4) (hm : mayN 4 T = false) : Calls Try.prog 6 #[v, bv] w (PostP w T bn bs) := by
  rcases T with _ | ⟨kind, name, nn, names, pn, parts, many⟩
  · exact (TyV_leaf hv).elim
  obtain ⟨na, nc, pa, pc, rfl, hS, q1, q2, q3, q4, q5, q6, q7, HP⟩ := hv.part
  have he : errP (.mk kind name nn names pn parts many) bn bs = 3 := by unfold errP; rw [if_pos (Or.inr hm)]
  obtain rfl : kind = 4 := hk
  have HE := hide he
  have HF := hide (((Fr.start w).alloc rfl #[.int .i64 4, .string name, .slice na nn nc, .slice pa pn pc, .bool many] 25).alloc (q := w.heap.size + 1) (by simp) z7 30)
  have hcal := may_any _ _ _ (hv.below HF.out.below)
  rw [hm] at hcal
  have HC := hide hcal
  clear he hv hS hcal
  go_enter Try.func6, Try.ntmps6
  go_wp2_with fail
  go_at_call 17
  refine HC.out.mono ?_
  rintro e w1 ⟨rfl, hb⟩
  replace HF := hide (HF.out.call hb)
  have c0 := HF.out.cell 0 rfl
  have f0 := HF.out.frz 0 rfl
  clear hb HC
  go_wp2_with fail
  replace HF := hide (((((((HF.out.set 0 rfl 0 (.int .i64 0)).set 0 rfl 1 (.int .i64 0)).set 0 rfl 2 (.slice none 0 0)).set 0 rfl 3 (.slice none 0 0)).set 0 rfl 4 (.slice none 0 0)).set 0 rfl 5 (.int .i64 0)).set 0 rfl 6 (.int .i64 0))
  refine bodyPost_ret (rt7 Try.results6 rfl (HF.out.get (i := 0) rfl).2) rfl ?_
  exact PostP.bad HE.out (by decide) HF.out.below
set_option maxRecDepth 100000 in
set_option maxHeartbeats 1000000 in
theorem places_3 (T : Ty) (v : Value) (ba : Option Addr) (bn bc : Nat) (bs : Nat → Ty) (w : World) (hv : TyV w T v) (hk : kindT T = 4) (hm : mayN 4 T = true) (hbn : bn ≤ 9223372036854775807) (hr : 6 < bn ∨ (0 < bn ∧ manyT T = false)) : Calls Try.prog 6 #[v, .slice ba bn bc] w (PostP w T bn bs) := by
  rcases T with _ | ⟨kind, name, nn, names, pn, parts, many⟩
  · exact (TyV_leaf hv).elim
  obtain ⟨na, nc, pa, pc, rfl, hS, q1, q2, q3, q4, q5, q6, q7, HP⟩ := hv.part
  have he : errP (.mk kind name nn names pn parts many) bn bs = 6 := by unfold errP; rw [if_neg (by rw [hm]; simp [hk]), if_pos hr]
  obtain rfl : kind = 4 := hk
  have HE := hide he
  have HF := hide (((Fr.start w).alloc rfl #[.int .i64 4, .string name, .slice na nn nc, .slice pa pn pc, .bool many] 25).alloc (q := w.heap.size + 1) (by simp) z7 30)
  have hcal := may_any _ _ _ (hv.below HF.out.below)
  rw [hm] at hcal
  have HC := hide hcal
  have hr' : 6 < bn ∨ (¬ 6 < bn ∧ 0 < bn ∧ many = false) := by
    rcases hr with h | ⟨h1, h2⟩
    · exact Or.inl h
    · by_cases h6 : 6 < bn
      · exact Or.inl h6
      · exact Or.inr ⟨h6, h1, h2⟩
  clear he hv hS hcal hr
  go_enter Try.func6, Try.ntmps6
  go_wp2_with fail
  go_at_call 17
  refine HC.out.mono ?_
  rintro e w1 ⟨rfl, hb⟩
  replace HF := hide (HF.out.call hb)
  have c0 := HF.out.cell 0 rfl
  have f0 := HF.out.frz 0 rfl
  have c1 := HF.out.cell 1 rfl
  clear hb HC
  rcases hr' with h6 | ⟨h6, h0, rfl⟩
  · have h6' : (6 : Int) < bn := by omega
    go_wp2_with fail
    replace HF := hide (((((((HF.out.set 0 rfl 0 (.int .i64 0)).set 0 rfl 1 (.int .i64 0)).set 0 rfl 2 (.slice none 0 0)).set 0 rfl 3 (.slice none 0 0)).set 0 rfl 4 (.slice none 0 0)).set 0 rfl 5 (.int .i64 0)).set 0 rfl 6 (.int .i64 0))
    refine bodyPost_ret (rt7 Try.results6 rfl (HF.out.get (i := 0) rfl).2) rfl ?_
    exact PostP.bad HE.out (by decide) HF.out.below
  · have h6' : ¬ (6 : Int) < bn := by omega
    have h0' : (0 : Int) < bn := by omega
    go_wp2_with fail
    replace HF := hide (((((((HF.out.set 0 rfl 0 (.int .i64 0)).set 0 rfl 1 (.int .i64 0)).set 0 rfl 2 (.slice none 0 0)).set 0 rfl 3 (.slice none 0 0)).set 0 rfl 4 (.slice none 0 0)).set 0 rfl 5 (.int .i64 0)).set 0 rfl 6 (.int .i64 0))
    refine bodyPost_ret (rt7 Try.results6 rfl (HF.out.get (i := 0) rfl).2) rfl ?_
    exact PostP.bad HE.out (by decide) HF.out.below
end Go.Proofs.Ytmbhcpnlfdgkjaa.T
