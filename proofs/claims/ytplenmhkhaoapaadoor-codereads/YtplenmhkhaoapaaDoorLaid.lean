/- What the listed variables hold (from the row's condition), an instruction as an argument, and the witness. -/
import Derived.Test.YtplenmhkhaoapaaDoorRows
import Derived.Test.YtplenmhkhaoapaaDoorTx
import Derived.ProofKit
import Derived.OpenShut
import Derived.LaidMore
import Derived.Lib.LaidTab
import Derived.Stop.Joined
import Derived.Stop.LaidErr
import Derived.MakeChecks
namespace Go.Proofs.YtplenmhkhaoapaaDoor.L
open Go.ChangeShapes Go.WideShapes Go.ChangeAt Go.RowKit Go.Proofs.YtplenmhkhaoapaaDoor.W Go.Proofs.YtplenmhkhaoapaaDoor.M
set_option linter.unusedVariables false

/-- An array of texts that reads as these holds them, cell for cell. -/
theorem cells_of_texts {H : Type} {enc : TypeId × Value → H} {P : Program} {w : World} {base : Nat} {sp : Nat → Bool} {held : Bool} {fuel : Nat} {t e : TypeId} {n : Nat} {cs : List Value} {zs : List (List UInt8)} {p : List MemPlace}
    (ht : P.underlying t = some (.array n e)) (he : P.underlying e = some .string) (hce : P.cellsOf e = 1) (hct : P.cellsOf t = n)
    (h : DataW.trod enc P w base sp held fuel t cs = some (.agg (zs.map fun z => .lit (.string z)), p)) (i : Nat) (hi : i < n) (z : List UInt8) (hz : zs[i]? = some z) : cs[i]? = some (.string ⟨z.toArray⟩) := by
  cases fuel with
  | zero => simp [DataW.trod] at h
  | succ fuel =>
    simp only [DataW.trod, ht, hce, hct, Nat.mul_one] at h
    split at h
    · rename_i hl
      obtain ⟨xs, hm, hx⟩ := Option.map_eq_some_iff.1 h
      have hxs : xs.map (·.1) = zs.map fun z => (DataW.lit (.string z) : DataW H) := by
        have := congrArg Prod.fst hx
        simpa using this
      obtain ⟨b, hb, hf⟩ := Lib.mapM_at hm i i (by simp [hi])
      obtain ⟨s, hc, rfl, _⟩ := DataW.trod_string he hf
      have h1 : cs[i]? = some (.string s) := by
        have := congrArg (·[0]?) hc
        simpa [List.getElem?_take, List.getElem?_drop] using this
      have h2 : (xs.map (·.1))[i]? = some (DataW.lit (.string s.data.toList) : DataW H) := by simp [hb]
      rw [hxs] at h2
      simp only [List.getElem?_map, hz, Option.map_some, Option.some.injEq, DataW.lit.injEq, Lit.string.injEq] at h2
      rw [h1, h2]
    · cases h

theorem g_names : Tryd.prog.globalNamed "scarfjoint/code.names" = some 0 := by kernel_rfl
theorem t_names : (Tryd.prog.globals[0]?).map (·.type) = some 50 := by kernel_rfl
theorem t_pow : (Tryd.prog.globals[4]?).map (·.type) = some 104 := by kernel_rfl
theorem g_64 : Tryd.prog.globalNamed "math/bits.deBruijn64tab" = some 6 := by kernel_rfl
theorem c_9 : Tryd.prog.cellsOf 9 = 1 := by kernel_rfl
theorem c_50 : Tryd.prog.cellsOf 50 = 26 := by kernel_rfl
theorem c_92 : Tryd.prog.cellsOf 92 = 1 := by kernel_rfl
theorem c_104 : Tryd.prog.cellsOf 104 = 20 := by kernel_rfl
theorem d_pow : (Rows.laid_internal_strconv_uint64pow10 : DataW Unit) = Lib.tabData .u64 Lib.pow10Tab := by kernel_rfl
def nameList : List (List UInt8) := (List.range 26).map fun i : Nat => (nameOf (i : Int)).data.toList
theorem d_names : (Rows.laid_scarfjoint_code_names : DataW Unit) = .agg (nameList.map fun z => .lit (.string z)) := by kernel_rfl

/-- From the last listed variable, the names, on. -/
theorem names_of {W : World} (h : laidMet Tryd.prog [("scarfjoint/code.names", Rows.laid_scarfjoint_code_names)] W) (i : Nat) (hi : i < 26) : W.cell? ⟨0, i, none⟩ = some (.string (nameOf (i : Int))) := by
  obtain ⟨ps, ⟨g', t', cs, fuel, p, q, hg', ht', hvar, hd, _, _⟩, _⟩ := h
  obtain rfl := Option.some.inj (g_names.symm.trans hg')
  obtain rfl := Option.some.inj (t_names.symm.trans ht')
  rw [d_names] at hd
  rw [World.var?_cell g_names hvar i]
  have hz : nameList[i]? = some (nameOf (i : Int)).data.toList := by simp [nameList, hi]
  have := cells_of_texts Tryd.underlying50 Tryd.underlying9 c_9 c_50 hd i hi _ hz
  simpa using this
theorem size_of {W : World} {d : DataW Unit} {r : List (String × DataW Unit)} (h : laidMet Tryd.prog (("math/bits.deBruijn64tab", d) :: r) W) : 7 ≤ W.heap.size := by
  obtain ⟨ps, ⟨g', t', cs, fuel, p, q, hg', ht', hvar, hd, _, _⟩, _⟩ := h
  simp only [World.var?, g_64, Option.bind_some] at hvar
  rcases Nat.lt_or_ge 6 W.heap.size with h' | h'
  · omega
  · simp [Array.getElem?_eq_none h'] at hvar
theorem tab_of {W : World} {r : List (String × DataW Unit)} (h : laidMet Tryd.prog (("internal/strconv.uint64pow10", Rows.laid_internal_strconv_uint64pow10) :: r) W) : Lib.TabIs Tryd.prog W "internal/strconv.uint64pow10" .u64 Lib.pow10Tab := by
  rw [d_pow] at h
  exact Lib.tabIs_of_head tab_global t_pow Tryd.underlying104 Tryd.underlying92 c_92 c_104 h

set_option maxRecDepth 100000 in
/-- An instruction that came in by value. -/
theorem open_instr {H : Type} {enc : TypeId × Value → H} {w : World} {base : Nat} {spare : Nat → Bool} {held : Bool} {r : Reach} {b0 : Nat} {v : Value} {d : DataW H} {p : List MemPlace}
    (hv : Value.okWide Tryd.prog w r b0 23 v) (h : DataW.Trod enc Tryd.prog w base spare held 23 v d p) :
    ∃ op a b c m : Int, v = .agg #[.int .i64 op, .int .i64 a, .int .i64 b, .int .i64 c, .int .i64 m] ∧ d = .agg [.lit (.int .i64 op), .lit (.int .i64 a), .lit (.int .i64 b), .lit (.int .i64 c), .lit (.int .i64 m)] ∧ p = [] ∧
      (Lit.int .i64 op).wf = true ∧ (Lit.int .i64 a).wf = true ∧ (Lit.int .i64 b).wf = true ∧ (Lit.int .i64 c).wf = true ∧ (Lit.int .i64 m).wf = true := by
  have c3 : Tryd.prog.cellsOf 3 = 1 := by kernel_rfl
  have c23 : Tryd.prog.cellsOf 23 = 5 := by kernel_rfl
  obtain ⟨cs, rfl, hsz⟩ := okWide_struct Tryd.underlying23 hv
  obtain ⟨l⟩ := cs
  rw [c23] at hsz
  obtain ⟨k0, k1, k2, k3, k4, rfl⟩ : ∃ k0 k1 k2 k3 k4, l = [k0, k1, k2, k3, k4] := by
    match l, hsz with
    | [k0, k1, k2, k3, k4], _ => exact ⟨k0, k1, k2, k3, k4, rfl⟩
  obtain ⟨fuel, hf⟩ := h
  obtain ⟨xs, n, _, hx, hl, hlen, hp⟩ := DataW.trod_struct Tryd.underlying23 hf
  obtain ⟨y0, y1, y2, y3, y4, rfl⟩ : ∃ y0 y1 y2 y3 y4, xs = [y0, y1, y2, y3, y4] := by
    match xs, hlen with
    | [y0, y1, y2, y3, y4], _ => exact ⟨y0, y1, y2, y3, y4, rfl⟩
  have e0 := hp 0 _ rfl
  have e1 := hp 1 _ rfl
  have e2 := hp 2 _ rfl
  have e3 := hp 3 _ rfl
  have e4 := hp 4 _ rfl
  simp only [Value.cells] at e0 e1 e2 e3 e4
  obtain ⟨n0, q0, z0, f0⟩ := DataW.trod_int Tryd.underlying3 e0
  obtain ⟨n1, q1, z1, f1⟩ := DataW.trod_int Tryd.underlying3 e1
  obtain ⟨n2, q2, z2, f2⟩ := DataW.trod_int Tryd.underlying3 e2
  obtain ⟨n3, q3, z3, f3⟩ := DataW.trod_int Tryd.underlying3 e3
  obtain ⟨n4, q4, z4, f4⟩ := DataW.trod_int Tryd.underlying3 e4
  simp [c3] at q0 q1 q2 q3 q4
  subst q0 q1 q2 q3 q4 z0 z1 z2 z3 z4
  simp only [Prod.mk.injEq] at hx
  exact ⟨n0, n1, n2, n3, n4, rfl, by simpa using hx.1, by simpa using hx.2, f0, f1, f2, f3, f4⟩
set_option maxRecDepth 100000 in
theorem shut_instr {H : Type} {enc : TypeId × Value → H} {w : World} {base : Nat} {spare : Nat → Bool} {held : Bool} {op a b c m : Int}
    (f0 : (Lit.int .i64 op).wf = true) (f1 : (Lit.int .i64 a).wf = true) (f2 : (Lit.int .i64 b).wf = true) (f3 : (Lit.int .i64 c).wf = true) (f4 : (Lit.int .i64 m).wf = true) :
    DataW.Trod enc Tryd.prog w base spare held 23 (.agg #[.int .i64 op, .int .i64 a, .int .i64 b, .int .i64 c, .int .i64 m]) (.agg [.lit (.int .i64 op), .lit (.int .i64 a), .lit (.int .i64 b), .lit (.int .i64 c), .lit (.int .i64 m)]) [] := by
  have c3 : Tryd.prog.cellsOf 3 = 1 := by kernel_rfl
  have c23 : Tryd.prog.cellsOf 23 = 5 := by kernel_rfl
  obtain ⟨m0, t0⟩ := shut_int (enc := enc) (w := w) (base := base) (spare := spare) (held := held) Tryd.underlying3 f0
  obtain ⟨m1, t1⟩ := shut_int (enc := enc) (w := w) (base := base) (spare := spare) (held := held) Tryd.underlying3 f1
  obtain ⟨m2, t2⟩ := shut_int (enc := enc) (w := w) (base := base) (spare := spare) (held := held) Tryd.underlying3 f2
  obtain ⟨m3, t3⟩ := shut_int (enc := enc) (w := w) (base := base) (spare := spare) (held := held) Tryd.underlying3 f3
  obtain ⟨m4, t4⟩ := shut_int (enc := enc) (w := w) (base := base) (spare := spare) (held := held) Tryd.underlying3 f4
  have s0 := DataW.trod_le (show m0 ≤ m0 + m1 + m2 + m3 + m4 by omega) t0
  have s1 := DataW.trod_le (show m1 ≤ m0 + m1 + m2 + m3 + m4 by omega) t1
  have s2 := DataW.trod_le (show m2 ≤ m0 + m1 + m2 + m3 + m4 by omega) t2
  have s3 := DataW.trod_le (show m3 ≤ m0 + m1 + m2 + m3 + m4 by omega) t3
  have s4 := DataW.trod_le (show m4 ≤ m0 + m1 + m2 + m3 + m4 by omega) t4
  simp only [Value.cells] at s0 s1 s2 s3 s4
  refine ⟨m0 + m1 + m2 + m3 + m4 + 1, ?_⟩
  have ts := trod_struct_mk (enc := enc) (w := w) (base := base) (spare := spare) (held := held) (n := m0 + m1 + m2 + m3 + m4) (cs := [.int .i64 op, .int .i64 a, .int .i64 b, .int .i64 c, .int .i64 m]) (xs := [_, _, _, _, _]) Tryd.underlying23 (by rw [c23]; rfl) (by
    simp only [List.mapM_cons, List.mapM_nil, c3]
    simp only [List.drop_zero, List.drop_succ_cons, List.take_succ_cons, List.take_zero, s0, s1, s2, s3, s4]
    rfl)
  simpa [Value.cells] using ts
end Go.Proofs.YtplenmhkhaoapaaDoor.L
