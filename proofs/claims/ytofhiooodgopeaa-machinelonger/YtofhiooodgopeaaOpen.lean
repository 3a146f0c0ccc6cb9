/- An image that came in by value, opened; the end of a row's step where the arguments read as they did. -/
import Derived.Test.YtofhiooodgopeaaLong
import Derived.ProofKit
import Derived.OpenShut
import Derived.SizedLaws
import Derived.Carry
namespace Go.Proofs.Ytofhiooodgopeaa.K
open Go.ChangeShapes Go.WideShapes Go.ChangeAt Go.RowKit Go.Proofs.Ytofhiooodgopeaa.M Go.Proofs.Ytofhiooodgopeaa.V
set_option linter.unusedVariables false

theorem spot_none {w : World} {a : Addr} {u : Value} (h : w.cell? a = some u) : a.spot = none := by
  obtain ⟨b, o, s⟩ := a
  cases s with
  | none => rfl
  | some s =>
    exfalso
    unfold World.cell? at h
    split at h <;> simp at h
theorem sl_open {H : Type} {enc : TypeId × Value → H} {W : World} {k : IntKind} {e t : TypeId} {fuel : Nat} {k0 : Value} {y : DataW H × List MemPlace} (ht : Try.prog.underlying t = some (.slice e)) (he : Try.prog.underlying e = some (.int k)) (hc : Try.prog.cellsOf e = 1) (hby : 1 ≤ Try.prog.bytesOf e)
    (h : DataW.trod enc Try.prog W 0 (fun _ => true) true fuel t [k0] = some y) (hz : ∀ n ∈ y.1.weights Try.prog t, n ≤ reachBytes) :
    ∃ (a : Option Addr) (n c : Nat) (f : Nat → Int), k0 = .slice a n c ∧ (0 < n → ∃ cb co, a = some ⟨cb, co, none⟩ ∧ cb < W.heap.size ∧ ∀ j, j < n → W.cell? ⟨cb, co + j, none⟩ = some (.int k (f j))) ∧ (∀ j, j < n → (Lit.int k (f j)).wf = true) ∧ n ≤ 140737488355328 := by
  rcases open_ints ht he hc h with ⟨h1, _⟩ | ⟨a, len, cap, zs, h1, _, hlc, _, hzl, hx, hcell, hwf⟩
  · simp at h1
    exact ⟨none, 0, 0, fun _ => 0, h1, fun h => by omega, fun j hj => by omega, by omega⟩
  · simp at h1
    simp at hzl
    have hcap : cap ≤ reachBytes := by
      have h2 := hz ((lits (H := H) k (zs.take len)).length + (lits (H := H) k (zs.drop len)).length |>.mul (Try.prog.bytesOf e)) (by rw [hx]; simp [DataW.weights, ht])
      have h3 : (lits (H := H) k (zs.take len)).length + (lits (H := H) k (zs.drop len)).length = cap := by simp [lits]; omega
      rw [h3] at h2
      exact Nat.le_trans (Nat.le_mul_of_pos_right cap hby) h2
    have hr : reachBytes ≤ 140737488355328 := by decide
    refine ⟨some a, len, cap, fun j => zs.getD j 0, h1, fun hp => ?_, fun j hj => ?_, by omega⟩
    · have h0 := hcell 0 (by omega)
      have ha0 : a.add 0 = a := by unfold Addr.add; simp
      rw [ha0] at h0
      have hs := spot_none h0
      obtain ⟨cb, co, sp⟩ := a
      simp only at hs
      subst hs
      refine ⟨cb, co, rfl, World.block_lt_of_cell? W ⟨cb, co, none⟩ h0, fun j hj => ?_⟩
      have := hcell j (by omega)
      rwa [Addr.add_mid] at this
    · refine hwf _ ?_
      show zs.getD j 0 ∈ zs
      rw [List.getD_eq_getElem?_getD, List.getElem?_eq_getElem (by omega)]
      exact List.getElem_mem _
set_option maxRecDepth 100000 in
theorem open_img {H : Type} {enc : TypeId × Value → H} {W : World} {r : Reach} {b0 : Nat} {v : Value} {d : DataW H} {p : List MemPlace}
    (hv : Value.okWide Try.prog W r b0 25 v) (h : DataW.Trod enc Try.prog W 0 (fun _ => true) true 25 v d p) (hz : ∀ n ∈ d.weights Try.prog 25, n ≤ reachBytes) :
    ∃ (ca : Option Addr) (nc cc : Nat) (da : Option Addr) (nd cd : Nat) (M : Int) (code data : Nat → Int), v = .agg #[.slice ca nc cc, .slice da nd cd, .int .i64 M] ∧ (Lit.int .i64 M).wf = true ∧ Img W ca da nc nd code data := by
  have c25 : Try.prog.cellsOf 25 = 3 := by kernel_rfl
  have c22 : Try.prog.cellsOf 22 = 1 := by kernel_rfl
  have c23 : Try.prog.cellsOf 23 = 1 := by kernel_rfl
  have c3 : Try.prog.cellsOf 3 = 1 := by kernel_rfl
  have c60 : Try.prog.cellsOf 60 = 1 := by kernel_rfl
  have c21 : Try.prog.cellsOf 21 = 1 := by kernel_rfl
  have b60 : 1 ≤ Try.prog.bytesOf 60 := of_decide_eq_true (by kernel_rfl)
  have b21 : 1 ≤ Try.prog.bytesOf 21 := of_decide_eq_true (by kernel_rfl)
  obtain ⟨cs, rfl, hsz⟩ := okWide_struct Try.underlying25 hv
  obtain ⟨l⟩ := cs
  rw [c25] at hsz
  obtain ⟨k0, k1, k2, rfl⟩ : ∃ k0 k1 k2, l = [k0, k1, k2] := by
    match l, hsz with
    | [k0, k1, k2], _ => exact ⟨k0, k1, k2, rfl⟩
  obtain ⟨fuel, hf⟩ := h
  obtain ⟨xs, n, _, hx, hl, hlen, hp⟩ := DataW.trod_struct Try.underlying25 hf
  obtain ⟨y0, y1, y2, rfl⟩ : ∃ y0 y1 y2, xs = [y0, y1, y2] := by
    match xs, hlen with
    | [y0, y1, y2], _ => exact ⟨y0, y1, y2, rfl⟩
  have e0 := hp 0 _ rfl
  have e1 := hp 1 _ rfl
  have e2 := hp 2 _ rfl
  simp only [Value.cells] at e0 e1 e2
  simp [c22, c23, c3] at e0 e1 e2
  simp only [Prod.mk.injEq] at hx
  have hd : d = .agg [y0.1, y1.1, y2.1] := by simpa using hx.1
  subst hd
  have hw : ∀ n, n ∈ y0.1.weights Try.prog 22 ∨ n ∈ y1.1.weights Try.prog 23 → n ≤ reachBytes := fun n hn => hz n (by
    simp [DataW.weights, Try.underlying25, DataW.weightsEach]
    rcases hn with hn | hn
    · exact Or.inl hn
    · exact Or.inr (Or.inl hn))
  obtain ⟨ca, nc, cc, code, rfl, a1, a2, a3⟩ := sl_open Try.underlying22 Try.underlying60 c60 b60 e0 (fun n hn => hw n (Or.inl hn))
  obtain ⟨da, nd, cd, data, rfl, d1, d2, d3⟩ := sl_open Try.underlying23 Try.underlying21 c21 b21 e1 (fun n hn => hw n (Or.inr hn))
  obtain ⟨M, q2, z2, f2⟩ := DataW.trod_int Try.underlying3 e2
  simp at q2
  subst q2
  exact ⟨ca, nc, cc, da, nd, cd, M, code, data, rfl, f2, ⟨a1, d1, fun k hk => bounds_u32 (a2 k hk), fun k hk => bounds_i32 (d2 k hk), a3, d3⟩⟩
/-- The end of a row's step: new memory alone, the arguments read as they did. -/
theorem post_below2 {H : Type} {enc : TypeId × Value → H} {P : Program} {f : Func} {s : ChangeSpec} {apart fresh handsOn : Bool} {W W' : World} {args : Array Value} {v : Value} {ds gs : List (DataW H)} {before pa pv : List MemPlace}
    (hW : DataW.Whole enc P f.params.toList s.vars apart W args.toList ds gs before)
    (hres : ∀ (b : Nat) (sp : Nat → Bool) (hd : Bool), DataW.TrodAll enc P W' b sp hd f.resultTypes.toList (v.resultList f.resultTypes.size) (s.fn H (ds ++ gs)).results [])
    (hargs : DataW.TrodAll enc P W' 0 (fun b => decide (b < W.heap.size)) true f.params.toList args.toList (s.fn H (ds ++ gs)).args pa)
    (hvars : DataW.TrodVars enc P W' (fun b => decide (b < W.heap.size)) s.vars (s.fn H (ds ++ gs)).vars pv)
    (hps : before = pa ++ pv) (hb : Below W.heap.size W W') :
    s.post enc P f apart fresh handsOn false W args v W' := by
  refine ⟨ds, gs, before, [], pa, pv, hW, hres _ _ _, hargs, hvars, World.keptBut_mono (fun p hp => ⟨hp, ?_⟩) (hb.frame (· ∈ before)), fun h => by cases h⟩
  rw [hps, List.mem_append] at hp
  exact Or.inr hp
end Go.Proofs.Ytofhiooodgopeaa.K
