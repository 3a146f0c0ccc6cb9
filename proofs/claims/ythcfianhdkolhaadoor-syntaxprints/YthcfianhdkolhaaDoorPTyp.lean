/- The contract of (*printer).typ. -/
import Derived.Test.YthcfianhdkolhaaDoorKn
namespace Go.Proofs.YthcfianhdkolhaaDoor.T
open Go.RowKit Go.Proofs.YthcfianhdkolhaaDoor.S
set_option linter.unusedVariables false
set_option linter.unusedSimpArgs false
theorem Pt.drew {w0 w : World} {b : Nat} {T : List (List UInt8)} (h : Pt w0 w b T) : Pt w0 w.drew b T := h.below ((Below.refl _ _).drew)
theorem St.drew (w : World) : St w w.drew := St.below ((Below.refl _ _).drew)
theorem Pt.app {w0 w : World} {b : Nat} {T : List (List UInt8)} {xs : List (List UInt8)} {ts : List Tk} (h : Pt w0 w b (T ++ xs)) (e : xs = txs ts) : Pt w0 w b (T ++ txs ts) := e ▸ h
theorem kid_lt {kind : Int} {text : List UInt8} {num : Int} {kids : List Nd} {x : Nd} (hj : x ∈ kids) : SizeOf.sizeOf x < SizeOf.sizeOf (Nd.mk kind text num kids) := by
  have := List.sizeOf_lt_of_mem hj
  simp only [Nd.mk.sizeOf_spec]
  omega
theorem sh_ty9 (t : List UInt8) (v : Int) (l : List Nd) : shT (.mk 9 t v l) = [wd sINT] := by rw [shT_mk]; simp [shK]
theorem sh_ty10 (t : List UInt8) (v : Int) (l : List Nd) : shT (.mk 10 t v l) = [wd sLONG] := by rw [shT_mk]; simp [shK]
theorem sh_ty11 (t : List UInt8) (v : Int) (l : List Nd) : shT (.mk 11 t v l) = [wd t] := by rw [shT_mk]; simp [shK]
theorem sh_ty12 (t : List UInt8) (v : Int) (l : List Nd) (x : Nd) : shT (.mk 12 t v (l ++ [x])) = [wd sFN] ++ rowT (l.map shT) (decide (v = 1)) ++ shT x := by rw [shT_mk]; simp [shK, lastT]
/-- A kid's value. -/
theorem RowO.kid {w : World} {ka : Option Addr} {l : List Nd} (h : RowO w ka l) (j : Nat) (hj : j < l.length) : ∃ g o k0 x0 n0 a0 m0 c0, ka = some ⟨g, o, none⟩ ∧ g < w.heap.size ∧
  w.cell? ⟨g, o + j * 4, none⟩ = some (.int .i64 k0) ∧ w.cell? ⟨g, o + j * 4 + 1, none⟩ = some (.string x0) ∧ w.cell? ⟨g, o + j * 4 + 2, none⟩ = some (.int .i64 n0) ∧ w.cell? ⟨g, o + j * 4 + 3, none⟩ = some (.slice a0 m0 c0) ∧ NdO w l[j] (.agg #[.int .i64 k0, .string x0, .int .i64 n0, .slice a0 m0 c0]) := by
  obtain ⟨g, o, e, hg, hx⟩ := h (fun e => by rw [e] at hj; simp at hj)
  obtain ⟨k0, x0, n0, a0, m0, c0, r⟩ := hx j hj
  exact ⟨g, o, k0, x0, n0, a0, m0, c0, e, hg, r⟩
theorem below_cell {w0 w : World} (hb : Below w0.heap.size w0 w) {g o : Nat} {u : Value} (h : w0.cell? ⟨g, o, none⟩ = some u) : w.cell? ⟨g, o, none⟩ = some u := (hb.cell (p := ⟨g, o, none⟩) (World.block_lt_of_cell? w0 ⟨g, o, none⟩ h)).trans h
/-- What typ is to leave. -/
def TypN (w0 : World) (n : Nd) : Prop := ∀ (b : Nat) (w : World) (T : List (List UInt8)) (v : Value), Pt w0 w b T → NdO w0 n v → T.length + tb n ≤ 1000000000000 → Calls Tryd.prog 51 #[.pointer (some ⟨b, 0, none⟩), v] w (PostP (IsTy n) w0 w b T (shT n))
set_option maxRecDepth 100000 in
set_option maxHeartbeats 2000000 in
theorem typ_step {w0 : World} (hG : Gl w0) (kind : Int) (text : List UInt8) (num : Int) (kids : List Nd) (hn7 : cntL kids ≤ 700) (ih : ∀ x, x ∈ kids → TypN w0 x) : TypN w0 (.mk kind text num kids) := by
  intro b w T v hP hv hT
  have hL := hv.lg
  have hk7 : kids.length ≤ 700 := Nat.le_trans (len_cnt kids) hn7
  have HIff := hide (ty_kn hL hk7)
  rw [tb_mk] at hT
  obtain ⟨ka, kc, rfl, t1, n1, n2, l1, l2, hR⟩ := hv.part
  have HR := hide hR
  have HG := hide hG
  have HIh := hide ih
  have HP0 := hide hP
  have HPa : Hid (Pt w0 (w.alloc (.cells #[.int .i64 kind, .string (str text), .int .i64 num, .slice ka kids.length kc] 24)) b T) := hP.alloc _
  have HSa : Hid (St w (w.alloc (.cells #[.int .i64 kind, .string (str text), .int .i64 num, .slice ka kids.length kc] 24))) := St.alloc _ _
  have HNa : Hid ((w.alloc (.cells #[.int .i64 kind, .string (str text), .int .i64 num, .slice ka kids.length kc] 24)).heap[w.heap.size]? = some (.cells #[.int .i64 kind, .string (str text), .int .i64 num, .slice ka kids.length kc] 24 (0, 0))) := heap_new _ _ _
  have hkn := know_any kind text num ka kids.length kc _ ((hG.below hP.base).below ((Below.refl _ _).alloc (Nat.le_refl _) (.cells #[.int .i64 kind, .string (str text), .int .i64 num, .slice ka kids.length kc] 24))) t1 (by omega)
  clear hP hv hR hG ih hL
  go_enter Tryd.func51, Tryd.ntmps51
  go_wp2_with fail
  go_at_call 40
  refine hkn.mono ?_
  rintro e w1 ⟨⟨hk, rfl⟩ | ⟨hk, rfl⟩, hb1⟩
  rotate_left
  · exact ⟨rfl, PostP.no (fun h => by have := (HIff.out.1 h).1; rw [hk] at this; cases this) (HPa.out.below hb1).base⟩
  have HK := hide hk
  have HP1 := hide (HPa.out.below hb1)
  have HS1 := hide (HSa.out.trans (St.below hb1))
  have hn1 := (St.below hb1).node HNa.out
  have HN1 : Hid (w1.heap[w.heap.size]? = some (.cells #[.int .i64 kind, .string (str text), .int .i64 num, .slice ka kids.length kc] 24 (0, 0))) := ((St.below hb1).nodes _ _ _ HNa.out).trans HNa.out
  clear hk hb1 hkn HPa HSa HNa
  have HTy : Hid ((kind = 9 ∨ kind = 10 ∨ kind = 11) → IsTy (.mk kind text num kids)) := fun h => HIff.out.2 ⟨HK.out, by omega, fun x hx => by
    have h6 : (kids.length : Int) ≤ 0 := by
      have h6 := (kn_iff.1 HK.out).2.2.2.2.2
      rcases h with h | h | h <;> (rw [h] at h6; exact h6)
    rw [List.eq_nil_of_length_eq_zero (show kids.length = 0 by omega)] at hx
    simp at hx⟩
  by_cases k9 : kind = 9
  · subst k9
    have HI := hide (HTy.out (by simp))
    go_wp2_with fail
    go_at_call 42
    refine (add_new HP1.out [sINT] _ rfl 1 rfl (by omega) (by omega) _ (by simp)).mono ?_
    rintro e w2 ⟨rfl, hP2, hS2⟩
    have HP2 := hide hP2
    have HS2 := hide (HS1.out.trans hS2)
    clear hP2 hS2
    go_wp2_with fail
    go_end0
    exact PostP.ok HI.out (HP2.out.app (by rw [sh_ty9]; rfl)) HS2.out
  have k9' : (kind == 9) = false := by simpa using k9
  by_cases k10 : kind = 10
  · subst k10
    have HI := hide (HTy.out (by simp))
    clear k9 k9'
    go_wp2_with fail
    go_at_call 42
    refine (add_new HP1.out [sLONG] _ rfl 1 rfl (by omega) (by omega) _ (by simp)).mono ?_
    rintro e w2 ⟨rfl, hP2, hS2⟩
    have HP2 := hide hP2
    have HS2 := hide (HS1.out.trans hS2)
    clear hP2 hS2
    go_wp2_with fail
    go_end0
    exact PostP.ok HI.out (HP2.out.app (by rw [sh_ty10]; rfl)) HS2.out
  have k10' : (kind == 10) = false := by simpa using k10
  by_cases k11 : kind = 11
  · subst k11
    have HI := hide (HTy.out (by simp))
    clear k9 k9' k10 k10'
    go_wp2_with fail
    go_at_call 42
    refine (add_new HP1.out [text] _ rfl 1 rfl (by omega) (by omega) _ (by simp)).mono ?_
    rintro e w2 ⟨rfl, hP2, hS2⟩
    have HP2 := hide hP2
    have HS2 := hide (HS1.out.trans hS2)
    clear hP2 hS2
    go_wp2_with fail
    go_end0
    exact PostP.ok HI.out (HP2.out.app (by rw [sh_ty11]; rfl)) HS2.out
  have k11' : (kind == 11) = false := by simpa using k11
  by_cases k12 : kind = 12
  rotate_left
  · have k12' : (kind == 12) = false := by simpa using k12
    have HNo : Hid (¬ IsTy (.mk kind text num kids)) := fun h => by have := (HIff.out.1 h).2.1; omega
    clear k9 k10 k11 k12
    go_wp2_with fail
    exact ⟨rfl, PostP.no HNo.out HP1.out.base⟩
  subst k12
  clear k9 k10 k11 k9' k10' k11'
  have hkl : 1 ≤ kids.length := by
    have h5 := (kn_iff.1 HK.out).2.2.2.2.1
    have h5' : (1 : Int) ≤ kids.length := h5
    omega
  obtain ⟨l, x, hkx⟩ := last_form hkl
  have HX := hide hkx
  have hll : kids.length = l.length + 1 := by rw [hkx]; simp
  have htb : tbL kids = tbL l + tb x := by rw [hkx, tbL_app, tbL_cons, tbL_nil]; omega
  have HIT : Hid (IsTy (.mk 12 text num kids) ↔ (∀ y, y ∈ l → IsTy y) ∧ IsTy x) := by
    show _ ↔ _
    rw [HIff.out]
    constructor
    · rintro ⟨_, _, h⟩; rw [hkx] at h; exact ⟨fun y hy => h y (by simp [hy]), h x (by simp)⟩
    · rintro ⟨h1, h2⟩
      refine ⟨HK.out, by omega, fun y hy => ?_⟩
      rw [hkx] at hy
      rcases List.mem_append.1 hy with hy | hy
      · exact h1 y hy
      · rw [List.mem_singleton.1 hy]; exact h2
  obtain ⟨g, o, k0, x0, n0, a0, m0, c0, rfl, hg, q0, q1, q2, q3, hnd⟩ := HR.out.kid l.length (by omega)
  have HN : Hid (NdO w0 x (.agg #[.int .i64 k0, .string x0, .int .i64 n0, .slice a0 m0 c0])) := by
    have e : kids[l.length]'(by omega) = x := by simp [hkx]
    rw [e] at hnd
    exact hnd
  have HQ0 := hide q0
  have HQ1 := hide q1
  have HQ2 := hide q2
  have HQ3 := hide q3
  have HEach : Hid (Each51 w0 b l) := fun j hj w' T' v' h1 h2 h3 => HIh.out l[j] (by rw [HX.out]; simp [List.getElem_mem hj]) b w' T' v' h1 h2 h3
  have HRl : Hid (RowO w0 (some ⟨g, o, none⟩) l) := by
    have := HR.out.take l.length
    rw [hkx] at this
    simpa [Hid] using this
  have hww : IntKind.i64.wrap ((kids.length : Int) - 1) = (l.length : Int) := by rw [IntKind.wrap_i64]; omega
  have hsl : (0 : Int) ≤ l.length ∧ (l.length : Int) ≤ kc := by omega
  have hix : (0 : Int) ≤ l.length ∧ (l.length : Int) < kids.length := by omega
  have HTl := hide (joinL_tb l)
  have HLl := hide hll
  have HTx : Hid (T.length + (2 * (tbL l + tb x) + 3 * (l.length + 1) + 9) ≤ 1000000000000) := by show _ ≤ _; omega
  clear hkx q0 q1 q2 q3 hnd hkl hll htb hT
  go_wp2_with fail
  go_at_call 42
  refine (add_new HP1.out [sFN] _ rfl 1 rfl (by omega) (by have := HTx.out; omega) _ (by simp)).mono ?_
  rintro e w2 ⟨rfl, hP2, hS2⟩
  have HP2 := hide hP2
  have HS2 := hide (HS1.out.trans hS2)
  have hn2 := hS2.node HN1.out
  have HN2 : Hid (w2.heap[w.heap.size]? = some (.cells #[.int .i64 12, .string (str text), .int .i64 num, .slice (some ⟨g, o, none⟩) kids.length kc] 24 (0, 0))) := (hS2.nodes _ _ _ HN1.out).trans HN1.out
  clear hP2 hS2 hn1
  go_wp2_with fail
  have HSd : Hid (∀ w', St w2 w' → (fun w' => ∀ oo, w'.cell? ⟨w.heap.size, oo, none⟩ = (#[Value.int .i64 12, .string (str text), .int .i64 num, .slice (some ⟨g, o, none⟩) kids.length kc])[oo]?) w') := fun w' hw => hw.node HN2.out
  refine wp_region_held_drew (S := (fun w' => ∀ oo, w'.cell? ⟨w.heap.size, oo, none⟩ = (#[Value.int .i64 12, .string (str text), .int .i64 num, .slice (some ⟨g, o, none⟩) kids.length kc])[oo]?)) (by kernel_rfl) (HSd.out _ (St.drew w2)) (fun hHeld => ?_)
  refine wpAnyH_take (i := 0) (v := ?_) rfl (by kernel_rfl) (by kernel_rfl) (by kernel_rfl) (fun _ _ _ h => h) (Or.inl ⟨by rfl, ?_⟩) (by assumption) ?_
  rotate_left
  · (intro w hSw; (try dsimp only at hSw); go_simp) <;> with_reducible rfl
  (simp only [Act.put, List.getElem_toArray, List.getElem_cons_zero, List.getElem_cons_succ, List.setIfInBounds_toArray, List.set_cons_zero, List.set_cons_succ])
  refine wpAnyH_take (i := 1) (v := ?_) rfl (by kernel_rfl) (by kernel_rfl) (by kernel_rfl) (fun _ _ _ h => h) (Or.inl ⟨by rfl, ?_⟩) (by assumption) ?_
  rotate_left
  · (intro w hSw; (try dsimp only at hSw); go_simp) <;> with_reducible rfl
  (simp only [Act.put, List.getElem_toArray, List.getElem_cons_zero, List.getElem_cons_succ, List.setIfInBounds_toArray, List.set_cons_zero, List.set_cons_succ])
  refine wpAnyH_take (i := 2) (v := ?_) rfl (by kernel_rfl) (by kernel_rfl) (by kernel_rfl) (fun _ _ _ h => h) (Or.inl ⟨by rfl, ?_⟩) (by assumption) ?_
  rotate_left
  · (intro w hSw; (try dsimp only at hSw); go_simp) <;> with_reducible rfl
  (simp only [Act.put, List.getElem_toArray, List.getElem_cons_zero, List.getElem_cons_succ, List.setIfInBounds_toArray, List.set_cons_zero, List.set_cons_succ])
  refine wpAnyH_take (i := 3) (v := ?_) rfl (by kernel_rfl) (by kernel_rfl) (by kernel_rfl) (fun _ _ _ h => h) (Or.inl ⟨by rfl, ?_⟩) (by assumption) ?_
  rotate_left
  · (intro w hSw; (try dsimp only at hSw); go_simp) <;> with_reducible rfl
  (simp only [Act.put, List.getElem_toArray, List.getElem_cons_zero, List.getElem_cons_succ, List.setIfInBounds_toArray, List.set_cons_zero, List.set_cons_succ])
  refine wpAnyH_take (i := 4) (v := ?_) rfl (by kernel_rfl) (by kernel_rfl) (by kernel_rfl) (fun _ _ _ h => h) (Or.inl ⟨by rfl, ?_⟩) (by assumption) ?_
  rotate_left
  · (intro w hSw; (try dsimp only at hSw); go_simp) <;> with_reducible rfl
  (simp only [Act.put, List.getElem_toArray, List.getElem_cons_zero, List.getElem_cons_succ, List.setIfInBounds_toArray, List.set_cons_zero, List.set_cons_succ])
  refine wpAnyH_take (i := 5) (v := ?_) rfl (by kernel_rfl) (by kernel_rfl) (by kernel_rfl) (fun _ _ _ h => h) (Or.inl ⟨by rfl, ?_⟩) (by assumption) ?_
  rotate_left
  · (intro w hSw; (try dsimp only at hSw); go_simp) <;> with_reducible rfl
  (simp only [Act.put, List.getElem_toArray, List.getElem_cons_zero, List.getElem_cons_succ, List.setIfInBounds_toArray, List.set_cons_zero, List.set_cons_succ])
  refine wpAnyH_take (i := 6) (v := ?_) rfl (by kernel_rfl) (by kernel_rfl) (by kernel_rfl) (fun _ _ _ h => h) (Or.inl ⟨by rfl, ?_⟩) (by assumption) ?_
  rotate_left
  · (intro w hSw; (try dsimp only at hSw); go_simp) <;> with_reducible rfl
  (simp only [Act.put, List.getElem_toArray, List.getElem_cons_zero, List.getElem_cons_succ, List.setIfInBounds_toArray, List.set_cons_zero, List.set_cons_succ])
  refine wpAnyH_take (i := 7) (v := ?_) rfl (by kernel_rfl) (by kernel_rfl) (by kernel_rfl) (fun _ _ _ h => h) (Or.inl ⟨by rfl, ?_⟩) (by assumption) ?_
  rotate_left
  · (intro w hSw; (try dsimp only at hSw); go_simp) <;> with_reducible rfl
  (simp only [Act.put, List.getElem_toArray, List.getElem_cons_zero, List.getElem_cons_succ, List.setIfInBounds_toArray, List.set_cons_zero, List.set_cons_succ])
  refine wpAnyH_take (i := 8) (v := ?_) rfl (by kernel_rfl) (by kernel_rfl) (by kernel_rfl) (fun _ _ _ h => h) (Or.inl ⟨by rfl, ?_⟩) (by assumption) ?_
  rotate_left
  · (intro w hSw; (try dsimp only at hSw); go_simp) <;> with_reducible rfl
  (simp only [Act.put, List.getElem_toArray, List.getElem_cons_zero, List.getElem_cons_succ, List.setIfInBounds_toArray, List.set_cons_zero, List.set_cons_succ])
  refine wpAnyH_ready (rs := [9]) (by kernel_rfl) (by simp) ?_
  refine AllReadyH.cons rfl (fun K hK => ?_) AllReadyH.nil
  go_simp
  refine (open_51 (HP2.out.drew) l _ kc num (decide (num = 1)) rfl HRl.out (by have := HLl.out; omega) HEach.out (by have := HTx.out; simp only [List.length_append, List.length_cons, List.length_nil]; omega)).mono ?_
  rintro e w3 (⟨hp, rfl, hP3, hS3⟩ | ⟨hp, rfl, hB3⟩)
  rotate_left
  · exact ⟨rfl, PostP.no (fun h => hp (HIT.out.1 h).1) hB3⟩
  have hst := (St.drew w2).trans hS3
  refine hK.out _ _ (HSd.out _ hst) (fun hHeld1 => ?_)
  clear hK K
  refine wpAnyH_done (by kernel_rfl) ?_ _
  have HA := hide hp
  have HP3 := hide hP3
  have HS3 := hide (HS2.out.trans hst)
  have hn3 := hst.node HN2.out
  have hb3 := hP3.base
  have e0 := below_cell hb3 HQ0.out
  have e1 := below_cell hb3 HQ1.out
  have e2 := below_cell hb3 HQ2.out
  have e3 := below_cell hb3 HQ3.out
  clear hp hP3 hS3 hst hn2 hHeld hHeld1 hb3 HSd
  go_wp2_with fail
  go_at_call 51
  refine (HIh.out x (by rw [HX.out]; simp) b w3 _ _ HP3.out HN.out (by have := HTx.out; have := HTl.out; have h9 := row_sum (l.map shT) (decide (num = 1)); have h8 := flatL_tb l; rw [flat_sum] at h8; rw [List.length_map] at h9; simp only [List.length_append, List.length_cons, List.length_nil, txs_len]; omega)).mono ?_
  rintro e w4 (⟨hp, rfl, hP4, hS4⟩ | ⟨hp, rfl, hB4⟩)
  rotate_left
  · exact ⟨rfl, PostP.no (fun h => hp (HIT.out.1 h).2) hB4⟩
  have HI := hide (HIT.out.2 ⟨HA.out, hp⟩)
  have HP4 : Hid (Pt w0 w4 b (T ++ txs (shT (.mk 12 text num kids)))) := by
    show Pt _ _ _ _
    rw [HX.out, sh_ty12, txs_app, txs_app, txs_cons, raw_wd]
    simpa [txs] using hP4
  have HS4 := hide (HS3.out.trans hS4)
  clear hp hP4 hS4
  go_wp2_with fail
  go_end0
  exact PostP.ok HI.out HP4.out HS4.out
theorem typ_all {w0 : World} (hG : Gl w0) : ∀ n, cnt n ≤ 700 → TypN w0 n := by
  refine Nd.ind fun k t v kids ih hc => ?_
  rw [cnt_mk] at hc
  exact typ_step hG k t v kids (by omega) (fun x hx => ih x hx (by have := cnt_mem hx; omega))
end Go.Proofs.YthcfianhdkolhaaDoor.T
