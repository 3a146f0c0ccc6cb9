/- The contract of (*printer).expr. -/
import Derived.Test.YthcfianhdkolhaaDoorPrF
namespace Go.Proofs.YthcfianhdkolhaaDoor.T
open Go.RowKit Go.Proofs.YthcfianhdkolhaaDoor.S
set_option linter.unusedVariables false
set_option linter.unusedSimpArgs false

set_option maxRecDepth 100000 in
set_option maxHeartbeats 400000 in
theorem expr_k25 {w0 : World} (hG : Gl w0) (hTb : TabW w0) (text : List UInt8) (num : Int) (kids : List Nd) (hn7 : cntL kids ≤ 700) (ih : ∀ x, x ∈ kids → ExN w0 x) : ExN w0 (.mk 25 text num kids) := by
  intro b w T v hP hv hT
  have hL := hv.lg
  have hk7 : kids.length ≤ 700 := Nat.le_trans (len_cnt kids) hn7
  have HIff := hide (ex_kn hL hk7)
  rw [tb_mk] at hT
  obtain ⟨ka, kc, rfl, t1, n1, n2, l1, l2, hR⟩ := hv.part
  have HR := hide hR
  have HG := hide hG
  have HTb := hide hTb
  have HIh := hide ih
  have HP0 : Hid (Pt w0 (w.alloc (.cells #[.int .i64 25, .string (str text), .int .i64 num, .slice ka kids.length kc] 24)) b T) := hP.alloc _
  have HS0 : Hid (St w (w.alloc (.cells #[.int .i64 25, .string (str text), .int .i64 num, .slice ka kids.length kc] 24))) := St.alloc _ _
  have HN0 : Hid ((w.alloc (.cells #[.int .i64 25, .string (str text), .int .i64 num, .slice ka kids.length kc] 24)).heap[w.heap.size]? = some (.cells #[.int .i64 25, .string (str text), .int .i64 num, .slice ka kids.length kc] 24 (0, 0))) := heap_new _ _ _
  have hkn := know_any 25 text num ka kids.length kc _ ((hG.below hP.base).below ((Below.refl _ _).alloc (Nat.le_refl _) (.cells #[.int .i64 25, .string (str text), .int .i64 num, .slice ka kids.length kc] 24))) t1 (by omega)
  clear hP hv hR hG ih hL hTb
  go_enter Tryd.func67, Tryd.ntmps67
  go_wp2_with fail
  go_at_call 40
  refine hkn.mono ?_
  rintro e w1 ⟨⟨hk, rfl⟩ | ⟨hk, rfl⟩, hb1⟩
  rotate_left
  · exact ⟨rfl, PostP.no (fun h => by have := (HIff.out.1 h).1; rw [hk] at this; cases this) (HP0.out.below hb1).base⟩
  have HK := hide hk
  have HP1 := hide (HP0.out.below hb1)
  have HS1 := hide (HS0.out.trans (St.below hb1))
  have hn1 := (St.below hb1).node HN0.out
  have HN1 : Hid (w1.heap[w.heap.size]? = some (.cells #[.int .i64 25, .string (str text), .int .i64 num, .slice ka kids.length kc] 24 (0, 0))) := ((St.below hb1).nodes _ _ _ HN0.out).trans HN0.out
  clear hk hb1 hkn HP0 HS0 HN0
  obtain ⟨x, l, rfl⟩ := kn_cons (k := 25) (by rfl) HK.out
  have HI : Hid (IsEx (.mk 25 text num (x :: l)) ↔ IsEx x ∧ ∀ y, y ∈ l → IsEx y) := ⟨fun h => ⟨(HIff.out.1 h).2.2.2 x (by simp), fun y hy => (HIff.out.1 h).2.2.2 y (by simp [hy])⟩, fun h => HIff.out.2 ⟨HK.out, by omega, fun e => absurd e (by decide), fun y hy => by
    rcases List.mem_cons.1 hy with rfl | hy
    · exact h.1
    · exact h.2 y hy⟩⟩
  have HEx := hide (HIh.out x (by simp))
  have HLx := hide (sh_tb x)
  have HTx : Hid (T.length + 2 * tb x + 2 * tbL l + 3 * l.length + 12 ≤ 1000000000000) := by rw [tbL_cons] at hT; simp only [List.length_cons] at hT; show _ ≤ _; omega
  have HEach : Hid (Each67 w0 b l) := fun j hj w' T' v' h1 h2 h3 => HIh.out l[j] (by simp [List.getElem_mem hj]) b w' T' v' h1 h2 h3
  have hRo := HR.out
  have hll : l.length ≤ 700 := by simp at hk7; omega
  have hkc : l.length + 1 ≤ kc := by simpa using l1
  clear hT hk7 l1
  obtain ⟨ga, oa, ka, xa, na, aa, ma, ca, hkaa, hga, qa0, qa1, qa2, qa3, hnda⟩ := hRo.kid0
  have Ha := hide hnda
  have Ha0 := hide qa0
  have Ha1 := hide qa1
  have Ha2 := hide qa2
  have Ha3 := hide qa3
  clear qa0 qa1 qa2 qa3 hnda hga
  subst hkaa
  have HRt := hide hRo.tail
  have hsl : (1 : Int) ≤ l.length + 1 ∧ (l.length : Int) + 1 ≤ kc := by omega
  have hsl2 : (0 : Int) ≤ 1 ∧ (1 : Int) ≤ l.length + 1 := by omega
  have hcs : kc - 1 + 1 = kc := by omega
  by_cases hk1 : kc = 1
  · subst hk1
    obtain rfl : l = [] := List.eq_nil_of_length_eq_zero (by omega)
    clear hsl hsl2 hcs
    simp only [List.length_nil] at hkc
    have hb1 := HP1.out.base
    have ea1_0 := below_cell hb1 Ha0.out
    have ea1_1 := below_cell hb1 Ha1.out
    have ea1_2 := below_cell hb1 Ha2.out
    have ea1_3 := below_cell hb1 Ha3.out
    clear hb1
    go_wp2_with fail
    go_at_call 75
    refine (part_any HG.out x HEx.out HP1.out _ Ha.out 4 (by have := HTx.out; omega)).mono ?_
    rintro e w2 (⟨hp2, rfl, hP2, hS2⟩ | ⟨hp2, rfl, hB2⟩)
    rotate_left
    · exact ⟨rfl, PostP.no (fun h => hp2 (HI.out.1 h).1) hB2⟩
    have HA2 := hide hp2
    have HP2 := hide hP2
    have HS2 := hide (HS1.out.trans hS2)
    have hn2 := hS2.node HN1.out
    have HN2 := hide ((hS2.nodes _ _ _ HN1.out).trans HN1.out)
    clear hp2 hP2 hS2 hn1
    go_wp2_with fail
    go_at_call 52
    refine (open_67 HP2.out [] _ _ 0 false (by decide) (fun h => absurd rfl h) (by simp) HEach.out (by have := HLx.out; have := HTx.out; have := at_len (bindN x) 4 (shT x); (try simp only [List.length_append, List.length_cons, List.length_nil, txs_len]); omega)).mono ?_
    rintro e w3 (⟨hp3, rfl, hP3, hS3⟩ | ⟨hp3, rfl, hB3⟩)
    rotate_left
    · exact ⟨rfl, PostP.no (fun h => hp3 (HI.out.1 h).2) hB3⟩
    have HA3 := hide hp3
    have HP3 := hide hP3
    have HS3 := hide (HS2.out.trans hS3)
    have hn3 := hS3.node HN2.out
    have HN3 := hide ((hS3.nodes _ _ _ HN2.out).trans HN2.out)
    clear hp3 hP3 hS3 hn2
    go_wp2_with fail
    go_end0
    exact PostP.ok (HI.out.2 ⟨HA2.out, HA3.out⟩) (HP3.out.app' (by rw [sh_e25, txs_app]; simp)) HS3.out
  have hk1' : ¬ kc = 1 := hk1
  have hk2 : (kc : Int) ≠ 1 := by omega
  have hb1 := HP1.out.base
  have ea1_0 := below_cell hb1 Ha0.out
  have ea1_1 := below_cell hb1 Ha1.out
  have ea1_2 := below_cell hb1 Ha2.out
  have ea1_3 := below_cell hb1 Ha3.out
  clear hb1
  go_wp2_with fail
  go_at_call 75
  refine (part_any HG.out x HEx.out HP1.out _ Ha.out 4 (by have := HTx.out; omega)).mono ?_
  rintro e w2 (⟨hp2, rfl, hP2, hS2⟩ | ⟨hp2, rfl, hB2⟩)
  rotate_left
  · exact ⟨rfl, PostP.no (fun h => hp2 (HI.out.1 h).1) hB2⟩
  have HA2 := hide hp2
  have HP2 := hide hP2
  have HS2 := hide (HS1.out.trans hS2)
  have hn2 := hS2.node HN1.out
  have HN2 := hide ((hS2.nodes _ _ _ HN1.out).trans HN1.out)
  clear hp2 hP2 hS2 hn1
  go_wp2_with fail
  go_at_call 52
  refine (open_67 HP2.out l _ _ 0 false (by decide) HRt.out (by omega) HEach.out (by have := HLx.out; have := HTx.out; have := at_len (bindN x) 4 (shT x); (try simp only [List.length_append, List.length_cons, List.length_nil, txs_len]); omega)).mono ?_
  rintro e w3 (⟨hp3, rfl, hP3, hS3⟩ | ⟨hp3, rfl, hB3⟩)
  rotate_left
  · exact ⟨rfl, PostP.no (fun h => hp3 (HI.out.1 h).2) hB3⟩
  have HA3 := hide hp3
  have HP3 := hide hP3
  have HS3 := hide (HS2.out.trans hS3)
  have hn3 := hS3.node HN2.out
  have HN3 := hide ((hS3.nodes _ _ _ HN2.out).trans HN2.out)
  clear hp3 hP3 hS3 hn2
  go_wp2_with fail
  go_end0
  exact PostP.ok (HI.out.2 ⟨HA2.out, HA3.out⟩) (HP3.out.app' (by rw [sh_e25, txs_app]; simp)) HS3.out
theorem expr_step {w0 : World} (hG : Gl w0) (hTb : TabW w0) (kind : Int) (text : List UInt8) (num : Int) (kids : List Nd) (hn7 : cntL kids ≤ 700) (ih : ∀ x, x ∈ kids → ExN w0 x) : ExN w0 (.mk kind text num kids) := by
  by_cases k23 : kind = 23
  · subst k23; exact expr_k23 hG hTb text num kids hn7 ih
  by_cases k24 : kind = 24
  · subst k24; exact expr_k24 hG hTb text num kids hn7 ih
  by_cases k25 : kind = 25
  · subst k25; exact expr_k25 hG hTb text num kids hn7 ih
  by_cases k26 : kind = 26
  · subst k26; exact expr_k26 hG hTb text num kids hn7 ih
  by_cases k27 : kind = 27
  · subst k27; exact expr_k27 hG hTb text num kids hn7 ih
  by_cases k28 : kind = 28
  · subst k28; exact expr_k28 hG hTb text num kids hn7 ih
  by_cases k29 : kind = 29
  · subst k29; exact expr_k29 hG hTb text num kids hn7 ih
  by_cases k30 : kind = 30
  · subst k30; exact expr_k30 hG hTb text num kids hn7 ih
  by_cases k31 : kind = 31
  · subst k31; exact expr_k31 hG hTb text num kids hn7 ih
  by_cases k32 : kind = 32
  · subst k32; exact expr_k32 hG hTb text num kids hn7 ih
  by_cases k33 : kind = 33
  · subst k33; exact expr_k33 hG hTb text num kids hn7 ih
  by_cases k34 : kind = 34
  · subst k34; exact expr_k34 hG hTb text num kids hn7 ih
  exact expr_rest hG hTb kind text num kids k23 k24 k25 k26 k27 k28 k29 k30 k31 k32 k33 k34 hn7 ih
theorem expr_all {w0 : World} (hG : Gl w0) (hTb : TabW w0) : ∀ n, cnt n ≤ 700 → ExN w0 n := by
  refine Nd.ind fun k t v kids ih hc => ?_
  rw [cnt_mk] at hc
  exact expr_step hG hTb k t v kids (by omega) (fun x hx => ih x hx (by have := cnt_mem hx; omega))
end Go.Proofs.YthcfianhdkolhaaDoor.T
