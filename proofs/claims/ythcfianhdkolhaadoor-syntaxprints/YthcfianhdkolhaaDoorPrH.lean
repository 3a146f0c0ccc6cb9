/- The contracts of (*printer).beginning and ended. -/
import Derived.Test.YthcfianhdkolhaaDoorPrG
namespace Go.Proofs.YthcfianhdkolhaaDoor.T
open Go.RowKit Go.Proofs.YthcfianhdkolhaaDoor.S
set_option linter.unusedVariables false
set_option linter.unusedSimpArgs false
set_option maxRecDepth 100000 in
set_option maxHeartbeats 800000 in
theorem begin_69 {w0 : World} (x : Nd) (hx : ExN w0 x) {w : World} {b : Nat} {T : List (List UInt8)} (hP : Pt w0 w b T) (v : Value) (hv : NdO w0 x v) (hT : T.length + tb x ≤ 1000000000000) :
    Calls Tryd.prog 68 #[.pointer (some ⟨b, 0, none⟩), v, .func (.func 69) #[] #[]] w (PostP (IsEx x ∧ baseN false x = 23) w0 w b T (shT x)) := by
  have HEx := hide hx
  have HV := hide hv
  have HTx := hide hT
  have hform := hv.form
  obtain ⟨kind, text, num, ka, kn, kc, rfl⟩ := hform
  have HP0 : Hid (Pt w0 (w.alloc (.cells #[.int .i64 kind, .string text, .int .i64 num, .slice ka kn kc] 24)) b T) := hP.alloc _
  have HS0 : Hid (St w (w.alloc (.cells #[.int .i64 kind, .string text, .int .i64 num, .slice ka kn kc] 24))) := St.alloc _ _
  have HN0 : Hid ((w.alloc (.cells #[.int .i64 kind, .string text, .int .i64 num, .slice ka kn kc] 24)).heap[w.heap.size]? = some (.cells #[.int .i64 kind, .string text, .int .i64 num, .slice ka kn kc] 24 (0, 0))) := heap_new _ _ _
  clear hP hv hx hT
  go_enter Tryd.func68, Tryd.ntmps68
  go_wp2_with fail
  go_at_call 67
  refine (HEx.out b _ _ _ HP0.out HV.out HTx.out).mono ?_
  rintro e w1 (⟨hp1, rfl, hP1, hS1⟩ | ⟨hp1, rfl, hB1⟩)
  rotate_left
  · exact ⟨rfl, PostP.no (fun h => hp1 h.1) hB1⟩
  have HA1 := hide hp1
  have HP1 := hide hP1
  have HS1 := hide (HS0.out.trans hS1)
  have hn1 := hS1.node HN0.out
  have HN1 := hide ((hS1.nodes _ _ _ HN0.out).trans HN0.out)
  clear hp1 hP1 hS1
  go_wp2_with fail
  go_at_call 69
  refine (base_69 HP1.out.base x _ HV.out HA1.out).mono ?_
  rintro e w2 ⟨rfl, hb2⟩
  have HP2 := hide (HP1.out.below hb2)
  have HS2 := hide (HS1.out.trans (St.below hb2))
  clear hb2 hn1
  by_cases hc : baseN false x = 23
  · rw [decide_eq_true hc]
    have HC := hide hc
    clear hc
    go_wp2_with fail
    go_end0
    exact PostP.ok ⟨HA1.out, HC.out⟩ HP2.out HS2.out
  · rw [decide_eq_false hc]
    have HC := hide hc
    clear hc
    go_wp2_with fail
    exact ⟨rfl, PostP.no (fun h => HC.out h.2) HP2.out.base⟩
set_option maxRecDepth 100000 in
set_option maxHeartbeats 800000 in
theorem begin_70 {w0 : World} (x : Nd) (hx : ExN w0 x) {w : World} {b : Nat} {T : List (List UInt8)} (hP : Pt w0 w b T) (v : Value) (hv : NdO w0 x v) (hT : T.length + tb x ≤ 1000000000000) :
    Calls Tryd.prog 68 #[.pointer (some ⟨b, 0, none⟩), v, .func (.func 70) #[] #[]] w (PostP (IsEx x ∧ (x.kind = 25 ∧ baseN true x = 23)) w0 w b T (shT x)) := by
  have HEx := hide hx
  have HV := hide hv
  have HTx := hide hT
  have hform := hv.form
  obtain ⟨kind, text, num, ka, kn, kc, rfl⟩ := hform
  have HP0 : Hid (Pt w0 (w.alloc (.cells #[.int .i64 kind, .string text, .int .i64 num, .slice ka kn kc] 24)) b T) := hP.alloc _
  have HS0 : Hid (St w (w.alloc (.cells #[.int .i64 kind, .string text, .int .i64 num, .slice ka kn kc] 24))) := St.alloc _ _
  have HN0 : Hid ((w.alloc (.cells #[.int .i64 kind, .string text, .int .i64 num, .slice ka kn kc] 24)).heap[w.heap.size]? = some (.cells #[.int .i64 kind, .string text, .int .i64 num, .slice ka kn kc] 24 (0, 0))) := heap_new _ _ _
  clear hP hv hx hT
  go_enter Tryd.func68, Tryd.ntmps68
  go_wp2_with fail
  go_at_call 67
  refine (HEx.out b _ _ _ HP0.out HV.out HTx.out).mono ?_
  rintro e w1 (⟨hp1, rfl, hP1, hS1⟩ | ⟨hp1, rfl, hB1⟩)
  rotate_left
  · exact ⟨rfl, PostP.no (fun h => hp1 h.1) hB1⟩
  have HA1 := hide hp1
  have HP1 := hide hP1
  have HS1 := hide (HS0.out.trans hS1)
  have hn1 := hS1.node HN0.out
  have HN1 := hide ((hS1.nodes _ _ _ HN0.out).trans HN0.out)
  clear hp1 hP1 hS1
  go_wp2_with fail
  go_at_call 70
  refine (base_70 HP1.out.base x _ HV.out HA1.out).mono ?_
  rintro e w2 ⟨rfl, hb2⟩
  have HP2 := hide (HP1.out.below hb2)
  have HS2 := hide (HS1.out.trans (St.below hb2))
  clear hb2 hn1
  by_cases hc : (x.kind = 25 ∧ baseN true x = 23)
  · rw [decide_eq_true hc]
    have HC := hide hc
    clear hc
    go_wp2_with fail
    go_end0
    exact PostP.ok ⟨HA1.out, HC.out⟩ HP2.out HS2.out
  · rw [decide_eq_false hc]
    have HC := hide hc
    clear hc
    go_wp2_with fail
    exact ⟨rfl, PostP.no (fun h => HC.out h.2) HP2.out.base⟩
theorem kn_name {k : Nat} {t : List UInt8} {v : Int} {n : Nat} {m : Int} {u : Int} (hs : shp k = (true, 0, m, u)) (h : knB k t v n = true) : nameB t = true ∧ v = 0 := by
  obtain ⟨_, h2, h3, h4, _⟩ := kn_iff.1 h
  rw [Int.toNat_natCast, hs] at h2 h4
  exact ⟨txt_t h2, by simp only at h4; omega⟩
theorem kn_bare {k : Nat} {t : List UInt8} {v : Int} {n : Nat} {m : Int} {u : Int} (hs : shp k = (false, 0, m, u)) (h : knB k t v n = true) : t = [] ∧ v = 0 := by
  obtain ⟨_, h2, h3, h4, _⟩ := kn_iff.1 h
  rw [Int.toNat_natCast, hs] at h2 h4
  exact ⟨txt_f h2, by simp only at h4; omega⟩
theorem st14 {t : List UInt8} {v : Int} {a b : Nd} {n : Nat} (h : knB 14 t v n = true) : IsSt (.mk 14 t v [a, b]) ↔ IsTy a ∧ IsEx b := by
  obtain ⟨h1, rfl⟩ := kn_name (k := 14) (by rfl) h
  constructor
  · intro h; cases h with | var s t x hs ht hx => exact ⟨ht, hx⟩
  · rintro ⟨ha, hb⟩; exact IsSt.var t a b h1 ha hb
theorem st15 {t : List UInt8} {v : Int} {a b : Nd} {n : Nat} (h : knB 15 t v n = true) : IsSt (.mk 15 t v [a, b]) ↔ (IsEx a ∧ baseN false a = 23) ∧ IsEx b := by
  obtain ⟨rfl, rfl⟩ := kn_bare (k := 15) (by rfl) h
  constructor
  · intro h; cases h with | set p x hp hx => exact ⟨pl_ex hp, hx⟩
  · rintro ⟨⟨ha, hc⟩, hb⟩; exact IsSt.set a b (ex_pl ha hc) hb
theorem st16 {t : List UInt8} {v : Int} {c x : Nd} {n : Nat} (h : knB 16 t v n = true) : IsSt (.mk 16 t v [c, x]) ↔ IsEx c ∧ IsBl x := by
  obtain ⟨rfl, rfl⟩ := kn_bare (k := 16) (by rfl) h
  constructor
  · intro h; cases h with | if1 c l hc hl => exact ⟨hc, l, rfl, hl⟩
  · rintro ⟨hc, l, rfl, hl⟩; exact IsSt.if1 c l hc hl
theorem st16b {t : List UInt8} {v : Int} {c x y : Nd} {n : Nat} (h : knB 16 t v n = true) : IsSt (.mk 16 t v [c, x, y]) ↔ IsEx c ∧ IsBl x ∧ IsBl y := by
  obtain ⟨rfl, rfl⟩ := kn_bare (k := 16) (by rfl) h
  constructor
  · intro h; cases h with | if2 c l m hc hl hm => exact ⟨hc, ⟨l, rfl, hl⟩, m, rfl, hm⟩
  · rintro ⟨hc, ⟨l, rfl, hl⟩, m, rfl, hm⟩; exact IsSt.if2 c l m hc hl hm
theorem st17 {t : List UInt8} {v : Int} {c x : Nd} {n : Nat} (h : knB 17 t v n = true) : IsSt (.mk 17 t v [c, x]) ↔ IsEx c ∧ IsBl x := by
  obtain ⟨rfl, rfl⟩ := kn_bare (k := 17) (by rfl) h
  constructor
  · intro h; cases h with | while1 c l hc hl => exact ⟨hc, l, rfl, hl⟩
  · rintro ⟨hc, l, rfl, hl⟩; exact IsSt.while1 c l hc hl
theorem st18 {t : List UInt8} {v : Int} {x : Nd} {n : Nat} (h : knB 18 t v n = true) : IsSt (.mk 18 t v [x]) ↔ IsEx x := by
  obtain ⟨rfl, rfl⟩ := kn_bare (k := 18) (by rfl) h
  constructor
  · intro h; cases h with | ret x hx => exact hx
  · exact fun h => IsSt.ret x h
theorem st19 {t : List UInt8} {v : Int} {x : Nd} {n : Nat} (h : knB 19 t v n = true) : IsSt (.mk 19 t v [x]) ↔ IsEx x := by
  obtain ⟨rfl, rfl⟩ := kn_bare (k := 19) (by rfl) h
  constructor
  · intro h; cases h with | put x hx => exact hx
  · exact fun h => IsSt.put x h
theorem st20 {t : List UInt8} {v : Int} {x : Nd} {n : Nat} (h : knB 20 t v n = true) : IsSt (.mk 20 t v [x]) ↔ IsEx x ∧ (x.kind = 25 ∧ baseN true x = 23) := by
  obtain ⟨rfl, rfl⟩ := kn_bare (k := 20) (by rfl) h
  constructor
  · intro h
    cases h with
    | do1 x l hx hl =>
      have hc := ca_ex (IsCa.call x l hx hl)
      exact ⟨hc.1, rfl, hc.2⟩
  · rintro ⟨hx, hk, hb⟩
    have hca := ex_ca hx hb
    cases hca with
    | name s hs => exact absurd (show (23 : Int) = 25 from hk) (by decide)
    | dot s x hs hx => exact absurd (show (24 : Int) = 25 from hk) (by decide)
    | call x l hy hl => exact IsSt.do1 x l hy hl
theorem st_kinds {k : Int} {t : List UInt8} {v : Int} {l : List Nd} (h : IsSt (.mk k t v l)) : k = 14 ∨ k = 15 ∨ k = 16 ∨ k = 17 ∨ k = 18 ∨ k = 19 ∨ k = 20 := cls_st.1 (st_is h).1
/-- A statement's tokens but the last. -/
def enT (n : Nd) : List Tk := (shT n).dropLast
theorem sh_s14 (t : List UInt8) (v : Int) (a b : Nd) : shT (.mk 14 t v [a, b]) = (shT a ++ [wd t] ++ [sg sEQ] ++ shT b) ++ [sg sSEMI] := by rw [shT_mk]; simp [shK, lastT]
theorem sh_s15 (t : List UInt8) (v : Int) (a b : Nd) : shT (.mk 15 t v [a, b]) = (shT a ++ [sg sEQ] ++ shT b) ++ [sg sSEMI] := by rw [shT_mk]; simp [shK, lastT]
theorem sh_s18 (t : List UInt8) (v : Int) (a : Nd) : shT (.mk 18 t v [a]) = ([wd sRET] ++ shT a) ++ [sg sSEMI] := by rw [shT_mk]; simp [shK]
theorem sh_s19 (t : List UInt8) (v : Int) (a : Nd) : shT (.mk 19 t v [a]) = ([wd sPUT, sg sLP] ++ shT a ++ [sg sRP]) ++ [sg sSEMI] := by rw [shT_mk]; simp [shK]
theorem sh_s20 (t : List UInt8) (v : Int) (a : Nd) : shT (.mk 20 t v [a]) = shT a ++ [sg sSEMI] := by rw [shT_mk]; simp [shK]
theorem en_of {n : Nd} {a : List Tk} (h : shT n = a ++ [sg sSEMI]) : enT n = a := by unfold enT; rw [h, List.dropLast_concat]
set_option maxRecDepth 100000 in
set_option maxHeartbeats 800000 in
theorem ended_k14 {w0 : World} (hG : Gl w0) (hTb : TabW w0) (text : List UInt8) (num : Int) (x y : Nd) {w : World} {b : Nat} {T : List (List UInt8)} (hP : Pt w0 w b T) (ka : Option Addr) (kc : Nat) (hR : RowO w0 ka [x, y]) (hk : knB 14 text num 2 = true) (hc : cnt x + cnt y ≤ 700) (hT : T.length + tb x + tb y + 6 ≤ 1000000000000) :
    Calls Tryd.prog 64 #[.pointer (some ⟨b, 0, none⟩), .agg #[.int .i64 14, .string (str text), .int .i64 num, .slice ka 2 kc]] w (PostP (IsSt (.mk 14 text num [x, y])) w0 w b T (enT (.mk 14 text num [x, y]))) := by
  have HI := hide (st14 (a := x) (b := y) hk)
  have HLx := hide (sh_tb x)
  have HLy := hide (sh_tb y)
  have HEx := hide (expr_all hG hTb x (by omega))
  have HEy := hide (expr_all hG hTb y (by omega))
  have HG := hide hG
  have hRo := hR
  obtain ⟨ga, oa, ka, xa, na, aa, ma, ca, hkaa, hga, qa0, qa1, qa2, qa3, hnda⟩ := hR.kid0
  have Ha := hide hnda
  have Ha0 := hide qa0
  have Ha1 := hide qa1
  have Ha2 := hide qa2
  have Ha3 := hide qa3
  clear qa0 qa1 qa2 qa3 hnda hga
  subst hkaa
  obtain ⟨kb, xb, nb, ab, mb, cb, qb0, qb1, qb2, qb3, hndb⟩ := hR.kid1
  have Hb := hide hndb
  have Hb0 := hide qb0
  have Hb1 := hide qb1
  have Hb2 := hide qb2
  have Hb3 := hide qb3
  clear qb0 qb1 qb2 qb3 hndb
  have HP0 : Hid (Pt w0 (w.alloc (.cells #[.int .i64 14, .string (str text), .int .i64 num, .slice (some ⟨ga, oa, none⟩) 2 kc] 24)) b T) := hP.alloc _
  have HS0 : Hid (St w (w.alloc (.cells #[.int .i64 14, .string (str text), .int .i64 num, .slice (some ⟨ga, oa, none⟩) 2 kc] 24))) := St.alloc _ _
  have HN0 : Hid ((w.alloc (.cells #[.int .i64 14, .string (str text), .int .i64 num, .slice (some ⟨ga, oa, none⟩) 2 kc] 24)).heap[w.heap.size]? = some (.cells #[.int .i64 14, .string (str text), .int .i64 num, .slice (some ⟨ga, oa, none⟩) 2 kc] 24 (0, 0))) := heap_new _ _ _
  clear hP hk hG hTb hR
  go_enter Tryd.func64, Tryd.ntmps64
  go_wp2_with fail
  go_at_call 44
  refine (typed_any HG.out HP0.out 14 text num x [y] _ 2 kc hRo (by omega) (by omega) (by omega)).mono ?_
  rintro e w1 (⟨hp1, rfl, hP1, hS1⟩ | ⟨hp1, rfl, hB1⟩)
  rotate_left
  · exact ⟨rfl, PostP.no (fun h => hp1 (HI.out.1 h).1) hB1⟩
  have HA1 := hide hp1
  have HP1 := hide hP1
  have HS1 := hide (HS0.out.trans hS1)
  have hn1 := hS1.node HN0.out
  have HN1 := hide ((hS1.nodes _ _ _ HN0.out).trans HN0.out)
  clear hp1 hP1 hS1
  go_wp2_with fail
  go_at_call 42
  refine (add_new HP1.out [sEQ] _ rfl 1 rfl (by omega) (by have := HLx.out; (try simp only [List.length_append, List.length_cons, List.length_nil, txs_len]); omega) _ (by simp)).mono ?_
  rintro e w2 ⟨rfl, hP2, hS2⟩
  have HP2 := hide hP2
  have HS2 := hide (HS1.out.trans hS2)
  have hn2 := hS2.node HN1.out
  have HN2 := hide ((hS2.nodes _ _ _ HN1.out).trans HN1.out)
  clear hP2 hS2 hn1
  have hb2 := HP2.out.base
  have eb2_0 := below_cell hb2 Hb0.out
  have eb2_1 := below_cell hb2 Hb1.out
  have eb2_2 := below_cell hb2 Hb2.out
  have eb2_3 := below_cell hb2 Hb3.out
  clear hb2
  go_wp2_with fail
  go_at_call 67
  refine (HEy.out b _ _ _ HP2.out Hb.out (by have := HLx.out; (try simp only [List.length_append, List.length_cons, List.length_nil, txs_len]); omega)).mono ?_
  rintro e w3 (⟨hp3, rfl, hP3, hS3⟩ | ⟨hp3, rfl, hB3⟩)
  rotate_left
  · exact ⟨rfl, PostP.no (fun h => hp3 (HI.out.1 h).2) hB3⟩
  have HA3 := hide hp3
  have HP3 := hide hP3
  have HS3 := hide (HS2.out.trans hS3)
  have hn3 := hS3.node HN2.out
  have HN3 := hide ((hS3.nodes _ _ _ HN2.out).trans HN2.out)
  clear hp3 hP3 hS3 hn2
  go_wp2_with fail
  go_end0
  exact PostP.ok (HI.out.2 ⟨HA1.out, HA3.out⟩) (HP3.out.app' (by rw [en_of (sh_s14 _ _ _ _)]; simp [txs_app, txs_cons, raw_wd, raw_sg, txs1, txsg, show txs [] = [] from rfl])) HS3.out
set_option maxRecDepth 100000 in
set_option maxHeartbeats 800000 in
theorem ended_k15 {w0 : World} (hG : Gl w0) (hTb : TabW w0) (text : List UInt8) (num : Int) (x y : Nd) {w : World} {b : Nat} {T : List (List UInt8)} (hP : Pt w0 w b T) (ka : Option Addr) (kc : Nat) (hR : RowO w0 ka [x, y]) (hk : knB 15 text num 2 = true) (hc : cnt x + cnt y ≤ 700) (hT : T.length + tb x + tb y + 6 ≤ 1000000000000) :
    Calls Tryd.prog 64 #[.pointer (some ⟨b, 0, none⟩), .agg #[.int .i64 15, .string (str text), .int .i64 num, .slice ka 2 kc]] w (PostP (IsSt (.mk 15 text num [x, y])) w0 w b T (enT (.mk 15 text num [x, y]))) := by
  have HI := hide (st15 (a := x) (b := y) hk)
  have HLx := hide (sh_tb x)
  have HLy := hide (sh_tb y)
  have HEx := hide (expr_all hG hTb x (by omega))
  have HEy := hide (expr_all hG hTb y (by omega))
  have HG := hide hG
  have hRo := hR
  obtain ⟨ga, oa, ka, xa, na, aa, ma, ca, hkaa, hga, qa0, qa1, qa2, qa3, hnda⟩ := hR.kid0
  have Ha := hide hnda
  have Ha0 := hide qa0
  have Ha1 := hide qa1
  have Ha2 := hide qa2
  have Ha3 := hide qa3
  clear qa0 qa1 qa2 qa3 hnda hga
  subst hkaa
  obtain ⟨kb, xb, nb, ab, mb, cb, qb0, qb1, qb2, qb3, hndb⟩ := hR.kid1
  have Hb := hide hndb
  have Hb0 := hide qb0
  have Hb1 := hide qb1
  have Hb2 := hide qb2
  have Hb3 := hide qb3
  clear qb0 qb1 qb2 qb3 hndb
  have HP0 : Hid (Pt w0 (w.alloc (.cells #[.int .i64 15, .string (str text), .int .i64 num, .slice (some ⟨ga, oa, none⟩) 2 kc] 24)) b T) := hP.alloc _
  have HS0 : Hid (St w (w.alloc (.cells #[.int .i64 15, .string (str text), .int .i64 num, .slice (some ⟨ga, oa, none⟩) 2 kc] 24))) := St.alloc _ _
  have HN0 : Hid ((w.alloc (.cells #[.int .i64 15, .string (str text), .int .i64 num, .slice (some ⟨ga, oa, none⟩) 2 kc] 24)).heap[w.heap.size]? = some (.cells #[.int .i64 15, .string (str text), .int .i64 num, .slice (some ⟨ga, oa, none⟩) 2 kc] 24 (0, 0))) := heap_new _ _ _
  clear hP hk hG hTb hR
  have hb0 := HP0.out.base
  have ea0_0 := below_cell hb0 Ha0.out
  have ea0_1 := below_cell hb0 Ha1.out
  have ea0_2 := below_cell hb0 Ha2.out
  have ea0_3 := below_cell hb0 Ha3.out
  clear hb0
  go_enter Tryd.func64, Tryd.ntmps64
  go_wp2_with fail
  go_at_call 68
  refine (begin_69 x HEx.out HP0.out _ Ha.out (by omega)).mono ?_
  rintro e w1 (⟨hp1, rfl, hP1, hS1⟩ | ⟨hp1, rfl, hB1⟩)
  rotate_left
  · exact ⟨rfl, PostP.no (fun h => hp1 (HI.out.1 h).1) hB1⟩
  have HA1 := hide hp1
  have HP1 := hide hP1
  have HS1 := hide (HS0.out.trans hS1)
  have hn1 := hS1.node HN0.out
  have HN1 := hide ((hS1.nodes _ _ _ HN0.out).trans HN0.out)
  clear hp1 hP1 hS1
  go_wp2_with fail
  go_at_call 42
  refine (add_new HP1.out [sEQ] _ rfl 1 rfl (by omega) (by have := HLx.out; (try simp only [List.length_append, List.length_cons, List.length_nil, txs_len]); omega) _ (by simp)).mono ?_
  rintro e w2 ⟨rfl, hP2, hS2⟩
  have HP2 := hide hP2
  have HS2 := hide (HS1.out.trans hS2)
  have hn2 := hS2.node HN1.out
  have HN2 := hide ((hS2.nodes _ _ _ HN1.out).trans HN1.out)
  clear hP2 hS2 hn1
  have hb2 := HP2.out.base
  have eb2_0 := below_cell hb2 Hb0.out
  have eb2_1 := below_cell hb2 Hb1.out
  have eb2_2 := below_cell hb2 Hb2.out
  have eb2_3 := below_cell hb2 Hb3.out
  clear hb2
  go_wp2_with fail
  go_at_call 67
  refine (HEy.out b _ _ _ HP2.out Hb.out (by have := HLx.out; (try simp only [List.length_append, List.length_cons, List.length_nil, txs_len]); omega)).mono ?_
  rintro e w3 (⟨hp3, rfl, hP3, hS3⟩ | ⟨hp3, rfl, hB3⟩)
  rotate_left
  · exact ⟨rfl, PostP.no (fun h => hp3 (HI.out.1 h).2) hB3⟩
  have HA3 := hide hp3
  have HP3 := hide hP3
  have HS3 := hide (HS2.out.trans hS3)
  have hn3 := hS3.node HN2.out
  have HN3 := hide ((hS3.nodes _ _ _ HN2.out).trans HN2.out)
  clear hp3 hP3 hS3 hn2
  go_wp2_with fail
  go_end0
  exact PostP.ok (HI.out.2 ⟨HA1.out, HA3.out⟩) (HP3.out.app' (by rw [en_of (sh_s15 _ _ _ _)]; simp [txs_app, txs_cons, raw_wd, raw_sg, txs1, txsg, show txs [] = [] from rfl])) HS3.out
set_option maxRecDepth 100000 in
set_option maxHeartbeats 800000 in
theorem ended_k18 {w0 : World} (hG : Gl w0) (hTb : TabW w0) (text : List UInt8) (num : Int) (x : Nd) {w : World} {b : Nat} {T : List (List UInt8)} (hP : Pt w0 w b T) (ka : Option Addr) (kc : Nat) (hR : RowO w0 ka [x]) (hk : knB 18 text num 1 = true) (hc : cnt x ≤ 700) (hT : T.length + tb x + 5 ≤ 1000000000000) :
    Calls Tryd.prog 64 #[.pointer (some ⟨b, 0, none⟩), .agg #[.int .i64 18, .string (str text), .int .i64 num, .slice ka 1 kc]] w (PostP (IsSt (.mk 18 text num [x])) w0 w b T (enT (.mk 18 text num [x]))) := by
  have HI := hide (st18 (x := x) hk)
  have HLx := hide (sh_tb x)
  have HEx := hide (expr_all hG hTb x hc)
  have hRo := hR
  obtain ⟨ga, oa, ka, xa, na, aa, ma, ca, hkaa, hga, qa0, qa1, qa2, qa3, hnda⟩ := hR.kid0
  have Ha := hide hnda
  have Ha0 := hide qa0
  have Ha1 := hide qa1
  have Ha2 := hide qa2
  have Ha3 := hide qa3
  clear qa0 qa1 qa2 qa3 hnda hga
  subst hkaa
  have HP0 : Hid (Pt w0 (w.alloc (.cells #[.int .i64 18, .string (str text), .int .i64 num, .slice (some ⟨ga, oa, none⟩) 1 kc] 24)) b T) := hP.alloc _
  have HS0 : Hid (St w (w.alloc (.cells #[.int .i64 18, .string (str text), .int .i64 num, .slice (some ⟨ga, oa, none⟩) 1 kc] 24))) := St.alloc _ _
  have HN0 : Hid ((w.alloc (.cells #[.int .i64 18, .string (str text), .int .i64 num, .slice (some ⟨ga, oa, none⟩) 1 kc] 24)).heap[w.heap.size]? = some (.cells #[.int .i64 18, .string (str text), .int .i64 num, .slice (some ⟨ga, oa, none⟩) 1 kc] 24 (0, 0))) := heap_new _ _ _
  clear hP hk hG hTb hR
  go_enter Tryd.func64, Tryd.ntmps64
  go_wp2_with fail
  go_at_call 42
  refine (add_new HP0.out [sRET] _ rfl 1 rfl (by omega) (by have := HLx.out; (try simp only [List.length_append, List.length_cons, List.length_nil, txs_len]); omega) _ (by simp)).mono ?_
  rintro e w1 ⟨rfl, hP1, hS1⟩
  have HP1 := hide hP1
  have HS1 := hide (HS0.out.trans hS1)
  have hn1 := hS1.node HN0.out
  have HN1 := hide ((hS1.nodes _ _ _ HN0.out).trans HN0.out)
  clear hP1 hS1
  have hb1 := HP1.out.base
  have ea1_0 := below_cell hb1 Ha0.out
  have ea1_1 := below_cell hb1 Ha1.out
  have ea1_2 := below_cell hb1 Ha2.out
  have ea1_3 := below_cell hb1 Ha3.out
  clear hb1
  go_wp2_with fail
  go_at_call 67
  refine (HEx.out b _ _ _ HP1.out Ha.out (by have := HLx.out; (try simp only [List.length_append, List.length_cons, List.length_nil, txs_len]); omega)).mono ?_
  rintro e w2 (⟨hp2, rfl, hP2, hS2⟩ | ⟨hp2, rfl, hB2⟩)
  rotate_left
  · exact ⟨rfl, PostP.no (fun h => hp2 (HI.out.1 h)) hB2⟩
  have HA2 := hide hp2
  have HP2 := hide hP2
  have HS2 := hide (HS1.out.trans hS2)
  have hn2 := hS2.node HN1.out
  have HN2 := hide ((hS2.nodes _ _ _ HN1.out).trans HN1.out)
  clear hp2 hP2 hS2 hn1
  go_wp2_with fail
  go_end0
  exact PostP.ok (HI.out.2 HA2.out) (HP2.out.app' (by rw [en_of (sh_s18 _ _ _)]; simp [txs_app, txs_cons, raw_wd, raw_sg, txs1, txsg, show txs [] = [] from rfl])) HS2.out
set_option maxRecDepth 100000 in
set_option maxHeartbeats 800000 in
theorem ended_k19 {w0 : World} (hG : Gl w0) (hTb : TabW w0) (text : List UInt8) (num : Int) (x : Nd) {w : World} {b : Nat} {T : List (List UInt8)} (hP : Pt w0 w b T) (ka : Option Addr) (kc : Nat) (hR : RowO w0 ka [x]) (hk : knB 19 text num 1 = true) (hc : cnt x ≤ 700) (hT : T.length + tb x + 5 ≤ 1000000000000) :
    Calls Tryd.prog 64 #[.pointer (some ⟨b, 0, none⟩), .agg #[.int .i64 19, .string (str text), .int .i64 num, .slice ka 1 kc]] w (PostP (IsSt (.mk 19 text num [x])) w0 w b T (enT (.mk 19 text num [x]))) := by
  have HI := hide (st19 (x := x) hk)
  have HLx := hide (sh_tb x)
  have HEx := hide (expr_all hG hTb x hc)
  have hRo := hR
  obtain ⟨ga, oa, ka, xa, na, aa, ma, ca, hkaa, hga, qa0, qa1, qa2, qa3, hnda⟩ := hR.kid0
  have Ha := hide hnda
  have Ha0 := hide qa0
  have Ha1 := hide qa1
  have Ha2 := hide qa2
  have Ha3 := hide qa3
  clear qa0 qa1 qa2 qa3 hnda hga
  subst hkaa
  have HP0 : Hid (Pt w0 (w.alloc (.cells #[.int .i64 19, .string (str text), .int .i64 num, .slice (some ⟨ga, oa, none⟩) 1 kc] 24)) b T) := hP.alloc _
  have HS0 : Hid (St w (w.alloc (.cells #[.int .i64 19, .string (str text), .int .i64 num, .slice (some ⟨ga, oa, none⟩) 1 kc] 24))) := St.alloc _ _
  have HN0 : Hid ((w.alloc (.cells #[.int .i64 19, .string (str text), .int .i64 num, .slice (some ⟨ga, oa, none⟩) 1 kc] 24)).heap[w.heap.size]? = some (.cells #[.int .i64 19, .string (str text), .int .i64 num, .slice (some ⟨ga, oa, none⟩) 1 kc] 24 (0, 0))) := heap_new _ _ _
  clear hP hk hG hTb hR
  go_enter Tryd.func64, Tryd.ntmps64
  go_wp2_with fail
  go_at_call 63
  refine (inside_any x HEx.out HP0.out sPUT 19 text num [] _ 1 kc hRo (by omega) (by omega)).mono ?_
  rintro e w1 (⟨hp1, rfl, hP1, hS1⟩ | ⟨hp1, rfl, hB1⟩)
  rotate_left
  · exact ⟨rfl, PostP.no (fun h => hp1 (HI.out.1 h)) hB1⟩
  have HA1 := hide hp1
  have HP1 := hide hP1
  have HS1 := hide (HS0.out.trans hS1)
  have hn1 := hS1.node HN0.out
  have HN1 := hide ((hS1.nodes _ _ _ HN0.out).trans HN0.out)
  clear hp1 hP1 hS1
  go_wp2_with fail
  go_end0
  exact PostP.ok (HI.out.2 HA1.out) (HP1.out.app' (by rw [en_of (sh_s19 _ _ _)])) HS1.out
set_option maxRecDepth 100000 in
set_option maxHeartbeats 800000 in
theorem ended_k20 {w0 : World} (hG : Gl w0) (hTb : TabW w0) (text : List UInt8) (num : Int) (x : Nd) {w : World} {b : Nat} {T : List (List UInt8)} (hP : Pt w0 w b T) (ka : Option Addr) (kc : Nat) (hR : RowO w0 ka [x]) (hk : knB 20 text num 1 = true) (hc : cnt x ≤ 700) (hT : T.length + tb x + 5 ≤ 1000000000000) :
    Calls Tryd.prog 64 #[.pointer (some ⟨b, 0, none⟩), .agg #[.int .i64 20, .string (str text), .int .i64 num, .slice ka 1 kc]] w (PostP (IsSt (.mk 20 text num [x])) w0 w b T (enT (.mk 20 text num [x]))) := by
  have HI := hide (st20 (x := x) hk)
  have HLx := hide (sh_tb x)
  have HEx := hide (expr_all hG hTb x hc)
  have hRo := hR
  obtain ⟨ga, oa, ka, xa, na, aa, ma, ca, hkaa, hga, qa0, qa1, qa2, qa3, hnda⟩ := hR.kid0
  have Ha := hide hnda
  have Ha0 := hide qa0
  have Ha1 := hide qa1
  have Ha2 := hide qa2
  have Ha3 := hide qa3
  clear qa0 qa1 qa2 qa3 hnda hga
  subst hkaa
  have HP0 : Hid (Pt w0 (w.alloc (.cells #[.int .i64 20, .string (str text), .int .i64 num, .slice (some ⟨ga, oa, none⟩) 1 kc] 24)) b T) := hP.alloc _
  have HS0 : Hid (St w (w.alloc (.cells #[.int .i64 20, .string (str text), .int .i64 num, .slice (some ⟨ga, oa, none⟩) 1 kc] 24))) := St.alloc _ _
  have HN0 : Hid ((w.alloc (.cells #[.int .i64 20, .string (str text), .int .i64 num, .slice (some ⟨ga, oa, none⟩) 1 kc] 24)).heap[w.heap.size]? = some (.cells #[.int .i64 20, .string (str text), .int .i64 num, .slice (some ⟨ga, oa, none⟩) 1 kc] 24 (0, 0))) := heap_new _ _ _
  clear hP hk hG hTb hR
  have hb0 := HP0.out.base
  have ea0_0 := below_cell hb0 Ha0.out
  have ea0_1 := below_cell hb0 Ha1.out
  have ea0_2 := below_cell hb0 Ha2.out
  have ea0_3 := below_cell hb0 Ha3.out
  clear hb0
  go_enter Tryd.func64, Tryd.ntmps64
  go_wp2_with fail
  go_at_call 68
  refine (begin_70 x HEx.out HP0.out _ Ha.out (by omega)).mono ?_
  rintro e w1 (⟨hp1, rfl, hP1, hS1⟩ | ⟨hp1, rfl, hB1⟩)
  rotate_left
  · exact ⟨rfl, PostP.no (fun h => hp1 (HI.out.1 h)) hB1⟩
  have HA1 := hide hp1
  have HP1 := hide hP1
  have HS1 := hide (HS0.out.trans hS1)
  have hn1 := hS1.node HN0.out
  have HN1 := hide ((hS1.nodes _ _ _ HN0.out).trans HN0.out)
  clear hp1 hP1 hS1
  go_wp2_with fail
  go_end0
  exact PostP.ok (HI.out.2 HA1.out) (HP1.out.app' (by rw [en_of (sh_s20 _ _ _)])) HS1.out
set_option maxRecDepth 100000 in
set_option maxHeartbeats 800000 in
theorem ended_rest {w0 : World} (kind : Int) (text : List UInt8) (num : Int) (n : Nat) (P : Prop) (hp : ¬ P) (ts : List Tk) (k14 : ¬ kind = 14) (k15 : ¬ kind = 15) (k18 : ¬ kind = 18) (k19 : ¬ kind = 19) (k20 : ¬ kind = 20) {w : World} {b : Nat} {T : List (List UInt8)} (hP : Pt w0 w b T) (ka : Option Addr) (kc : Nat) :
    Calls Tryd.prog 64 #[.pointer (some ⟨b, 0, none⟩), .agg #[.int .i64 kind, .string (str text), .int .i64 num, .slice ka n kc]] w (PostP P w0 w b T ts) := by
  have HP0 : Hid (Pt w0 (w.alloc (.cells #[.int .i64 kind, .string (str text), .int .i64 num, .slice ka n kc] 24)) b T) := hP.alloc _
  have HS0 : Hid (St w (w.alloc (.cells #[.int .i64 kind, .string (str text), .int .i64 num, .slice ka n kc] 24))) := St.alloc _ _
  have HN0 : Hid ((w.alloc (.cells #[.int .i64 kind, .string (str text), .int .i64 num, .slice ka n kc] 24)).heap[w.heap.size]? = some (.cells #[.int .i64 kind, .string (str text), .int .i64 num, .slice ka n kc] 24 (0, 0))) := heap_new _ _ _
  have k14' : (kind == 14) = false := by simpa using k14
  have k15' : (kind == 15) = false := by simpa using k15
  have k18' : (kind == 18) = false := by simpa using k18
  have k19' : (kind == 19) = false := by simpa using k19
  have k20' : (kind == 20) = false := by simpa using k20
  have HPn := hide hp
  clear hP hp k14 k15 k18 k19 k20
  go_enter Tryd.func64, Tryd.ntmps64
  go_wp2_with fail
  exact ⟨rfl, PostP.no HPn.out HP0.out.base⟩
end Go.Proofs.YthcfianhdkolhaaDoor.T
