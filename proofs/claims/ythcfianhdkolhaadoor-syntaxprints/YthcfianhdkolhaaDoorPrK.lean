/- The contracts of (*printer).structure, decl, unit. -/
import Derived.Test.YthcfianhdkolhaaDoorPrJ
namespace Go.Proofs.YthcfianhdkolhaaDoor.T
open Go.RowKit Go.Proofs.YthcfianhdkolhaaDoor.S
set_option linter.unusedVariables false
set_option linter.unusedSimpArgs false

theorem de2 {t : List UInt8} {v : Int} {kids : List Nd} (h : knB 2 t v kids.length = true) : IsDe (.mk 2 t v kids) ↔ ∀ y, y ∈ kids → IsFi y := by
  obtain ⟨h1, rfl⟩ := kn_name (k := 2) (by rfl) h
  have h5 := (kn_iff.1 h).2.2.2.2.1
  have h5' : (1 : Int) ≤ kids.length := h5
  constructor
  · intro h; cases h with | struct1 s l hs hne hl => exact hl
  · intro hl; exact IsDe.struct1 t kids h1 (fun e => by subst e; simp at h5') hl
theorem app_inj {l m : List Nd} {x y : Nd} (h : l ++ [x] = m ++ [y]) : l = m ∧ x = y := by
  have := List.append_inj' h rfl
  exact ⟨this.1, by simpa using this.2⟩
theorem de4 {t : List UInt8} {v : Int} {l : List Nd} {x : Nd} {n : Nat} (h : knB 4 t v n = true) : IsDe (.mk 4 t v (l ++ [x])) ↔ IsTy x ∧ ∀ y, y ∈ l → IsPa y := by
  obtain ⟨_, h2, h3, h4, _⟩ := kn_iff.1 h
  constructor
  · intro h
    clear h2 h3 h4
    generalize hk : l ++ [x] = kk at h
    cases h with
    | extern1 s m d u hs hm hu =>
      obtain ⟨rfl, rfl⟩ := app_inj hk
      exact ⟨hu, hm⟩
  · rintro ⟨hx, hl⟩
    obtain ⟨d, rfl⟩ := b2n_of h3 h4
    exact IsDe.extern1 t l d x (txt_t h2) hl hx
theorem de5 {t : List UInt8} {v : Int} {x : Nd} {n : Nat} (h : knB 5 t v n = true) : IsDe (.mk 5 t v [x]) ↔ IsTy x := by
  obtain ⟨h1, rfl⟩ := kn_name (k := 5) (by rfl) h
  constructor
  · intro h; cases h with | outside s u hs hu => exact hu
  · intro hx; exact IsDe.outside t x h1 hx
theorem de6 {t : List UInt8} {v : Int} {x y : Nd} {n : Nat} (h : knB 6 t v n = true) : IsDe (.mk 6 t v [x, y]) ↔ IsTy x ∧ NumV y := by
  obtain ⟨_, h2, h3, h4, _⟩ := kn_iff.1 h
  constructor
  · intro h
    clear h2 h3 h4
    cases h with
    | global s st u v hs hu h1 h2 => exact ⟨hu, v, Or.inl ⟨rfl, h1, h2⟩⟩
    | globalL s st u v hs hu h1 h2 => exact ⟨hu, v, Or.inr ⟨rfl, h1, h2⟩⟩
  · obtain ⟨d, rfl⟩ := b2n_of h3 h4
    rintro ⟨hx, u, ⟨rfl, e1, e2⟩ | ⟨rfl, e1, e2⟩⟩
    · exact IsDe.global t d x u (txt_t h2) hx e1 e2
    · exact IsDe.globalL t d x u (txt_t h2) hx e1 e2
theorem de7 {t : List UInt8} {v : Int} {l : List Nd} {x c : Nd} {n : Nat} (h : knB 7 t v n = true) : IsDe (.mk 7 t v (l ++ [x] ++ [c])) ↔ (IsTy x ∧ ∀ y, y ∈ l → IsPa y) ∧ IsBl c := by
  obtain ⟨_, h2, h3, h4, _⟩ := kn_iff.1 h
  constructor
  · intro h
    clear h2 h3 h4
    generalize hk : l ++ [x] ++ [c] = kk at h
    cases h with
    | fun1 s st d m u m2 hs hm hu hb =>
      obtain ⟨e1, rfl⟩ := app_inj hk
      obtain ⟨rfl, rfl⟩ := app_inj e1
      exact ⟨⟨hu, hm⟩, m2, rfl, hb⟩
  · obtain ⟨st, d, rfl⟩ := b2n_of2 h3 h4
    rintro ⟨⟨hx, hl⟩, m2, rfl, hb⟩; exact IsDe.fun1 t st d l x m2 (txt_t h2) hl hx hb
theorem de_kinds {k : Int} {t : List UInt8} {v : Int} {l : List Nd} (h : IsDe (.mk k t v l)) : k = 2 ∨ k = 4 ∨ k = 5 ∨ k = 6 ∨ k = 7 := cls_de.1 (de_is h).1
theorem un_kn {k : Int} {t : List UInt8} {v : Int} {kids : List Nd} (hn : kids.length ≤ 700) : IsUn (.mk k t v kids) ↔ (k = 1 ∧ knB k t v kids.length = true) ∧ ∀ y, y ∈ kids → IsDe y := by
  constructor
  · intro h
    cases h with
    | unit l hl => exact ⟨⟨rfl, kn_iff.2 ⟨by decide, rfl, by decide, by decide, (by show (0 : Int) ≤ _; omega), (by show _ ≤ (700 : Int); omega)⟩⟩, hl⟩
  · rintro ⟨⟨rfl, hk⟩, hl⟩
    obtain ⟨rfl, rfl⟩ := kn_bare (k := 1) (by rfl) hk
    exact IsUn.unit kids hl
theorem sh_d2 (t : List UInt8) (v : Int) (l : List Nd) : shT (.mk 2 t v l) = [wd sSTRUCT, wd t, sg sLB] ++ (l.map shT).flatten ++ [sg sRB] := by rw [shT_mk]; simp [shK]
theorem sh_d4 (t : List UInt8) (v : Int) (l : List Nd) (x : Nd) : shT (.mk 4 t v (l ++ [x])) = [wd sEXTERN] ++ (shT x ++ [wd t] ++ rowT (l.map shT) (decide (v = 1))) ++ [sg sSEMI] := by rw [shT_mk]; simp [shK, lastT]
theorem sh_d5 (t : List UInt8) (v : Int) (x : Nd) : shT (.mk 5 t v [x]) = [wd sEXTERN] ++ (shT x ++ [wd t]) ++ [sg sSEMI] := by rw [shT_mk]; simp [shK]
theorem sh_d6 (t : List UInt8) (v : Int) (x y : Nd) (h0 : 0 ≤ v) (h1 : v ≤ 1) : shT (.mk 6 t v [x, y]) = (if v = 1 then [wd sSTATIC] else []) ++ (shT x ++ [wd t]) ++ [sg sEQ] ++ shT y ++ [sg sSEMI] := by
  have : v = 0 ∨ v = 1 := by omega
  rcases this with rfl | rfl <;> (rw [shT_mk]; simp [shK, lastT])
theorem sh_d7 (t : List UInt8) (v : Int) (l : List Nd) (x c : Nd) : shT (.mk 7 t v (l ++ [x] ++ [c])) = (if v % 2 = 1 then [wd sSTATIC] else []) ++ (shT x ++ [wd t] ++ rowT (l.map shT) (decide (2 ≤ v))) ++ shT c := by
  rw [shT_mk]
  have e1 : lastT (l.map shT ++ [shT x, shT c]) = shT c := by simp [lastT]
  have e2 : (l.map shT ++ [shT x, shT c]).dropLast = l.map shT ++ [shT x] := by rw [show [shT x, shT c] = [shT x] ++ [shT c] from rfl, ← List.append_assoc, List.dropLast_concat]
  have e3 : lastT (l.map shT ++ [shT x]) = shT x := by simp [lastT]
  have e4 : (l.map shT ++ [shT x]).dropLast = l.map shT := List.dropLast_concat
  have e0 : (l ++ [x] ++ [c]).map shT = l.map shT ++ [shT x, shT c] := by simp
  rw [e0]
  unfold shK
  rw [if_neg (by decide), if_neg (by decide), if_neg (by decide), if_neg (by decide), if_neg (by decide), if_neg (by decide), if_pos rfl, e1, e2, e3, e4]
  simp
theorem sh_u (t : List UInt8) (v : Int) (l : List Nd) : shT (.mk 1 t v l) = (l.map shT).flatten := by rw [shT_mk]; simp [shK]
/-- What decl is to leave. -/
def DeN (w0 : World) (n : Nd) : Prop := ∀ (b : Nat) (w : World) (T : List (List UInt8)) (v : Value), Pt w0 w b T → NdO w0 n v → T.length + tb n ≤ 1000000000000 → Calls Tryd.prog 30 #[.pointer (some ⟨b, 0, none⟩), v] w (PostP (IsDe n) w0 w b T (shT n))
theorem static_post {w0 w : World} {b : Nat} {T : List (List UInt8)} (hP : Pt w0 w b T) (st : Int) (hT : T.length + 1 ≤ 1000000000000) : Calls Tryd.prog 45 #[.pointer (some ⟨b, 0, none⟩), .int .i64 st] w (PostP True w0 w b T (if st = 1 then [wd sSTATIC] else [])) :=
  (static_any hP st hT).mono fun e w' ⟨h1, h2, h3⟩ => Or.inl ⟨trivial, h1, h2, h3⟩
set_option maxRecDepth 100000 in
set_option maxHeartbeats 800000 in
theorem structure_any {w0 : World} (hG : Gl w0) (text : List UInt8) (num : Int) (kids : List Nd) {w : World} {b : Nat} {T : List (List UInt8)} (hP : Pt w0 w b T) (ka : Option Addr) (kc : Nat) (hR : RowO w0 ka kids) (hk : knB 2 text num kids.length = true) (hc : cntL kids ≤ 700) (hT : T.length + tbL kids + 6 ≤ 1000000000000) :
    Calls Tryd.prog 41 #[.pointer (some ⟨b, 0, none⟩), .agg #[.int .i64 2, .string (str text), .int .i64 num, .slice ka kids.length kc]] w (PostP (IsDe (.mk 2 text num kids)) w0 w b T (shT (.mk 2 text num kids))) := by
  have hl7 : kids.length ≤ 700 := Nat.le_trans (len_cnt kids) hc
  have HI := hide (de2 hk)
  have HR := hide hR
  have HG := hide hG
  have HP0 : Hid (Pt w0 (w.alloc (.cells #[.int .i64 2, .string (str text), .int .i64 num, .slice ka kids.length kc] 24)) b T) := hP.alloc _
  have HS0 : Hid (St w (w.alloc (.cells #[.int .i64 2, .string (str text), .int .i64 num, .slice ka kids.length kc] 24))) := St.alloc _ _
  have HN0 : Hid ((w.alloc (.cells #[.int .i64 2, .string (str text), .int .i64 num, .slice ka kids.length kc] 24)).heap[w.heap.size]? = some (.cells #[.int .i64 2, .string (str text), .int .i64 num, .slice ka kids.length kc] 24 (0, 0))) := heap_new _ _ _
  clear hP hR hk hG
  go_enter Tryd.func41, Tryd.ntmps41
  go_wp2_with fail
  go_at_call 42
  refine (add_new HP0.out [sSTRUCT, text, sLB] _ rfl 3 rfl (by omega) (by (try simp only [List.length_append, List.length_cons, List.length_nil, txs_len]); omega) _ (by simp)).mono ?_
  rintro e w1 ⟨rfl, hP1, hS1⟩
  have HP1 := hide hP1
  have HS1 := hide (HS0.out.trans hS1)
  have hn1 := hS1.node HN0.out
  have HN1 := hide ((hS1.nodes _ _ _ HN0.out).trans HN0.out)
  clear hP1 hS1
  go_wp2_with fail
  go_loopw [14] (fun i wr => ∃ j : Nat, j ≤ kids.length ∧ i = .int .i64 j ∧ Hid (Pt w0 wr b ((T ++ [sSTRUCT, text, sLB]) ++ txs ((kids.take j).map shT).flatten)) ∧ Hid (St w wr) ∧ Hid (∀ x, x ∈ kids.take j → IsFi x)) (fun i _ => kids.length - (intOf i).toNat)
  case atStart => exact ⟨0, Nat.zero_le _, rfl, by simpa [Hid, txs] using HP1.out, HS1.out, fun x hx => by simp at hx⟩
  case round =>
    obtain ⟨j, hj, rfl, HPj, HSj, HAj⟩ := hrel
    by_cases hlt : j < kids.length
    · have hlt' : (j : Int) < kids.length := by omega
      have hidx : (0 : Int) ≤ j ∧ (j : Int) < kids.length := by omega
      obtain ⟨g, o, rfl, hg, hcs⟩ := HR.out (fun e => by rw [e] at hlt; simp at hlt)
      obtain ⟨k0, x0, n0, a0, m0, c0, q0, q1, q2, q3, hnd⟩ := hcs j hlt
      have hbz := HPj.out.base
      have e0 := below_cell hbz q0
      have e1 := below_cell hbz q1
      have e2 := below_cell hbz q2
      have e3 := below_cell hbz q3
      have HN := hide hnd
      have HTj : Hid ((txs ((kids.take j).map shT).flatten).length + tb kids[j] ≤ tbL kids) := by
        show _ ≤ _
        have h1 := flatL_tb (kids.take j)
        have h2 := tbL_take hlt
        rw [txs_len]
        omega
      have HNo : Hid (¬ IsFi kids[j] → ¬ ∀ x, x ∈ kids → IsFi x) := fun hn hall => hn (hall _ (List.getElem_mem hlt))
      clear q0 q1 q2 q3 hcs hnd hbz
      have HPa : Hid (Pt w0 (wr.alloc (.cells #[.int .i64 k0, .string x0, .int .i64 n0, .slice a0 m0 c0] 24)) b ((T ++ [sSTRUCT, text, sLB]) ++ txs ((kids.take j).map shT).flatten)) := HPj.out.alloc _
      have HSa : Hid (St w (wr.alloc (.cells #[.int .i64 k0, .string x0, .int .i64 n0, .slice a0 m0 c0] 24))) := HSj.out.trans (St.alloc _ _)
      have HNa : Hid ((wr.alloc (.cells #[.int .i64 k0, .string x0, .int .i64 n0, .slice a0 m0 c0] 24)).heap[wr.heap.size]? = some (.cells #[.int .i64 k0, .string x0, .int .i64 n0, .slice a0 m0 c0] 24 (0, 0))) := heap_new _ _ _
      obtain ⟨fk, ft, fv, fkids, hfe⟩ : ∃ fk ft fv fkids, kids[j] = .mk fk ft fv fkids := ⟨(kids[j]).kind, (kids[j]).text, (kids[j]).num, (kids[j]).kids, by cases kids[j]; rfl⟩
      have hnd2 := HN.out
      rw [hfe] at hnd2
      obtain ⟨ka2, kc2, hvv, s1, s2, s3, s4, s5, hR2⟩ := hnd2.part
      obtain ⟨rfl, rfl, rfl, rfl, rfl, rfl⟩ : k0 = fk ∧ x0 = str ft ∧ n0 = fv ∧ a0 = ka2 ∧ m0 = fkids.length ∧ c0 = kc2 := by simpa using hvv
      have hcf : cnt (.mk k0 ft n0 fkids) ≤ 700 := by rw [← hfe]; have := cnt_mem (List.getElem_mem hlt); omega
      rw [cnt_mk] at hcf
      have hfl : fkids.length ≤ 700 := Nat.le_trans (len_cnt fkids) (by omega)
      have HFk := hide (fi_kn (k := k0) (t := ft) (v := n0) hfl)
      have HFe := hide hfe
      have HR2 := hide hR2
      have hkn := knowKind_any k0 ft n0 a0 fkids.length c0 3 _ ((HG.out.below HPj.out.base).below ((Below.refl _ _).alloc (Nat.le_refl _) (.cells #[.int .i64 k0, .string (str ft), .int .i64 n0, .slice a0 fkids.length c0] 24))) s1 (by omega)
      have HTf : Hid (tb (.mk k0 ft n0 fkids) + (txs ((kids.take j).map shT).flatten).length ≤ tbL kids) := by show _ ≤ _; rw [← hfe]; have := HTj.out; omega
      clear hnd2 hvv hR2 hfe
      go_wp2_with fail
      go_at_call 29
      refine hkn.mono ?_
      rintro e w7 ⟨⟨hk0, hk, rfl⟩ | ⟨hk, rfl⟩, hb7⟩
      rotate_left
      · exact ⟨rfl, PostP.no (fun h => HNo.out (fun hf => by rw [HFe.out] at hf; exact hk (HFk.out.1 hf).1) (HI.out.1 h)) (HPa.out.below hb7).base⟩
      subst hk0
      have HP7 := hide (HPa.out.below hb7)
      have HS7 := hide (HSa.out.trans (St.below hb7))
      have hn7 := (St.below hb7).node HNa.out
      obtain ⟨fx, rfl⟩ := kn_one (k := 3) (by rfl) hk
      have HI3 : Hid (IsFi kids[j] ↔ IsTy fx) := by
        show _ ↔ _
        rw [HFe.out, HFk.out]
        constructor
        · rintro ⟨_, y, e, hy⟩; rw [List.cons.inj e |>.1]; exact hy
        · intro h; exact ⟨⟨rfl, hk⟩, fx, rfl, h⟩
      have hcx : cnt fx ≤ 700 := by rw [cntL_cons] at hcf; omega
      have HTx : Hid (T.length + 3 + (txs ((kids.take j).map shT).flatten).length + 2 * tb fx + 12 ≤ 1000000000000) := by have := HTf.out; rw [tb_mk, tbL_cons, tbL_nil] at this; simp only [List.length_cons, List.length_nil] at this; show _ ≤ _; omega
      have HLx := hide (sh_tb fx)
      clear hk hb7 hkn hcf hfl
      go_wp2_with fail
      go_at_call 44
      refine (typed_any HG.out HP7.out 3 ft n0 fx [] a0 1 c0 HR2.out (by omega) hcx (by have := HTx.out; simp only [List.length_append, List.length_cons, List.length_nil]; omega)).mono ?_
      rintro e w8 (⟨hp, rfl, hP8, hS8⟩ | ⟨hp, rfl, hB8⟩)
      rotate_left
      · exact ⟨rfl, PostP.no (fun h => HNo.out (fun hf => hp (HI3.out.1 hf)) (HI.out.1 h)) hB8⟩
      have HP8 := hide hP8
      have HS8 := hide (HS7.out.trans hS8)
      have HA8 := hide (HI3.out.2 hp)
      clear hP8 hS8 hp
      go_wp2_with fail
      go_at_call 42
      refine (add_new HP8.out [sSEMI] _ rfl 1 rfl (by omega) (by have := HTx.out; have := HLx.out; simp only [List.length_append, List.length_cons, List.length_nil, txs_len] at *; omega) _ (by simp)).mono ?_
      rintro e w9 ⟨rfl, hP9, hS9⟩
      have HP9 : Hid (Pt w0 w9 b ((T ++ [sSTRUCT, text, sLB]) ++ txs ((kids.take (j + 1)).map shT).flatten)) := by
        show Pt _ _ _ _
        rw [flat_take kids j hlt, txs_app, HFe.out, sh_field]
        simpa [txs_app, txs_cons, raw_wd, raw_sg, txs1, txsg, show txs [] = [] from rfl] using hP9
      have HS9 := hide (HS8.out.trans hS9)
      have HA9 := hide (all_take hlt HAj.out HA8.out)
      clear hP9 hS9
      go_wp2_with fail
      go_roundw
      case rel => exact ⟨j + 1, by omega, by go_num, HP9, HS9, HA9⟩
      case measure => simp [intOf]; omega
    · obtain rfl : j = kids.length := by omega
      have hlt' : ¬ (kids.length : Int) < kids.length := by omega
      have HPe : Hid (Pt w0 wr b ((T ++ [sSTRUCT, text, sLB]) ++ txs (kids.map shT).flatten)) := by have := HPj.out; rw [List.take_length] at this; exact this
      have HAe : Hid (∀ x, x ∈ kids → IsFi x) := by have := HAj.out; rw [List.take_length] at this; exact this
      clear HPj HAj
      have HFl := hide (flatL_tb kids)
      go_wp2_with fail
      go_at_call 42
      refine (add_new HPe.out [sRB] _ rfl 1 rfl (by omega) (by have := HFl.out; simp only [List.length_append, List.length_cons, List.length_nil, txs_len]; omega) _ (by simp)).mono ?_
      rintro e w9 ⟨rfl, hP9, hS9⟩
      have HP9 := hide hP9
      have HS9 := hide (HSj.out.trans hS9)
      clear hP9 hS9
      go_wp2_with fail
      go_end0
      exact PostP.ok (HI.out.2 HAe.out) (HP9.out.app' (by rw [sh_d2]; simp [txs_app, txs_cons, raw_wd, raw_sg, txs1, txsg, show txs [] = [] from rfl])) HS9.out
end Go.Proofs.YthcfianhdkolhaaDoor.T
