/- The contracts of (*printer).unit, and of room and fits. -/
import Derived.Test.YthcfianhdkolhaaDoorPrL
namespace Go.Proofs.YthcfianhdkolhaaDoor.T
open Go.RowKit Go.Proofs.YthcfianhdkolhaaDoor.S
set_option linter.unusedVariables false
set_option linter.unusedSimpArgs false
set_option maxRecDepth 100000 in
set_option maxHeartbeats 800000 in
theorem decl_bad {w0 : World} (hG : Gl w0) (kind : Int) (text : List UInt8) (num : Int) (kids : List Nd) (hn7 : cntL kids ≤ 700) (hkb : knB kind text num kids.length = false) : DeN w0 (.mk kind text num kids) := by
  intro b w T v hP hv hT
  have hk7 : kids.length ≤ 700 := Nat.le_trans (len_cnt kids) hn7
  obtain ⟨ka, kc, rfl, t1, n1, n2, l1, l2, hR⟩ := hv.part
  have HNk : Hid (¬ IsDe (.mk kind text num kids)) := fun h => by
    have hi := (de_is h).2
    rw [isN_iff, loc_kn hk7 n2, hkb] at hi
    exact absurd hi.1.1 (by decide)
  have HP0 : Hid (Pt w0 (w.alloc (.cells #[.int .i64 kind, .string (str text), .int .i64 num, .slice ka kids.length kc] 24)) b T) := hP.alloc _
  have HS0 : Hid (St w (w.alloc (.cells #[.int .i64 kind, .string (str text), .int .i64 num, .slice ka kids.length kc] 24))) := St.alloc _ _
  have HN0 : Hid ((w.alloc (.cells #[.int .i64 kind, .string (str text), .int .i64 num, .slice ka kids.length kc] 24)).heap[w.heap.size]? = some (.cells #[.int .i64 kind, .string (str text), .int .i64 num, .slice ka kids.length kc] 24 (0, 0))) := heap_new _ _ _
  have hkn := know_any kind text num ka kids.length kc _ ((hG.below hP.base).below ((Below.refl _ _).alloc (Nat.le_refl _) (.cells #[.int .i64 kind, .string (str text), .int .i64 num, .slice ka kids.length kc] 24))) t1 (by omega)
  clear hP hv hR hG
  go_enter Tryd.func30, Tryd.ntmps30
  go_wp2_with fail
  go_at_call 40
  refine hkn.mono ?_
  rintro e w1 ⟨⟨hk, rfl⟩ | ⟨hk, rfl⟩, hb1⟩
  · rw [hkb] at hk; cases hk
  · exact ⟨rfl, PostP.no HNk.out (HP0.out.below hb1).base⟩
theorem decl_all {w0 : World} (hG : Gl w0) (hTb : TabW w0) (n : Nd) (hc : cnt n ≤ 700) : DeN w0 n := by
  obtain ⟨k, t, v, kids⟩ := n
  rw [cnt_mk] at hc
  have hn7 : cntL kids ≤ 700 := by omega
  by_cases k2 : k = 2
  · subst k2; exact decl_k2 hG hTb t v kids hn7
  by_cases k4 : k = 4
  · subst k4; exact decl_k4 hG hTb t v kids hn7
  by_cases k5 : k = 5
  · subst k5; exact decl_k5 hG hTb t v kids hn7
  by_cases k6 : k = 6
  · subst k6; exact decl_k6 hG hTb t v kids hn7
  by_cases k7 : k = 7
  · subst k7
    by_cases v0 : v = 0
    · subst v0; exact decl_k7_0 hG hTb t kids hn7
    by_cases v1 : v = 1
    · subst v1; exact decl_k7_1 hG hTb t kids hn7
    by_cases v2 : v = 2
    · subst v2; exact decl_k7_2 hG hTb t kids hn7
    by_cases v3 : v = 3
    · subst v3; exact decl_k7_3 hG hTb t kids hn7
    refine decl_bad hG 7 t v kids hn7 ?_
    cases hb : knB 7 t v kids.length with
    | false => rfl
    | true =>
      obtain ⟨_, _, h3, h4, _⟩ := kn_iff.1 hb
      have h4' : v ≤ 3 := h4
      omega
  exact decl_rest hG hTb k t v kids k2 k4 k5 k6 k7 hn7
set_option maxRecDepth 100000 in
set_option maxHeartbeats 800000 in
theorem unit_any {w0 : World} (hG : Gl w0) (hTb : TabW w0) (n : Nd) {w : World} {b : Nat} {T : List (List UInt8)} (hP : Pt w0 w b T) (v : Value) (hv : NdO w0 n v) (hc : cnt n ≤ 700) (hT : T.length + tb n ≤ 1000000000000) :
    Calls Tryd.prog 13 #[.pointer (some ⟨b, 0, none⟩), v] w (PostP (IsUn n) w0 w b T (shT n)) := by
  obtain ⟨kind, text, num, kids⟩ := n
  obtain ⟨ka, kc, rfl, t1, n1, n2, l1, l2, hR⟩ := hv.part
  rw [cnt_mk] at hc
  rw [tb_mk] at hT
  have hl7 : kids.length ≤ 700 := Nat.le_trans (len_cnt kids) (by omega)
  have HIff := hide (un_kn (k := kind) (t := text) (v := num) hl7)
  have HIh : Hid (∀ x, x ∈ kids → DeN w0 x) := fun x hx => decl_all hG hTb x (by have := cnt_mem hx; omega)
  have HP0 : Hid (Pt w0 (w.alloc (.cells #[.int .i64 kind, .string (str text), .int .i64 num, .slice ka kids.length kc] 24)) b T) := hP.alloc _
  have HS0 : Hid (St w (w.alloc (.cells #[.int .i64 kind, .string (str text), .int .i64 num, .slice ka kids.length kc] 24))) := St.alloc _ _
  have HN0 : Hid ((w.alloc (.cells #[.int .i64 kind, .string (str text), .int .i64 num, .slice ka kids.length kc] 24)).heap[w.heap.size]? = some (.cells #[.int .i64 kind, .string (str text), .int .i64 num, .slice ka kids.length kc] 24 (0, 0))) := heap_new _ _ _
  have hkn := knowKind_any kind text num ka kids.length kc 1 _ ((hG.below hP.base).below ((Below.refl _ _).alloc (Nat.le_refl _) (.cells #[.int .i64 kind, .string (str text), .int .i64 num, .slice ka kids.length kc] 24))) t1 (by omega)
  have HR := hide hR
  clear hP hv hR hG hTb
  go_enter Tryd.func13, Tryd.ntmps13
  go_wp2_with fail
  go_at_call 29
  refine hkn.mono ?_
  rintro e w1 ⟨⟨hk0, hk, rfl⟩ | ⟨hk, rfl⟩, hb1⟩
  rotate_left
  · exact ⟨rfl, PostP.no (fun h => hk (HIff.out.1 h).1) (HP0.out.below hb1).base⟩
  subst hk0
  have HP1 := hide (HP0.out.below hb1)
  have HS1 := hide (HS0.out.trans (St.below hb1))
  have hn1 := (St.below hb1).node HN0.out
  have HI : Hid (IsUn (.mk 1 text num kids) ↔ ∀ y, y ∈ kids → IsDe y) := ⟨fun h => (HIff.out.1 h).2, fun h => HIff.out.2 ⟨⟨rfl, hk⟩, h⟩⟩
  clear hk hb1 hkn HP0 HS0 HN0
  go_wp2_with fail
  go_loopw [11] (fun i wr => ∃ j : Nat, j ≤ kids.length ∧ i = .int .i64 j ∧ Hid (Pt w0 wr b (T ++ txs ((kids.take j).map shT).flatten)) ∧ Hid (St w wr) ∧ Hid (∀ x, x ∈ kids.take j → IsDe x)) (fun i _ => kids.length - (intOf i).toNat)
  case atStart => exact ⟨0, Nat.zero_le _, rfl, by simpa [Hid, txs] using HP1.out, HS1.out, fun x hx => by simp at hx⟩
  case round =>
    obtain ⟨j, hj, rfl, HPj, HSj, HAj⟩ := hrel
    by_cases hlt : j < kids.length
    · have hlt' : (j : Int) < kids.length := by omega
      have hidx : (0 : Int) ≤ j ∧ (j : Int) < kids.length := by omega
      obtain ⟨g, o, rfl, hg, hcs⟩ := HR.out (fun e => by rw [e] at hlt; simp at hlt)
      obtain ⟨k0, x0, n0, a0, m0, c0, q0, q1, q2, q3, hnd⟩ := hcs j hlt
      have hbz := HPj.out.base
      have e0 := below_cell hbz q0
      have e1 := below_cell hbz q1
      have e2 := below_cell hbz q2
      have e3 := below_cell hbz q3
      have HN := hide hnd
      have HTj : Hid ((txs ((kids.take j).map shT).flatten).length + tb kids[j] ≤ tbL kids) := by
        show _ ≤ _
        have h1 := flatL_tb (kids.take j)
        have h2 := tbL_take hlt
        rw [txs_len]
        omega
      have HNo : Hid (¬ IsDe kids[j] → ¬ ∀ x, x ∈ kids → IsDe x) := fun hn hall => hn (hall _ (List.getElem_mem hlt))
      clear q0 q1 q2 q3 hcs hnd hbz
      have HPa : Hid (Pt w0 (wr.alloc (.cells #[.int .i64 k0, .string x0, .int .i64 n0, .slice a0 m0 c0] 24)) b (T ++ txs ((kids.take j).map shT).flatten)) := HPj.out.alloc _
      have HSa : Hid (St w (wr.alloc (.cells #[.int .i64 k0, .string x0, .int .i64 n0, .slice a0 m0 c0] 24))) := HSj.out.trans (St.alloc _ _)
      have HNa : Hid ((wr.alloc (.cells #[.int .i64 k0, .string x0, .int .i64 n0, .slice a0 m0 c0] 24)).heap[wr.heap.size]? = some (.cells #[.int .i64 k0, .string x0, .int .i64 n0, .slice a0 m0 c0] 24 (0, 0))) := heap_new _ _ _
      go_wp2_with fail
      go_at_call 30
      refine (HIh.out kids[j] (List.getElem_mem hlt) b _ _ _ HPa.out HN.out (by have := HTj.out; simp only [List.length_append]; omega)).mono ?_
      rintro e w9 (⟨hp, rfl, hP9, hS9⟩ | ⟨hp, rfl, hB9⟩)
      · have HP9 : Hid (Pt w0 w9 b (T ++ txs ((kids.take (j + 1)).map shT).flatten)) := by
          show Pt _ _ _ _
          rw [flat_take kids j hlt, txs_app]
          simpa using hP9
        have HS9 := hide (HSa.out.trans hS9)
        have HA9 := hide (all_take hlt HAj.out hp)
        clear hP9 hS9 hp HPa HSa HNa
        go_wp2_with fail
        go_roundw
        case rel => exact ⟨j + 1, by omega, by go_num, HP9, HS9, HA9⟩
        case measure => simp [intOf]; omega
      · exact ⟨rfl, PostP.no (fun h => HNo.out hp (HI.out.1 h)) hB9⟩
    · obtain rfl : j = kids.length := by omega
      have hlt' : ¬ (kids.length : Int) < kids.length := by omega
      have HPe : Hid (Pt w0 wr b (T ++ txs (kids.map shT).flatten)) := by have := HPj.out; rw [List.take_length] at this; exact this
      have HAe : Hid (∀ x, x ∈ kids → IsDe x) := by have := HAj.out; rw [List.take_length] at this; exact this
      clear HPj HAj
      have HFl := hide (flatL_tb kids)
      go_wp2_with fail
      go_end0
      exact PostP.ok (HI.out.2 HAe.out) (HPe.out.app' (by rw [sh_u])) HSj.out
/-- For how many of so many nodes there is room. -/
def rm (n : Nd) (nodes deep : Int) : Int := if (cnt n : Int) ≤ nodes ∧ (dpt n : Int) ≤ deep then nodes - cnt n else -1
theorem rm_le (n : Nd) (nodes deep : Int) (h : nodes ≤ 700) : -1 ≤ rm n nodes deep ∧ rm n nodes deep ≤ 700 := by
  unfold rm
  split <;> omega
theorem dpt_all {l : List Nd} {d : Nat} : dptL l ≤ d ↔ ∀ x, x ∈ l → dpt x ≤ d := by
  induction l with
  | nil => simp [dptL_nil]
  | cons y r ih => rw [dptL_cons]; simp only [List.mem_cons, forall_eq_or_imp]; rw [← ih]; omega
theorem cntL_take {l : List Nd} {j : Nat} (hj : j < l.length) : cntL (l.take (j + 1)) = cntL (l.take j) + cnt l[j] ∧ cntL (l.take j) + cnt l[j] ≤ cntL l := by
  have e1 : l.take (j + 1) = l.take j ++ [l[j]] := List.take_succ_eq_append_getElem hj
  have e2 : l = l.take j ++ l[j] :: l.drop (j + 1) := by rw [← List.drop_eq_getElem_cons hj, List.take_append_drop]
  refine ⟨by rw [e1, cntL_app, cntL_cons, cntL_nil]; omega, ?_⟩
  have : cntL l = cntL (l.take j) + (cnt l[j] + cntL (l.drop (j + 1))) := by
    conv => lhs; rw [e2]
    rw [cntL_app, cntL_cons]
  omega
set_option maxRecDepth 100000 in
set_option maxHeartbeats 800000 in
theorem room_step {w0 : World} (kind : Int) (text : List UInt8) (num : Int) (kids : List Nd)
    (ih : ∀ x, x ∈ kids → ∀ (w : World) (v : Value) (nodes deep : Int), Below w0.heap.size w0 w → NdO w0 x v → -10 ≤ nodes → nodes ≤ 700 → -10 ≤ deep → deep ≤ 20 → Calls Tryd.prog 11 #[v, .int .i64 nodes, .int .i64 deep] w fun e w' => e = .returned (.int .i64 (rm x nodes deep)) ∧ Below w.heap.size w w')
    (w : World) (v : Value) (nodes deep : Int) (hb : Below w0.heap.size w0 w) (hv : NdO w0 (.mk kind text num kids) v) (a1 : -10 ≤ nodes) (a2 : nodes ≤ 700) (a3 : -10 ≤ deep) (a4 : deep ≤ 20) :
    Calls Tryd.prog 11 #[v, .int .i64 nodes, .int .i64 deep] w fun e w' => e = .returned (.int .i64 (rm (.mk kind text num kids) nodes deep)) ∧ Below w.heap.size w w' := by
  obtain ⟨ka, kc, rfl, t1, n1, n2, l1, l2, hR⟩ := hv.part
  have hB0 : Below w.heap.size w (w.alloc (.cells #[.int .i64 kind, .string (str text), .int .i64 num, .slice ka kids.length kc] 24)) := (Below.refl _ _).alloc (Nat.le_refl _) _
  have hrm : rm (.mk kind text num kids) nodes deep = if (cntL kids : Int) + 1 ≤ nodes ∧ (dptL kids : Int) + 1 ≤ deep then nodes - (cntL kids + 1) else -1 := by
    unfold rm
    rw [cnt_mk, dpt_mk]
    simp
  by_cases c1 : nodes < 1
  · have HR1 : Hid (rm (.mk kind text num kids) nodes deep = -1) := by show _ = _; rw [hrm, if_neg (by omega)]
    have HB := hide hB0
    clear hrm hB0 hR hv ih
    go_enter Tryd.func11, Tryd.ntmps11
    go_wp2_with fail
    go_ret
    exact ⟨by rw [HR1.out]; rfl, HB.out⟩
  by_cases c2 : deep < 1
  · have HR1 : Hid (rm (.mk kind text num kids) nodes deep = -1) := by show _ = _; rw [hrm, if_neg (by omega)]
    have HB := hide hB0
    clear hrm hB0 hR hv ih
    go_enter Tryd.func11, Tryd.ntmps11
    go_wp2_with fail
    go_ret
    exact ⟨by rw [HR1.out]; rfl, HB.out⟩
  have hw1 : IntKind.i64.wrap (nodes - 1) = nodes - 1 := by rw [IntKind.wrap_i64]; omega
  have hw2 : IntKind.i64.wrap (deep - 1) = deep - 1 := by rw [IntKind.wrap_i64]; omega
  have HR := hide hR
  have HIh := hide ih
  have HRm := hide hrm
  have hlen : (kids.length : Int) ≤ 9223372036854775807 := by omega
  have HBa := hide (hb.trans (hB0.mono hb.size))
  have HB0 := hide hB0
  have hx0 : ∀ o, (w.alloc (.cells #[.int .i64 kind, .string (str text), .int .i64 num, .slice ka kids.length kc] 24)).cell? ⟨w.heap.size, o, none⟩ = (#[Value.int .i64 kind, .string (str text), .int .i64 num, .slice ka kids.length kc])[o]? := fun o => World.cell?_alloc_at _ _ _ _ rfl
  clear hv hR ih hrm hB0
  generalize hres : rm (.mk kind text num kids) nodes deep = res at *
  clear hres
  go_enter Tryd.func11, Tryd.ntmps11
  go_wp2_with fail
  have hz0 : (w.alloc (.cells #[.int .i64 kind, .string (str text), .int .i64 num, .slice ka kids.length kc] 24)).heap.size = w.heap.size + 1 := by simp
  clear hx0
  generalize w.alloc (.cells #[.int .i64 kind, .string (str text), .int .i64 num, .slice ka kids.length kc] 24) = W at *
  have HW : Hid (∀ w', Below W.heap.size W w' → Below w.heap.size w w' ∧ Below w0.heap.size w0 w') := fun w' hw => ⟨HB0.out.trans (hw.mono (by omega)), HBa.out.trans (hw.mono HBa.out.size)⟩
  clear hz0
  go_loopw [1, 20] (fun nd i wr => ∃ (j : Nat) (m : Int), j ≤ kids.length ∧ nd = .int .i64 m ∧ i = .int .i64 j ∧ 0 ≤ m ∧ m ≤ 700 ∧ Hid (m = nodes - 1 - cntL (kids.take j)) ∧ Hid (∀ x, x ∈ kids.take j → (dpt x : Int) ≤ deep - 1) ∧ Hid (Below W.heap.size W wr)) (fun _ i _ => kids.length - (intOf i).toNat)
  case atStart => exact ⟨0, nodes - 1, Nat.zero_le _, rfl, rfl, by omega, by omega, by show _ = _; simp [cntL_nil], fun x hx => by simp at hx, Below.refl _ _⟩
  case round =>
    obtain ⟨j, m, hj, rfl, rfl, m0, m1, HM, HD, HB⟩ := hrel
    by_cases hlt : j < kids.length
    · have hlt' : (j : Int) < kids.length := by omega
      have hidx : (0 : Int) ≤ j ∧ (j : Int) < kids.length := by omega
      obtain ⟨g, o, rfl, hg, hcs⟩ := HR.out (fun e => by rw [e] at hlt; simp at hlt)
      obtain ⟨k0, x0, n0, a0, m9, c0, q0, q1, q2, q3, hnd⟩ := hcs j hlt
      have hbz := (HW.out _ HB.out).2
      have e0 := below_cell hbz q0
      have e1 := below_cell hbz q1
      have e2 := below_cell hbz q2
      have e3 := below_cell hbz q3
      have HBk : Hid (Below W.heap.size W (wr.alloc (.cells #[.int .i64 k0, .string x0, .int .i64 n0, .slice a0 m9 c0] 24))) := HB.out.alloc HB.out.size _
      have hcal := HIh.out kids[j] (List.getElem_mem hlt) _ _ m (deep - 1) (HW.out _ HBk.out).2 hnd (by omega) (by omega) (by omega) (by omega)
      have hct := cntL_take hlt
      have hrl := rm_le kids[j] m (deep - 1) m1
      have HR9 : Hid (rm kids[j] m (deep - 1) = if (cnt kids[j] : Int) ≤ m ∧ (dpt kids[j] : Int) ≤ deep - 1 then m - cnt kids[j] else -1) := rfl
      have HCt := hide hct
      clear q0 q1 q2 q3 hcs hnd hbz hct
      generalize hrr : rm kids[j] m (deep - 1) = rr at *
      clear hrr
      go_wp2_with fail
      go_at_call 11
      refine hcal.mono ?_
      rintro e w9 ⟨rfl, hb9⟩
      have HB9 : Hid (Below W.heap.size W w9) := HBk.out.trans (hb9.mono HBk.out.size)
      clear hb9 hcal
      by_cases hr0 : rr < 0
      · have HRe : Hid (res = rr) := by
          show _ = _
          have h9 := HR9.out
          split at h9
          · omega
          · rename_i hn
            rw [HRm.out, if_neg, h9]
            rintro ⟨u1, u2⟩
            apply hn
            have := HM.out
            have := HCt.out
            have h3 := dpt_all (l := kids) (d := dptL kids) |>.1 (Nat.le_refl _) _ (List.getElem_mem hlt)
            exact ⟨by omega, by omega⟩
        clear HR9
        go_wp2_with fail
        go_ret
        exact ⟨by rw [HRe.out]; rfl, (HW.out _ HB9.out).1⟩
      · have HM9 : Hid (rr = nodes - 1 - cntL (kids.take (j + 1))) := by
          show _ = _
          have h9 := HR9.out
          have := HM.out
          have := HCt.out
          split at h9 <;> omega
        have HD9 : Hid (∀ x, x ∈ kids.take (j + 1) → (dpt x : Int) ≤ deep - 1) := by
          have h9 := HR9.out
          split at h9
          · rename_i hn
            exact all_take hlt HD.out hn.2
          · omega
        have hr1 : ¬ rr < 0 := hr0
        clear HR9
        go_wp2_with fail
        go_roundw
        case rel => exact ⟨j + 1, rr, by omega, rfl, by go_num, by omega, by omega, HM9, HD9, HB9⟩
        case measure => simp [intOf]; omega
    · obtain rfl : j = kids.length := by omega
      have hlt' : ¬ (kids.length : Int) < kids.length := by omega
      have HRe : Hid (res = m) := by
        show _ = _
        have h1 := HM.out
        have h2 := HD.out
        rw [List.take_length] at h1 h2
        rw [HRm.out, if_pos]
        · omega
        · refine ⟨by omega, ?_⟩
          have h3 : dptL kids ≤ (deep - 1).toNat := dpt_all.2 fun x hx => by have := h2 x hx; omega
          omega
      go_wp2_with fail
      go_ret
      exact ⟨by rw [HRe.out]; rfl, (HW.out _ HB.out).1⟩
theorem room_any {w0 : World} : ∀ (x : Nd) (w : World) (v : Value) (nodes deep : Int), Below w0.heap.size w0 w → NdO w0 x v → -10 ≤ nodes → nodes ≤ 700 → -10 ≤ deep → deep ≤ 20 → Calls Tryd.prog 11 #[v, .int .i64 nodes, .int .i64 deep] w fun e w' => e = .returned (.int .i64 (rm x nodes deep)) ∧ Below w.heap.size w w' := by
  refine Nd.ind fun k t v kids ih => ?_
  exact room_step k t v kids ih
/-- Does a node fit? -/
def fitB (n : Nd) : Bool := decide (cnt n ≤ 700 ∧ dpt n ≤ 16)
set_option maxRecDepth 100000 in
set_option maxHeartbeats 800000 in
theorem fits_any {w0 w : World} (hb : Below w0.heap.size w0 w) (n : Nd) (v : Value) (hv : NdO w0 n v) : Calls Tryd.prog 6 #[v] w fun e w' => e = .returned (.bool (fitB n)) ∧ Below w.heap.size w w' := by
  have HV := hide hv
  obtain ⟨kind, text, num, ka, kn, kc, rfl⟩ := hv.form
  have hB0 : Below w.heap.size w (w.alloc (.cells #[.int .i64 kind, .string text, .int .i64 num, .slice ka kn kc] 24)) := (Below.refl _ _).alloc (Nat.le_refl _) _
  have hrm := room_any n _ _ 700 16 (hb.trans (hB0.mono hb.size)) hv (by decide) (by decide) (by decide) (by decide)
  have hF : fitB n = decide (0 ≤ rm n 700 16) := by
    unfold fitB rm
    by_cases h : cnt n ≤ 700 ∧ dpt n ≤ 16
    · rw [if_pos (by omega), decide_eq_true h, decide_eq_true (by omega)]
    · rw [if_neg (by omega), decide_eq_false h, decide_eq_false (by omega)]
  rw [hF]
  have HB0 := hide hB0
  clear hv hB0 hF hb
  generalize rm n 700 16 = rr at *
  go_enter Tryd.func6, Tryd.ntmps6
  go_wp2_with fail
  go_at_call 11
  refine hrm.mono ?_
  rintro e w1 ⟨rfl, hb1⟩
  have HB1 := hide (HB0.out.trans (hb1.mono (by simp)))
  clear hb1 hrm HB0
  go_wp2_with fail
  go_ret
  exact ⟨rfl, HB1.out⟩
end Go.Proofs.YthcfianhdkolhaaDoor.T
