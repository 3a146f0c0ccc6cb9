/- The contracts of (*printer).number and value. -/
import Derived.Test.YthcfianhdkolhaaDoorPrC
import Derived.Test.YthcfianhdkolhaaDoorShelf
import Derived.Lib.AppendIntMem
import Derived.Lib.ItoaLen
namespace Go.Proofs.YthcfianhdkolhaaDoor.T
open Go.RowKit Go.Proofs.YthcfianhdkolhaaDoor.S
set_option linter.unusedVariables false
set_option linter.unusedSimpArgs false

theorem dec_lib (n : Nat) : Lib.decDigits n = decN n := by
  induction n using Nat.strongRecOn with
  | ind n ih =>
    by_cases h : n < 10
    · rw [Lib.decDigits_one h, decN, dif_pos h]
    · rw [Lib.decDigits, dif_neg h, decN, dif_neg h, ih (n / 10) (by omega)]
theorem tab_global : Tryd.prog.globalNamed "internal/strconv.uint64pow10" = some 2 := by kernel_rfl
abbrev TabW (w : World) : Prop := Lib.TabIs Tryd.prog w "internal/strconv.uint64pow10" .u64 Lib.pow10Tab
theorem tab_below {w w' : World} (h : TabW w) (hb : Below w.heap.size w w') : TabW w' := by
  unfold TabW Lib.TabIs World.var? at *
  rw [tab_global] at *
  simp only [Option.bind_some] at *
  rcases Nat.lt_or_ge 2 w.heap.size with hl | hl
  · rw [hb.block 2 hl]
    exact h
  · simp [Array.getElem?_eq_none hl] at h
theorem sh_n21 (t : List UInt8) (v : Nat) (l : List Nd) : shT (.mk 21 t (v : Int) l) = [⟨2, decN v⟩] := by
  rw [shT_mk]; simp [shK, numT]
theorem sh_n22 (t : List UInt8) (v : Nat) (l : List Nd) : shT (.mk 22 t (v : Int) l) = [⟨3, decN v⟩] := by
  rw [shT_mk]; simp [shK, numT]
theorem dec_len20 (n : Nat) (h : n ≤ 9223372036854775807) : (decN n).length ≤ 21 := by
  rw [← dec_lib, ← Lib.itoa_nonneg]
  exact Lib.itoa_length_le _ (by omega) (by omega)
theorem St.setNew {w w1 : World} (h : St w w1) {q o : Nat} {u : Value} (hq : w.heap.size ≤ q) : St w (w1.setCell ⟨q, o, none⟩ u) := ⟨by have := h.size; simpa [World.setCell] using this, fun k cur t z h9 h36 hk => (Below.heap_setCell _ _ _ k (fun e => by
  have e' : k = q := e
  have := (Array.getElem?_eq_some_iff.1 hk).1
  omega)).trans (h.keeps k cur t z h9 h36 hk)⟩
theorem Pt.setNode {w0 w : World} {b : Nat} {T : List (List UInt8)} (h : Pt w0 w b T) {q : Nat} {cur : Array Value} (hq : w.heap[q]? = some (.cells cur 24 (0, 0))) (hl : w0.heap.size ≤ q) {o : Nat} (u : Value) : Pt w0 (w.setCell ⟨q, o, none⟩ u) b T := by
  obtain ⟨v, h1, h2⟩ := h.blk
  have hbq : b ≠ q := fun e => by rw [e, hq] at h1; simp at h1
  refine ⟨h.low, h.base.setCell hl _, v, (Below.heap_setCell _ _ _ b (fun e => hbq e)).trans h1, ownsRow_setCell_other h2 (fun e => ?_) _⟩
  rcases h2.2 with ⟨rfl, _⟩ | ⟨g, cap, cu, rfl, _, hh, _⟩
  · simp [Value.ownBlock] at e
  · have e' : g = q := by simpa [Value.ownBlock] using e
    rw [e', hq] at hh
    simp at hh
/-- A number that is not below 0. -/
def NumP (k : Int) (t : List UInt8) (v : Int) (n : Nat) : Prop := knB k t v n = true ∧ (k = 21 ∨ k = 22)
set_option maxRecDepth 100000 in
set_option maxHeartbeats 800000 in
theorem number_any {w0 : World} (hG : Gl w0) (hTb : TabW w0) {w : World} {b : Nat} {T : List (List UInt8)} (hP : Pt w0 w b T) (kind : Int) (text : List UInt8) (num : Int) (kids : List Nd) (ka : Option Addr) (kc : Nat) (t1 : text.length ≤ 9223372036854775807) (n1 : -9223372036854775808 ≤ num) (n2 : num ≤ 9223372036854775807) (l1 : kids.length ≤ 9223372036854775807) (hT : T.length + 9 ≤ 1000000000000) :
    Calls Tryd.prog 54 #[.pointer (some ⟨b, 0, none⟩), .agg #[.int .i64 kind, .string (str text), .int .i64 num, .slice ka kids.length kc]] w (PostP (NumP kind text num kids.length) w0 w b T (shT (.mk kind text num kids))) := by
  have HP0 : Hid (Pt w0 (w.alloc (.cells #[.int .i64 kind, .string (str text), .int .i64 num, .slice ka kids.length kc] 24)) b T) := hP.alloc _
  have HS0 : Hid (St w (w.alloc (.cells #[.int .i64 kind, .string (str text), .int .i64 num, .slice ka kids.length kc] 24))) := St.alloc _ _
  have HN0 : Hid ((w.alloc (.cells #[.int .i64 kind, .string (str text), .int .i64 num, .slice ka kids.length kc] 24)).heap[w.heap.size]? = some (.cells #[.int .i64 kind, .string (str text), .int .i64 num, .slice ka kids.length kc] 24 (0, 0))) := heap_new _ _ _
  have hkn := know_any kind text num ka kids.length kc _ ((hG.below hP.base).below ((Below.refl _ _).alloc (Nat.le_refl _) (.cells #[.int .i64 kind, .string (str text), .int .i64 num, .slice ka kids.length kc] 24))) t1 (by omega)
  have HFm : Hid (∀ w', Below w0.heap.size w0 w' → Calls Tryd.prog 62 #[.int .i64 num, .int .i64 10] w' fun e w'' => e = .returned (.string ⟨(Lib.itoa num).toArray⟩) ∧ Below w'.heap.size w' w'') := fun w' hb => (Tryd.strconv_FormatInt_10 num n1 n2 w' (tab_below hTb hb)).mono (fun e w'' ⟨h1, k, os, h2⟩ => ⟨h1, by rw [h2]; exact Lib.below_grow _ _ (Nat.le_refl _) _ _⟩)
  clear hP hG hTb
  go_enter Tryd.func54, Tryd.ntmps54
  go_wp2_with fail
  go_at_call 40
  refine hkn.mono ?_
  rintro e w1 ⟨⟨hk, rfl⟩ | ⟨hk, rfl⟩, hb1⟩
  rotate_left
  · exact ⟨rfl, PostP.no (fun h => by rw [h.1] at hk; cases hk) (HP0.out.below hb1).base⟩
  have HK := hide hk
  have HP1 := hide (HP0.out.below hb1)
  have HS1 := hide (HS0.out.trans (St.below hb1))
  have hn1 := (St.below hb1).node HN0.out
  have HN1 : Hid (w1.heap[w.heap.size]? = some (.cells #[.int .i64 kind, .string (str text), .int .i64 num, .slice ka kids.length kc] 24 (0, 0))) := ((St.below hb1).nodes _ _ _ HN0.out).trans HN0.out
  obtain ⟨u, rfl⟩ : ∃ u : Nat, num = u := ⟨num.toNat, by have := (kn_iff.1 hk).2.2.1; omega⟩
  have hst : (⟨(Lib.itoa (u : Int)).toArray⟩ : ByteArray) = str (decN u) := by rw [Lib.itoa_nonneg, dec_lib]; rfl
  rw [hst] at HFm
  have hd21 : (str (decN u)).size ≤ 21 := dec_len20 u (by omega)
  clear hk hb1 hkn HP0 HS0 HN0 hst
  generalize hds : str (decN u) = ds at *
  have HDs := hide hds
  clear hds
  go_wp2_with fail
  go_at_call 62
  refine (HFm.out _ HP1.out.base).mono ?_
  rintro e w2 ⟨rfl, hb2⟩
  have HP2 := hide (HP1.out.below hb2)
  have HS2 := hide (HS1.out.trans (St.below hb2))
  have hn2 := (St.below hb2).node HN1.out
  clear hb2 hn1 HFm
  by_cases k22 : kind = 22
  · subst k22
    have hds2 : (ds ++ (⟨#[76]⟩ : ByteArray)) = str (decN u ++ [76]) := by
      rw [← HDs.out]
      apply ByteArray.ext
      apply Array.toList_inj.1
      simp [str]
    go_wp2_with fail
    go_at_call 42
    refine (add_new HP2.out [decN u ++ [76]] _ (by first | rfl | (rw [hds2]; rfl)) 1 rfl (by omega) (by omega) _ (by simp)).mono ?_
    rintro e w3 ⟨rfl, hP3, hS3⟩
    have HP3 := hide hP3
    have HS3 := hide (HS2.out.trans hS3)
    clear hP3 hS3
    go_wp2_with fail
    go_end0
    exact PostP.ok ⟨HK.out, Or.inr rfl⟩ (HP3.out.app (by rw [sh_n22]; rfl)) HS3.out
  have k22' : (kind == 22) = false := by simpa using k22
  by_cases k21 : kind = 21
  · subst k21
    clear k22 k22'
    go_wp2_with fail
    go_at_call 42
    refine (add_new HP2.out [decN u] _ (by rw [← HDs.out]; rfl) 1 rfl (by omega) (by omega) _ (by simp)).mono ?_
    rintro e w3 ⟨rfl, hP3, hS3⟩
    have HP3 := hide hP3
    have HS3 := hide (HS2.out.trans hS3)
    clear hP3 hS3
    go_wp2_with fail
    go_end0
    exact PostP.ok ⟨HK.out, Or.inl rfl⟩ (HP3.out.app (by rw [sh_n21]; rfl)) HS3.out
  have k21' : (kind == 21) = false := by simpa using k21
  have HNo : Hid (¬ NumP kind text u kids.length) := fun h => by have := h.2; omega
  clear k21 k22
  go_wp2_with fail
  exact ⟨rfl, PostP.no HNo.out HP2.out.base⟩
/-- A global's number: below 0, too. -/
def NumV (n : Nd) : Prop := ∃ v, (n = .mk 21 [] v [] ∧ -2147483647 ≤ v ∧ v ≤ 2147483647) ∨ (n = .mk 22 [] v [] ∧ -9223372036854775807 ≤ v ∧ v ≤ 9223372036854775807)
theorem num_kn {k : Int} {t : List UInt8} {v : Int} {kids : List Nd} (h0 : 0 ≤ v) (h1 : v ≤ 9223372036854775807) : NumP k t v kids.length ↔ NumV (.mk k t v kids) := by
  constructor
  · rintro ⟨hk, rfl | rfl⟩
    · obtain ⟨_, h2, h3, h4, h5, h6⟩ := kn_iff.1 hk
      have h6' : (kids.length : Int) ≤ 0 := h6
      have h4' : v ≤ 2147483647 := h4
      obtain rfl := nil_of h6'
      obtain rfl := txt_f h2
      exact ⟨v, Or.inl ⟨rfl, by omega, h4'⟩⟩
    · obtain ⟨_, h2, h3, h4, h5, h6⟩ := kn_iff.1 hk
      have h6' : (kids.length : Int) ≤ 0 := h6
      obtain rfl := nil_of h6'
      obtain rfl := txt_f h2
      exact ⟨v, Or.inr ⟨rfl, by omega, h1⟩⟩
  · rintro ⟨u, ⟨e, e1, e2⟩ | ⟨e, e1, e2⟩⟩
    · injection e with q1 q2 q3 q4
      subst q1 q2 q3 q4
      exact ⟨kn_iff.2 ⟨by decide, rfl, h0, e2, by decide, by decide⟩, Or.inl rfl⟩
    · injection e with q1 q2 q3 q4
      subst q1 q2 q3 q4
      exact ⟨kn_iff.2 ⟨by decide, rfl, h0, e2, by decide, by decide⟩, Or.inr rfl⟩
theorem num_neg {k : Int} {t : List UInt8} {v : Int} {kids : List Nd} (h0 : v < 0) (h1 : -9223372036854775807 ≤ v) : NumV (.mk k t (-v) kids) ↔ NumV (.mk k t v kids) := by
  constructor
  · rintro ⟨u, ⟨e, e1, e2⟩ | ⟨e, e1, e2⟩⟩
    · injection e with q1 q2 q3 q4
      subst q1 q2 q4
      exact ⟨v, Or.inl ⟨rfl, by omega, by omega⟩⟩
    · injection e with q1 q2 q3 q4
      subst q1 q2 q4
      exact ⟨v, Or.inr ⟨rfl, by omega, by omega⟩⟩
  · rintro ⟨u, ⟨e, e1, e2⟩ | ⟨e, e1, e2⟩⟩
    · injection e with q1 q2 q3 q4
      subst q1 q2 q4
      exact ⟨-v, Or.inl ⟨rfl, by omega, by omega⟩⟩
    · injection e with q1 q2 q3 q4
      subst q1 q2 q4
      exact ⟨-v, Or.inr ⟨rfl, by omega, by omega⟩⟩
theorem sh_neg {k : Int} {t : List UInt8} {v : Int} {kids : List Nd} (h0 : v < 0) (hk : k = 21 ∨ k = 22) : shT (.mk k t v kids) = sg sMINUS :: shT (.mk k t (-v) kids) := by
  have h1 : ¬ -v < 0 := by omega
  rcases hk with rfl | rfl
  · rw [shT_mk, shT_mk]; simp [shK, numT, h0, h1]; omega
  · rw [shT_mk, shT_mk]; simp [shK, numT, h0, h1]; omega
set_option maxRecDepth 100000 in
set_option maxHeartbeats 800000 in
theorem value_any {w0 : World} (hG : Gl w0) (hTb : TabW w0) {w : World} {b : Nat} {T : List (List UInt8)} (hP : Pt w0 w b T) (n : Nd) (v : Value) (hv : NdO w0 n v) (hT : T.length + 10 ≤ 1000000000000) :
    Calls Tryd.prog 46 #[.pointer (some ⟨b, 0, none⟩), v] w (PostP (NumV n) w0 w b T (shT n)) := by
  obtain ⟨kind, text, num, kids⟩ := n
  obtain ⟨ka, kc, rfl, t1, n1, n2, l1, l2, hR⟩ := hv.part
  have HP0 : Hid (Pt w0 (w.alloc (.cells #[.int .i64 kind, .string (str text), .int .i64 num, .slice ka kids.length kc] 24)) b T) := hP.alloc _
  have HS0 : Hid (St w (w.alloc (.cells #[.int .i64 kind, .string (str text), .int .i64 num, .slice ka kids.length kc] 24))) := St.alloc _ _
  have HN0 : Hid ((w.alloc (.cells #[.int .i64 kind, .string (str text), .int .i64 num, .slice ka kids.length kc] 24)).heap[w.heap.size]? = some (.cells #[.int .i64 kind, .string (str text), .int .i64 num, .slice ka kids.length kc] 24 (0, 0))) := heap_new _ _ _
  have HNb : Hid (∀ nm : Int, -9223372036854775808 ≤ nm → nm ≤ 9223372036854775807 → ∀ w' T', Pt w0 w' b T' → T'.length + 9 ≤ 1000000000000 → Calls Tryd.prog 54 #[.pointer (some ⟨b, 0, none⟩), .agg #[.int .i64 kind, .string (str text), .int .i64 nm, .slice ka kids.length kc]] w' (PostP (NumP kind text nm kids.length) w0 w' b T' (shT (.mk kind text nm kids)))) := fun nm h1 h2 w' T' hp ht => number_any hG hTb hp kind text nm kids ka kc t1 h1 h2 (by omega) ht
  have HLow := hide hP.base.size
  clear hP hG hTb hR hv
  by_cases h0 : num < 0
  rotate_left
  · have hnn : ¬ num < 0 := h0
    go_enter Tryd.func46, Tryd.ntmps46
    go_wp2_with fail
    go_at_call 54
    refine (HNb.out num n1 n2 _ T HP0.out (by omega)).mono ?_
    rintro e w1 (⟨hp, rfl, hP1, hS1⟩ | ⟨hp, rfl, hB1⟩)
    rotate_left
    · exact ⟨rfl, PostP.no (fun h => hp ((num_kn (by omega) n2).2 h)) hB1⟩
    have HA := hide ((num_kn (by omega) n2).1 hp)
    have HP1 := hide hP1
    have HS1 := hide (HS0.out.trans hS1)
    clear hp hP1 hS1
    go_wp2_with fail
    go_end0
    exact PostP.ok HA.out HP1.out HS1.out
  go_enter Tryd.func46, Tryd.ntmps46
  go_wp2_with fail
  go_at_call 42
  refine (add_new HP0.out [sMINUS] _ rfl 1 rfl (by omega) (by (try simp only [List.length_append, List.length_cons, List.length_nil, txs_len]); omega) _ (by simp)).mono ?_
  rintro e w1 ⟨rfl, hP1, hS1⟩
  have HP1 := hide hP1
  have HS1 := hide (HS0.out.trans hS1)
  have hn1 := hS1.node HN0.out
  have HN1 := hide ((hS1.nodes _ _ _ HN0.out).trans HN0.out)
  clear hP1 hS1
  have hfz := frozen_at HN1.out
  by_cases hmin : num = -9223372036854775808
  · have hwn : IntKind.i64.wrap (-num) = num := by rw [hmin]; decide
    have HPs : Hid (Pt w0 (w1.setCell ⟨w.heap.size, 2, none⟩ (.int .i64 num)) b (T ++ [sMINUS])) := HP1.out.setNode HN1.out HLow.out _
    have HM := hide hmin
    clear hmin
    go_wp2_with fail
    go_at_call 54
    refine (HNb.out num n1 n2 _ _ HPs.out (by rw [List.length_append]; simp only [List.length_cons, List.length_nil]; omega)).mono ?_
    rintro e w2 (⟨hp, rfl, hP2, hS2⟩ | ⟨hp, rfl, hB2⟩)
    · exact absurd (kn_iff.1 hp.1).2.2.1 (by omega)
    · refine ⟨rfl, PostP.no (fun h => ?_) hB2⟩
      have hm := HM.out
      obtain ⟨u, ⟨e, e1, e2⟩ | ⟨e, e1, e2⟩⟩ := h <;> (injection e with q1 q2 q3 q4; omega)
  have hwn : IntKind.i64.wrap (-num) = -num := by rw [IntKind.wrap_i64]; omega
  have HPs : Hid (Pt w0 (w1.setCell ⟨w.heap.size, 2, none⟩ (.int .i64 (-num))) b (T ++ [sMINUS])) := HP1.out.setNode HN1.out HLow.out _
  have HSs : Hid (St w (w1.setCell ⟨w.heap.size, 2, none⟩ (.int .i64 (-num)))) := HS1.out.setNew (Nat.le_refl _)
  go_wp2_with fail
  go_at_call 54
  refine (HNb.out (-num) (by omega) (by omega) _ _ HPs.out (by rw [List.length_append]; simp only [List.length_cons, List.length_nil]; omega)).mono ?_
  rintro e w2 (⟨hp, rfl, hP2, hS2⟩ | ⟨hp, rfl, hB2⟩)
  rotate_left
  · exact ⟨rfl, PostP.no (fun h => hp ((num_kn (by omega) (by omega)).2 ((num_neg h0 (by omega)).2 h))) hB2⟩
  have hkd := hp.2
  have HA := hide ((num_neg h0 (by omega)).1 ((num_kn (by omega) (by omega)).1 hp))
  have HP2 : Hid (Pt w0 w2 b (T ++ txs (shT (.mk kind text num kids)))) := by
    show Pt _ _ _ _
    rw [sh_neg h0 hkd, txs_cons, raw_sg]
    simpa using hP2
  have HS2 := hide (HSs.out.trans hS2)
  clear hp hP2 hS2
  go_wp2_with fail
  go_end0
  exact PostP.ok HA.out HP2.out HS2.out
end Go.Proofs.YthcfianhdkolhaaDoor.T
