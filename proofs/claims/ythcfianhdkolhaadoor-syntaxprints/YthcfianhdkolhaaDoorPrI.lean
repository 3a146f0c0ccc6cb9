/- The contracts of (*printer).block and stat. -/
import Derived.Test.YthcfianhdkolhaaDoorPrH
namespace Go.Proofs.YthcfianhdkolhaaDoor.T
open Go.RowKit Go.Proofs.YthcfianhdkolhaaDoor.S
set_option linter.unusedVariables false
set_option linter.unusedSimpArgs false

/-- What stat is to leave. -/
def StN (w0 : World) (n : Nd) : Prop := ∀ (b : Nat) (w : World) (T : List (List UInt8)) (v : Value), Pt w0 w b T → NdO w0 n v → T.length + tb n ≤ 1000000000000 → Calls Tryd.prog 55 #[.pointer (some ⟨b, 0, none⟩), v] w (PostP (IsSt n) w0 w b T (shT n))
theorem bl_kn {k : Int} {t : List UInt8} {v : Int} {kids : List Nd} (hn : kids.length ≤ 700) : IsBl (.mk k t v kids) ↔ (k = 13 ∧ knB k t v kids.length = true) ∧ ∀ y, y ∈ kids → IsSt y := by
  constructor
  · rintro ⟨l, e, hl⟩
    injection e with e1 e2 e3 e4
    subst e1 e2 e3 e4
    exact ⟨⟨rfl, kn_iff.2 ⟨by decide, rfl, by decide, by decide, (by show (0 : Int) ≤ _; omega), (by show _ ≤ (700 : Int); omega)⟩⟩, hl⟩
  · rintro ⟨⟨rfl, hk⟩, hl⟩
    obtain ⟨rfl, rfl⟩ := kn_bare (k := 13) (by rfl) hk
    exact ⟨kids, rfl, hl⟩
theorem sh_block (t : List UInt8) (v : Int) (l : List Nd) : shT (.mk 13 t v l) = [sg sLB] ++ (l.map shT).flatten ++ [sg sRB] := by rw [shT_mk]; simp [shK]
theorem flat_take (l : List Nd) (j : Nat) (hj : j < l.length) : ((l.take (j + 1)).map shT).flatten = ((l.take j).map shT).flatten ++ shT l[j] := by rw [take_succ_map l j hj]; simp
set_option maxRecDepth 100000 in
set_option maxHeartbeats 800000 in
theorem block_of {w0 : World} (hG : Gl w0) (n : Nd) (ih : ∀ x, x ∈ n.kids → StN w0 x) {w : World} {b : Nat} {T : List (List UInt8)} (hP : Pt w0 w b T) (v : Value) (hv : NdO w0 n v) (hc : cnt n ≤ 700) (hT : T.length + tb n ≤ 1000000000000) :
    Calls Tryd.prog 47 #[.pointer (some ⟨b, 0, none⟩), v] w (PostP (IsBl n) w0 w b T (shT n)) := by
  obtain ⟨kind, text, num, kids⟩ := n
  obtain ⟨ka, kc, rfl, t1, n1, n2, l1, l2, hR⟩ := hv.part
  rw [cnt_mk] at hc
  rw [tb_mk] at hT
  have hl7 : kids.length ≤ 700 := Nat.le_trans (len_cnt kids) (by omega)
  have HIff := hide (bl_kn (k := kind) (t := text) (v := num) hl7)
  have HIh : Hid (∀ x, x ∈ kids → StN w0 x) := ih
  have HP0 : Hid (Pt w0 (w.alloc (.cells #[.int .i64 kind, .string (str text), .int .i64 num, .slice ka kids.length kc] 24)) b T) := hP.alloc _
  have HS0 : Hid (St w (w.alloc (.cells #[.int .i64 kind, .string (str text), .int .i64 num, .slice ka kids.length kc] 24))) := St.alloc _ _
  have HN0 : Hid ((w.alloc (.cells #[.int .i64 kind, .string (str text), .int .i64 num, .slice ka kids.length kc] 24)).heap[w.heap.size]? = some (.cells #[.int .i64 kind, .string (str text), .int .i64 num, .slice ka kids.length kc] 24 (0, 0))) := heap_new _ _ _
  have hkn := knowKind_any kind text num ka kids.length kc 13 _ ((hG.below hP.base).below ((Below.refl _ _).alloc (Nat.le_refl _) (.cells #[.int .i64 kind, .string (str text), .int .i64 num, .slice ka kids.length kc] 24))) t1 (by omega)
  have HR := hide hR
  clear hP hv hR hG ih
  go_enter Tryd.func47, Tryd.ntmps47
  go_wp2_with fail
  go_at_call 29
  refine hkn.mono ?_
  rintro e w1 ⟨⟨hk0, hk, rfl⟩ | ⟨hk, rfl⟩, hb1⟩
  rotate_left
  · exact ⟨rfl, PostP.no (fun h => hk (HIff.out.1 h).1) (HP0.out.below hb1).base⟩
  subst hk0
  have HP1 := hide (HP0.out.below hb1)
  have HS1 := hide (HS0.out.trans (St.below hb1))
  have hn1 := (St.below hb1).node HN0.out
  have HN1 : Hid (w1.heap[w.heap.size]? = some (.cells #[.int .i64 13, .string (str text), .int .i64 num, .slice ka kids.length kc] 24 (0, 0))) := ((St.below hb1).nodes _ _ _ HN0.out).trans HN0.out
  have HI : Hid (IsBl (.mk 13 text num kids) ↔ ∀ y, y ∈ kids → IsSt y) := ⟨fun h => (HIff.out.1 h).2, fun h => HIff.out.2 ⟨⟨rfl, hk⟩, h⟩⟩
  clear hk hb1 hkn HP0 HS0 HN0
  go_wp2_with fail
  go_at_call 42
  refine (add_new HP1.out [sLB] _ rfl 1 rfl (by omega) (by (try simp only [List.length_append, List.length_cons, List.length_nil, txs_len]); omega) _ (by simp)).mono ?_
  rintro e w2 ⟨rfl, hP2, hS2⟩
  have HP2 := hide hP2
  have HS2 := hide (HS1.out.trans hS2)
  have hn2 := hS2.node HN1.out
  have HN2 := hide ((hS2.nodes _ _ _ HN1.out).trans HN1.out)
  clear hP2 hS2 hn1
  go_wp2_with fail
  go_loopw [14] (fun i wr => ∃ j : Nat, j ≤ kids.length ∧ i = .int .i64 j ∧ Hid (Pt w0 wr b ((T ++ [sLB]) ++ txs ((kids.take j).map shT).flatten)) ∧ Hid (St w wr) ∧ Hid (∀ x, x ∈ kids.take j → IsSt x)) (fun i _ => kids.length - (intOf i).toNat)
  case atStart => exact ⟨0, Nat.zero_le _, rfl, by simpa [Hid, txs] using HP2.out, HS2.out, fun x hx => by simp at hx⟩
  case round =>
    obtain ⟨j, hj, rfl, HPj, HSj, HAj⟩ := hrel
    by_cases hlt : j < kids.length
    · have hlt' : (j : Int) < kids.length := by omega
      have hidx : (0 : Int) ≤ j ∧ (j : Int) < kids.length := by omega
      obtain ⟨g, o, rfl, hg, hcs⟩ := HR.out (fun e => by rw [e] at hlt; simp at hlt)
      obtain ⟨k0, x0, n0, a0, m0, c0, q0, q1, q2, q3, hnd⟩ := hcs j hlt
      have hbz := HPj.out.base
      have e0 := below_cell hbz q0
      have e1 := below_cell hbz q1
      have e2 := below_cell hbz q2
      have e3 := below_cell hbz q3
      have HN := hide hnd
      have HTj : Hid ((txs ((kids.take j).map shT).flatten).length + tb kids[j] ≤ tbL kids) := by
        show _ ≤ _
        have h1 := flatL_tb (kids.take j)
        have h2 := tbL_take hlt
        rw [txs_len]
        omega
      have HNo : Hid (¬ IsSt kids[j] → ¬ ∀ x, x ∈ kids → IsSt x) := fun hn hall => hn (hall _ (List.getElem_mem hlt))
      clear q0 q1 q2 q3 hcs hnd hbz
      have HPa : Hid (Pt w0 (wr.alloc (.cells #[.int .i64 k0, .string x0, .int .i64 n0, .slice a0 m0 c0] 24)) b ((T ++ [sLB]) ++ txs ((kids.take j).map shT).flatten)) := HPj.out.alloc _
      have HSa : Hid (St w (wr.alloc (.cells #[.int .i64 k0, .string x0, .int .i64 n0, .slice a0 m0 c0] 24))) := HSj.out.trans (St.alloc _ _)
      have HNa : Hid ((wr.alloc (.cells #[.int .i64 k0, .string x0, .int .i64 n0, .slice a0 m0 c0] 24)).heap[wr.heap.size]? = some (.cells #[.int .i64 k0, .string x0, .int .i64 n0, .slice a0 m0 c0] 24 (0, 0))) := heap_new _ _ _
      go_wp2_with fail
      go_at_call 55
      refine (HIh.out kids[j] (List.getElem_mem hlt) b _ _ _ HPa.out HN.out (by have := HTj.out; simp only [List.length_append, List.length_cons, List.length_nil]; omega)).mono ?_
      rintro e w9 (⟨hp, rfl, hP9, hS9⟩ | ⟨hp, rfl, hB9⟩)
      · have HP9 : Hid (Pt w0 w9 b ((T ++ [sLB]) ++ txs ((kids.take (j + 1)).map shT).flatten)) := by
          show Pt _ _ _ _
          rw [flat_take kids j hlt, txs_app]
          simpa using hP9
        have HS9 := hide (HSa.out.trans hS9)
        have HA9 := hide (all_take hlt HAj.out hp)
        clear hP9 hS9 hp HPa HSa HNa
        go_wp2_with fail
        go_roundw
        case rel => exact ⟨j + 1, by omega, by go_num, HP9, HS9, HA9⟩
        case measure => simp [intOf]; omega
      · exact ⟨rfl, PostP.no (fun h => HNo.out hp (HI.out.1 h)) hB9⟩
    · obtain rfl : j = kids.length := by omega
      have hlt' : ¬ (kids.length : Int) < kids.length := by omega
      have HPe : Hid (Pt w0 wr b ((T ++ [sLB]) ++ txs (kids.map shT).flatten)) := by have := HPj.out; rw [List.take_length] at this; exact this
      have HAe : Hid (∀ x, x ∈ kids → IsSt x) := by have := HAj.out; rw [List.take_length] at this; exact this
      clear HPj HAj
      have HFl := hide (flatL_tb kids)
      go_wp2_with fail
      go_at_call 42
      refine (add_new HPe.out [sRB] _ rfl 1 rfl (by omega) (by have := HFl.out; simp only [List.length_append, List.length_cons, List.length_nil, txs_len]; omega) _ (by simp)).mono ?_
      rintro e w9 ⟨rfl, hP9, hS9⟩
      have HP9 := hide hP9
      have HS9 := hide (HSj.out.trans hS9)
      clear hP9 hS9
      go_wp2_with fail
      go_end0
      exact PostP.ok (HI.out.2 HAe.out) (HP9.out.app' (by rw [sh_block, txs_app, txs_app]; simp [txsg])) HS9.out
end Go.Proofs.YthcfianhdkolhaaDoor.T
