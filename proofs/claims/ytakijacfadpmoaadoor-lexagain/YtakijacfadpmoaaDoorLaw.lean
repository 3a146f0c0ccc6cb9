/- LexAgain, by what the program's Scan is to answer. -/
import Derived.Test.YtakijacfadpmoaaDoorTell
import Derived.Test.YtakijacfadpmoaaDoorAgn
namespace Go.Proofs.YtakijacfadpmoaaDoor.T
open Go.RowKit
set_option linter.unusedVariables false
set_option linter.unusedSimpArgs false
theorem like_len {l m : List Tok} (h : Like l m) : l.length = m.length := by
  have := congrArg List.length h
  simpa using this
theorem like_at {l m : List Tok} (h : Like l m) {k : Nat} {a b : Tok} (ha : l[k]? = some a) (hb : m[k]? = some b) : a.kind = b.kind ∧ a.text = b.text := by
  have := congrArg (fun x => x[k]?) h
  simp only [List.getElem?_map, ha, hb, Option.map_some, Option.some.injEq, Prod.mk.injEq] at this
  exact this
theorem text_len {l : List Tok} : ∀ k ∈ l, k.text.size ≤ rawLen l := by
  induction l with
  | nil => intro k hk; simp at hk
  | cons a r ih =>
    intro k hk
    have e : rawLen (a :: r) = (raw a.kind a.text).size + rawLen r := by simp [rawLen]
    rcases List.mem_cons.1 hk with rfl | hk
    · have : k.text.size ≤ (raw k.kind k.text).size := by
        unfold raw
        split
        · rw [ByteArray.size_append]; omega
        · exact Nat.le_refl _
      omega
    · have := ih k hk
      omega
theorem writ_take (l : List Tok) (k : Nat) (hk : k < l.length) : writ (l.take (k + 1)) = writ (l.take k) ++ ((raw l[k].kind l[k].text).data.toList ++ [32]) := by
  rw [List.take_add_one, List.getElem?_eq_getElem hk]
  exact writ_app _ _
theorem str_app (a b : List UInt8) : str a ++ str b = str (a ++ b) := by
  apply ByteArray.ext
  rw [ByteArray.data_append]
  apply Array.toList_inj.1
  simp [str]
theorem str_data (x : ByteArray) : str x.data.toList = x := rfl
theorem writ_take_len (l : List Tok) (k : Nat) : (writ (l.take k)).length ≤ (writ l).length := by
  conv => rhs; rw [← List.take_append_drop k l]
  unfold writ
  rw [List.flatMap_append, List.length_append]
  omega
set_option maxRecDepth 100000 in
set_option maxHeartbeats 4000000 in
theorem lex_again (t : ByteArray) (w : World) (G : Gl w) (hm : t.size ≤ 9223372036854775807) : Calls Tryd.prog 4 #[.string t] w fun e w' => e = .returned (.bool true) ∧ Below w.heap.size w w' := by
  by_cases h13 : 1333 < t.size
  · have d1 : (1333 : Int) < t.size := by omega
    go_enter Tryd.func4, Tryd.ntmps4
    go_wp2_with fail
    go_ret
    exact ⟨rfl, Below.refl _ _⟩
  have d1 : ¬ (1333 : Int) < t.size := by omega
  have HG := hide G
  clear G
  have ha := fun w' (Gw : Gl w') => pscan_any ⟨#[97]⟩ w' Gw (by show 1 ≤ _; omega)
  have hla := scan_a
  have h5 := fun w' (Gw : Gl w') => pscan_any t w' Gw hm
  generalize scan ⟨#[97]⟩ = RA at *
  obtain ⟨LA, cA, pA⟩ := RA
  simp only at ha hla
  have hbad := scan_bad (t := t)
  have hag := scan_again (t := t) (by omega)
  have hfi := scan_fine t
  have hpr := fun w' (Gw : Gl w') (h : (str (writ (scan t).1)).size ≤ 9223372036854775807) => pscan_any (str (writ (scan t).1)) w' Gw h
  generalize hsc : scan t = R at *
  obtain ⟨L, c, p⟩ := R
  have HSc := hide hsc
  clear hsc
  simp only at h5 hbad hag hfi hpr
  have h1 : (LA.length : Int) = 1 := by omega
  have h1' : ((LA.length : Int) != 1) = false := by simp; omega
  by_cases c0 : c = 0
  case neg =>
    have c0' : (c == 0) = false := by simpa using c0
    have c0'' : (c != 0) = true := by simpa using c0
    obtain rfl : L = [] := hbad c0
    have HH := hide (And.intro hbad (And.intro hag (And.intro hfi hpr)))
    clear hbad hag hfi hpr
    have HL := hide hla
    clear hla
    go_enter Tryd.func4, Tryd.ntmps4
    go_wp2_with fail
    go_at_call 5
    refine (ha _ HG.out).mono ?_
    rintro e w1 ⟨l1, rfl, ho1, hb1⟩
    obtain ⟨a1, c1, rfl, -⟩ := own_toks ho1
    have HB1 : Hid (Below w.heap.size w (w1.alloc (.cells #[.int .i64 cA, .int .i64 pA] 25))) := hb1.alloc hb1.size _
    clear ho1 hb1
    go_wp2_with fail
    go_at_call 5
    refine (h5 _ (HG.out.below HB1.out)).mono ?_
    rintro e w2 ⟨l2, rfl, ho2, hb2⟩
    obtain ⟨a2, c2, rfl, -⟩ := own_toks ho2
    have HB2 : Hid (Below w.heap.size w (w2.alloc (.cells #[.int .i64 c, .int .i64 p] 25))) := (HB1.out.trans (hb2.mono HB1.out.size)).alloc (Nat.le_trans HB1.out.size hb2.size) _
    clear ho2 hb2
    go_wp2_with fail
    go_ret
    exact ⟨rfl, HB2.out⟩
  subst c0
  obtain ⟨hs1, hs2, hs3⟩ := hag rfl
  obtain ⟨hf1, hf2⟩ := hfi rfl
  have hx := fun w' (Gw : Gl w') => hpr w' Gw (by omega)
  have HL3 := hide hs3
  have hll := like_len hs3
  have HTL := hide (text_len (l := L))
  have hll2 := fine_len hf1
  have HF := hide hf1
  generalize hsx : scan (str (writ L)) = RX at *
  obtain ⟨M, cM, pM⟩ := RX
  simp only at hx hs2 hs3 hll
  have HSX := hide hsx
  subst hs2
  clear hbad hag hfi hpr hsx hs3 hf1
  have HLL := hide hll
  have HSZ := hide hs1
  go_enter Tryd.func4, Tryd.ntmps4
  go_wp2_with fail
  go_at_call 5
  refine (ha _ HG.out).mono ?_
  rintro e w1 ⟨l1, rfl, ho1, hb1⟩
  obtain ⟨a1, c1, rfl, -⟩ := own_toks ho1
  have HB1 : Hid (Below w.heap.size w (w1.alloc (.cells #[.int .i64 cA, .int .i64 pA] 25))) := hb1.alloc hb1.size _
  clear ho1 hb1
  go_wp2_with fail
  go_at_call 5
  refine (h5 _ (HG.out.below HB1.out)).mono ?_
  rintro e w2 ⟨l2, rfl, ho2, hb2⟩
  obtain ⟨a2, c2, rfl, H2⟩ := own_toks ho2
  have G2 := hide H2
  have HB2 : Hid (Below w.heap.size w (w2.alloc (.cells #[.int .i64 0, .int .i64 p] 25))) := (HB1.out.trans (hb2.mono HB1.out.size)).alloc (Nat.le_trans HB1.out.size hb2.size) _
  have HBA : Hid (Below w2.heap.size w2 (w2.alloc (.cells #[.int .i64 0, .int .i64 p] 25))) := (Below.refl _ _).alloc (Nat.le_refl _) _
  clear ho2 hb2 H2 h5 ha
  go_wp2_with fail
  generalize w2.alloc (.cells #[.int .i64 0, .int .i64 p] 25) = W at *
  go_loopw [7, 8] (fun s i wr => ∃ (k : Nat), k ≤ L.length ∧ s = .string (str (writ (L.take k))) ∧ i = .int .i64 k ∧ wr = W) (fun _ i _ => L.length - (intOf i).toNat)
  case atStart => exact ⟨0, Nat.zero_le _, rfl, rfl, rfl⟩
  case round =>
    obtain ⟨k, hk, rfl, rfl, hwr⟩ := hrel
    subst hwr
    by_cases hlt : k < L.length
    · have hlt' : (k : Int) < L.length := by omega
      have hidx : (0 : Int) ≤ k ∧ (k : Int) < L.length := by omega
      obtain ⟨g2, rfl, b2, e2⟩ := G2.out (by omega)
      have hke : L[k]? = some L[k] := List.getElem?_eq_getElem hlt
      obtain ⟨z0, z1, z2⟩ := e2 k _ hke
      have hts := HTL.out L[k] (List.getElem_mem hlt)
      have HW1 := hide (writ_take L k hlt)
      have hpl : (str (writ (L.take k))).size ≤ 2666 := Nat.le_trans (writ_take_len L k) HSZ.out
      obtain ⟨x, hxe⟩ : ∃ x, x = writ (L.take k) := ⟨_, rfl⟩
      rw [← hxe] at HW1 hpl ⊢
      generalize L[k] = tk at *
      have v0 : wr.cell? ⟨g2, k * 3, none⟩ = some (.int .i64 tk.kind) := (HBA.out.cell (p := ⟨g2, k * 3, none⟩) b2).trans z0
      have v1 : wr.cell? ⟨g2, k * 3 + 1, none⟩ = some (.string tk.text) := (HBA.out.cell (p := ⟨g2, k * 3 + 1, none⟩) b2).trans z1
      have HX := hide hxe
      clear hxe hke e2 z0 z1 z2
      by_cases k3 : tk.kind = 3
      · have k3' : (tk.kind == 3) = true := by simpa using k3
        have HK3 := hide k3
        go_wp2_with fail
        go_roundw
        case rel =>
          refine ⟨k + 1, by omega, ?_, by go_num, trivial⟩
          rw [HW1.out]
          have e : raw tk.kind tk.text = tk.text ++ ⟨#[76]⟩ := by unfold raw; rw [if_pos HK3.out]
          rw [e]
          refine congrArg Value.string (ByteArray.ext (Array.toList_inj.1 ?_))
          simp [str, ByteArray.data_append]
        case measure => simp [intOf]; omega
      · have k3' : (tk.kind == 3) = false := by simpa using k3
        have HK3 := hide k3
        go_wp2_with fail
        go_roundw
        case rel =>
          refine ⟨k + 1, by omega, ?_, by go_num, trivial⟩
          rw [HW1.out]
          have e : raw tk.kind tk.text = tk.text := by unfold raw; rw [if_neg HK3.out]
          rw [e]
          refine congrArg Value.string (ByteArray.ext (Array.toList_inj.1 ?_))
          simp [str, ByteArray.data_append]
        case measure => simp [intOf]; omega
    · obtain rfl : k = L.length := by omega
      have hlt' : ¬ (L.length : Int) < L.length := by omega
      rw [List.take_length]
      go_wp2_with fail
      go_at_call 5
      refine (hx _ (HG.out.below HB2.out)).mono ?_
      rintro e w3 ⟨l3, rfl, ho3, hb3⟩
      obtain ⟨a3, c3, rfl, H3⟩ := own_toks ho3
      rw [HLL.out]
      have hB3 : Below wr.heap.size wr (w3.alloc (.cells #[.int .i64 0, .int .i64 pM] 25)) := hb3.alloc hb3.size _
      have HBZ : Hid (Below w3.heap.size w3 (w3.alloc (.cells #[.int .i64 0, .int .i64 pM] 25))) := (Below.refl _ _).alloc (Nat.le_refl _) _
      have HB3 : Hid (Below w.heap.size w (w3.alloc (.cells #[.int .i64 0, .int .i64 pM] 25))) := HB2.out.trans (hB3.mono HB2.out.size)
      have G3 : Hid (0 < L.length → ∃ g, a3 = some ⟨g, 0, none⟩ ∧ g < w3.heap.size ∧ ∀ j k, M[j]? = some k → w3.cell? ⟨g, j * 3, none⟩ = some (.int .i64 k.kind) ∧ w3.cell? ⟨g, j * 3 + 1, none⟩ = some (.string k.text) ∧ w3.cell? ⟨g, j * 3 + 2, none⟩ = some (.int .i64 k.at_)) := fun hp => H3 (by rw [HLL.out]; exact hp)
      have HBB := hide hB3
      clear ho3 hb3 H3 hB3 hx
      go_wp2_with fail
      generalize w3.alloc (.cells #[.int .i64 0, .int .i64 pM] 25) = V at *
      generalize wr = W at *
      go_loopw [11] (fun i wr => ∃ k : Nat, k ≤ L.length ∧ i = .int .i64 k ∧ Hid (Below V.heap.size V wr)) (fun i _ => L.length - (intOf i).toNat)
      case atStart => exact ⟨0, Nat.zero_le _, rfl, Below.refl _ _⟩
      case round =>
        obtain ⟨k, hk, rfl, HB⟩ := hrel
        have HBw : Hid (Below w3.heap.size w3 wr) := HBZ.out.trans (HB.out.mono HBZ.out.size)
        have HBv : Hid (Below W.heap.size W wr) := HBB.out.trans (HB.out.mono HBB.out.size)
        by_cases hlt : k < L.length
        · have hlt2 : (k : Int) < L.length := by omega
          have hidx : (0 : Int) ≤ k ∧ (k : Int) < L.length := by omega
          obtain ⟨g1, rfl, b1, e1⟩ := G2.out (by omega)
          obtain ⟨g2, rfl, b2, e2⟩ := G3.out (by omega)
          have hke : L[k]? = some L[k] := List.getElem?_eq_getElem hlt
          have hkm : M[k]? = some (M[k]'(by rw [HLL.out]; exact hlt)) := List.getElem?_eq_getElem _
          obtain ⟨x0, x1, x2⟩ := e1 k _ hke
          obtain ⟨z0, z1, z2⟩ := e2 k _ hkm
          obtain ⟨s1, s2⟩ := like_at HL3.out hkm hke
          rw [s1] at z0
          rw [s2] at z1
          generalize L[k] = tk at *
          have u0 : wr.cell? ⟨g1, k * 3, none⟩ = some (.int .i64 tk.kind) := (HBv.out.cell (p := ⟨g1, k * 3, none⟩) (Nat.lt_of_lt_of_le b1 HBA.out.size)).trans ((HBA.out.cell (p := ⟨g1, k * 3, none⟩) b1).trans x0)
          have u1 : wr.cell? ⟨g1, k * 3 + 1, none⟩ = some (.string tk.text) := (HBv.out.cell (p := ⟨g1, k * 3 + 1, none⟩) (Nat.lt_of_lt_of_le b1 HBA.out.size)).trans ((HBA.out.cell (p := ⟨g1, k * 3 + 1, none⟩) b1).trans x1)
          have v0 : wr.cell? ⟨g2, k * 3, none⟩ = some (.int .i64 tk.kind) := (HBw.out.cell (p := ⟨g2, k * 3, none⟩) b2).trans z0
          have v1 : wr.cell? ⟨g2, k * 3 + 1, none⟩ = some (.string tk.text) := (HBw.out.cell (p := ⟨g2, k * 3 + 1, none⟩) b2).trans z1
          clear x0 x1 x2 z0 z1 z2 e1 e2 hke hkm s1 s2
          go_wp2_with fail
          go_quiet (fail)
          generalize nq = q
          go_wp2_with fail
          go_roundw
          case rel => exact ⟨k + 1, by omega, by go_num, below_drewN HB.out q⟩
          case measure => simp [intOf]; omega
        · have hlt2 : ¬ (k : Int) < L.length := by omega
          go_wp2_with fail
          go_ret
          exact ⟨rfl, HB3.out.trans (HB.out.mono HB3.out.size)⟩
end Go.Proofs.YtakijacfadpmoaaDoor.T
