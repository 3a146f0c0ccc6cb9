/- The contract of the reference's Put. -/
import Derived.Test.YtnjcknlfecednaaMa
import Derived.Test.YtnjcknlfecednaaFs
namespace Go.Proofs.Ytnjcknlfecednaa.T
open Go.RowKit Go.Proofs.Ytnjcknlfecednaa.M
set_option linter.unusedVariables false
set_option linter.unusedSimpArgs false
theorem info5 : (Try.prog.info? 5).map (fun i => (i.zero, i.size, i.bytes)) = some (some (.int .u8 0), 1, 1) := by kernel_rfl
/-- Bytes as cells. -/
def bc (l : List UInt8) : List Value := l.map fun b => Value.int .u8 b.toNat
theorem bc_app (l m : List UInt8) : bc (l ++ m) = bc l ++ bc m := List.map_append
theorem bc_str (l : List UInt8) : Lib.strCells (strOf l) = bc l := rfl
theorem flat_next {α : Type} (f : α → List UInt8) (L : List α) (k : Nat) (hk : k < L.length) : (L.take (k + 1)).flatMap f = (L.take k).flatMap f ++ f L[k] := by
  rw [List.take_succ_eq_append_getElem hk, List.flatMap_append]
  simp
theorem flat_len4 (f : Int → Int) (L : List Int) : (L.flatMap fun x => four (f x)).length = 4 * L.length := by
  induction L with
  | nil => rfl
  | cons x L ih => rw [List.flatMap_cons, List.length_append, ih, four_length, List.length_cons]; omega
theorem Bys.of_row {w : World} {n0 n : Nat} {v : Value} {l : List UInt8} (h : w.ownsRow n0 5 1 v n (bc l)) : Bys w v l := by
  have hl : l.length = n := by have := h.1; simpa [bc] using this
  subst hl
  rcases h.2 with ⟨rfl, h0⟩ | ⟨g, cap, cur, rfl, hg, hh, a1, a2, a3, a4⟩
  · exact ⟨none, 0, by rw [h0], by omega, by omega, fun h => absurd h (by omega)⟩
  · refine ⟨_, _, rfl, a1, by unfold maxLen at a2; omega, fun h0 => ⟨g, 0, rfl, (Array.getElem?_eq_some_iff.1 hh).1, fun j hj => ⟨[.int .u8 l[j].toNat], rfl, fun i u hu => ?_⟩⟩⟩
    have hi : i = 0 := by
      cases i with
      | zero => rfl
      | succ i => simp at hu
    subst hi
    simp at hu
    subst hu
    have := h.cells (g := g) rfl j (.int .u8 l[j].toNat) (by unfold bc; simp [hj])
    rw [Addr.add_lit] at this
    simpa using this
set_option maxRecDepth 100000 in
set_option maxHeartbeats 2000000 in
theorem putr_bad (o : Ob) (v : Value) (w : World) (hv : ObV w o v) (hm : mayO o = false) : Calls Try.prog 7 #[v] w fun e w' => e = .returned (.tuple #[.slice none 0 0, .int .i64 2]) ∧ Below w.heap.size w w' := by
  have HV := hide hv
  obtain ⟨cv, dv, sv, rv, rfl, ⟨ca, cc, rfl, -⟩, ⟨da, dc, rfl, -⟩, ⟨sa, sc, rfl, -⟩, ⟨ra, rc, rfl, -⟩⟩ := hv
  have HF := hide ((Fr.start w).alloc rfl #[.slice ca o.code.length cc, .slice da o.data.length dc, .slice sa o.syms.length sc, .slice ra o.rels.length rc] 27)
  have HC := hide (mayr_any o _ _ (HV.out.below HF.out.below))
  rw [hm] at HC
  clear HV
  generalize o.code.length = nc at *
  generalize o.data.length = nd at *
  generalize o.syms.length = ns at *
  generalize o.rels.length = nr at *
  go_enter Try.func7, Try.ntmps7
  go_wp2_with fail
  go_at_call 9
  refine HC.out.mono ?_
  rintro e w1 ⟨rfl, hb⟩
  replace HF := hide (HF.out.call hb)
  clear hb HC
  go_wp2_with fail
  go_ret2
  exact ⟨rfl, HF.out.below⟩
theorem take_zero_flat {α : Type} (f : α → List UInt8) (L : List α) : (L.take 0).flatMap f = [] := by simp
theorem i32_cells {w w' : World} {g o : Nat} {L : List Int} (hg : g < w.heap.size) (E : ∀ j (h : j < L.length), ∃ cs, i32C w L[j] cs ∧ ∀ i u, cs[i]? = some u → w.cell? ⟨g, o + j * 1 + i, none⟩ = some u) (hb : Below w.heap.size w w') (j : Nat) (hj : j < L.length) :
    w'.cell? ⟨g, o + j, none⟩ = some (.int .i32 L[j]) ∧ -2147483648 ≤ L[j] ∧ L[j] ≤ 2147483647 := by
  obtain ⟨cs, ⟨rfl, r⟩, q⟩ := E j hj
  have := (hb.cell (p := ⟨g, o + j * 1 + 0, none⟩) hg).trans (q 0 _ rfl)
  simp only [Nat.mul_one, Nat.add_zero] at this
  exact ⟨this, r⟩
theorem sym_len {s : Sy} (h5 : s.name.size ≤ 16) (h6 : s.sign.size ≤ 2000) : (symP s).length ≤ 2100 := by
  have e1 : (bytes s.name).length = s.name.size := Array.length_toList
  have e2 : (bytes s.sign).length = s.sign.size := Array.length_toList
  unfold symP txt
  simp only [List.length_append, four_length, e1, e2]
  omega
theorem flat_bound (f : Sy → List UInt8) (L : List Sy) (h : ∀ x, x ∈ L → (f x).length ≤ 2100) : ∀ k, k ≤ L.length → ((L.take k).flatMap f).length ≤ 2100 * k
  | 0, _ => by simp
  | k + 1, hk => by
    rw [flat_next f L k (by omega), List.length_append]
    have := flat_bound f L h k (by omega)
    have := h _ (List.getElem_mem (show k < L.length by omega))
    omega
theorem rel_len (L : List Re) : (L.flatMap relP).length = 12 * L.length := by
  induction L with
  | nil => rfl
  | cons x L ih =>
    rw [List.flatMap_cons, List.length_append, ih, List.length_cons]
    have : (relP x).length = 12 := rfl
    omega
theorem Fr.conv {n0 : Nat} {w0 w : World} {L : List Rs} (h : Fr n0 w0 w L) (i : Nat) {ad : Option Addr} {n c : Nat} {l : List UInt8} (hi : L[i]? = some (.row (.slice ad n c) 5 1 n (bc l))) : (convert 28 9 (.slice ad n c)).run Try.prog w = .ok (.string (strOf l)) w := (Bys.of_row (h.get hi)).conv.2
theorem bys_new (W : World) (s : ByteArray) (n : Nat) (l : List UInt8) (F : Nat × Nat) (hn : s.size = n) (hl : bytes s = l) (hs : n ≤ 2000000) : Bys (W.drew.alloc (.cells (bytesRow s (grownCap W n 0 5)) 5 F)) (.slice (some ⟨W.heap.size, 0, none⟩) n (grownCap W n 0 5)) l := by
  subst hl
  have e : (bytes s).length = n := by rw [← hn]; exact Array.length_toList
  have h1 := grownCap_ge W n 0 5
  have h2 : grownCap W n 0 5 ≤ maxLen := grownCap_le_maxLen W n 0 5 (by unfold maxLen; omega)
  unfold maxLen at h2
  refine ⟨_, _, by rw [e], by omega, by omega, fun h0 => ⟨W.heap.size, 0, rfl, by simp, fun j hj => ⟨_, rfl, fun i u hu => ?_⟩⟩⟩
  have hi : i = 0 := by
    cases i with
    | zero => rfl
    | succ i => simp at hu
  subst hi
  simp at hu
  subst hu
  have hb : (W.drew.alloc (.cells (bytesRow s (grownCap W n 0 5)) 5 F)).heap[W.heap.size]? = some (.cells (bytesRow s (grownCap W n 0 5)) 5 F) := heap_alloc_new W.drew _
  have hj' : j < s.data.size := by rw [e] at hj; have : s.data.size = s.size := rfl; omega
  rw [show 0 + j * 1 + 0 = j by omega]
  unfold World.cell?
  simp only [hb]
  unfold bytesRow
  rw [Array.getElem?_append_left (by simpa using hj')]
  simp
  exact ⟨s.data[j], Array.getElem?_eq_getElem hj', rfl⟩
theorem str_plus (l m : List UInt8) : strOf l ++ strOf m = strOf (l ++ m) := strOf_app l m
set_option maxRecDepth 100000 in
set_option maxHeartbeats 8000000 in
theorem putr_ok (o : Ob) (v : Value) (w : World) (hv : ObV w o v) (hm : mayO o = true) : Calls Try.prog 7 #[v] w fun e w' => ∃ u, e = .returned (.tuple #[u, .int .i64 0]) ∧ Bys w' u (putO o) ∧ Below w.heap.size w w' := by
  have HV := hide hv
  obtain ⟨cv, dv, sv, rv, rfl, ⟨ca, cc, rfl, -, -, hC⟩, ⟨da, dc, rfl, -, -, hD⟩, ⟨sa, sc, rfl, -, -, hS⟩, ⟨ra, rc, rfl, -, -, hR⟩⟩ := hv
  have hl : o.code.length ≤ 6000 ∧ o.data.length ≤ 16000 ∧ o.syms.length ≤ 400 ∧ o.rels.length ≤ 6000 := by have h := hm; unfold mayO at h; simp at h; omega
  have HF := hide ((Fr.start w).alloc rfl #[.slice ca o.code.length cc, .slice da o.data.length dc, .slice sa o.syms.length sc, .slice ra o.rels.length rc] 27)
  have HC := hide (mayr_any o _ _ (HV.out.below HF.out.below))
  rw [hm] at HC
  have HN4 := hide (fun k hk => mayO_n4 hm k hk)
  have HR4 := hide (fun k hk => mayO_r4 hm k hk)
  obtain ⟨nc, HNC⟩ : ∃ n, Hid (o.code.length = n) := ⟨_, rfl⟩
  obtain ⟨nd, HND⟩ : ∃ n, Hid (o.data.length = n) := ⟨_, rfl⟩
  obtain ⟨ns, HNS⟩ : ∃ n, Hid (o.syms.length = n) := ⟨_, rfl⟩
  obtain ⟨nr, HNR⟩ : ∃ n, Hid (o.rels.length = n) := ⟨_, rfl⟩
  have HC0 : Hid (0 < nc → ∃ g oo, ca = some ⟨g, oo, none⟩ ∧ Hid (∀ w', Below w.heap.size w w' → ∀ j (hj : j < o.code.length), _)) := fun h => by
    obtain ⟨g, oo, r, hg, E⟩ := hC (by rw [HNC.out]; exact h)
    exact ⟨g, oo, r, fun w' hw => nw_cells hg E hw⟩
  have HD0 : Hid (0 < nd → ∃ g oo, da = some ⟨g, oo, none⟩ ∧ Hid (∀ w', Below w.heap.size w w' → ∀ j (hj : j < o.data.length), _)) := fun h => by
    obtain ⟨g, oo, r, hg, E⟩ := hD (by rw [HND.out]; exact h)
    exact ⟨g, oo, r, fun w' hw => i32_cells hg E hw⟩
  have HS0 : Hid (0 < ns → ∃ g oo, sa = some ⟨g, oo, none⟩ ∧ Hid (∀ w', Below w.heap.size w w' → ∀ j (hj : j < o.syms.length), _)) := fun h => by
    obtain ⟨g, oo, r, hg, E⟩ := hS (by rw [HNS.out]; exact h)
    exact ⟨g, oo, r, fun w' hw => sy_cells hg E hw⟩
  have HR0 : Hid (0 < nr → ∃ g oo, ra = some ⟨g, oo, none⟩ ∧ Hid (∀ w', Below w.heap.size w w' → ∀ j (hj : j < o.rels.length), _)) := fun h => by
    obtain ⟨g, oo, r, hg, E⟩ := hR (by rw [HNR.out]; exact h)
    exact ⟨g, oo, r, fun w' hw => re_cells hg E hw⟩
  have HP : Hid (putO o = four nc ++ o.code.flatMap four ++ (four nd ++ o.data.flatMap (fun x => four (free x))) ++ (four ns ++ o.syms.flatMap symP) ++ (four nr ++ o.rels.flatMap relP)) := (by
    show putO o = _
    unfold putO
    rw [HNC.out, HND.out, HNS.out, HNR.out])
  rw [HNC.out, HND.out, HNS.out, HNR.out] at HC HF hl
  rw [HNC.out, HND.out, HNS.out, HNR.out]
  obtain ⟨l1, l2, l3, l4⟩ := hl
  have HSL := hide (flat_bound symP o.syms fun x hx => by
    obtain ⟨k, hk, rfl⟩ := List.getElem_of_mem hx
    have := HN4.out k hk
    exact sym_len this.2.2.2.2.1 this.2.2.2.2.2)
  clear HV hC hD hS hR hm
  have HZ : Hid (∀ (e : Ending) (w' : World) (u : Value), e = .returned (.tuple #[u, .int .i64 0]) → Bys w' u (putO o) → Below w.heap.size w w' → (∃ u, e = .returned (.tuple #[u, .int .i64 0]) ∧ Bys w' u (putO o) ∧ Below w.heap.size w w')) := fun e w' u h1 h2 h3 => ⟨u, h1, h2, h3⟩
  go_enter Try.func7, Try.ntmps7
  go_wp2_with fail
  go_at_call 9
  refine HC.out.mono ?_
  rintro e w1 ⟨rfl, hb⟩
  replace HF := hide (HF.out.call hb)
  clear hb HC
  generalize hbq : w.heap.size = bq at *
  have HBQ : Hid (w.heap.size = bq) := hbq
  clear hbq
  have c0 := HF.out.cell 0 rfl
  go_wp2_with fail
  have HF0 := hide (HF.out.empty (T := 5) (q := w1.heap.size) rfl)
  clear c0
  have hcl := HNC.out
  have hdl := HND.out
  have hsl := HNS.out
  have hrl := HNR.out
  clear HNC HND HNS HNR
  go_loopw [4, 5] (fun v i wr => ∃ (k : Nat) (ad : Option Addr) (c : Nat), k ≤ nc ∧ v = .slice ad (4 * k) c ∧ i = .int .i64 k ∧ Hid (Fr bq w wr [.row (.slice ad (4 * k) c) 5 1 (4 * k) (bc ((o.code.take k).flatMap four)), .blk bq #[.slice ca nc cc, .slice da nd dc, .slice sa ns sc, .slice ra nr rc] 27])) (fun _ i _ => nc - (intOf i).toNat)
  case atStart => exact ⟨0, _, _, Nat.zero_le _, rfl, rfl, by simpa [bc] using HF0⟩
  case round =>
    clear HF HF0
    obtain ⟨k, ad1, c1, hk, rfl, rfl, HF⟩ := hrel
    by_cases hlt : k < nc
    · have hlt' : (k : Int) < nc := by omega
      have hidx : (0 : Int) ≤ k ∧ (k : Int) < nc := by omega
      have hkl : k < o.code.length := by omega
      obtain ⟨g, oo, rfl, HE⟩ := HC0.out (by omega)
      have c0 := HF.out.cell 1 rfl
      obtain ⟨e0, hN4⟩ := HE.out _ HF.out.below k hkl
      have HX4 := hide (fun w' => four_any (o.code[k]'hkl) w' hN4)
      have HNx : Hid (bc ((o.code.take (k + 1)).flatMap four) = bc ((o.code.take k).flatMap four) ++ Lib.strCells (strOf (four (o.code[k]'hkl)))) := (by
        show bc _ = _
        rw [flat_next four o.code k hkl, bc_app]
        rfl)
      have hF4 : (strOf (four (o.code[k]'hkl))).size = 4 := rfl
      obtain ⟨n0, n1⟩ := hN4
      generalize strOf (four (o.code[k]'hkl)) = FF at *
      generalize o.code[k]'hkl = x at *
      clear HE
      go_wp2_with fail
      go_at_call 17
      refine (HX4.out _).mono ?_
      rintro e w2 ⟨rfl, hb⟩
      replace HF := hide (HF.out.call hb)
      clear hb HX4 e0 c0
      go_wp2_with (at_builtin; refine Fr.str 28 9 info5 Try.underlying28 Try.underlying9 HF.out 0 rfl (by omega) (.tmp 28) (.tmp 35) rfl rfl rfl FF rfl (by omega) ?_; intro ad9 c9 w3 hF3 _; have HF3 := hide hF3; clear hF3)
      replace HF3 := HF3.out
      rw [← HNx.out, hF4] at HF3
      have e4 : 4 * k + 4 = 4 * (k + 1) := by omega
      rw [e4] at HF3
      go_roundw
      case rel => exact ⟨k + 1, ad9, c9, by omega, by simp [hF4]; omega, by go_num, HF3⟩
      case measure => simp [intOf]; omega
    · have hlt' : ¬ (k : Int) < nc := by omega
      obtain rfl : nc = k := by omega
      replace HF : Hid (Fr bq w wr [.row (.slice ad1 (4 * nc) c1) 5 1 (4 * nc) (bc (o.code.flatMap four)), .blk bq #[.slice ca nc cc, .slice da nd dc, .slice sa ns sc, .slice ra nr rc] 27]) := (by
        have h := HF.out
        rw [List.take_of_length_le (by omega)] at h
        exact h)
      have c0 := HF.out.cell 1 rfl
      have HF0 := hide (HF.out.empty (T := 5) (q := wr.heap.size) rfl)
      go_wp2_with fail
      clear c0
      go_loopw [6, 7] (fun v i wr => ∃ (k : Nat) (ad : Option Addr) (c : Nat), k ≤ nd ∧ v = .slice ad (4 * k) c ∧ i = .int .i64 k ∧ Hid (Fr bq w wr [.row (.slice ad (4 * k) c) 5 1 (4 * k) (bc ((o.data.take k).flatMap (fun x => four (free x)))), .row (.slice ad1 (4 * nc) c1) 5 1 (4 * nc) (bc (o.code.flatMap four)), .blk bq #[.slice ca nc cc, .slice da nd dc, .slice sa ns sc, .slice ra nr rc] 27])) (fun _ i _ => nd - (intOf i).toNat)
      case atStart => exact ⟨0, _, _, Nat.zero_le _, rfl, rfl, by simpa [bc] using HF0⟩
      case round =>
        clear HF HF0
        obtain ⟨k, ad2, c2, hk, rfl, rfl, HF⟩ := hrel
        by_cases hlt : k < nd
        · have hlt' : (k : Int) < nd := by omega
          have hidx : (0 : Int) ≤ k ∧ (k : Int) < nd := by omega
          have hkl : k < o.data.length := by omega
          obtain ⟨g, oo, rfl, HE⟩ := HD0.out (by omega)
          have c0 := HF.out.cell 2 rfl
          obtain ⟨e0, d1, d2⟩ := HE.out _ HF.out.below k hkl
          have hN4 : N4 (free (o.data[k]'hkl)) := by unfold N4 free; split <;> omega
          have HX4 := hide (fun w' => four_any (free (o.data[k]'hkl)) w' hN4)
          have HXF := hide (fun w' => free_any (o.data[k]'hkl) w' d1 d2)
          have HNx : Hid (bc ((o.data.take (k + 1)).flatMap fun x => four (free x)) = bc ((o.data.take k).flatMap fun x => four (free x)) ++ Lib.strCells (strOf (four (free (o.data[k]'hkl))))) := (by
            show bc _ = _
            rw [flat_next (fun x => four (free x)) o.data k hkl, bc_app]
            rfl)
          have hF4 : (strOf (four (free (o.data[k]'hkl)))).size = 4 := rfl
          obtain ⟨n0, n1⟩ := hN4
          generalize strOf (four (free (o.data[k]'hkl))) = FF at *
          generalize free (o.data[k]'hkl) = y at *
          generalize o.data[k]'hkl = x at *
          clear HE
          go_wp2_with fail
          go_at_call 18
          refine (HXF.out _).mono ?_
          rintro e w2 ⟨rfl, rfl⟩
          go_wp2_with fail
          go_at_call 17
          refine (HX4.out _).mono ?_
          rintro e w2 ⟨rfl, hb⟩
          replace HF := hide (HF.out.call hb)
          clear hb HX4 HXF e0 c0
          go_wp2_with (at_builtin; refine Fr.str 28 9 info5 Try.underlying28 Try.underlying9 HF.out 0 rfl (by omega) (.tmp 51) (.tmp 53) rfl rfl rfl FF rfl (by omega) ?_; intro ad9 c9 w3 hF3 _; have HF3 := hide hF3; clear hF3)
          replace HF3 := HF3.out
          rw [← HNx.out, hF4] at HF3
          have e4 : 4 * k + 4 = 4 * (k + 1) := by omega
          rw [e4] at HF3
          go_roundw
          case rel => exact ⟨k + 1, ad9, c9, by omega, by simp [hF4]; omega, by go_num, HF3⟩
          case measure => simp [intOf]; omega
        · have hlt' : ¬ (k : Int) < nd := by omega
          obtain rfl : nd = k := by omega
          replace HF : Hid (Fr bq w wr [.row (.slice ad2 (4 * nd) c2) 5 1 (4 * nd) (bc (o.data.flatMap (fun x => four (free x)))), .row (.slice ad1 (4 * nc) c1) 5 1 (4 * nc) (bc (o.code.flatMap four)), .blk bq #[.slice ca nc cc, .slice da nd dc, .slice sa ns sc, .slice ra nr rc] 27]) := (by
            have h := HF.out
            rw [List.take_of_length_le (by omega)] at h
            exact h)
          have c0 := HF.out.cell 2 rfl
          go_wp2_with fail
          clear c0
          go_loopw [9, 10] (fun v i wr => ∃ (k : Nat), k ≤ ns ∧ v = .string (strOf ((o.syms.take k).flatMap symP)) ∧ i = .int .i64 k ∧ Hid (Fr bq w wr [.row (.slice ad2 (4 * nd) c2) 5 1 (4 * nd) (bc (o.data.flatMap (fun x => four (free x)))), .row (.slice ad1 (4 * nc) c1) 5 1 (4 * nc) (bc (o.code.flatMap four)), .blk bq #[.slice ca nc cc, .slice da nd dc, .slice sa ns sc, .slice ra nr rc] 27])) (fun _ i _ => ns - (intOf i).toNat)
          case atStart => exact ⟨0, Nat.zero_le _, rfl, rfl, HF⟩
          case round =>
            clear HF
            obtain ⟨k, hk, rfl, rfl, HF⟩ := hrel
            have c0 := HF.out.cell 2 rfl
            by_cases hlt : k < ns
            · have hlt' : (k : Int) < ns := by omega
              have hidx : (0 : Int) ≤ k ∧ (k : Int) < ns := by omega
              have hkl : k < o.syms.length := by omega
              obtain ⟨g, oo, rfl, HE⟩ := HS0.out (by omega)
              obtain ⟨e0, e1, e2, e3, e4, e5, e6, -⟩ := HE.out _ HF.out.below k hkl
              obtain ⟨m1, m2, m3, m4, m5, m6⟩ := HN4.out k hkl
              have hT := HSL.out k (by omega)
              have HT : Hid ((strOf ((o.syms.take k).flatMap symP)).size ≤ 2100 * k) := (by rw [strOf_size]; exact hT)
              have HSum : Hid (strOf ((o.syms.take k).flatMap symP) ++ strOf (four o.syms[k].name.size ++ bytes o.syms[k].name) ++ strOf (four o.syms[k].kind) ++ strOf (four (if o.syms[k].stat then 1 else 0)) ++ strOf (four o.syms[k].pl) ++ strOf (four o.syms[k].size) ++ strOf (four o.syms[k].sign.size ++ bytes o.syms[k].sign) ++ strOf (four o.syms[k].frame) = strOf ((o.syms.take (k + 1)).flatMap symP)) := (by
                show _ = _
                rw [flat_next symP o.syms k hkl]
                simp only [strOf_app]
                unfold symP txt
                simp only [List.append_assoc])
              have H1 := hide (fun w' => counted_any o.syms[k].name.size o.syms[k].name w' ⟨by omega, by omega⟩ (by omega))
              have H2 := hide (fun w' => four_any o.syms[k].kind w' m1)
              have H4 := hide (fun w' => four_any o.syms[k].pl w' m2)
              have H5 := hide (fun w' => four_any o.syms[k].size w' m3)
              have H6 := hide (fun w' => counted_any o.syms[k].sign.size o.syms[k].sign w' ⟨by omega, by omega⟩ (by omega))
              have H7 := hide (fun w' => four_any o.syms[k].frame w' m4)
              have a1 : (strOf (four o.syms[k].name.size ++ bytes o.syms[k].name)).size ≤ 2100 := by rw [strOf_size, List.length_append, four_length]; have : (bytes o.syms[k].name).length = o.syms[k].name.size := Array.length_toList; omega
              have a6 : (strOf (four o.syms[k].sign.size ++ bytes o.syms[k].sign)).size ≤ 2100 := by rw [strOf_size, List.length_append, four_length]; have : (bytes o.syms[k].sign).length = o.syms[k].sign.size := Array.length_toList; omega
              have a2 : (strOf (four o.syms[k].kind)).size ≤ 4 := Nat.le_refl _
              have a4 : (strOf (four o.syms[k].pl)).size ≤ 4 := Nat.le_refl _
              have a5 : (strOf (four o.syms[k].size)).size ≤ 4 := Nat.le_refl _
              have a7 : (strOf (four o.syms[k].frame)).size ≤ 4 := Nat.le_refl _
              have t0 := HT.out
              generalize strOf ((o.syms.take k).flatMap symP) = T0 at *
              generalize hsy : o.syms[k] = S at *
              clear hsy m1 m2 m3 m4 HT HE hT
              obtain ⟨nm, kd, st, pl, sz, sg, fr⟩ := S
              simp only at *
              generalize strOf (four nm.size ++ bytes nm) = A1 at *
              generalize strOf (four kd) = A2 at *
              generalize strOf (four pl) = A4 at *
              generalize strOf (four sz) = A5 at *
              generalize strOf (four sg.size ++ bytes sg) = A6 at *
              generalize strOf (four fr) = A7 at *
              cases st
              · have H3 := hide (fun w' => four_any 0 w' ⟨by omega, by omega⟩)
                have a3 : (strOf (four 0)).size ≤ 4 := Nat.le_refl _
                simp only [Bool.false_eq_true, if_false] at HSum
                generalize strOf (four 0) = A3 at *
                replace HF := hide (HF.out.alloc (q := wr.heap.size) rfl #[.string nm, .int .i64 kd, .bool false, .int .i64 pl, .int .i64 sz, .string sg, .int .i64 fr] 44)
                have s1 : ¬ 9223372036854775807 < T0.size + A1.size := by omega
                have s2 : ¬ 9223372036854775807 < T0.size + A1.size + A2.size := by omega
                have s3 : ¬ 9223372036854775807 < T0.size + A1.size + A2.size + A3.size := by omega
                have s4 : ¬ 9223372036854775807 < T0.size + A1.size + A2.size + A3.size + A4.size := by omega
                have s5 : ¬ 9223372036854775807 < T0.size + A1.size + A2.size + A3.size + A4.size + A5.size := by omega
                have s6 : ¬ 9223372036854775807 < T0.size + A1.size + A2.size + A3.size + A4.size + A5.size + A6.size := by omega
                have s7 : ¬ 9223372036854775807 < T0.size + A1.size + A2.size + A3.size + A4.size + A5.size + A6.size + A7.size := by omega
                clear a1 a2 a3 a4 a5 a6 a7 t0
                go_wp2_with fail
                generalize hbs : wr.heap.size = bs at *
                clear hbs
                replace HF := hide HF.out.drew
                refine wp_region_held_drew (S := fun w' => (∀ o, w'.cell? ⟨bs, o, none⟩ = (#[Value.string nm, .int .i64 kd, .bool false, .int .i64 pl, .int .i64 sz, .string sg, .int .i64 fr])[o]?)) (by kernel_rfl) (HF.out.cell 0 rfl) (fun hHeld => ?_)
                refine wpAnyH_take (i := 0) (v := ?_) rfl (by kernel_rfl) (by kernel_rfl) (by kernel_rfl) (fun _ _ _ h => h) (Or.inl ⟨by rfl, ?_⟩) (by assumption) ?_
                rotate_left
                · (intro w hSw; (try dsimp only at hSw); skip; go_simp) <;> with_reducible rfl
                (simp only [Act.put, List.getElem_toArray, List.getElem_cons_zero, List.getElem_cons_succ, List.setIfInBounds_toArray, List.set_cons_zero, List.set_cons_succ])
                refine wpAnyH_take (i := 1) (v := ?_) rfl (by kernel_rfl) (by kernel_rfl) (by kernel_rfl) (fun _ _ _ h => h) (Or.inl ⟨by rfl, ?_⟩) (by assumption) ?_
                rotate_left
                · (intro w hSw; (try dsimp only at hSw); skip; go_simp) <;> with_reducible rfl
                (simp only [Act.put, List.getElem_toArray, List.getElem_cons_zero, List.getElem_cons_succ, List.setIfInBounds_toArray, List.set_cons_zero, List.set_cons_succ])
                refine wpAnyH_take (i := 2) (v := ?_) rfl (by kernel_rfl) (by kernel_rfl) (by kernel_rfl) (fun _ _ _ h => h) (Or.inl ⟨by rfl, ?_⟩) (by assumption) ?_
                rotate_left
                · (intro w hSw; (try dsimp only at hSw); skip; go_simp) <;> with_reducible rfl
                (simp only [Act.put, List.getElem_toArray, List.getElem_cons_zero, List.getElem_cons_succ, List.setIfInBounds_toArray, List.set_cons_zero, List.set_cons_succ])
                refine wpAnyH_take (i := 3) (v := ?_) rfl (by kernel_rfl) (by kernel_rfl) (by kernel_rfl) (fun _ _ _ h => h) (Or.inl ⟨by rfl, ?_⟩) (by assumption) ?_
                rotate_left
                · (intro w hSw; (try dsimp only at hSw); skip; go_simp) <;> with_reducible rfl
                (simp only [Act.put, List.getElem_toArray, List.getElem_cons_zero, List.getElem_cons_succ, List.setIfInBounds_toArray, List.set_cons_zero, List.set_cons_succ])
                refine wpAnyH_take (i := 4) (v := ?_) rfl (by kernel_rfl) (by kernel_rfl) (by kernel_rfl) (fun _ _ _ h => h) (Or.inl ⟨by rfl, ?_⟩) (by assumption) ?_
                rotate_left
                · (intro w hSw; (try dsimp only at hSw); skip; go_simp) <;> with_reducible rfl
                (simp only [Act.put, List.getElem_toArray, List.getElem_cons_zero, List.getElem_cons_succ, List.setIfInBounds_toArray, List.set_cons_zero, List.set_cons_succ])
                refine wpAnyH_take (i := 5) (v := ?_) rfl (by kernel_rfl) (by kernel_rfl) (by kernel_rfl) (fun _ _ _ h => h) (Or.inl ⟨by rfl, ?_⟩) (by assumption) ?_
                rotate_left
                · (intro w hSw; (try dsimp only at hSw); skip; go_simp) <;> with_reducible rfl
                (simp only [Act.put, List.getElem_toArray, List.getElem_cons_zero, List.getElem_cons_succ, List.setIfInBounds_toArray, List.set_cons_zero, List.set_cons_succ])
                refine wpAnyH_take (i := 8) (v := ?_) rfl (by kernel_rfl) (by kernel_rfl) (by kernel_rfl) (fun _ _ _ h => h) (Or.inl ⟨by rfl, ?_⟩) (by assumption) ?_
                rotate_left
                · (intro w hSw; (try dsimp only at hSw); skip; go_simp) <;> with_reducible rfl
                (simp only [Act.put, List.getElem_toArray, List.getElem_cons_zero, List.getElem_cons_succ, List.setIfInBounds_toArray, List.set_cons_zero, List.set_cons_succ])
                refine wpAnyH_take (i := 9) (v := ?_) rfl (by kernel_rfl) (by kernel_rfl) (by kernel_rfl) (fun _ _ _ h => h) (Or.inl ⟨by rfl, ?_⟩) (by assumption) ?_
                rotate_left
                · (intro w hSw; (try dsimp only at hSw); skip; go_simp) <;> with_reducible rfl
                (simp only [Act.put, List.getElem_toArray, List.getElem_cons_zero, List.getElem_cons_succ, List.setIfInBounds_toArray, List.set_cons_zero, List.set_cons_succ])
                refine wpAnyH_take (i := 12) (v := ?_) rfl (by kernel_rfl) (by kernel_rfl) (by kernel_rfl) (fun _ _ _ h => h) (Or.inl ⟨by rfl, ?_⟩) (by assumption) ?_
                rotate_left
                · (intro w hSw; (try dsimp only at hSw); skip; go_simp) <;> with_reducible rfl
                (simp only [Act.put, List.getElem_toArray, List.getElem_cons_zero, List.getElem_cons_succ, List.setIfInBounds_toArray, List.set_cons_zero, List.set_cons_succ])
                refine wpAnyH_take (i := 15) (v := ?_) rfl (by kernel_rfl) (by kernel_rfl) (by kernel_rfl) (fun _ _ _ h => h) (Or.inl ⟨by rfl, ?_⟩) (by assumption) ?_
                rotate_left
                · (intro w hSw; (try dsimp only at hSw); skip; go_simp) <;> with_reducible rfl
                (simp only [Act.put, List.getElem_toArray, List.getElem_cons_zero, List.getElem_cons_succ, List.setIfInBounds_toArray, List.set_cons_zero, List.set_cons_succ])
                refine wpAnyH_take (i := 16) (v := ?_) rfl (by kernel_rfl) (by kernel_rfl) (by kernel_rfl) (fun _ _ _ h => h) (Or.inl ⟨by rfl, ?_⟩) (by assumption) ?_
                rotate_left
                · (intro w hSw; (try dsimp only at hSw); skip; go_simp) <;> with_reducible rfl
                (simp only [Act.put, List.getElem_toArray, List.getElem_cons_zero, List.getElem_cons_succ, List.setIfInBounds_toArray, List.set_cons_zero, List.set_cons_succ])
                refine wpAnyH_take (i := 19) (v := ?_) rfl (by kernel_rfl) (by kernel_rfl) (by kernel_rfl) (fun _ _ _ h => h) (Or.inl ⟨by rfl, ?_⟩) (by assumption) ?_
                rotate_left
                · (intro w hSw; (try dsimp only at hSw); skip; go_simp) <;> with_reducible rfl
                (simp only [Act.put, List.getElem_toArray, List.getElem_cons_zero, List.getElem_cons_succ, List.setIfInBounds_toArray, List.set_cons_zero, List.set_cons_succ])
                refine wpAnyH_take (i := 20) (v := ?_) rfl (by kernel_rfl) (by kernel_rfl) (by kernel_rfl) (fun _ _ _ h => h) (Or.inl ⟨by rfl, ?_⟩) (by assumption) ?_
                rotate_left
                · (intro w hSw; (try dsimp only at hSw); skip; go_simp) <;> with_reducible rfl
                (simp only [Act.put, List.getElem_toArray, List.getElem_cons_zero, List.getElem_cons_succ, List.setIfInBounds_toArray, List.set_cons_zero, List.set_cons_succ])
                refine wpAnyH_take (i := 23) (v := ?_) rfl (by kernel_rfl) (by kernel_rfl) (by kernel_rfl) (fun _ _ _ h => h) (Or.inl ⟨by rfl, ?_⟩) (by assumption) ?_
                rotate_left
                · (intro w hSw; (try dsimp only at hSw); skip; go_simp) <;> with_reducible rfl
                (simp only [Act.put, List.getElem_toArray, List.getElem_cons_zero, List.getElem_cons_succ, List.setIfInBounds_toArray, List.set_cons_zero, List.set_cons_succ])
                refine wpAnyH_take (i := 24) (v := ?_) rfl (by kernel_rfl) (by kernel_rfl) (by kernel_rfl) (fun _ _ _ h => h) (Or.inl ⟨by rfl, ?_⟩) (by assumption) ?_
                rotate_left
                · (intro w hSw; (try dsimp only at hSw); skip; go_simp) <;> with_reducible rfl
                (simp only [Act.put, List.getElem_toArray, List.getElem_cons_zero, List.getElem_cons_succ, List.setIfInBounds_toArray, List.set_cons_zero, List.set_cons_succ])
                refine wpAnyH_take (i := 25) (v := ?_) rfl (by kernel_rfl) (by kernel_rfl) (by kernel_rfl) (fun _ _ _ h => h) (Or.inl ⟨by rfl, ?_⟩) (by assumption) ?_
                rotate_left
                · (intro w hSw; (try dsimp only at hSw); skip; go_simp) <;> with_reducible rfl
                (simp only [Act.put, List.getElem_toArray, List.getElem_cons_zero, List.getElem_cons_succ, List.setIfInBounds_toArray, List.set_cons_zero, List.set_cons_succ])
                refine wpAnyH_take (i := 26) (v := ?_) rfl (by kernel_rfl) (by kernel_rfl) (by kernel_rfl) (fun _ _ _ h => h) (Or.inl ⟨by rfl, ?_⟩) (by assumption) ?_
                rotate_left
                · (intro w hSw; (try dsimp only at hSw); skip; go_simp) <;> with_reducible rfl
                (simp only [Act.put, List.getElem_toArray, List.getElem_cons_zero, List.getElem_cons_succ, List.setIfInBounds_toArray, List.set_cons_zero, List.set_cons_succ])
                refine wpAnyH_take (i := 27) (v := ?_) rfl (by kernel_rfl) (by kernel_rfl) (by kernel_rfl) (fun _ _ _ h => h) (Or.inl ⟨by rfl, ?_⟩) (by assumption) ?_
                rotate_left
                · (intro w hSw; (try dsimp only at hSw); skip; go_simp) <;> with_reducible rfl
                (simp only [Act.put, List.getElem_toArray, List.getElem_cons_zero, List.getElem_cons_succ, List.setIfInBounds_toArray, List.set_cons_zero, List.set_cons_succ])
                refine wpAnyH_take (i := 30) (v := ?_) rfl (by kernel_rfl) (by kernel_rfl) (by kernel_rfl) (fun _ _ _ h => h) (Or.inl ⟨by rfl, ?_⟩) (by assumption) ?_
                rotate_left
                · (intro w hSw; (try dsimp only at hSw); skip; go_simp) <;> with_reducible rfl
                (simp only [Act.put, List.getElem_toArray, List.getElem_cons_zero, List.getElem_cons_succ, List.setIfInBounds_toArray, List.set_cons_zero, List.set_cons_succ])
                refine wpAnyH_take (i := 31) (v := ?_) rfl (by kernel_rfl) (by kernel_rfl) (by kernel_rfl) (fun _ _ _ h => h) (Or.inl ⟨by rfl, ?_⟩) (by assumption) ?_
                rotate_left
                · (intro w hSw; (try dsimp only at hSw); skip; go_simp) <;> with_reducible rfl
                (simp only [Act.put, List.getElem_toArray, List.getElem_cons_zero, List.getElem_cons_succ, List.setIfInBounds_toArray, List.set_cons_zero, List.set_cons_succ])
                refine wpAnyH_ready (rs := [6]) (by kernel_rfl) (by simp) ?_
                refine AllReadyH.cons rfl (fun K hK => ?_) AllReadyH.nil
                go_simp
                refine (H1.out _).mono ?_
                rintro e w6 ⟨rfl, hb⟩
                replace HF := hide (HF.out.call hb)
                clear hb
                refine hK.out _ _ (HF.out.cell 0 rfl) (fun hHeld1 => ?_)
                clear hK K
                (try (simp only [Act.put, List.getElem_toArray, List.getElem_cons_zero, List.getElem_cons_succ, List.setIfInBounds_toArray, List.set_cons_zero, List.set_cons_succ]))
                refine wpAnyH_take (i := 7) (v := ?_) rfl (by kernel_rfl) (by kernel_rfl) (by kernel_rfl) (fun _ _ _ h => h) (Or.inl ⟨by rfl, ?_⟩) (by assumption) ?_
                rotate_left
                · (intro w hSw; (try dsimp only at hSw); skip; go_simp) <;> with_reducible rfl
                (simp only [Act.put, List.getElem_toArray, List.getElem_cons_zero, List.getElem_cons_succ, List.setIfInBounds_toArray, List.set_cons_zero, List.set_cons_succ])
                refine wpAnyH_ready (rs := [10]) (by kernel_rfl) (by simp) ?_
                refine AllReadyH.cons rfl (fun K hK => ?_) AllReadyH.nil
                go_simp
                refine (H2.out _).mono ?_
                rintro e w10 ⟨rfl, hb⟩
                replace HF := hide (HF.out.call hb)
                clear hb
                refine hK.out _ _ (HF.out.cell 0 rfl) (fun hHeld2 => ?_)
                clear hK K
                (try (simp only [Act.put, List.getElem_toArray, List.getElem_cons_zero, List.getElem_cons_succ, List.setIfInBounds_toArray, List.set_cons_zero, List.set_cons_succ]))
                refine wpAnyH_take (i := 11) (v := ?_) rfl (by kernel_rfl) (by kernel_rfl) (by kernel_rfl) (fun _ _ _ h => h) (Or.inl ⟨by rfl, ?_⟩) (by assumption) ?_
                rotate_left
                · (intro w hSw; (try dsimp only at hSw); skip; go_simp) <;> with_reducible rfl
                (simp only [Act.put, List.getElem_toArray, List.getElem_cons_zero, List.getElem_cons_succ, List.setIfInBounds_toArray, List.set_cons_zero, List.set_cons_succ])
                refine wpAnyH_ready (rs := [13]) (by kernel_rfl) (by simp) ?_
                refine AllReadyH.cons rfl (fun K hK => ?_) AllReadyH.nil
                go_simp
                refine (H3.out _).mono ?_
                rintro e w13 ⟨rfl, hb⟩
                replace HF := hide (HF.out.call hb)
                clear hb
                refine hK.out _ _ (HF.out.cell 0 rfl) (fun hHeld3 => ?_)
                clear hK K
                (try (simp only [Act.put, List.getElem_toArray, List.getElem_cons_zero, List.getElem_cons_succ, List.setIfInBounds_toArray, List.set_cons_zero, List.set_cons_succ]))
                refine wpAnyH_take (i := 14) (v := ?_) rfl (by kernel_rfl) (by kernel_rfl) (by kernel_rfl) (fun _ _ _ h => h) (Or.inl ⟨by rfl, ?_⟩) (by assumption) ?_
                rotate_left
                · (intro w hSw; (try dsimp only at hSw); skip; go_simp) <;> with_reducible rfl
                (simp only [Act.put, List.getElem_toArray, List.getElem_cons_zero, List.getElem_cons_succ, List.setIfInBounds_toArray, List.set_cons_zero, List.set_cons_succ])
                refine wpAnyH_ready (rs := [17]) (by kernel_rfl) (by simp) ?_
                refine AllReadyH.cons rfl (fun K hK => ?_) AllReadyH.nil
                go_simp
                refine (H4.out _).mono ?_
                rintro e w17 ⟨rfl, hb⟩
                replace HF := hide (HF.out.call hb)
                clear hb
                refine hK.out _ _ (HF.out.cell 0 rfl) (fun hHeld4 => ?_)
                clear hK K
                (try (simp only [Act.put, List.getElem_toArray, List.getElem_cons_zero, List.getElem_cons_succ, List.setIfInBounds_toArray, List.set_cons_zero, List.set_cons_succ]))
                refine wpAnyH_take (i := 18) (v := ?_) rfl (by kernel_rfl) (by kernel_rfl) (by kernel_rfl) (fun _ _ _ h => h) (Or.inl ⟨by rfl, ?_⟩) (by assumption) ?_
                rotate_left
                · (intro w hSw; (try dsimp only at hSw); skip; go_simp) <;> with_reducible rfl
                (simp only [Act.put, List.getElem_toArray, List.getElem_cons_zero, List.getElem_cons_succ, List.setIfInBounds_toArray, List.set_cons_zero, List.set_cons_succ])
                refine wpAnyH_ready (rs := [21]) (by kernel_rfl) (by simp) ?_
                refine AllReadyH.cons rfl (fun K hK => ?_) AllReadyH.nil
                go_simp
                refine (H5.out _).mono ?_
                rintro e w21 ⟨rfl, hb⟩
                replace HF := hide (HF.out.call hb)
                clear hb
                refine hK.out _ _ (HF.out.cell 0 rfl) (fun hHeld5 => ?_)
                clear hK K
                (try (simp only [Act.put, List.getElem_toArray, List.getElem_cons_zero, List.getElem_cons_succ, List.setIfInBounds_toArray, List.set_cons_zero, List.set_cons_succ]))
                refine wpAnyH_take (i := 22) (v := ?_) rfl (by kernel_rfl) (by kernel_rfl) (by kernel_rfl) (fun _ _ _ h => h) (Or.inl ⟨by rfl, ?_⟩) (by assumption) ?_
                rotate_left
                · (intro w hSw; (try dsimp only at hSw); skip; go_simp) <;> with_reducible rfl
                (simp only [Act.put, List.getElem_toArray, List.getElem_cons_zero, List.getElem_cons_succ, List.setIfInBounds_toArray, List.set_cons_zero, List.set_cons_succ])
                refine wpAnyH_ready (rs := [28]) (by kernel_rfl) (by simp) ?_
                refine AllReadyH.cons rfl (fun K hK => ?_) AllReadyH.nil
                go_simp
                refine (H6.out _).mono ?_
                rintro e w28 ⟨rfl, hb⟩
                replace HF := hide (HF.out.call hb)
                clear hb
                refine hK.out _ _ (HF.out.cell 0 rfl) (fun hHeld6 => ?_)
                clear hK K
                (try (simp only [Act.put, List.getElem_toArray, List.getElem_cons_zero, List.getElem_cons_succ, List.setIfInBounds_toArray, List.set_cons_zero, List.set_cons_succ]))
                refine wpAnyH_take (i := 29) (v := ?_) rfl (by kernel_rfl) (by kernel_rfl) (by kernel_rfl) (fun _ _ _ h => h) (Or.inl ⟨by rfl, ?_⟩) (by assumption) ?_
                rotate_left
                · (intro w hSw; (try dsimp only at hSw); skip; go_simp) <;> with_reducible rfl
                (simp only [Act.put, List.getElem_toArray, List.getElem_cons_zero, List.getElem_cons_succ, List.setIfInBounds_toArray, List.set_cons_zero, List.set_cons_succ])
                refine wpAnyH_ready (rs := [32]) (by kernel_rfl) (by simp) ?_
                refine AllReadyH.cons rfl (fun K hK => ?_) AllReadyH.nil
                go_simp
                refine (H7.out _).mono ?_
                rintro e w32 ⟨rfl, hb⟩
                replace HF := hide (HF.out.call hb)
                clear hb
                refine hK.out _ _ (HF.out.cell 0 rfl) (fun hHeld7 => ?_)
                clear hK K
                (try (simp only [Act.put, List.getElem_toArray, List.getElem_cons_zero, List.getElem_cons_succ, List.setIfInBounds_toArray, List.set_cons_zero, List.set_cons_succ]))
                refine wpAnyH_take (i := 33) (v := ?_) rfl (by kernel_rfl) (by kernel_rfl) (by kernel_rfl) (fun _ _ _ h => h) (Or.inl ⟨by rfl, ?_⟩) (by assumption) ?_
                rotate_left
                · (intro w hSw; (try dsimp only at hSw); skip; go_simp) <;> with_reducible rfl
                (simp only [Act.put, List.getElem_toArray, List.getElem_cons_zero, List.getElem_cons_succ, List.setIfInBounds_toArray, List.set_cons_zero, List.set_cons_succ])
                refine wpAnyH_take (i := 34) (v := ?_) rfl (by kernel_rfl) (by kernel_rfl) (by kernel_rfl) (fun _ _ _ h => h) (Or.inl ⟨by rfl, ?_⟩) (by assumption) ?_
                rotate_left
                · (intro w hSw; (try dsimp only at hSw); skip; go_simp) <;> with_reducible rfl
                (simp only [Act.put, List.getElem_toArray, List.getElem_cons_zero, List.getElem_cons_succ, List.setIfInBounds_toArray, List.set_cons_zero, List.set_cons_succ])
                refine wpAnyH_done (by kernel_rfl) ?_ _
                go_wp2_with fail
                go_roundw
                case rel => exact ⟨k + 1, by omega, congrArg Value.string HSum.out, by go_num, HF.out.tail⟩
                case measure => simp [intOf]; omega
              · have H3 := hide (fun w' => four_any 1 w' ⟨by omega, by omega⟩)
                have a3 : (strOf (four 1)).size ≤ 4 := Nat.le_refl _
                simp only [if_true] at HSum
                generalize strOf (four 1) = A3 at *
                replace HF := hide (HF.out.alloc (q := wr.heap.size) rfl #[.string nm, .int .i64 kd, .bool true, .int .i64 pl, .int .i64 sz, .string sg, .int .i64 fr] 44)
                have s1 : ¬ 9223372036854775807 < T0.size + A1.size := by omega
                have s2 : ¬ 9223372036854775807 < T0.size + A1.size + A2.size := by omega
                have s3 : ¬ 9223372036854775807 < T0.size + A1.size + A2.size + A3.size := by omega
                have s4 : ¬ 9223372036854775807 < T0.size + A1.size + A2.size + A3.size + A4.size := by omega
                have s5 : ¬ 9223372036854775807 < T0.size + A1.size + A2.size + A3.size + A4.size + A5.size := by omega
                have s6 : ¬ 9223372036854775807 < T0.size + A1.size + A2.size + A3.size + A4.size + A5.size + A6.size := by omega
                have s7 : ¬ 9223372036854775807 < T0.size + A1.size + A2.size + A3.size + A4.size + A5.size + A6.size + A7.size := by omega
                clear a1 a2 a3 a4 a5 a6 a7 t0
                go_wp2_with fail
                generalize hbs : wr.heap.size = bs at *
                clear hbs
                replace HF := hide HF.out.drew
                refine wp_region_held_drew (S := fun w' => (∀ o, w'.cell? ⟨bs, o, none⟩ = (#[Value.string nm, .int .i64 kd, .bool true, .int .i64 pl, .int .i64 sz, .string sg, .int .i64 fr])[o]?)) (by kernel_rfl) (HF.out.cell 0 rfl) (fun hHeld => ?_)
                refine wpAnyH_take (i := 0) (v := ?_) rfl (by kernel_rfl) (by kernel_rfl) (by kernel_rfl) (fun _ _ _ h => h) (Or.inl ⟨by rfl, ?_⟩) (by assumption) ?_
                rotate_left
                · (intro w hSw; (try dsimp only at hSw); skip; go_simp) <;> with_reducible rfl
                (simp only [Act.put, List.getElem_toArray, List.getElem_cons_zero, List.getElem_cons_succ, List.setIfInBounds_toArray, List.set_cons_zero, List.set_cons_succ])
                refine wpAnyH_take (i := 1) (v := ?_) rfl (by kernel_rfl) (by kernel_rfl) (by kernel_rfl) (fun _ _ _ h => h) (Or.inl ⟨by rfl, ?_⟩) (by assumption) ?_
                rotate_left
                · (intro w hSw; (try dsimp only at hSw); skip; go_simp) <;> with_reducible rfl
                (simp only [Act.put, List.getElem_toArray, List.getElem_cons_zero, List.getElem_cons_succ, List.setIfInBounds_toArray, List.set_cons_zero, List.set_cons_succ])
                refine wpAnyH_take (i := 2) (v := ?_) rfl (by kernel_rfl) (by kernel_rfl) (by kernel_rfl) (fun _ _ _ h => h) (Or.inl ⟨by rfl, ?_⟩) (by assumption) ?_
                rotate_left
                · (intro w hSw; (try dsimp only at hSw); skip; go_simp) <;> with_reducible rfl
                (simp only [Act.put, List.getElem_toArray, List.getElem_cons_zero, List.getElem_cons_succ, List.setIfInBounds_toArray, List.set_cons_zero, List.set_cons_succ])
                refine wpAnyH_take (i := 3) (v := ?_) rfl (by kernel_rfl) (by kernel_rfl) (by kernel_rfl) (fun _ _ _ h => h) (Or.inl ⟨by rfl, ?_⟩) (by assumption) ?_
                rotate_left
                · (intro w hSw; (try dsimp only at hSw); skip; go_simp) <;> with_reducible rfl
                (simp only [Act.put, List.getElem_toArray, List.getElem_cons_zero, List.getElem_cons_succ, List.setIfInBounds_toArray, List.set_cons_zero, List.set_cons_succ])
                refine wpAnyH_take (i := 4) (v := ?_) rfl (by kernel_rfl) (by kernel_rfl) (by kernel_rfl) (fun _ _ _ h => h) (Or.inl ⟨by rfl, ?_⟩) (by assumption) ?_
                rotate_left
                · (intro w hSw; (try dsimp only at hSw); skip; go_simp) <;> with_reducible rfl
                (simp only [Act.put, List.getElem_toArray, List.getElem_cons_zero, List.getElem_cons_succ, List.setIfInBounds_toArray, List.set_cons_zero, List.set_cons_succ])
                refine wpAnyH_take (i := 5) (v := ?_) rfl (by kernel_rfl) (by kernel_rfl) (by kernel_rfl) (fun _ _ _ h => h) (Or.inl ⟨by rfl, ?_⟩) (by assumption) ?_
                rotate_left
                · (intro w hSw; (try dsimp only at hSw); skip; go_simp) <;> with_reducible rfl
                (simp only [Act.put, List.getElem_toArray, List.getElem_cons_zero, List.getElem_cons_succ, List.setIfInBounds_toArray, List.set_cons_zero, List.set_cons_succ])
                refine wpAnyH_take (i := 8) (v := ?_) rfl (by kernel_rfl) (by kernel_rfl) (by kernel_rfl) (fun _ _ _ h => h) (Or.inl ⟨by rfl, ?_⟩) (by assumption) ?_
                rotate_left
                · (intro w hSw; (try dsimp only at hSw); skip; go_simp) <;> with_reducible rfl
                (simp only [Act.put, List.getElem_toArray, List.getElem_cons_zero, List.getElem_cons_succ, List.setIfInBounds_toArray, List.set_cons_zero, List.set_cons_succ])
                refine wpAnyH_take (i := 9) (v := ?_) rfl (by kernel_rfl) (by kernel_rfl) (by kernel_rfl) (fun _ _ _ h => h) (Or.inl ⟨by rfl, ?_⟩) (by assumption) ?_
                rotate_left
                · (intro w hSw; (try dsimp only at hSw); skip; go_simp) <;> with_reducible rfl
                (simp only [Act.put, List.getElem_toArray, List.getElem_cons_zero, List.getElem_cons_succ, List.setIfInBounds_toArray, List.set_cons_zero, List.set_cons_succ])
                refine wpAnyH_take (i := 12) (v := ?_) rfl (by kernel_rfl) (by kernel_rfl) (by kernel_rfl) (fun _ _ _ h => h) (Or.inl ⟨by rfl, ?_⟩) (by assumption) ?_
                rotate_left
                · (intro w hSw; (try dsimp only at hSw); skip; go_simp) <;> with_reducible rfl
                (simp only [Act.put, List.getElem_toArray, List.getElem_cons_zero, List.getElem_cons_succ, List.setIfInBounds_toArray, List.set_cons_zero, List.set_cons_succ])
                refine wpAnyH_take (i := 15) (v := ?_) rfl (by kernel_rfl) (by kernel_rfl) (by kernel_rfl) (fun _ _ _ h => h) (Or.inl ⟨by rfl, ?_⟩) (by assumption) ?_
                rotate_left
                · (intro w hSw; (try dsimp only at hSw); skip; go_simp) <;> with_reducible rfl
                (simp only [Act.put, List.getElem_toArray, List.getElem_cons_zero, List.getElem_cons_succ, List.setIfInBounds_toArray, List.set_cons_zero, List.set_cons_succ])
                refine wpAnyH_take (i := 16) (v := ?_) rfl (by kernel_rfl) (by kernel_rfl) (by kernel_rfl) (fun _ _ _ h => h) (Or.inl ⟨by rfl, ?_⟩) (by assumption) ?_
                rotate_left
                · (intro w hSw; (try dsimp only at hSw); skip; go_simp) <;> with_reducible rfl
                (simp only [Act.put, List.getElem_toArray, List.getElem_cons_zero, List.getElem_cons_succ, List.setIfInBounds_toArray, List.set_cons_zero, List.set_cons_succ])
                refine wpAnyH_take (i := 19) (v := ?_) rfl (by kernel_rfl) (by kernel_rfl) (by kernel_rfl) (fun _ _ _ h => h) (Or.inl ⟨by rfl, ?_⟩) (by assumption) ?_
                rotate_left
                · (intro w hSw; (try dsimp only at hSw); skip; go_simp) <;> with_reducible rfl
                (simp only [Act.put, List.getElem_toArray, List.getElem_cons_zero, List.getElem_cons_succ, List.setIfInBounds_toArray, List.set_cons_zero, List.set_cons_succ])
                refine wpAnyH_take (i := 20) (v := ?_) rfl (by kernel_rfl) (by kernel_rfl) (by kernel_rfl) (fun _ _ _ h => h) (Or.inl ⟨by rfl, ?_⟩) (by assumption) ?_
                rotate_left
                · (intro w hSw; (try dsimp only at hSw); skip; go_simp) <;> with_reducible rfl
                (simp only [Act.put, List.getElem_toArray, List.getElem_cons_zero, List.getElem_cons_succ, List.setIfInBounds_toArray, List.set_cons_zero, List.set_cons_succ])
                refine wpAnyH_take (i := 23) (v := ?_) rfl (by kernel_rfl) (by kernel_rfl) (by kernel_rfl) (fun _ _ _ h => h) (Or.inl ⟨by rfl, ?_⟩) (by assumption) ?_
                rotate_left
                · (intro w hSw; (try dsimp only at hSw); skip; go_simp) <;> with_reducible rfl
                (simp only [Act.put, List.getElem_toArray, List.getElem_cons_zero, List.getElem_cons_succ, List.setIfInBounds_toArray, List.set_cons_zero, List.set_cons_succ])
                refine wpAnyH_take (i := 24) (v := ?_) rfl (by kernel_rfl) (by kernel_rfl) (by kernel_rfl) (fun _ _ _ h => h) (Or.inl ⟨by rfl, ?_⟩) (by assumption) ?_
                rotate_left
                · (intro w hSw; (try dsimp only at hSw); skip; go_simp) <;> with_reducible rfl
                (simp only [Act.put, List.getElem_toArray, List.getElem_cons_zero, List.getElem_cons_succ, List.setIfInBounds_toArray, List.set_cons_zero, List.set_cons_succ])
                refine wpAnyH_take (i := 25) (v := ?_) rfl (by kernel_rfl) (by kernel_rfl) (by kernel_rfl) (fun _ _ _ h => h) (Or.inl ⟨by rfl, ?_⟩) (by assumption) ?_
                rotate_left
                · (intro w hSw; (try dsimp only at hSw); skip; go_simp) <;> with_reducible rfl
                (simp only [Act.put, List.getElem_toArray, List.getElem_cons_zero, List.getElem_cons_succ, List.setIfInBounds_toArray, List.set_cons_zero, List.set_cons_succ])
                refine wpAnyH_take (i := 26) (v := ?_) rfl (by kernel_rfl) (by kernel_rfl) (by kernel_rfl) (fun _ _ _ h => h) (Or.inl ⟨by rfl, ?_⟩) (by assumption) ?_
                rotate_left
                · (intro w hSw; (try dsimp only at hSw); skip; go_simp) <;> with_reducible rfl
                (simp only [Act.put, List.getElem_toArray, List.getElem_cons_zero, List.getElem_cons_succ, List.setIfInBounds_toArray, List.set_cons_zero, List.set_cons_succ])
                refine wpAnyH_take (i := 27) (v := ?_) rfl (by kernel_rfl) (by kernel_rfl) (by kernel_rfl) (fun _ _ _ h => h) (Or.inl ⟨by rfl, ?_⟩) (by assumption) ?_
                rotate_left
                · (intro w hSw; (try dsimp only at hSw); skip; go_simp) <;> with_reducible rfl
                (simp only [Act.put, List.getElem_toArray, List.getElem_cons_zero, List.getElem_cons_succ, List.setIfInBounds_toArray, List.set_cons_zero, List.set_cons_succ])
                refine wpAnyH_take (i := 30) (v := ?_) rfl (by kernel_rfl) (by kernel_rfl) (by kernel_rfl) (fun _ _ _ h => h) (Or.inl ⟨by rfl, ?_⟩) (by assumption) ?_
                rotate_left
                · (intro w hSw; (try dsimp only at hSw); skip; go_simp) <;> with_reducible rfl
                (simp only [Act.put, List.getElem_toArray, List.getElem_cons_zero, List.getElem_cons_succ, List.setIfInBounds_toArray, List.set_cons_zero, List.set_cons_succ])
                refine wpAnyH_take (i := 31) (v := ?_) rfl (by kernel_rfl) (by kernel_rfl) (by kernel_rfl) (fun _ _ _ h => h) (Or.inl ⟨by rfl, ?_⟩) (by assumption) ?_
                rotate_left
                · (intro w hSw; (try dsimp only at hSw); skip; go_simp) <;> with_reducible rfl
                (simp only [Act.put, List.getElem_toArray, List.getElem_cons_zero, List.getElem_cons_succ, List.setIfInBounds_toArray, List.set_cons_zero, List.set_cons_succ])
                refine wpAnyH_ready (rs := [6]) (by kernel_rfl) (by simp) ?_
                refine AllReadyH.cons rfl (fun K hK => ?_) AllReadyH.nil
                go_simp
                refine (H1.out _).mono ?_
                rintro e w6 ⟨rfl, hb⟩
                replace HF := hide (HF.out.call hb)
                clear hb
                refine hK.out _ _ (HF.out.cell 0 rfl) (fun hHeld8 => ?_)
                clear hK K
                (try (simp only [Act.put, List.getElem_toArray, List.getElem_cons_zero, List.getElem_cons_succ, List.setIfInBounds_toArray, List.set_cons_zero, List.set_cons_succ]))
                refine wpAnyH_take (i := 7) (v := ?_) rfl (by kernel_rfl) (by kernel_rfl) (by kernel_rfl) (fun _ _ _ h => h) (Or.inl ⟨by rfl, ?_⟩) (by assumption) ?_
                rotate_left
                · (intro w hSw; (try dsimp only at hSw); skip; go_simp) <;> with_reducible rfl
                (simp only [Act.put, List.getElem_toArray, List.getElem_cons_zero, List.getElem_cons_succ, List.setIfInBounds_toArray, List.set_cons_zero, List.set_cons_succ])
                refine wpAnyH_ready (rs := [10]) (by kernel_rfl) (by simp) ?_
                refine AllReadyH.cons rfl (fun K hK => ?_) AllReadyH.nil
                go_simp
                refine (H2.out _).mono ?_
                rintro e w10 ⟨rfl, hb⟩
                replace HF := hide (HF.out.call hb)
                clear hb
                refine hK.out _ _ (HF.out.cell 0 rfl) (fun hHeld9 => ?_)
                clear hK K
                (try (simp only [Act.put, List.getElem_toArray, List.getElem_cons_zero, List.getElem_cons_succ, List.setIfInBounds_toArray, List.set_cons_zero, List.set_cons_succ]))
                refine wpAnyH_take (i := 11) (v := ?_) rfl (by kernel_rfl) (by kernel_rfl) (by kernel_rfl) (fun _ _ _ h => h) (Or.inl ⟨by rfl, ?_⟩) (by assumption) ?_
                rotate_left
                · (intro w hSw; (try dsimp only at hSw); skip; go_simp) <;> with_reducible rfl
                (simp only [Act.put, List.getElem_toArray, List.getElem_cons_zero, List.getElem_cons_succ, List.setIfInBounds_toArray, List.set_cons_zero, List.set_cons_succ])
                refine wpAnyH_ready (rs := [13]) (by kernel_rfl) (by simp) ?_
                refine AllReadyH.cons rfl (fun K hK => ?_) AllReadyH.nil
                go_simp
                refine (H3.out _).mono ?_
                rintro e w13 ⟨rfl, hb⟩
                replace HF := hide (HF.out.call hb)
                clear hb
                refine hK.out _ _ (HF.out.cell 0 rfl) (fun hHeld10 => ?_)
                clear hK K
                (try (simp only [Act.put, List.getElem_toArray, List.getElem_cons_zero, List.getElem_cons_succ, List.setIfInBounds_toArray, List.set_cons_zero, List.set_cons_succ]))
                refine wpAnyH_take (i := 14) (v := ?_) rfl (by kernel_rfl) (by kernel_rfl) (by kernel_rfl) (fun _ _ _ h => h) (Or.inl ⟨by rfl, ?_⟩) (by assumption) ?_
                rotate_left
                · (intro w hSw; (try dsimp only at hSw); skip; go_simp) <;> with_reducible rfl
                (simp only [Act.put, List.getElem_toArray, List.getElem_cons_zero, List.getElem_cons_succ, List.setIfInBounds_toArray, List.set_cons_zero, List.set_cons_succ])
                refine wpAnyH_ready (rs := [17]) (by kernel_rfl) (by simp) ?_
                refine AllReadyH.cons rfl (fun K hK => ?_) AllReadyH.nil
                go_simp
                refine (H4.out _).mono ?_
                rintro e w17 ⟨rfl, hb⟩
                replace HF := hide (HF.out.call hb)
                clear hb
                refine hK.out _ _ (HF.out.cell 0 rfl) (fun hHeld11 => ?_)
                clear hK K
                (try (simp only [Act.put, List.getElem_toArray, List.getElem_cons_zero, List.getElem_cons_succ, List.setIfInBounds_toArray, List.set_cons_zero, List.set_cons_succ]))
                refine wpAnyH_take (i := 18) (v := ?_) rfl (by kernel_rfl) (by kernel_rfl) (by kernel_rfl) (fun _ _ _ h => h) (Or.inl ⟨by rfl, ?_⟩) (by assumption) ?_
                rotate_left
                · (intro w hSw; (try dsimp only at hSw); skip; go_simp) <;> with_reducible rfl
                (simp only [Act.put, List.getElem_toArray, List.getElem_cons_zero, List.getElem_cons_succ, List.setIfInBounds_toArray, List.set_cons_zero, List.set_cons_succ])
                refine wpAnyH_ready (rs := [21]) (by kernel_rfl) (by simp) ?_
                refine AllReadyH.cons rfl (fun K hK => ?_) AllReadyH.nil
                go_simp
                refine (H5.out _).mono ?_
                rintro e w21 ⟨rfl, hb⟩
                replace HF := hide (HF.out.call hb)
                clear hb
                refine hK.out _ _ (HF.out.cell 0 rfl) (fun hHeld12 => ?_)
                clear hK K
                (try (simp only [Act.put, List.getElem_toArray, List.getElem_cons_zero, List.getElem_cons_succ, List.setIfInBounds_toArray, List.set_cons_zero, List.set_cons_succ]))
                refine wpAnyH_take (i := 22) (v := ?_) rfl (by kernel_rfl) (by kernel_rfl) (by kernel_rfl) (fun _ _ _ h => h) (Or.inl ⟨by rfl, ?_⟩) (by assumption) ?_
                rotate_left
                · (intro w hSw; (try dsimp only at hSw); skip; go_simp) <;> with_reducible rfl
                (simp only [Act.put, List.getElem_toArray, List.getElem_cons_zero, List.getElem_cons_succ, List.setIfInBounds_toArray, List.set_cons_zero, List.set_cons_succ])
                refine wpAnyH_ready (rs := [28]) (by kernel_rfl) (by simp) ?_
                refine AllReadyH.cons rfl (fun K hK => ?_) AllReadyH.nil
                go_simp
                refine (H6.out _).mono ?_
                rintro e w28 ⟨rfl, hb⟩
                replace HF := hide (HF.out.call hb)
                clear hb
                refine hK.out _ _ (HF.out.cell 0 rfl) (fun hHeld13 => ?_)
                clear hK K
                (try (simp only [Act.put, List.getElem_toArray, List.getElem_cons_zero, List.getElem_cons_succ, List.setIfInBounds_toArray, List.set_cons_zero, List.set_cons_succ]))
                refine wpAnyH_take (i := 29) (v := ?_) rfl (by kernel_rfl) (by kernel_rfl) (by kernel_rfl) (fun _ _ _ h => h) (Or.inl ⟨by rfl, ?_⟩) (by assumption) ?_
                rotate_left
                · (intro w hSw; (try dsimp only at hSw); skip; go_simp) <;> with_reducible rfl
                (simp only [Act.put, List.getElem_toArray, List.getElem_cons_zero, List.getElem_cons_succ, List.setIfInBounds_toArray, List.set_cons_zero, List.set_cons_succ])
                refine wpAnyH_ready (rs := [32]) (by kernel_rfl) (by simp) ?_
                refine AllReadyH.cons rfl (fun K hK => ?_) AllReadyH.nil
                go_simp
                refine (H7.out _).mono ?_
                rintro e w32 ⟨rfl, hb⟩
                replace HF := hide (HF.out.call hb)
                clear hb
                refine hK.out _ _ (HF.out.cell 0 rfl) (fun hHeld14 => ?_)
                clear hK K
                (try (simp only [Act.put, List.getElem_toArray, List.getElem_cons_zero, List.getElem_cons_succ, List.setIfInBounds_toArray, List.set_cons_zero, List.set_cons_succ]))
                refine wpAnyH_take (i := 33) (v := ?_) rfl (by kernel_rfl) (by kernel_rfl) (by kernel_rfl) (fun _ _ _ h => h) (Or.inl ⟨by rfl, ?_⟩) (by assumption) ?_
                rotate_left
                · (intro w hSw; (try dsimp only at hSw); skip; go_simp) <;> with_reducible rfl
                (simp only [Act.put, List.getElem_toArray, List.getElem_cons_zero, List.getElem_cons_succ, List.setIfInBounds_toArray, List.set_cons_zero, List.set_cons_succ])
                refine wpAnyH_take (i := 34) (v := ?_) rfl (by kernel_rfl) (by kernel_rfl) (by kernel_rfl) (fun _ _ _ h => h) (Or.inl ⟨by rfl, ?_⟩) (by assumption) ?_
                rotate_left
                · (intro w hSw; (try dsimp only at hSw); skip; go_simp) <;> with_reducible rfl
                (simp only [Act.put, List.getElem_toArray, List.getElem_cons_zero, List.getElem_cons_succ, List.setIfInBounds_toArray, List.set_cons_zero, List.set_cons_succ])
                refine wpAnyH_done (by kernel_rfl) ?_ _
                go_wp2_with fail
                go_roundw
                case rel => exact ⟨k + 1, by omega, congrArg Value.string HSum.out, by go_num, HF.out.tail⟩
                case measure => simp [intOf]; omega
            · have hlt' : ¬ (k : Int) < ns := by omega
              obtain rfl : ns = k := by omega
              obtain ⟨T3, H3⟩ : ∃ T, Hid (T = strOf ((o.syms.take ns).flatMap symP)) := ⟨_, rfl⟩
              rw [← H3.out]
              have HF0 := hide (HF.out.empty (T := 5) (q := wr.heap.size) rfl)
              go_wp2_with fail
              clear c0
              go_loopw [13, 14] (fun v i wr => ∃ (k : Nat) (ad : Option Addr) (c : Nat), k ≤ nr ∧ v = .slice ad (12 * k) c ∧ i = .int .i64 k ∧ Hid (Fr bq w wr [.row (.slice ad (12 * k) c) 5 1 (12 * k) (bc ((o.rels.take k).flatMap relP)), .row (.slice ad2 (4 * nd) c2) 5 1 (4 * nd) (bc (o.data.flatMap (fun x => four (free x)))), .row (.slice ad1 (4 * nc) c1) 5 1 (4 * nc) (bc (o.code.flatMap four)), .blk bq #[.slice ca nc cc, .slice da nd dc, .slice sa ns sc, .slice ra nr rc] 27])) (fun _ i _ => nr - (intOf i).toNat)
              case atStart => exact ⟨0, _, _, Nat.zero_le _, rfl, rfl, by simpa [bc] using HF0⟩
              case round =>
                clear HF HF0
                obtain ⟨k, ad4, c4, hk, rfl, rfl, HF⟩ := hrel
                by_cases hlt : k < nr
                · have hlt' : (k : Int) < nr := by omega
                  have hidx : (0 : Int) ≤ k ∧ (k : Int) < nr := by omega
                  have hkl : k < o.rels.length := by omega
                  obtain ⟨g, oo, rfl, HE⟩ := HR0.out (by omega)
                  have c0 := HF.out.cell 3 rfl
                  obtain ⟨e0, e1, e2, -⟩ := HE.out _ HF.out.below k hkl
                  obtain ⟨m1, m2, m3⟩ := HR4.out k hkl
                  have HNx : Hid (bc ((o.rels.take (k + 1)).flatMap relP) = bc ((o.rels.take k).flatMap relP) ++ Lib.strCells (strOf (four (o.rels[k]'hkl).pl)) ++ Lib.strCells (strOf (four (o.rels[k]'hkl).sym)) ++ Lib.strCells (strOf (four (o.rels[k]'hkl).add))) := (by
                    show bc _ = _
                    rw [flat_next relP o.rels k hkl, bc_app]
                    unfold relP
                    rw [bc_app, bc_app]
                    simp only [List.append_assoc]
                    rfl)
                  have FAc := hide (fun w' => four_any (o.rels[k]'hkl).pl w' m1)
                  have FBc := hide (fun w' => four_any (o.rels[k]'hkl).sym w' m2)
                  have FCc := hide (fun w' => four_any (o.rels[k]'hkl).add w' m3)
                  have hFA : (strOf (four (o.rels[k]'hkl).pl)).size = 4 := rfl
                  have hFB : (strOf (four (o.rels[k]'hkl).sym)).size = 4 := rfl
                  have hFC : (strOf (four (o.rels[k]'hkl).add)).size = 4 := rfl
                  generalize strOf (four (o.rels[k]'hkl).pl) = FA at *
                  generalize strOf (four (o.rels[k]'hkl).sym) = FB at *
                  generalize strOf (four (o.rels[k]'hkl).add) = FC at *
                  generalize o.rels[k]'hkl = S at *
                  obtain ⟨pl, sy, ad⟩ := S
                  simp only at *
                  clear HE m1 m2 m3
                  replace HF := hide (HF.out.alloc (q := wr.heap.size) rfl #[.int .i64 pl, .int .i64 sy, .int .i64 ad] 47)
                  have s0 := HF.out.cell 0 rfl
                  go_wp2_with fail
                  generalize hbs : wr.heap.size = bs at *
                  clear hbs e0 e1 e2 c0
                  go_at_call 17
                  refine (FAc.out _).mono ?_
                  rintro e wq ⟨rfl, hb⟩
                  replace HF := hide (HF.out.call hb)
                  replace s0 := HF.out.cell 0 rfl
                  clear hb
                  go_wp2_with (at_builtin; refine Fr.str 28 9 info5 Try.underlying28 Try.underlying9 HF.out 1 rfl (by omega) (.tmp 116) (.tmp 119) rfl rfl rfl FA rfl (by omega) ?_; intro adFA cFA wFA hF3 _; replace HF := hide hF3; clear hF3; (try replace HF := HF.out); (try rw [hFA] at HF); replace s0 := Fr.cell HF 0 rfl; replace HF := hide HF)
                  go_at_call 17
                  refine (FBc.out _).mono ?_
                  rintro e wq ⟨rfl, hb⟩
                  replace HF := hide (HF.out.call hb)
                  replace s0 := HF.out.cell 0 rfl
                  clear hb
                  go_wp2_with (at_builtin; refine Fr.str 28 9 info5 Try.underlying28 Try.underlying9 HF.out 1 rfl (by omega) (.tmp 121) (.tmp 124) rfl rfl rfl FB rfl (by omega) ?_; intro adFB cFB wFB hF3 _; replace HF := hide hF3; clear hF3; (try replace HF := HF.out); (try rw [hFB] at HF); replace s0 := Fr.cell HF 0 rfl; replace HF := hide HF)
                  go_at_call 17
                  refine (FCc.out _).mono ?_
                  rintro e wq ⟨rfl, hb⟩
                  replace HF := hide (HF.out.call hb)
                  replace s0 := HF.out.cell 0 rfl
                  clear hb
                  go_wp2_with (at_builtin; refine Fr.str 28 9 info5 Try.underlying28 Try.underlying9 HF.out 1 rfl (by omega) (.tmp 126) (.tmp 129) rfl rfl rfl FC rfl (by omega) ?_; intro adFC cFC wFC hF3 _; replace HF := hide hF3; clear hF3; (try replace HF := HF.out); (try rw [hFC] at HF); replace s0 := Fr.cell HF 0 rfl; replace HF := hide HF)
                  replace HF := HF.out
                  rw [← HNx.out] at HF
                  have e4 : 12 * k + 4 + 4 + 4 = 12 * (k + 1) := by omega
                  rw [e4] at HF
                  replace HF := hide HF.tail
                  go_roundw
                  case rel => exact ⟨k + 1, adFC, cFC, by omega, by simp [hFA, hFB, hFC]; omega, by go_num, HF⟩
                  case measure => simp [intOf]; omega
                · have hlt' : ¬ (k : Int) < nr := by omega
                  obtain rfl : nr = k := by omega
                  replace HF : Hid (Fr bq w wr [.row (.slice ad4 (12 * nr) c4) 5 1 (12 * nr) (bc (o.rels.flatMap relP)), .row (.slice ad2 (4 * nd) c2) 5 1 (4 * nd) (bc (o.data.flatMap (fun x => four (free x)))), .row (.slice ad1 (4 * nc) c1) 5 1 (4 * nc) (bc (o.code.flatMap four)), .blk bq #[.slice ca nc cc, .slice da nd dc, .slice sa ns sc, .slice ra nr rc] 27]) := (by
                    have h := HF.out
                    rw [List.take_of_length_le (by omega)] at h
                    exact h)
                  have c0 := HF.out.cell 3 rfl
                  have LC : (strOf (o.code.flatMap four)).size = 4 * nc := by rw [strOf_size, ← hcl]; exact flat_len4 (fun x => x) o.code
                  have LD : (strOf (o.data.flatMap (fun x => four (free x)))).size = 4 * nd := by rw [strOf_size, ← hdl]; exact flat_len4 free o.data
                  have LR : (strOf (o.rels.flatMap relP)).size = 12 * nr := by rw [strOf_size, ← hrl]; exact rel_len o.rels
                  have LS : (strOf (o.syms.flatMap symP)).size ≤ 840000 := by
                    rw [strOf_size]
                    have h := HSL.out ns (by omega)
                    rw [List.take_of_length_le (by omega)] at h
                    omega
                  have G1 := hide (fun w' => counted_any nc (strOf (o.code.flatMap four)) w' ⟨by omega, by omega⟩ (by omega))
                  have G2 := hide (fun w' => counted_any nd (strOf (o.data.flatMap (fun x => four (free x)))) w' ⟨by omega, by omega⟩ (by omega))
                  have G3 := hide (fun w' => counted_any ns (strOf (o.syms.flatMap symP)) w' ⟨by omega, by omega⟩ (by omega))
                  have G4 := hide (fun w' => counted_any nr (strOf (o.rels.flatMap relP)) w' ⟨by omega, by omega⟩ (by omega))
                  have M1 : (strOf (four nc ++ bytes (strOf (o.code.flatMap four)))).size ≤ 24004 := by rw [strOf_size, List.length_append, four_length, bytes_strOf, ← strOf_size]; omega
                  have M2 : (strOf (four nd ++ bytes (strOf (o.data.flatMap (fun x => four (free x)))))).size ≤ 64004 := by rw [strOf_size, List.length_append, four_length, bytes_strOf, ← strOf_size]; omega
                  have M3 : (strOf (four ns ++ bytes (strOf (o.syms.flatMap symP)))).size ≤ 840004 := by rw [strOf_size, List.length_append, four_length, bytes_strOf, ← strOf_size]; omega
                  have M4 : (strOf (four nr ++ bytes (strOf (o.rels.flatMap relP)))).size ≤ 72004 := by rw [strOf_size, List.length_append, four_length, bytes_strOf, ← strOf_size]; omega
                  have HSum : Hid (strOf (four nc ++ bytes (strOf (o.code.flatMap four))) ++ strOf (four nd ++ bytes (strOf (o.data.flatMap (fun x => four (free x))))) ++ strOf (four ns ++ bytes (strOf (o.syms.flatMap symP))) ++ strOf (four nr ++ bytes (strOf (o.rels.flatMap relP))) = strOf (putO o)) := (by
                    show _ = _
                    rw [HP.out]
                    simp only [strOf_app, bytes_strOf])
                  obtain ⟨TC, HTC⟩ : ∃ T, Hid (strOf (o.code.flatMap four) = T) := ⟨_, rfl⟩
                  obtain ⟨TD, HTD⟩ : ∃ T, Hid (strOf (o.data.flatMap (fun x => four (free x))) = T) := ⟨_, rfl⟩
                  obtain ⟨TS, HTS⟩ : ∃ T, Hid (strOf (o.syms.flatMap symP) = T) := ⟨_, rfl⟩
                  obtain ⟨TR, HTR⟩ : ∃ T, Hid (strOf (o.rels.flatMap relP) = T) := ⟨_, rfl⟩
                  have HTT : Hid (T3 = TS) := (by
                    show _ = _
                    rw [← HTS.out, H3.out, List.take_of_length_le (by omega)])
                  obtain rfl : T3 = TS := HTT.out
                  rw [HTC.out] at G1 M1 HSum
                  rw [HTD.out] at G2 M2 HSum
                  rw [HTS.out] at G3 M3 HSum
                  rw [HTR.out] at G4 M4 HSum
                  generalize strOf (four nc ++ bytes TC) = B1 at *
                  generalize strOf (four nd ++ bytes TD) = B2 at *
                  generalize strOf (four ns ++ bytes T3) = B3 at *
                  generalize strOf (four nr ++ bytes TR) = B4 at *
                  have q1 : ¬ 9223372036854775807 < B1.size + B2.size := by omega
                  have q2 : ¬ 9223372036854775807 < B1.size + B2.size + B3.size := by omega
                  have q3 : ¬ 9223372036854775807 < B1.size + B2.size + B3.size + B4.size := by omega
                  have HQ : Hid (B1.size + B2.size + B3.size + B4.size ≤ 2000000) := (by show _ ≤ _; omega)
                  clear LC LD LR LS M1 M2 M3 M4 HTS HTT H3 HSL HN4 HR4 HP
                  go_wp2_with fail
                  replace HF := hide HF.out.drew
                  refine wp_region_held_drew (S := fun w' => (∀ o, w'.cell? ⟨bq, o, none⟩ = (#[Value.slice ca nc cc, .slice da nd dc, .slice sa ns sc, .slice ra nr rc])[o]?) ∧ (convert 28 9 (.slice ad1 (4 * nc) c1)).run Try.prog w' = .ok (.string TC) w' ∧ (convert 28 9 (.slice ad2 (4 * nd) c2)).run Try.prog w' = .ok (.string TD) w' ∧ (convert 28 9 (.slice ad4 (12 * nr) c4)).run Try.prog w' = .ok (.string TR) w') (by kernel_rfl) ⟨(HF.out.cell 3 rfl), ((HF.out.conv 2 rfl).trans (by rw [HTC.out])), ((HF.out.conv 1 rfl).trans (by rw [HTD.out])), ((HF.out.conv 0 rfl).trans (by rw [HTR.out]))⟩ (fun hHeld => ?_)
                  refine wpAnyH_take (i := 0) (v := ?_) rfl (by kernel_rfl) (by kernel_rfl) (by kernel_rfl) (fun _ _ _ h => h) (Or.inl ⟨by rfl, ?_⟩) (by assumption) ?_
                  rotate_left
                  · (intro w hSw; (try dsimp only at hSw); obtain ⟨hSw0, hSw1, hSw2, hSw3⟩ := hSw; go_simp) <;> with_reducible rfl
                  (simp only [Act.put, List.getElem_toArray, List.getElem_cons_zero, List.getElem_cons_succ, List.setIfInBounds_toArray, List.set_cons_zero, List.set_cons_succ])
                  refine wpAnyH_take (i := 1) (v := ?_) rfl (by kernel_rfl) (by kernel_rfl) (by kernel_rfl) (fun _ _ _ h => h) (Or.inl ⟨by rfl, ?_⟩) (by assumption) ?_
                  rotate_left
                  · (intro w hSw; (try dsimp only at hSw); obtain ⟨hSw0, hSw1, hSw2, hSw3⟩ := hSw; go_simp) <;> with_reducible rfl
                  (simp only [Act.put, List.getElem_toArray, List.getElem_cons_zero, List.getElem_cons_succ, List.setIfInBounds_toArray, List.set_cons_zero, List.set_cons_succ])
                  refine wpAnyH_take (i := 2) (v := ?_) rfl (by kernel_rfl) (by kernel_rfl) (by kernel_rfl) (fun _ _ _ h => h) (Or.inl ⟨by rfl, ?_⟩) (by assumption) ?_
                  rotate_left
                  · (intro w hSw; (try dsimp only at hSw); obtain ⟨hSw0, hSw1, hSw2, hSw3⟩ := hSw; go_simp) <;> with_reducible rfl
                  (simp only [Act.put, List.getElem_toArray, List.getElem_cons_zero, List.getElem_cons_succ, List.setIfInBounds_toArray, List.set_cons_zero, List.set_cons_succ])
                  refine wpAnyH_take (i := 3) (v := ?_) rfl (by kernel_rfl) (by kernel_rfl) (by kernel_rfl) (fun _ _ _ h => h) (Or.inl ⟨by rfl, ?_⟩) (by assumption) ?_
                  rotate_left
                  · (intro w hSw; (try dsimp only at hSw); obtain ⟨hSw0, hSw1, hSw2, hSw3⟩ := hSw; go_simp) <;> with_reducible rfl
                  (simp only [Act.put, List.getElem_toArray, List.getElem_cons_zero, List.getElem_cons_succ, List.setIfInBounds_toArray, List.set_cons_zero, List.set_cons_succ])
                  refine wpAnyH_take (i := 4) (v := ?_) rfl (by kernel_rfl) (by kernel_rfl) (by kernel_rfl) (fun _ _ _ h => h) (Or.inl ⟨by rfl, ?_⟩) (by assumption) ?_
                  rotate_left
                  · (intro w hSw; (try dsimp only at hSw); obtain ⟨hSw0, hSw1, hSw2, hSw3⟩ := hSw; go_simp) <;> with_reducible rfl
                  (simp only [Act.put, List.getElem_toArray, List.getElem_cons_zero, List.getElem_cons_succ, List.setIfInBounds_toArray, List.set_cons_zero, List.set_cons_succ])
                  refine wpAnyH_take (i := 6) (v := ?_) rfl (by kernel_rfl) (by kernel_rfl) (by kernel_rfl) (fun _ _ _ h => h) (Or.inl ⟨by rfl, ?_⟩) (by assumption) ?_
                  rotate_left
                  · (intro w hSw; (try dsimp only at hSw); obtain ⟨hSw0, hSw1, hSw2, hSw3⟩ := hSw; go_simp) <;> with_reducible rfl
                  (simp only [Act.put, List.getElem_toArray, List.getElem_cons_zero, List.getElem_cons_succ, List.setIfInBounds_toArray, List.set_cons_zero, List.set_cons_succ])
                  refine wpAnyH_take (i := 7) (v := ?_) rfl (by kernel_rfl) (by kernel_rfl) (by kernel_rfl) (fun _ _ _ h => h) (Or.inl ⟨by rfl, ?_⟩) (by assumption) ?_
                  rotate_left
                  · (intro w hSw; (try dsimp only at hSw); obtain ⟨hSw0, hSw1, hSw2, hSw3⟩ := hSw; go_simp) <;> with_reducible rfl
                  (simp only [Act.put, List.getElem_toArray, List.getElem_cons_zero, List.getElem_cons_succ, List.setIfInBounds_toArray, List.set_cons_zero, List.set_cons_succ])
                  refine wpAnyH_take (i := 8) (v := ?_) rfl (by kernel_rfl) (by kernel_rfl) (by kernel_rfl) (fun _ _ _ h => h) (Or.inl ⟨by rfl, ?_⟩) (by assumption) ?_
                  rotate_left
                  · (intro w hSw; (try dsimp only at hSw); obtain ⟨hSw0, hSw1, hSw2, hSw3⟩ := hSw; go_simp) <;> with_reducible rfl
                  (simp only [Act.put, List.getElem_toArray, List.getElem_cons_zero, List.getElem_cons_succ, List.setIfInBounds_toArray, List.set_cons_zero, List.set_cons_succ])
                  refine wpAnyH_take (i := 9) (v := ?_) rfl (by kernel_rfl) (by kernel_rfl) (by kernel_rfl) (fun _ _ _ h => h) (Or.inl ⟨by rfl, ?_⟩) (by assumption) ?_
                  rotate_left
                  · (intro w hSw; (try dsimp only at hSw); obtain ⟨hSw0, hSw1, hSw2, hSw3⟩ := hSw; go_simp) <;> with_reducible rfl
                  (simp only [Act.put, List.getElem_toArray, List.getElem_cons_zero, List.getElem_cons_succ, List.setIfInBounds_toArray, List.set_cons_zero, List.set_cons_succ])
                  refine wpAnyH_take (i := 10) (v := ?_) rfl (by kernel_rfl) (by kernel_rfl) (by kernel_rfl) (fun _ _ _ h => h) (Or.inl ⟨by rfl, ?_⟩) (by assumption) ?_
                  rotate_left
                  · (intro w hSw; (try dsimp only at hSw); obtain ⟨hSw0, hSw1, hSw2, hSw3⟩ := hSw; go_simp) <;> with_reducible rfl
                  (simp only [Act.put, List.getElem_toArray, List.getElem_cons_zero, List.getElem_cons_succ, List.setIfInBounds_toArray, List.set_cons_zero, List.set_cons_succ])
                  refine wpAnyH_take (i := 13) (v := ?_) rfl (by kernel_rfl) (by kernel_rfl) (by kernel_rfl) (fun _ _ _ h => h) (Or.inl ⟨by rfl, ?_⟩) (by assumption) ?_
                  rotate_left
                  · (intro w hSw; (try dsimp only at hSw); obtain ⟨hSw0, hSw1, hSw2, hSw3⟩ := hSw; go_simp) <;> with_reducible rfl
                  (simp only [Act.put, List.getElem_toArray, List.getElem_cons_zero, List.getElem_cons_succ, List.setIfInBounds_toArray, List.set_cons_zero, List.set_cons_succ])
                  refine wpAnyH_take (i := 14) (v := ?_) rfl (by kernel_rfl) (by kernel_rfl) (by kernel_rfl) (fun _ _ _ h => h) (Or.inl ⟨by rfl, ?_⟩) (by assumption) ?_
                  rotate_left
                  · (intro w hSw; (try dsimp only at hSw); obtain ⟨hSw0, hSw1, hSw2, hSw3⟩ := hSw; go_simp) <;> with_reducible rfl
                  (simp only [Act.put, List.getElem_toArray, List.getElem_cons_zero, List.getElem_cons_succ, List.setIfInBounds_toArray, List.set_cons_zero, List.set_cons_succ])
                  refine wpAnyH_take (i := 15) (v := ?_) rfl (by kernel_rfl) (by kernel_rfl) (by kernel_rfl) (fun _ _ _ h => h) (Or.inl ⟨by rfl, ?_⟩) (by assumption) ?_
                  rotate_left
                  · (intro w hSw; (try dsimp only at hSw); obtain ⟨hSw0, hSw1, hSw2, hSw3⟩ := hSw; go_simp) <;> with_reducible rfl
                  (simp only [Act.put, List.getElem_toArray, List.getElem_cons_zero, List.getElem_cons_succ, List.setIfInBounds_toArray, List.set_cons_zero, List.set_cons_succ])
                  refine wpAnyH_take (i := 16) (v := ?_) rfl (by kernel_rfl) (by kernel_rfl) (by kernel_rfl) (fun _ _ _ h => h) (Or.inl ⟨by rfl, ?_⟩) (by assumption) ?_
                  rotate_left
                  · (intro w hSw; (try dsimp only at hSw); obtain ⟨hSw0, hSw1, hSw2, hSw3⟩ := hSw; go_simp) <;> with_reducible rfl
                  (simp only [Act.put, List.getElem_toArray, List.getElem_cons_zero, List.getElem_cons_succ, List.setIfInBounds_toArray, List.set_cons_zero, List.set_cons_succ])
                  refine wpAnyH_take (i := 19) (v := ?_) rfl (by kernel_rfl) (by kernel_rfl) (by kernel_rfl) (fun _ _ _ h => h) (Or.inl ⟨by rfl, ?_⟩) (by assumption) ?_
                  rotate_left
                  · (intro w hSw; (try dsimp only at hSw); obtain ⟨hSw0, hSw1, hSw2, hSw3⟩ := hSw; go_simp) <;> with_reducible rfl
                  (simp only [Act.put, List.getElem_toArray, List.getElem_cons_zero, List.getElem_cons_succ, List.setIfInBounds_toArray, List.set_cons_zero, List.set_cons_succ])
                  refine wpAnyH_take (i := 20) (v := ?_) rfl (by kernel_rfl) (by kernel_rfl) (by kernel_rfl) (fun _ _ _ h => h) (Or.inl ⟨by rfl, ?_⟩) (by assumption) ?_
                  rotate_left
                  · (intro w hSw; (try dsimp only at hSw); obtain ⟨hSw0, hSw1, hSw2, hSw3⟩ := hSw; go_simp) <;> with_reducible rfl
                  (simp only [Act.put, List.getElem_toArray, List.getElem_cons_zero, List.getElem_cons_succ, List.setIfInBounds_toArray, List.set_cons_zero, List.set_cons_succ])
                  refine wpAnyH_take (i := 21) (v := ?_) rfl (by kernel_rfl) (by kernel_rfl) (by kernel_rfl) (fun _ _ _ h => h) (Or.inl ⟨by rfl, ?_⟩) (by assumption) ?_
                  rotate_left
                  · (intro w hSw; (try dsimp only at hSw); obtain ⟨hSw0, hSw1, hSw2, hSw3⟩ := hSw; go_simp) <;> with_reducible rfl
                  (simp only [Act.put, List.getElem_toArray, List.getElem_cons_zero, List.getElem_cons_succ, List.setIfInBounds_toArray, List.set_cons_zero, List.set_cons_succ])
                  refine wpAnyH_take (i := 22) (v := ?_) rfl (by kernel_rfl) (by kernel_rfl) (by kernel_rfl) (fun _ _ _ h => h) (Or.inl ⟨by rfl, ?_⟩) (by assumption) ?_
                  rotate_left
                  · (intro w hSw; (try dsimp only at hSw); obtain ⟨hSw0, hSw1, hSw2, hSw3⟩ := hSw; go_simp) <;> with_reducible rfl
                  (simp only [Act.put, List.getElem_toArray, List.getElem_cons_zero, List.getElem_cons_succ, List.setIfInBounds_toArray, List.set_cons_zero, List.set_cons_succ])
                  refine wpAnyH_take (i := 23) (v := ?_) rfl (by kernel_rfl) (by kernel_rfl) (by kernel_rfl) (fun _ _ _ h => h) (Or.inl ⟨by rfl, ?_⟩) (by assumption) ?_
                  rotate_left
                  · (intro w hSw; (try dsimp only at hSw); obtain ⟨hSw0, hSw1, hSw2, hSw3⟩ := hSw; go_simp) <;> with_reducible rfl
                  (simp only [Act.put, List.getElem_toArray, List.getElem_cons_zero, List.getElem_cons_succ, List.setIfInBounds_toArray, List.set_cons_zero, List.set_cons_succ])
                  refine wpAnyH_ready (rs := [5]) (by kernel_rfl) (by simp) ?_
                  refine AllReadyH.cons rfl (fun K hK => ?_) AllReadyH.nil
                  go_simp
                  refine (G1.out _).mono ?_
                  rintro e w5 ⟨rfl, hb⟩
                  replace HF := hide (HF.out.call hb)
                  clear hb
                  refine hK.out _ _ ⟨(HF.out.cell 3 rfl), ((HF.out.conv 2 rfl).trans (by rw [HTC.out])), ((HF.out.conv 1 rfl).trans (by rw [HTD.out])), ((HF.out.conv 0 rfl).trans (by rw [HTR.out]))⟩ (fun hHeld15 => ?_)
                  clear hK K
                  (try (simp only [Act.put, List.getElem_toArray, List.getElem_cons_zero, List.getElem_cons_succ, List.setIfInBounds_toArray, List.set_cons_zero, List.set_cons_succ]))
                  refine wpAnyH_ready (rs := [11]) (by kernel_rfl) (by simp) ?_
                  refine AllReadyH.cons rfl (fun K hK => ?_) AllReadyH.nil
                  go_simp
                  refine (G2.out _).mono ?_
                  rintro e w11 ⟨rfl, hb⟩
                  replace HF := hide (HF.out.call hb)
                  clear hb
                  refine hK.out _ _ ⟨(HF.out.cell 3 rfl), ((HF.out.conv 2 rfl).trans (by rw [HTC.out])), ((HF.out.conv 1 rfl).trans (by rw [HTD.out])), ((HF.out.conv 0 rfl).trans (by rw [HTR.out]))⟩ (fun hHeld16 => ?_)
                  clear hK K
                  (try (simp only [Act.put, List.getElem_toArray, List.getElem_cons_zero, List.getElem_cons_succ, List.setIfInBounds_toArray, List.set_cons_zero, List.set_cons_succ]))
                  refine wpAnyH_take (i := 12) (v := ?_) rfl (by kernel_rfl) (by kernel_rfl) (by kernel_rfl) (fun _ _ _ h => h) (Or.inl ⟨by rfl, ?_⟩) (by assumption) ?_
                  rotate_left
                  · (intro w hSw; (try dsimp only at hSw); obtain ⟨hSw0, hSw1, hSw2, hSw3⟩ := hSw; go_simp) <;> with_reducible rfl
                  (simp only [Act.put, List.getElem_toArray, List.getElem_cons_zero, List.getElem_cons_succ, List.setIfInBounds_toArray, List.set_cons_zero, List.set_cons_succ])
                  refine wpAnyH_ready (rs := [17]) (by kernel_rfl) (by simp) ?_
                  refine AllReadyH.cons rfl (fun K hK => ?_) AllReadyH.nil
                  go_simp
                  refine (G3.out _).mono ?_
                  rintro e w17 ⟨rfl, hb⟩
                  replace HF := hide (HF.out.call hb)
                  clear hb
                  refine hK.out _ _ ⟨(HF.out.cell 3 rfl), ((HF.out.conv 2 rfl).trans (by rw [HTC.out])), ((HF.out.conv 1 rfl).trans (by rw [HTD.out])), ((HF.out.conv 0 rfl).trans (by rw [HTR.out]))⟩ (fun hHeld17 => ?_)
                  clear hK K
                  (try (simp only [Act.put, List.getElem_toArray, List.getElem_cons_zero, List.getElem_cons_succ, List.setIfInBounds_toArray, List.set_cons_zero, List.set_cons_succ]))
                  refine wpAnyH_take (i := 18) (v := ?_) rfl (by kernel_rfl) (by kernel_rfl) (by kernel_rfl) (fun _ _ _ h => h) (Or.inl ⟨by rfl, ?_⟩) (by assumption) ?_
                  rotate_left
                  · (intro w hSw; (try dsimp only at hSw); obtain ⟨hSw0, hSw1, hSw2, hSw3⟩ := hSw; go_simp) <;> with_reducible rfl
                  (simp only [Act.put, List.getElem_toArray, List.getElem_cons_zero, List.getElem_cons_succ, List.setIfInBounds_toArray, List.set_cons_zero, List.set_cons_succ])
                  refine wpAnyH_ready (rs := [24]) (by kernel_rfl) (by simp) ?_
                  refine AllReadyH.cons rfl (fun K hK => ?_) AllReadyH.nil
                  go_simp
                  refine (G4.out _).mono ?_
                  rintro e w24 ⟨rfl, hb⟩
                  replace HF := hide (HF.out.call hb)
                  clear hb
                  refine hK.out _ _ ⟨(HF.out.cell 3 rfl), ((HF.out.conv 2 rfl).trans (by rw [HTC.out])), ((HF.out.conv 1 rfl).trans (by rw [HTD.out])), ((HF.out.conv 0 rfl).trans (by rw [HTR.out]))⟩ (fun hHeld18 => ?_)
                  clear hK K
                  (try (simp only [Act.put, List.getElem_toArray, List.getElem_cons_zero, List.getElem_cons_succ, List.setIfInBounds_toArray, List.set_cons_zero, List.set_cons_succ]))
                  refine wpAnyH_take (i := 25) (v := ?_) rfl (by kernel_rfl) (by kernel_rfl) (by kernel_rfl) (fun _ _ _ h => h) (Or.inl ⟨by rfl, ?_⟩) (by assumption) ?_
                  rotate_left
                  · (intro w hSw; (try dsimp only at hSw); obtain ⟨hSw0, hSw1, hSw2, hSw3⟩ := hSw; go_simp) <;> with_reducible rfl
                  (simp only [Act.put, List.getElem_toArray, List.getElem_cons_zero, List.getElem_cons_succ, List.setIfInBounds_toArray, List.set_cons_zero, List.set_cons_succ])
                  refine wpAnyH_take (i := 26) (v := ?_) rfl (by kernel_rfl) (by kernel_rfl) (by kernel_rfl) (fun _ _ _ h => h) (Or.inl ⟨by rfl, ?_⟩) (by assumption) ?_
                  rotate_left
                  · (intro w hSw; (try dsimp only at hSw); obtain ⟨hSw0, hSw1, hSw2, hSw3⟩ := hSw; go_simp) <;> with_reducible rfl
                  (simp only [Act.put, List.getElem_toArray, List.getElem_cons_zero, List.getElem_cons_succ, List.setIfInBounds_toArray, List.set_cons_zero, List.set_cons_succ])
                  refine wpAnyH_done (by kernel_rfl) ?_ _
                  have hcv := fun (W : World) (s : ByteArray) => run_bytes_of_string (P := Try.prog) W 9 28 5 s Try.underlying9 Try.underlying28 Try.underlying5
                  have HQS : Hid ((B1 ++ B2 ++ B3 ++ B4).size = B1.size + B2.size + B3.size + B4.size) := (by show _ = _; simp [ByteArray.size_append])
                  have HB : Hid (Below w.heap.size w w24) := HF.out.below' HBQ.out.symm
                  go_wp2_with fail
                  go_ret2
                  refine ⟨_, rfl, ?_, ?_⟩
                  · exact bys_new w24 _ _ _ _ HQS.out (by rw [HSum.out]; rfl) HQ.out
                  · exact HB.out.drew.alloc HB.out.size _
end Go.Proofs.Ytnjcknlfecednaa.T
