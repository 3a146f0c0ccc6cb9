/- The contracts of the reference's Encode and Text. -/
import Derived.Test.YtplenmhkhaoapaaDoorDig
import Derived.Test.YtplenmhkhaoapaaDoorRcheck
import Derived.Test.YtplenmhkhaoapaaDoorEnc
namespace Go.Proofs.YtplenmhkhaoapaaDoor.M
theorem fl_letter (kd i : Nat) (h : i < (fl kd).size) : ((fl kd)[i]'h).toNat = 65 ∨ ((fl kd)[i]'h).toNat = 66 ∨ ((fl kd)[i]'h).toNat = 67 ∨ ((fl kd)[i]'h).toNat = 73 := by
  have h3 : i < 3 := by
    have : (fl kd).size ≤ 3 := by unfold fl; split <;> decide
    omega
  have hi : i = 0 ∨ i = 1 ∨ i = 2 := by omega
  revert h
  unfold fl
  split <;> intro h <;> rcases hi with rfl | rfl | rfl <;> first | (exact absurd h (by decide)) | exact Or.inl rfl | exact Or.inr (Or.inl rfl) | exact Or.inr (Or.inr (Or.inl rfl)) | exact Or.inr (Or.inr (Or.inr rfl))
end Go.Proofs.YtplenmhkhaoapaaDoor.M
namespace Go.Proofs.YtplenmhkhaoapaaDoor.W
open Go.RowKit Go.Proofs.YtplenmhkhaoapaaDoor.M
set_option linter.unusedVariables false

set_option maxRecDepth 100000 in
set_option maxHeartbeats 1000000 in
theorem rencode_bad (op a b c m ck : Int) (w : World) (HC : Hid (ckN op a b c m = ck)) (h : (ck == 0) = false) :
    Calls Tryd.prog 7 #[.agg #[.int .i64 op, .int .i64 a, .int .i64 b, .int .i64 c, .int .i64 m]] w fun e w' => e = .returned (.tuple #[.int .u32 0, .int .i64 ck]) ∧ Below w.heap.size w w' := by
  have hc := rcheck_any op a b c m
  rw [unhide HC] at hc
  go_enter Tryd.func7, Tryd.ntmps7
  go_wp2_with fail
  go_at_call 14
  refine (hc _).mono ?_
  rintro e w1 ⟨rfl, hb⟩
  go_wp2_with fail
  go_ret2
  exact ⟨rfl, own1_below hb⟩

set_option maxRecDepth 100000 in
set_option maxHeartbeats 1000000 in
theorem rencode_ok (op a b c m : Int) (w : World) (H : Hid (ckN op a b c m = 0)) :
    Calls Tryd.prog 7 #[.agg #[.int .i64 op, .int .i64 a, .int .i64 b, .int .i64 c, .int .i64 m]] w fun e w' => e = .returned (.tuple #[.int .u32 (encN op a b c m), .int .i64 0]) ∧ Below w.heap.size w w' := by
  have hc := rcheck_any op a b c m
  rw [unhide H] at hc
  obtain ⟨h1, h2, h3, h4, h5, h6, h7, h8, h9, h10, h11⟩ := ck_facts (unhide H)
  have H11 := hide h11
  clear h11
  by_cases hlow : c + m < 0
  all_goals
    go_enter Tryd.func7, Tryd.ntmps7
    go_wp2_with fail
    go_at_call 14
    refine (hc _).mono ?_
    rintro e w1 ⟨rfl, hb⟩
    obtain ⟨hce, hfr⟩ := bcell hb
    have hz : w.heap.size < w1.heap.size := (by have := hb.size; simp at this; omega)
    have hB := own1_below hb
    go_wp2_with fail
    go_ret2
    refine ⟨ret_ints ?_ rfl, hB⟩
    have h11 := unhide H11
    unfold encN
    first | omega | (simp; omega) | (rw [show ∀ x : Int, IntKind.u32.wrap x = x % 4294967296 from fun x => rfl]; omega)

set_option maxRecDepth 100000 in
set_option maxHeartbeats 1000000 in
theorem rtext_bad (op a b c m ck : Int) (w : World) (HC : Hid (ckN op a b c m = ck)) (h : (ck == 0) = false) :
    Calls Tryd.prog 9 #[.agg #[.int .i64 op, .int .i64 a, .int .i64 b, .int .i64 c, .int .i64 m]] w fun e w' => e = .returned (.tuple #[.string ⟨#[]⟩, .int .i64 ck]) ∧ Below w.heap.size w w' := by
  have hc := rcheck_any op a b c m
  rw [unhide HC] at hc
  go_enter Tryd.func9, Tryd.ntmps9
  go_wp2_with fail
  go_at_call 14
  refine (hc _).mono ?_
  rintro e w1 ⟨rfl, hb⟩
  go_wp2_with fail
  go_ret2
  exact ⟨rfl, own1_below hb⟩

theorem txt_i {nm : ByteArray} {a b' c m xv : Int} {l l' : List UInt8} {r : UInt8} {acc : List UInt8} (HA : Hid (acc = nm.data.toList ++ pieces a b' c m l)) (hs : l' = l ++ [r]) (hx : fv a b' c m (r.toNat : Int) = xv) (h73 : (r.toNat : Int) = 73) :
    Hid (acc ++ [32] ++ Lib.itoa xv = nm.data.toList ++ pieces a b' c m l') := by
  show _ = _
  rw [hs, pieces_snoc, unhide HA, hx, h73]
  simp [piece]
theorem txt_r {nm : ByteArray} {a b' c m xv : Int} {l l' : List UInt8} {r : UInt8} {acc : List UInt8} (HA : Hid (acc = nm.data.toList ++ pieces a b' c m l)) (hs : l' = l ++ [r]) (hx : fv a b' c m (r.toNat : Int) = xv) (h73 : ¬ (r.toNat : Int) = 73) :
    Hid (acc ++ [32, 114] ++ Lib.itoa xv = nm.data.toList ++ pieces a b' c m l') := by
  show _ = _
  rw [hs, pieces_snoc, unhide HA, hx]
  unfold piece
  rw [if_neg h73]
  simp

set_option maxRecDepth 100000 in
set_option maxHeartbeats 4000000 in
theorem rtext_ok (op a b c m : Int) (w : World) (H : Hid (ckN op a b c m = 0)) :
    Calls Tryd.prog 9 #[.agg #[.int .i64 op, .int .i64 a, .int .i64 b, .int .i64 c, .int .i64 m]] w fun e w' => e = .returned (.tuple #[.string ⟨(textL op a b c m).toArray⟩, .int .i64 0]) ∧ Below w.heap.size w w' := by
  have hc := rcheck_any op a b c m
  rw [unhide H] at hc
  obtain ⟨h1, h2, h3, h4, h5, h6, h7, h8, h9, h10, h11⟩ := ck_facts (unhide H)
  have H11 := hide h11
  clear h11
  have hkn : kind op ≠ 0 := by
    intro e
    have h := unhide H
    simp [ckN, e] at h
  have hfind := fun w' => find_some op w' hkn
  have HTX : Hid (textL op a b c m = (nameOf op).data.toList ++ pieces a b c m (fl (kind op)).data.toList) := rfl
  have hnl := name_len op
  have hfs : (fl (kind op)).size ≤ 3 := by unfold fl; split <;> decide
  generalize kind op = kd at *
  generalize hnm : nameOf op = nm at *
  clear hnm
  go_enter Tryd.func9, Tryd.ntmps9
  go_wp2_with fail
  go_at_call 14
  refine (hc _).mono ?_
  rintro e w1 ⟨rfl, hb⟩
  obtain ⟨hce, hfr⟩ := bcell hb
  have hz : w.heap.size < w1.heap.size := by have := hb.size; simp at this; omega
  have hB1 := own1_below hb
  have hcx := own1 hb
  have c0 := hcx 0
  clear hce hfr
  go_wp2_with fail
  go_at_call 21
  refine (hfind _).mono ?_
  rintro e w2 ⟨rfl, hb2⟩
  have hz2 : w.heap.size < w2.heap.size := Nat.lt_of_lt_of_le hz hb2.size
  have hB2 : Below w.heap.size w w2 := hB1.trans (hb2.mono (by omega))
  have hcx2 : ∀ i, w2.cell? ⟨w.heap.size, i, none⟩ = (#[Value.int .i64 op, .int .i64 a, .int .i64 b, .int .i64 c, .int .i64 m])[i]? := fun i =>
    (hb2.cell (p := ⟨w.heap.size, i, none⟩) hz).trans (hcx i)
  clear hcx c0 hb hb2
  go_wp2_with fail
  have HNM : Hid (nm = ⟨(nm.data.toList ++ pieces a b c m ((fl kd).data.toList.take 0)).toArray⟩) := by
    show _ = _
    simp [pieces]
  have hB3 : Below w.heap.size w (w2.alloc (.cells #[.int .i64 op, .string nm, .string (fl kd), .bool (sgn kd)] 58)) := hB2.alloc (by omega) _
  have hall : ∀ i, (w2.alloc (.cells #[.int .i64 op, .string nm, .string (fl kd), .bool (sgn kd)] 58)).cell? ⟨w.heap.size, i, none⟩ = (#[Value.int .i64 op, .int .i64 a, .int .i64 b, .int .i64 c, .int .i64 m])[i]? := fun i =>
    (World.cell?_alloc_past _ _ _ hz2).trans (hcx2 i)
  have hro : ∀ i, (w2.alloc (.cells #[.int .i64 op, .string nm, .string (fl kd), .bool (sgn kd)] 58)).cell? ⟨w2.heap.size, i, none⟩ = (#[Value.int .i64 op, .string nm, .string (fl kd), .bool (sgn kd)])[i]? := fun i => World.cell?_alloc_at _ _ _ _ rfl
  have hzz : w2.heap.size < (w2.alloc (.cells #[.int .i64 op, .string nm, .string (fl kd), .bool (sgn kd)] 58)).heap.size := by simp
  have hz3 : w.heap.size < (w2.alloc (.cells #[.int .i64 op, .string nm, .string (fl kd), .bool (sgn kd)] 58)).heap.size := by simp; omega
  clear hcx2
  generalize hW : w2.alloc (.cells #[.int .i64 op, .string nm, .string (fl kd), .bool (sgn kd)] 58) = W at *
  go_loopw [7, 8] (fun s i wr => ∃ (k : Nat) (acc : List UInt8), k ≤ (fl kd).size ∧ s = .string ⟨acc.toArray⟩ ∧ i = .int .i64 k ∧ Hid (acc = nm.data.toList ++ pieces a b c m ((fl kd).data.toList.take k)) ∧ Below W.heap.size W wr) (fun _ i _ => (fl kd).size - (intOf i).toNat)
  case atStart => exact ⟨0, _, by omega, congrArg Value.string (unhide HNM), rfl, rfl, Below.refl _ _⟩
  case round =>
    obtain ⟨k, acc, hk, rfl, rfl, HA, hbw⟩ := hrel
    have hacl : acc.length ≤ 5 + 23 * 3 := by
      have h1 := pieces_len a b c m ⟨by omega, by omega⟩ ⟨by omega, by omega⟩ ⟨by omega, by omega⟩ ⟨by omega, by omega⟩ ((fl kd).data.toList.take k)
      have h2 : ((fl kd).data.toList.take k).length ≤ k := List.length_take_le _ _
      have h3 : nm.data.toList.length = nm.size := by rw [Array.length_toList]; rfl
      rw [unhide HA, List.length_append]
      omega
    have p1 : wr.cell? ⟨w.heap.size, 1, none⟩ = some (.int .i64 a) := (hbw.cell (p := ⟨w.heap.size, 1, none⟩) hz3).trans (hall 1)
    have p2 : wr.cell? ⟨w.heap.size, 2, none⟩ = some (.int .i64 b) := (hbw.cell (p := ⟨w.heap.size, 2, none⟩) hz3).trans (hall 2)
    have p3 : wr.cell? ⟨w.heap.size, 3, none⟩ = some (.int .i64 c) := (hbw.cell (p := ⟨w.heap.size, 3, none⟩) hz3).trans (hall 3)
    have p4 : wr.cell? ⟨w.heap.size, 4, none⟩ = some (.int .i64 m) := (hbw.cell (p := ⟨w.heap.size, 4, none⟩) hz3).trans (hall 4)
    have q2 : wr.cell? ⟨w2.heap.size, 2, none⟩ = some (.string (fl kd)) := (hbw.cell (p := ⟨w2.heap.size, 2, none⟩) hzz).trans (hro 2)
    by_cases hp : k < (fl kd).size
    · have hlet := fl_letter kd k hp
      have HSN : Hid ((fl kd).data.toList.take (k + 1) = (fl kd).data.toList.take k ++ [(fl kd)[k]'hp]) := take_snoc (fl kd) k hp
      have HLE := hide hlet
      clear hlet
      rcases (unhide HLE : _ ∨ _ ∨ _ ∨ _) with hr0 | hr0 | hr0 | hr0
      · have hr : (((fl kd)[k]'hp).toNat : Int) = 65 := by rw [hr0]; rfl
        clear hr0 HLE
        have HX : Hid (fv a b c m (((fl kd)[k]'hp).toNat : Int) = a) := by show _ = _; rw [hr]; simp [fv]
        have HIL : (Lib.itoa a).length ≤ 21 := Lib.itoa_length_le _ (by omega) (by omega)
        have add1 := fun w' => run_string_add_lists (P := Tryd.prog) w' acc [32, 114] (by omega) (by simp)
        have add2 := fun w' => run_string_add_lists (P := Tryd.prog) w' (acc ++ [32, 114]) (Lib.itoa a) (by simp; omega) (by omega)
        have hdg := fun w' => digits_any a w' (by omega) (by omega)
        have HR : Hid ((((fl kd)[k]'hp).toNat : Int) = 65) := hr
        have t65 : ((((fl kd)[k]'hp).toNat : Int) == 65) = true := by rw [hr]; rfl
        have HT := txt_r HA (unhide HSN) (unhide HX) (by rw [unhide HR]; decide)
        clear hr HR HX HSN HIL
        generalize Lib.itoa a = dx at *
        go_wp2_with fail
        go_at_call 22
        refine (hdg _).mono ?_
        rintro e x1 ⟨rfl, bx⟩
        have hbx := hbw.trans (bx.mono hbw.size)
        go_wp2_with fail
        go_roundw
        case rel => exact ⟨k + 1, acc ++ [32, 114] ++ dx, by omega, by simp, by go_num, HT, hbx⟩
        case measure => simp [intOf]; omega
      · have hr : (((fl kd)[k]'hp).toNat : Int) = 66 := by rw [hr0]; rfl
        clear hr0 HLE
        have HX : Hid (fv a b c m (((fl kd)[k]'hp).toNat : Int) = b) := by show _ = _; rw [hr]; simp [fv]
        have HIL : (Lib.itoa b).length ≤ 21 := Lib.itoa_length_le _ (by omega) (by omega)
        have add1 := fun w' => run_string_add_lists (P := Tryd.prog) w' acc [32, 114] (by omega) (by simp)
        have add2 := fun w' => run_string_add_lists (P := Tryd.prog) w' (acc ++ [32, 114]) (Lib.itoa b) (by simp; omega) (by omega)
        have hdg := fun w' => digits_any b w' (by omega) (by omega)
        have HR : Hid ((((fl kd)[k]'hp).toNat : Int) = 66) := hr
        have t65 : ((((fl kd)[k]'hp).toNat : Int) == 65) = false := by rw [hr]; rfl
        have t66 : ((((fl kd)[k]'hp).toNat : Int) == 66) = true := by rw [hr]; rfl
        have HT := txt_r HA (unhide HSN) (unhide HX) (by rw [unhide HR]; decide)
        clear hr HR HX HSN HIL
        generalize Lib.itoa b = dx at *
        go_wp2_with fail
        go_at_call 22
        refine (hdg _).mono ?_
        rintro e x1 ⟨rfl, bx⟩
        have hbx := hbw.trans (bx.mono hbw.size)
        go_wp2_with fail
        go_roundw
        case rel => exact ⟨k + 1, acc ++ [32, 114] ++ dx, by omega, by simp, by go_num, HT, hbx⟩
        case measure => simp [intOf]; omega
      · have hr : (((fl kd)[k]'hp).toNat : Int) = 67 := by rw [hr0]; rfl
        clear hr0 HLE
        have HX : Hid (fv a b c m (((fl kd)[k]'hp).toNat : Int) = c) := by show _ = _; rw [hr]; simp [fv]
        have HIL : (Lib.itoa c).length ≤ 21 := Lib.itoa_length_le _ (by omega) (by omega)
        have add1 := fun w' => run_string_add_lists (P := Tryd.prog) w' acc [32, 114] (by omega) (by simp)
        have add2 := fun w' => run_string_add_lists (P := Tryd.prog) w' (acc ++ [32, 114]) (Lib.itoa c) (by simp; omega) (by omega)
        have hdg := fun w' => digits_any c w' (by omega) (by omega)
        have HR : Hid ((((fl kd)[k]'hp).toNat : Int) = 67) := hr
        have t65 : ((((fl kd)[k]'hp).toNat : Int) == 65) = false := by rw [hr]; rfl
        have t66 : ((((fl kd)[k]'hp).toNat : Int) == 66) = false := by rw [hr]; rfl
        have t67 : ((((fl kd)[k]'hp).toNat : Int) == 67) = true := by rw [hr]; rfl
        have HT := txt_r HA (unhide HSN) (unhide HX) (by rw [unhide HR]; decide)
        clear hr HR HX HSN HIL
        generalize Lib.itoa c = dx at *
        go_wp2_with fail
        go_at_call 22
        refine (hdg _).mono ?_
        rintro e x1 ⟨rfl, bx⟩
        have hbx := hbw.trans (bx.mono hbw.size)
        go_wp2_with fail
        go_roundw
        case rel => exact ⟨k + 1, acc ++ [32, 114] ++ dx, by omega, by simp, by go_num, HT, hbx⟩
        case measure => simp [intOf]; omega
      · have hr : (((fl kd)[k]'hp).toNat : Int) = 73 := by rw [hr0]; rfl
        clear hr0 HLE
        have HX : Hid (fv a b c m (((fl kd)[k]'hp).toNat : Int) = m) := by show _ = _; rw [hr]; simp [fv]
        have HIL : (Lib.itoa m).length ≤ 21 := Lib.itoa_length_le _ (by omega) (by omega)
        have add1 := fun w' => run_string_add_lists (P := Tryd.prog) w' acc [32] (by omega) (by simp)
        have add2 := fun w' => run_string_add_lists (P := Tryd.prog) w' (acc ++ [32]) (Lib.itoa m) (by simp; omega) (by omega)
        have hdg := fun w' => digits_any m w' (by omega) (by omega)
        have HR : Hid ((((fl kd)[k]'hp).toNat : Int) = 73) := hr
        have t65 : ((((fl kd)[k]'hp).toNat : Int) == 65) = false := by rw [hr]; rfl
        have t66 : ((((fl kd)[k]'hp).toNat : Int) == 66) = false := by rw [hr]; rfl
        have t67 : ((((fl kd)[k]'hp).toNat : Int) == 67) = false := by rw [hr]; rfl
        have HT := txt_i HA (unhide HSN) (unhide HX) (unhide HR)
        clear hr HR HX HSN HIL
        generalize Lib.itoa m = dx at *
        go_wp2_with fail
        go_at_call 22
        refine (hdg _).mono ?_
        rintro e x1 ⟨rfl, bx⟩
        have hbx := hbw.trans (bx.mono hbw.size)
        go_wp2_with fail
        go_roundw
        case rel => exact ⟨k + 1, acc ++ [32] ++ dx, by omega, by simp, by go_num, HT, hbx⟩
        case measure => simp [intOf]; omega
    · have hk2 : k = (fl kd).size := by omega
      have HR : Hid (acc = textL op a b c m) := by
        show _ = _
        rw [unhide HTX, unhide HA, hk2, List.take_of_length_le (by rw [Array.length_toList]; exact Nat.le_refl _)]
      have hB4 := hB3.trans (hbw.mono (by omega))
      clear hfs hacl
      go_wp2_with fail
      go_ret2
      exact ⟨ret_si (unhide HR), hB4⟩
end Go.Proofs.YtplenmhkhaoapaaDoor.W
