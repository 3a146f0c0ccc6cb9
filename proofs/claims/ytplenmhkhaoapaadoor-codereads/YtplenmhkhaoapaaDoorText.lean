/- The contract of code.Text. -/
import Derived.Test.YtplenmhkhaoapaaDoorTx
import Derived.Test.YtplenmhkhaoapaaDoorCheck
import Derived.Outline
import Derived.ShutString
import Derived.BigCall
namespace Go.Proofs.YtplenmhkhaoapaaDoor.M
theorem fl_lt (kd i : Nat) (h : i < (fl kd).size) : ((fl kd)[i]'h).toNat < 128 := by
  have h3 : i < 3 := by
    have : (fl kd).size ≤ 3 := by unfold fl; split <;> decide
    omega
  have hi : i = 0 ∨ i = 1 ∨ i = 2 := by omega
  revert h
  unfold fl
  split <;> intro h <;> rcases hi with rfl | rfl | rfl <;> first | (exact absurd h (by decide)) | exact of_decide_eq_true rfl
theorem name_pos (n : Nat) (h1 : 1 ≤ n) (h2 : n ≤ 25) : 1 ≤ (nameOf (n : Int)).size := by
  have : n = 1 ∨ n = 2 ∨ n = 3 ∨ n = 4 ∨ n = 5 ∨ n = 6 ∨ n = 7 ∨ n = 8 ∨ n = 9 ∨ n = 10 ∨ n = 11 ∨ n = 12 ∨ n = 13 ∨ n = 14 ∨ n = 15 ∨ n = 16 ∨ n = 17 ∨ n = 18 ∨ n = 19 ∨ n = 20 ∨ n = 21 ∨ n = 22 ∨ n = 23 ∨ n = 24 ∨ n = 25 := by omega
  rcases this with rfl | rfl | rfl | rfl | rfl | rfl | rfl | rfl | rfl | rfl | rfl | rfl | rfl | rfl | rfl | rfl | rfl | rfl | rfl | rfl | rfl | rfl | rfl | rfl | rfl <;> decide
end Go.Proofs.YtplenmhkhaoapaaDoor.M
namespace Go.Proofs.YtplenmhkhaoapaaDoor.W
open Go.RowKit Go.Proofs.YtplenmhkhaoapaaDoor.M
set_option linter.unusedVariables false

theorem fl_ascii (kd i : Nat) (h : i < (fl kd).size) : ((fl kd)[i]'h).toNat < 128 := by
  have := Go.Proofs.YtplenmhkhaoapaaDoor.M.fl_lt kd i h
  exact this
theorem rel_i {B b : Nat} {x : World} {nm : ByteArray} {a b' c m xv : Int} {l l' : List UInt8} {r : UInt8} {acc : List UInt8} (HA : Hid (acc = nm.data.toList ++ pieces a b' c m l)) (hs : l' = l ++ [r]) (hx : fv a b' c m (r.toNat : Int) = xv) (h73 : (r.toNat : Int) = 73)
    (hi : Bld B b (acc ++ [32] ++ (⟨(Lib.itoa xv).toArray⟩ : ByteArray).data.toList) x) : Hid (acc ++ [32] ++ Lib.itoa xv = nm.data.toList ++ pieces a b' c m l') ∧ Bld B b (acc ++ [32] ++ Lib.itoa xv) x := by
  refine ⟨?_, hi⟩
  show _ = _
  rw [hs, pieces_snoc, unhide HA, hx, h73]
  simp [piece]
theorem rel_r {B b : Nat} {x : World} {nm : ByteArray} {a b' c m xv : Int} {l l' : List UInt8} {r : UInt8} {acc : List UInt8} (HA : Hid (acc = nm.data.toList ++ pieces a b' c m l)) (hs : l' = l ++ [r]) (hx : fv a b' c m (r.toNat : Int) = xv) (h73 : ¬ (r.toNat : Int) = 73)
    (hi : Bld B b (acc ++ [32] ++ [114] ++ (⟨(Lib.itoa xv).toArray⟩ : ByteArray).data.toList) x) : Hid (acc ++ [32] ++ [114] ++ Lib.itoa xv = nm.data.toList ++ pieces a b' c m l') ∧ Bld B b (acc ++ [32] ++ [114] ++ Lib.itoa xv) x := by
  refine ⟨?_, hi⟩
  show _ = _
  rw [hs, pieces_snoc, unhide HA, hx]
  unfold piece
  rw [if_neg h73]
  simp
theorem ret_si {l l' : List UInt8} {k : Int} (h : l = l') : Ending.returned (.tuple #[.string ⟨l.toArray⟩, .int .i64 k]) = .returned (.tuple #[.string ⟨l'.toArray⟩, .int .i64 k]) := by rw [h]
/-- Where a field lies, and its number. -/
theorem fv_cell (op a b c m r : Int) : ∃ f, (if r = 65 then 1 else if r = 66 then 2 else if r = 67 then 3 else 4) = f ∧ (#[Value.int .i64 op, .int .i64 a, .int .i64 b, .int .i64 c, .int .i64 m])[f]? = some (.int .i64 (fv a b c m r)) := by
  unfold fv
  by_cases h1 : r = 65
  · exact ⟨1, by simp [h1], by simp [h1]⟩
  · by_cases h2 : r = 66
    · exact ⟨2, by simp [h2], by simp [h2]⟩
    · by_cases h3 : r = 67
      · exact ⟨3, by simp [h3], by simp [h3]⟩
      · exact ⟨4, by simp [h1, h2, h3], by simp [h1, h2, h3]⟩

set_option maxRecDepth 100000 in
set_option maxHeartbeats 1000000 in
theorem text_bad (op a b c m ck : Int) (w : World) (HC : Hid (ckN op a b c m = ck)) (h : (ck == 0) = false) :
    Calls Tryd.prog 8 #[.agg #[.int .i64 op, .int .i64 a, .int .i64 b, .int .i64 c, .int .i64 m]] w fun e w' => e = .returned (.tuple #[.string ⟨#[]⟩, .int .i64 ck]) ∧ Below w.heap.size w w' := by
  have hc := check_any op a b c m
  rw [unhide HC] at hc
  go_enter Tryd.func8, Tryd.ntmps8
  go_wp2_with fail
  go_at_call 13
  refine (hc _).mono ?_
  rintro e w1 ⟨rfl, hb⟩
  go_wp2_with fail
  go_ret2
  exact ⟨rfl, ((Below.refl _ _).alloc (Nat.le_refl _) _).trans (hb.mono (by simp))⟩

set_option maxRecDepth 100000 in
set_option maxHeartbeats 4000000 in
theorem text_ok (n : Nat) (a b c m : Int) (w : World) (G : Glob w) (H : Hid (ckN n a b c m = 0)) :
    Calls Tryd.prog 8 #[.agg #[.int .i64 n, .int .i64 a, .int .i64 b, .int .i64 c, .int .i64 m]] w fun e w' => e = .returned (.tuple #[.string ⟨(textL n a b c m).toArray⟩, .int .i64 0]) ∧ Below w.heap.size w w' := by
  have hc := check_any n a b c m
  rw [unhide H] at hc
  obtain ⟨h1, h2, h3, h4, h5, h6, h7, h8, h9, h10, h11⟩ := ck_facts (unhide H)
  have H11 := hide h11
  clear h11
  have hn26 : n < 26 := by omega
  have hrow := row_any (n : Int)
  have HTX : Hid (textL n a b c m = (nameOf n).data.toList ++ pieces a b c m (fl (kind n)).data.toList) := rfl
  have hnl := name_len (n : Int)
  have hnp := name_pos n (by omega) (by omega)
  have hfs : (fl (kind (n : Int))).size ≤ 3 := by unfold fl; split <;> decide
  generalize kind (n : Int) = kd at *
  generalize hnm : nameOf (n : Int) = nm at *
  go_enter Tryd.func8, Tryd.ntmps8
  go_wp2_with fail
  go_at_call 13
  refine (hc _).mono ?_
  rintro e w1 ⟨rfl, hb⟩
  obtain ⟨hce, hfr⟩ := bcell hb
  have hz : w.heap.size < w1.heap.size := by have := hb.size; simp at this; omega
  have hB1 : Below w.heap.size w w1 := ((Below.refl _ _).alloc (Nat.le_refl _) _).trans (hb.mono (by simp))
  have hcx : ∀ i, w1.cell? ⟨w.heap.size, i, none⟩ = (#[Value.int .i64 n, .int .i64 a, .int .i64 b, .int .i64 c, .int .i64 m])[i]? := fun i =>
    (hb.cell (p := ⟨w.heap.size, i, none⟩) (by simp)).trans (World.cell?_alloc_at _ _ _ _ rfl)
  have c0 := hcx 0
  go_wp2_with fail
  go_at_call 15
  refine (hrow _).mono ?_
  rintro e w2 ⟨p, q, rfl, hcl, hb2⟩
  have hB2 : Below w.heap.size w w2 := hB1.trans (hb2.mono (by omega))
  have G2 := G.below hB2 G.size
  have hcx2 : ∀ i, w2.cell? ⟨w.heap.size, i, none⟩ = (#[Value.int .i64 n, .int .i64 a, .int .i64 b, .int .i64 c, .int .i64 m])[i]? := fun i =>
    (hb2.cell (p := ⟨w.heap.size, i, none⟩) hz).trans (hcx i)
  have hz2 : w.heap.size < w2.heap.size := Nat.lt_of_lt_of_le hz hb2.size
  have d0 := hcx2 0
  have hnc : w2.cell? ⟨0, n, none⟩ = some (.string nm) := by rw [G2.names n hn26, hnm]
  have h0z : 0 < w2.heap.size := by omega
  clear hcx c0 hce hfr hb hb2
  go_wp2_with fail
  go_at_call 16
  refine (wstring w2.heap.size w2.heap.size [] nm _ (Lib.IsBuilderF.of (Lib.fresh_isBuilder 45 5 w2)) (by simp; omega) (by simp)).mono ?_
  rintro e w3 ⟨rfl, i0, b0, k0⟩
  have hbw0 : Below w2.heap.size w2 w3 := ((Below.refl _ _).alloc (Nat.le_refl _) _).trans b0
  have hlt3 : w2.heap.size < w3.heap.size := by have := b0.size; simp at this; omega
  have hib : w3.heap.size ≠ w2.heap.size := by omega
  clear hnc h0z
  go_wp2_with fail
  go_loopw [] (fun wr => ∃ (k : Nat) (acc : List UInt8), k ≤ (fl kd).size ∧ Hid (acc = nm.data.toList ++ pieces a b c m ((fl kd).data.toList.take k)) ∧ Bld w2.heap.size w2.heap.size acc wr ∧ wr.heap[w3.heap.size]? = some (.stringIter (fl kd) k) ∧ Below w2.heap.size w2 wr) (fun wr => (fl kd).size - wr.iterPos w3.heap.size)
  case atStart =>
    refine ⟨0, _, by omega, ?_, Lib.IsBuilderF.alloc i0 _, ?_, hbw0.alloc (by omega) _⟩
    · show _ = _; simp [pieces]
    · exact World.iter_heap w3 (fl kd) 0
  case round =>
    obtain ⟨k, acc, hk, HA, hI, hit, hbw⟩ := hrel
    have hsz : w3.heap.size < wr.heap.size := (Array.getElem?_eq_some_iff.1 hit).1
    have hacl : acc.length ≤ 5 + 23 * 3 := by
      have h1 := pieces_len a b c m ⟨by omega, by omega⟩ ⟨by omega, by omega⟩ ⟨by omega, by omega⟩ ⟨by omega, by omega⟩ ((fl kd).data.toList.take k)
      have h2 : ((fl kd).data.toList.take k).length ≤ k := List.length_take_le _ _
      have h3 : nm.data.toList.length = nm.size := by rw [Array.length_toList]; rfl
      rw [unhide HA, List.length_append]
      omega
    by_cases hp : k < (fl kd).size
    · have ha := fl_ascii kd k hp
      have hnx : ∀ ty, (Instr.next (.pointer (some ⟨w3.heap.size, 0, none⟩)) true ty).run Tryd.prog wr = _ := fun ty => Lib.run_next_ascii_at wr w3.heap.size (fl kd) k ty hit hp ha
      have hI2 := hI.iterAt hit (k + 1)
      have hit2 := Lib.iterAt_heap wr w3.heap.size (fl kd) k (k + 1) hit
      have hbw2 := Lib.below_iterAt hbw (k := w3.heap.size) (by omega) (fl kd) (k + 1)
      have hsz2 : w2.heap.size ≤ (wr.iterAt w3.heap.size (fl kd) (k + 1)).heap.size := by rw [Lib.iterAt_size]; omega
      have HSN : Hid ((fl kd).data.toList.take (k + 1) = (fl kd).data.toList.take k ++ [(fl kd)[k]'hp]) := take_snoc (fl kd) k hp
      generalize ((fl kd)[k]'hp) = r at *
      obtain ⟨f, hff, hfc⟩ := fv_cell (n : Int) a b c m (r.toNat : Int)
      have HF := hide hff
      clear hff
      have hxb := fv_bd a b c m (r.toNat : Int) ⟨by omega, by omega⟩ ⟨by omega, by omega⟩ ⟨by omega, by omega⟩ ⟨by omega, by omega⟩
      have HXV : Hid (fv a b c m (r.toNat : Int) = fv a b c m (r.toNat : Int)) := rfl
      have HIL : Hid ((Lib.itoa (fv a b c m (r.toNat : Int))).length ≤ 21) := Lib.itoa_length_le _ (by omega) (by omega)
      generalize hxv : fv a b c m (r.toNat : Int) = xv at *
      have HXE := hide hxv
      clear hxv HXV
      by_cases h73 : (r.toNat : Int) = 73
      · have h73' : ((r.toNat : Int) == 73) = true := by simpa using h73
        have H73 := hide h73
        clear h73
        go_wp2_with fail
        go_at_call 17
        refine (wbyte w2.heap.size w2.heap.size acc 32 _ rfl _ hI2 (by omega) hsz2).mono ?_
        rintro e x1 ⟨rfl, i1, b1, k1⟩
        have t1 := k1.iter hit2 hib
        have y1 := hbw2.trans b1
        have e0 : x1.cell? ⟨w.heap.size, 0, none⟩ = some (.int .i64 n) := (y1.cell (p := ⟨w.heap.size, 0, none⟩) hz2).trans (hcx2 0)
        have ef : x1.cell? ⟨w.heap.size, f, none⟩ = some (.int .i64 xv) := ((y1.cell (p := ⟨w.heap.size, f, none⟩) hz2).trans (hcx2 f)).trans hfc
        have gt := (G2.below y1 (by have := G2.size; omega)).tab
        have z3 := y1.size
        go_wp2_with fail
        go_at_call 19
        refine (field_at _ _ f _ _ e0 (unhide HF)).mono ?_
        rintro e x' ⟨rfl, hx'⟩
        subst hx'
        go_wp2_with fail
        go_at_call 18
        refine (Tryd.strconv_Itoa xv (by omega) (by omega) _ gt).mono ?_
        rintro e x4 ⟨rfl, kk, os, hx4⟩
        have b4 : Below x'.heap.size x' x4 := by rw [hx4]; exact Lib.below_grow _ _ (Nat.le_refl _) _ _
        clear hx4
        have i4 := bld_below i1 b4
        have t4 : x4.heap[w3.heap.size]? = some (.stringIter (fl kd) (k + 1)) := (b4.block _ (Array.getElem?_eq_some_iff.1 t1).1).trans t1
        have y4 := y1.trans (b4.mono z3)
        have hil := unhide HIL
        go_wp2_with fail
        go_at_call 16
        refine (wstring w2.heap.size w2.heap.size (acc ++ [32]) _ _ i4 (by rw [size_of_list]; simp; omega) (Nat.le_trans z3 b4.size)).mono ?_
        rintro e x5 ⟨rfl, i5, b5, k5⟩
        have t5 := k5.iter t4 hib
        have y5 := y4.trans b5
        have R := rel_i HA (unhide HSN) (unhide HXE) (unhide H73) i5
        clear hil
        go_wp2_with fail
        go_roundw
        case rel => exact ⟨k + 1, _, by omega, R.1, R.2, t5, y5⟩
        case measure =>
          simp only [World.iterPos, t5, hit]
          omega
      · have h73' : ((r.toNat : Int) == 73) = false := by simpa using h73
        have H73 := hide h73
        clear h73
        go_wp2_with fail
        go_at_call 17
        refine (wbyte w2.heap.size w2.heap.size acc 32 _ rfl _ hI2 (by omega) hsz2).mono ?_
        rintro e x1 ⟨rfl, i1, b1, k1⟩
        have t1 := k1.iter hit2 hib
        have y1 := hbw2.trans b1
        go_wp2_with fail
        go_at_call 17
        refine (wbyte w2.heap.size w2.heap.size (acc ++ [32]) 114 _ rfl _ i1 (by simp; omega) (Nat.le_trans hsz2 b1.size)).mono ?_
        rintro e x2 ⟨rfl, i2, b2, k2⟩
        have t2 := k2.iter t1 hib
        have y2 := y1.trans b2
        have e0 : x2.cell? ⟨w.heap.size, 0, none⟩ = some (.int .i64 n) := (y2.cell (p := ⟨w.heap.size, 0, none⟩) hz2).trans (hcx2 0)
        have ef : x2.cell? ⟨w.heap.size, f, none⟩ = some (.int .i64 xv) := ((y2.cell (p := ⟨w.heap.size, f, none⟩) hz2).trans (hcx2 f)).trans hfc
        have gt := (G2.below y2 (by have := G2.size; omega)).tab
        have z3 := y2.size
        go_wp2_with fail
        go_at_call 19
        refine (field_at _ _ f _ _ e0 (unhide HF)).mono ?_
        rintro e x' ⟨rfl, hx'⟩
        subst hx'
        go_wp2_with fail
        go_at_call 18
        refine (Tryd.strconv_Itoa xv (by omega) (by omega) _ gt).mono ?_
        rintro e x4 ⟨rfl, kk, os, hx4⟩
        have b4 : Below x'.heap.size x' x4 := by rw [hx4]; exact Lib.below_grow _ _ (Nat.le_refl _) _ _
        clear hx4
        have i4 := bld_below i2 b4
        have t4 : x4.heap[w3.heap.size]? = some (.stringIter (fl kd) (k + 1)) := (b4.block _ (Array.getElem?_eq_some_iff.1 t2).1).trans t2
        have y4 := y2.trans (b4.mono z3)
        have hil := unhide HIL
        go_wp2_with fail
        go_at_call 16
        refine (wstring w2.heap.size w2.heap.size (acc ++ [32] ++ [114]) _ _ i4 (by rw [size_of_list]; simp; omega) (Nat.le_trans z3 b4.size)).mono ?_
        rintro e x5 ⟨rfl, i5, b5, k5⟩
        have t5 := k5.iter t4 hib
        have y5 := y4.trans b5
        have R := rel_r HA (unhide HSN) (unhide HXE) (unhide H73) i5
        clear hil
        go_wp2_with fail
        go_roundw
        case rel => exact ⟨k + 1, _, by omega, R.1, R.2, t5, y5⟩
        case measure =>
          simp only [World.iterPos, t5, hit]
          omega
    · have hk2 : k = (fl kd).size := by omega
      have hnx : ∀ ty, (Instr.next (.pointer (some ⟨w3.heap.size, 0, none⟩)) true ty).run Tryd.prog wr = _ := fun ty => Lib.run_next_end_at wr w3.heap.size (fl kd) k ty hit hp
      have hne : acc ≠ [] := by
        intro e
        have h1 := unhide HA
        rw [e] at h1
        have h2 := congrArg List.length h1
        rw [List.length_append, Array.length_toList] at h2
        have h3 : nm.data.size = nm.size := rfl
        simp at h2
        omega
      have HR : Hid (acc = textL n a b c m) := by
        show _ = _
        rw [unhide HTX, unhide HA, hk2, List.take_of_length_le (by rw [Array.length_toList]; exact Nat.le_refl _)]
      clear hfs hacl
      go_wp2_with fail
      go_at_call 20
      refine (Tryd.Builder_String_k _ _ acc _ hI hne).mono ?_
      rintro e x ⟨rfl, _, bx, _⟩
      have hB3 := hB2.trans ((hbw.trans bx).mono (by omega))
      go_wp2_with fail
      go_ret2
      exact ⟨ret_si (unhide HR), hB3⟩
end Go.Proofs.YtplenmhkhaoapaaDoor.W
