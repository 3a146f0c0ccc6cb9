/- The contracts of the reference's reader of bytes: number, text. -/
import Derived.Test.YtnjcknlfecednaaLf
import Derived.Test.YtnjcknlfecednaaFx
import Derived.Deep.RegionHeldLaw
namespace Go.Proofs.Ytnjcknlfecednaa.T
open Go.RowKit Go.Proofs.Ytnjcknlfecednaa.M
set_option linter.unusedVariables false
set_option linter.unusedSimpArgs false
/-- The number that the first k bytes are. -/
def numK (l : List UInt8) : Nat → Nat
  | 0 => 0
  | k + 1 => 256 * numK l k + (l.getD k 0).toNat
theorem numK_lt (l : List UInt8) : numK l 1 < 256 ∧ numK l 2 < 65536 ∧ numK l 3 < 16777216 ∧ numK l 4 < 4294967296 := by
  have h0 := (l.getD 0 0).toNat_lt
  have h1 := (l.getD 1 0).toNat_lt
  have h2 := (l.getD 2 0).toNat_lt
  have h3 := (l.getD 3 0).toNat_lt
  simp only [numK]
  omega
theorem numK_le (l : List UInt8) (k : Nat) (hk : k < 4) : numK l k < 16777216 := by
  have := numK_lt l
  have hk' : k = 0 ∨ k = 1 ∨ k = 2 ∨ k = 3 := by omega
  rcases hk' with rfl | rfl | rfl | rfl
  · simp [numK]
  · omega
  · omega
  · omega
theorem rNum_few {l : List UInt8} {z : Bool} (h : l.length < 4) : rNum (l, z) = (0, ([], true)) := by
  match l, h with
  | [], _ => rfl
  | [_], _ => rfl
  | [_, _], _ => rfl
  | [_, _, _], _ => rfl
  | _ :: _ :: _ :: _ :: _, h => simp at h; omega
theorem rNum_more {l : List UInt8} {z : Bool} (h : ¬ l.length < 4) : rNum (l, z) = ((numK l 4 : Int), (l.drop 4, z)) := by
  match l, h with
  | a :: b :: c :: d :: r, _ =>
    unfold rNum
    simp only [numK, List.drop_succ_cons, List.drop_zero]
    congr 1
    simp
    omega
  | [], h => simp at h
  | [_], h => simp at h
  | [_, _], h => simp at h
  | [_, _, _], h => simp at h
theorem rNum_n4 (s : Rd) : N4 (rNum s).1 := by
  obtain ⟨l, z⟩ := s
  by_cases h : l.length < 4
  · rw [rNum_few h]; exact ⟨by simp, by simp⟩
  · rw [rNum_more h]
    have := (numK_lt l).2.2.2
    exact ⟨by simp, by simp; omega⟩
/-- Bytes, in every world behind the one that they are told in. -/
theorem Bys.at {w : World} {a : Option Addr} {n c : Nat} {l : List UInt8} (h : Bys w (.slice a n c) l) : n = l.length ∧ (0 < n → ∃ g o, a = some ⟨g, o, none⟩ ∧ ∀ w', Below w.heap.size w w' → ∀ j (hj : j < l.length), w'.cell? ⟨g, o + j, none⟩ = some (.int .u8 l[j].toNat)) := by
  obtain ⟨a', c', e, h1, h2, H⟩ := h
  cases e
  refine ⟨rfl, fun h0 => ?_⟩
  obtain ⟨b, o, rfl, hb, E⟩ := H h0
  refine ⟨b, o, rfl, fun w' hw j hj => ?_⟩
  obtain ⟨cs, p, q⟩ := E j hj
  unfold u8C at p
  subst p
  have := (hw.cell (p := ⟨b, o + j * 1 + 0, none⟩) hb).trans (q 0 _ rfl)
  simpa using this
theorem Bys.room {w : World} {a : Option Addr} {n c : Nat} {l : List UInt8} (h : Bys w (.slice a n c) l) : n ≤ c ∧ c ≤ 9223372036854775807 := by
  obtain ⟨a', c', e, h1, h2, H⟩ := h
  cases e
  exact ⟨h1, h2⟩
/-- What a reader's method leaves: its block, and the state that is told. -/
def PRd (w : World) (b : Nat) (a : Option Addr) (n c : Nat) (raw : List UInt8) (w' : World) (s : Rd) : Prop :=
  w.grownBy w' (some b) ∧ ∃ p : Nat, p ≤ n ∧ s.1 = raw.drop p ∧ w'.heap[b]? = some (.cells #[.slice a n c, .int .i64 p, .bool s.2] 73 (0, 0))
theorem Fx.drewN {F : Nat → Prop} {w0 w : World} {L : List Rs} (h : Fx F w0 w L) (n : Nat) : Fx F w0 (w.drewN n) L := h.call ⟨rfl, rfl, rfl, Nat.le_refl _, fun _ _ => rfl⟩
theorem Fx.drew {F : Nat → Prop} {w0 w : World} {L : List Rs} (h : Fx F w0 w L) : Fx F w0 w.drew L := h.call (Below.refl _ _).drew
theorem Fx.below {b : Nat} {W0 w0 w : World} {L : List Rs} (h : Fx (· = b) w0 w L) (hB : Below W0.heap.size W0 w0) (hle : W0.heap.size ≤ b) : Below W0.heap.size W0 w :=
  ⟨h.fr.below.os.trans hB.os, h.fr.below.tape.trans hB.tape, h.fr.below.output.trans hB.output, Nat.le_trans hB.size h.size, fun k hk => (h.keep k (Nat.lt_of_lt_of_le hk hB.size) (by omega)).trans (hB.block k hk)⟩
set_option maxRecDepth 100000 in
set_option maxHeartbeats 4000000 in
theorem number_any (W0 w : World) (b : Nat) (a : Option Addr) (n c p : Nat) (bad : Bool) (raw : List UInt8) (hle : W0.heap.size ≤ b) (hB : Below W0.heap.size W0 w) (hraw : Bys W0 (.slice a n c) raw) (hn : n ≤ 9223372036854775807) (hp : p ≤ n) (hb : w.heap[b]? = some (.cells #[.slice a n c, .int .i64 p, .bool bad] 73 (0, 0))) :
    Calls Try.prog 36 #[.pointer (some ⟨b, 0, none⟩)] w fun e w' => e = .returned (.int .i64 (rNum (raw.drop p, bad)).1) ∧ PRd w b a n c raw w' (rNum (raw.drop p, bad)).2 := by
  obtain ⟨hnl, HR⟩ := hraw.at
  have HR := hide HR
  have HNL := hide hnl
  have HX := hide (Fx.one' hb)
  have HB := hide hB
  have HLE := hide hle
  have hdl : (raw.drop p).length = n - p := by rw [List.length_drop, hnl]
  have c0 := HX.out.cell 0 rfl
  have f0 := HX.out.frz 0 rfl
  clear hb hnl hraw hB hle
  by_cases h4 : n - p < 4
  · rw [rNum_few (by rw [hdl]; exact h4)]
    have h4' : (n : Int) - p < 4 := by omega
    have h4'' : decide ((n : Int) - p < 4) = true := decide_eq_true h4'
    clear hdl
    go_enter Try.func36, Try.ntmps36
    go_wp2_with fail
    go_quiet (fail)
    generalize nq = qn
    replace HX := hide (HX.out.drewN qn)
    have HX2 := hide ((HX.out.set 0 rfl 2 (.bool true)).set 0 rfl 1 (.int .i64 n))
    have d0 := (HX.out.set 0 rfl 2 (.bool true)).cell 0 rfl
    have d1 := (HX.out.set 0 rfl 2 (.bool true)).frz 0 rfl
    go_wp2_with fail
    go_ret
    exact ⟨rfl, HX2.out.grown, n, Nat.le_refl _, by simp [HNL.out], (HX2.out.fr.get (i := 0) rfl).2⟩
  · rw [rNum_more (by rw [hdl]; exact h4)]
    have h4' : ¬ (n : Int) - p < 4 := by omega
    have h4'' : decide ((n : Int) - p < 4) = false := decide_eq_false h4'
    obtain ⟨g, oo, rfl, HC⟩ := HR.out (by omega)
    replace HC := hide HC
    clear HR
    have HK : Hid (∀ k, k < 4 → numK (raw.drop p) k < 16777216) := numK_le (raw.drop p)
    have HK4 := hide (numK_lt (raw.drop p)).2.2.2
    have HKs : Hid (∀ k (hk : p + k < raw.length), numK (raw.drop p) (k + 1) = 256 * numK (raw.drop p) k + (raw[p + k]'hk).toNat) := fun k hk => by
      show 256 * numK (raw.drop p) k + ((raw.drop p).getD k 0).toNat = _
      rw [List.getD_eq_getElem?_getD, List.getElem?_drop, List.getElem?_eq_getElem hk]
      rfl
    have HK0 : Hid (numK (raw.drop p) 0 = 0) := rfl
    have HD : Hid ((raw.drop p).drop 4 = raw.drop (p + 4)) := List.drop_drop
    obtain ⟨X4, HX4⟩ : ∃ X, Hid (((numK (raw.drop p) 4 : Nat) : Int) = X) := ⟨_, rfl⟩
    rw [HX4.out, HD.out]
    clear HD
    generalize hnk : numK (raw.drop p) = NK at *
    clear hnk hdl
    go_enter Try.func36, Try.ntmps36
    go_wp2_with fail
    go_quiet (fail)
    generalize nq = qn
    replace HX := hide (HX.out.drewN qn)
    clear c0 f0
    go_wp2_with fail
    go_loopw [3, 4] (fun x i wr => ∃ k : Nat, k ≤ 4 ∧ x = .int .i64 (NK k) ∧ i = .int .i64 k ∧ Hid (Fx (· = b) w wr [.blk b #[.slice (some ⟨g, oo, none⟩) n c, .int .i64 p, .bool bad] 73])) (fun _ i _ => 4 - (intOf i).toNat)
    case atStart => exact ⟨0, by omega, by rw [HK0.out]; rfl, rfl, HX⟩
    case round =>
      clear HX
      obtain ⟨k, hk, rfl, rfl, HX⟩ := hrel
      have c0 := HX.out.cell 0 rfl
      by_cases hlt : k < 4
      · have hlt' : (k : Int) < 4 := by omega
        have hpk : p + k < raw.length := by have := HNL.out; omega
        have hc := HC.out _ (HX.out.below HB.out HLE.out) (p + k) hpk
        have hs := HKs.out k hpk
        have hb1 := HK.out k hlt
        have hu := (raw[p + k]'hpk).toNat_lt
        generalize hby : (raw[p + k]'hpk).toNat = by1 at *
        generalize hnk : NK k = x at *
        have HS := hide hs
        have hidx : (0 : Int) ≤ (p : Int) + k ∧ (p : Int) + k < n := by omega
        have hw1 : -9223372036854775808 ≤ (p : Int) + k ∧ (p : Int) + k ≤ 9223372036854775807 := by omega
        clear hs hby hnk HC HKs HK
        go_wp2_with fail
        go_quiet (fail)
        generalize nq = q2
        go_wp2_with fail
        go_roundw
        case rel => exact ⟨k + 1, by omega, by rw [HS.out]; simp, by go_num, HX.out.drewN q2⟩
        case measure => simp [intOf]; omega
      · have hlt' : ¬ (k : Int) < 4 := by omega
        obtain rfl : k = 4 := by omega
        have f0 := HX.out.frz 0 rfl
        have HX2 := hide (HX.out.set 0 rfl 1 (.int .i64 ((p : Int) + 4)))
        have hw1 : -9223372036854775808 ≤ (p : Int) + 4 ∧ (p : Int) + 4 ≤ 9223372036854775807 := by omega
        have hw2 : (p : Int) + 4 ≤ 9223372036854775807 := by omega
        have h44 := HX4.out
        generalize NK 4 = x at *
        subst h44
        go_wp2_with fail
        go_ret
        refine ⟨rfl, HX2.out.grown, p + 4, by omega, rfl, ?_⟩
        have := (HX2.out.fr.get (i := 0) rfl).2
        simpa using this
theorem conv_zero (a : Option Addr) (c : Nat) (w : World) : (convert 28 9 (.slice a 0 c)).run Try.prog w = .ok (.string (strOf [])) w := by
  cases a with
  | none => exact run_convert_bytes_nil w 28 5 Try.underlying28 Try.underlying5 _ _ 9 Try.underlying9
  | some ad => exact run_convert_bytes_back w 28 9 5 ad c [] Try.underlying28 Try.underlying5 Try.underlying9 fun j hj => absurd hj (by simp)
theorem rTxt_of {s : Rd} {x : Int} {t : Rd} (h : rNum s = (x, t)) : rTxt s = if (t.1.length : Int) < x then (⟨#[]⟩, (t.1, true)) else (⟨(t.1.take x.toNat).toArray⟩, (t.1.drop x.toNat, t.2)) := by
  unfold rTxt
  rw [h]
set_option maxRecDepth 100000 in
set_option maxHeartbeats 4000000 in
theorem text_any (W0 w : World) (b : Nat) (a : Option Addr) (n c p : Nat) (bad : Bool) (raw : List UInt8) (hle : W0.heap.size ≤ b) (hB : Below W0.heap.size W0 w) (hraw : Bys W0 (.slice a n c) raw) (hn : n ≤ 9223372036854775807) (hp : p ≤ n) (hb : w.heap[b]? = some (.cells #[.slice a n c, .int .i64 p, .bool bad] 73 (0, 0))) :
    Calls Try.prog 38 #[.pointer (some ⟨b, 0, none⟩)] w fun e w' => e = .returned (.string (rTxt (raw.drop p, bad)).1) ∧ PRd w b a n c raw w' (rTxt (raw.drop p, bad)).2 := by
  have HC := hide (number_any W0 w b a n c p bad raw hle hB hraw hn hp hb)
  have HN4 := hide (rNum_n4 (raw.drop p, bad))
  have HT := hide (rTxt_of (s := (raw.drop p, bad)) (x := (rNum (raw.drop p, bad)).1) (t := (rNum (raw.drop p, bad)).2) rfl)
  rw [HT.out]
  clear HT
  obtain ⟨hnl, HR⟩ := hraw.at
  obtain ⟨hnc, hc63⟩ := hraw.room
  have HR := hide HR
  have HNL := hide hnl
  clear hnl
  have HX := hide (Fx.one' hb)
  have HB := hide hB
  have HLE := hide hle
  obtain ⟨x, HNx⟩ : ∃ x, Hid ((rNum (raw.drop p, bad)).1 = x) := ⟨_, rfl⟩
  obtain ⟨t, HNt⟩ : ∃ t, Hid ((rNum (raw.drop p, bad)).2 = t) := ⟨_, rfl⟩
  rw [HNx.out] at HN4
  rw [HNx.out, HNt.out] at HC
  rw [HNx.out, HNt.out]
  obtain ⟨h0, h1⟩ := HN4.out
  obtain ⟨R, HRE⟩ : ∃ R, Hid ((if (t.1.length : Int) < x then ((⟨#[]⟩ : ByteArray), ((t.1, true) : Rd)) else (⟨(t.1.take x.toNat).toArray⟩, (t.1.drop x.toNat, t.2))) = R) := ⟨_, rfl⟩
  rw [HRE.out]
  clear HNx HNt HN4 hb hraw hB hle
  go_enter Try.func38, Try.ntmps38
  go_wp2_with fail
  go_at_call 36
  refine HC.out.mono ?_
  rintro e w1 ⟨rfl, hg, p1, hp1, ht1, hw1⟩
  replace HX := hide (HX.out.via 0 rfl hg hw1)
  clear hg hw1 HC
  have c0 := HX.out.cell 0 rfl
  have HC1 := hide (HX.out.cell 0 rfl)
  have HFZ := hide (HX.out.frz 0 rfl)
  obtain ⟨tl, tz⟩ := t
  simp only at ht1
  subst ht1
  have hlen : (raw.drop p1).length = n - p1 := by rw [List.length_drop, HNL.out]
  by_cases hx : (n : Int) - p1 < x
  · have hx' : ((raw.drop p1).length : Int) < x := by rw [hlen]; omega
    have hxd : decide ((n : Int) - p1 < x) = true := decide_eq_true hx
    have hre := HRE.out
    rw [if_pos hx'] at hre
    subst hre
    clear hx' hlen HRE
    go_wp2_with fail
    go_quiet (fail)
    generalize nq = qn
    replace HX := hide (HX.out.drewN qn)
    have f0 := HX.out.frz 0 rfl
    have HX2 := hide (HX.out.set 0 rfl 2 (.bool true))
    go_wp2_with fail
    go_ret
    exact ⟨rfl, HX2.out.grown, p1, hp1, rfl, (HX2.out.fr.get (i := 0) rfl).2⟩
  · have hx' : ¬ ((raw.drop p1).length : Int) < x := by rw [hlen]; omega
    have hxd : decide ((n : Int) - p1 < x) = false := decide_eq_false hx
    have hre := HRE.out
    rw [if_neg hx'] at hre
    clear HRE
    obtain ⟨m, rfl⟩ : ∃ m : Nat, x = m := ⟨x.toNat, by omega⟩
    have hm : p1 + m ≤ n := by omega
    clear hx' hlen
    simp only [Int.toNat_natCast, List.drop_drop] at hre
    subst hre
    go_wp2_with fail
    go_quiet (fail)
    generalize nq = qn
    replace HX := hide (HX.out.drewN qn)
    replace c0 := HX.out.cell 0 rfl
    have hs4 : (p1 : Int) ≤ c := by omega
    obtain ⟨e1, he1⟩ : ∃ e1 : Nat, p1 + m = e1 := ⟨_, rfl⟩
    have hs5 : p1 ≤ e1 := by omega
    have hs6 : e1 ≤ c := by omega
    have hs7 : (e1 : Int) ≤ c := by omega
    have hwr : IntKind.i64.wrap ((p1 : Int) + m) = (e1 : Int) := by rw [IntKind.wrap_i64]; omega
    have hwr2 : (p1 : Int) + m = (e1 : Int) := by omega
    have hwr4 : IntKind.i64.wrap (e1 : Int) = (e1 : Int) := by rw [IntKind.wrap_i64]; omega
    have hsub : e1 - p1 = m := by omega
    go_wp2_with fail
    replace HX := hide HX.out.drew
    clear c0
    by_cases hm0 : m = 0
    · subst hm0
      have HCV : Hid (∀ X C, (convert 28 9 (.slice X 0 C)).run Try.prog (w1.drewN qn).drew = .ok (.string (strOf [])) (w1.drewN qn).drew) := fun X C => conv_zero X C _
      obtain rfl : p1 = e1 := by omega
      by_cases hcp : c = p1
      · obtain rfl : p1 = c := hcp.symm
        cases a with
        | none =>
          refine wp_region_held_drew (S := fun w' => (∀ o, w'.cell? ⟨b, o, none⟩ = (#[Value.slice none n p1, .int .i64 p1, .bool tz])[o]?) ∧ (∀ X C, (convert 28 9 (.slice X 0 C)).run Try.prog w' = .ok (.string (strOf [])) w')) (by kernel_rfl) ⟨(HX.out.cell 0 rfl), HCV.out⟩ (fun hHeld => ?_)
          refine wpAnyH_take (i := 0) (v := ?_) rfl (by kernel_rfl) (by kernel_rfl) (by kernel_rfl) (fun _ _ _ h => h) (Or.inl ⟨by rfl, ?_⟩) (by assumption) ?_
          rotate_left
          · (intro w hSw; (try dsimp only at hSw); obtain ⟨hSw0, hSw1⟩ := hSw; go_simp) <;> with_reducible rfl
          (simp only [Act.put, List.getElem_toArray, List.getElem_cons_zero, List.getElem_cons_succ, List.setIfInBounds_toArray, List.set_cons_zero, List.set_cons_succ])
          refine wpAnyH_take (i := 1) (v := ?_) rfl (by kernel_rfl) (by kernel_rfl) (by kernel_rfl) (fun _ _ _ h => h) (Or.inl ⟨by rfl, ?_⟩) (by assumption) ?_
          rotate_left
          · (intro w hSw; (try dsimp only at hSw); obtain ⟨hSw0, hSw1⟩ := hSw; go_simp) <;> with_reducible rfl
          (simp only [Act.put, List.getElem_toArray, List.getElem_cons_zero, List.getElem_cons_succ, List.setIfInBounds_toArray, List.set_cons_zero, List.set_cons_succ])
          refine wpAnyH_take (i := 2) (v := ?_) rfl (by kernel_rfl) (by kernel_rfl) (by kernel_rfl) (fun _ _ _ h => h) (Or.inl ⟨by rfl, ?_⟩) (by assumption) ?_
          rotate_left
          · (intro w hSw; (try dsimp only at hSw); obtain ⟨hSw0, hSw1⟩ := hSw; go_simp) <;> with_reducible rfl
          (simp only [Act.put, List.getElem_toArray, List.getElem_cons_zero, List.getElem_cons_succ, List.setIfInBounds_toArray, List.set_cons_zero, List.set_cons_succ])
          refine wpAnyH_take (i := 3) (v := ?_) rfl (by kernel_rfl) (by kernel_rfl) (by kernel_rfl) (fun _ _ _ h => h) (Or.inl ⟨by rfl, ?_⟩) (by assumption) ?_
          rotate_left
          · (intro w hSw; (try dsimp only at hSw); obtain ⟨hSw0, hSw1⟩ := hSw; go_simp) <;> with_reducible rfl
          (simp only [Act.put, List.getElem_toArray, List.getElem_cons_zero, List.getElem_cons_succ, List.setIfInBounds_toArray, List.set_cons_zero, List.set_cons_succ])
          refine wpAnyH_take (i := 4) (v := ?_) rfl (by kernel_rfl) (by kernel_rfl) (by kernel_rfl) (fun _ _ _ h => h) (Or.inl ⟨by rfl, ?_⟩) (by assumption) ?_
          rotate_left
          · (intro w hSw; (try dsimp only at hSw); obtain ⟨hSw0, hSw1⟩ := hSw; go_simp) <;> with_reducible rfl
          (simp only [Act.put, List.getElem_toArray, List.getElem_cons_zero, List.getElem_cons_succ, List.setIfInBounds_toArray, List.set_cons_zero, List.set_cons_succ])
          refine wpAnyH_take (i := 5) (v := ?_) rfl (by kernel_rfl) (by kernel_rfl) (by kernel_rfl) (fun _ _ _ h => h) (Or.inl ⟨by rfl, ?_⟩) (by assumption) ?_
          rotate_left
          · (intro w hSw; (try dsimp only at hSw); obtain ⟨hSw0, hSw1⟩ := hSw; go_simp) <;> with_reducible rfl
          (simp only [Act.put, List.getElem_toArray, List.getElem_cons_zero, List.getElem_cons_succ, List.setIfInBounds_toArray, List.set_cons_zero, List.set_cons_succ])
          refine wpAnyH_take (i := 6) (v := ?_) rfl (by kernel_rfl) (by kernel_rfl) (by kernel_rfl) (fun _ _ _ h => h) (Or.inl ⟨by rfl, ?_⟩) (by assumption) ?_
          rotate_left
          · (intro w hSw; (try dsimp only at hSw); obtain ⟨hSw0, hSw1⟩ := hSw; go_simp) <;> with_reducible rfl
          (simp only [Act.put, List.getElem_toArray, List.getElem_cons_zero, List.getElem_cons_succ, List.setIfInBounds_toArray, List.set_cons_zero, List.set_cons_succ])
          refine wpAnyH_take (i := 7) (v := ?_) rfl (by kernel_rfl) (by kernel_rfl) (by kernel_rfl) (fun _ _ _ h => h) (Or.inl ⟨by rfl, ?_⟩) (by assumption) ?_
          rotate_left
          · (intro w hSw; (try dsimp only at hSw); obtain ⟨hSw0, hSw1⟩ := hSw; go_simp) <;> with_reducible rfl
          (simp only [Act.put, List.getElem_toArray, List.getElem_cons_zero, List.getElem_cons_succ, List.setIfInBounds_toArray, List.set_cons_zero, List.set_cons_succ])
          refine wpAnyH_take (i := 8) (v := ?_) rfl (by kernel_rfl) (by kernel_rfl) (by kernel_rfl) (fun _ _ _ h => h) (Or.inl ⟨by rfl, ?_⟩) (by assumption) ?_
          rotate_left
          · (intro w hSw; (try dsimp only at hSw); obtain ⟨hSw0, hSw1⟩ := hSw; go_simp) <;> with_reducible rfl
          (simp only [Act.put, List.getElem_toArray, List.getElem_cons_zero, List.getElem_cons_succ, List.setIfInBounds_toArray, List.set_cons_zero, List.set_cons_succ])
          refine wpAnyH_take (i := 9) (v := ?_) rfl (by kernel_rfl) (by kernel_rfl) (by kernel_rfl) (fun _ _ _ h => h) (Or.inl ⟨by rfl, ?_⟩) (by assumption) ?_
          rotate_left
          · (intro w hSw; (try dsimp only at hSw); obtain ⟨hSw0, hSw1⟩ := hSw; go_simp) <;> with_reducible rfl
          (simp only [Act.put, List.getElem_toArray, List.getElem_cons_zero, List.getElem_cons_succ, List.setIfInBounds_toArray, List.set_cons_zero, List.set_cons_succ])
          refine wpAnyH_take (i := 10) (v := ?_) rfl (by kernel_rfl) (by kernel_rfl) (by kernel_rfl) (fun _ _ _ h => h) (Or.inl ⟨by rfl, ?_⟩) (by assumption) ?_
          rotate_left
          · (intro w hSw; (try dsimp only at hSw); obtain ⟨hSw0, hSw1⟩ := hSw; go_simp) <;> with_reducible rfl
          (simp only [Act.put, List.getElem_toArray, List.getElem_cons_zero, List.getElem_cons_succ, List.setIfInBounds_toArray, List.set_cons_zero, List.set_cons_succ])
          refine wpAnyH_take (i := 11) (v := ?_) rfl (by kernel_rfl) (by kernel_rfl) (by kernel_rfl) (fun _ _ _ h => h) (Or.inl ⟨by rfl, ?_⟩) (by assumption) ?_
          rotate_left
          · (intro w hSw; (try dsimp only at hSw); obtain ⟨hSw0, hSw1⟩ := hSw; go_simp) <;> with_reducible rfl
          (simp only [Act.put, List.getElem_toArray, List.getElem_cons_zero, List.getElem_cons_succ, List.setIfInBounds_toArray, List.set_cons_zero, List.set_cons_succ])
          refine wpAnyH_take (i := 12) (v := ?_) rfl (by kernel_rfl) (by kernel_rfl) (by kernel_rfl) (fun _ _ _ h => h) (Or.inl ⟨by rfl, ?_⟩) (by assumption) ?_
          rotate_left
          · (intro w hSw; (try dsimp only at hSw); obtain ⟨hSw0, hSw1⟩ := hSw; go_simp) <;> with_reducible rfl
          (simp only [Act.put, List.getElem_toArray, List.getElem_cons_zero, List.getElem_cons_succ, List.setIfInBounds_toArray, List.set_cons_zero, List.set_cons_succ])
          refine wpAnyH_take (i := 13) (v := ?_) rfl (by kernel_rfl) (by kernel_rfl) (by kernel_rfl) (fun _ _ _ h => h) (Or.inl ⟨by rfl, ?_⟩) (by assumption) ?_
          rotate_left
          · (intro w hSw; (try dsimp only at hSw); obtain ⟨hSw0, hSw1⟩ := hSw; go_simp) <;> with_reducible rfl
          (simp only [Act.put, List.getElem_toArray, List.getElem_cons_zero, List.getElem_cons_succ, List.setIfInBounds_toArray, List.set_cons_zero, List.set_cons_succ])
          refine wpAnyH_take (i := 14) (v := ?_) rfl (by kernel_rfl) (by kernel_rfl) (by kernel_rfl) (fun _ _ _ h => h) (Or.inl ⟨by rfl, ?_⟩) (by assumption) ?_
          rotate_left
          · (intro w hSw; (try dsimp only at hSw); obtain ⟨hSw0, hSw1⟩ := hSw; go_simp) <;> with_reducible rfl
          (simp only [Act.put, List.getElem_toArray, List.getElem_cons_zero, List.getElem_cons_succ, List.setIfInBounds_toArray, List.set_cons_zero, List.set_cons_succ])
          refine wpAnyH_take (i := 15) (v := ?_) rfl (by kernel_rfl) (by kernel_rfl) (by kernel_rfl) (fun _ _ _ h => h) (Or.inl ⟨by rfl, ?_⟩) (by assumption) ?_
          rotate_left
          · (intro w hSw; (try dsimp only at hSw); obtain ⟨hSw0, hSw1⟩ := hSw; go_simp) <;> with_reducible rfl
          (simp only [Act.put, List.getElem_toArray, List.getElem_cons_zero, List.getElem_cons_succ, List.setIfInBounds_toArray, List.set_cons_zero, List.set_cons_succ])
          refine wpAnyH_take (i := 16) (v := ?_) rfl (by kernel_rfl) (by kernel_rfl) (by kernel_rfl) (fun _ _ _ h => h) (Or.inl ⟨by rfl, ?_⟩) (by assumption) ?_
          rotate_left
          · (intro w hSw; (try dsimp only at hSw); obtain ⟨hSw0, hSw1⟩ := hSw; go_simp) <;> with_reducible rfl
          (simp only [Act.put, List.getElem_toArray, List.getElem_cons_zero, List.getElem_cons_succ, List.setIfInBounds_toArray, List.set_cons_zero, List.set_cons_succ])
          refine wpAnyH_done (by kernel_rfl) ?_ _
          have f0 := HFZ.out
          have c0 := HC1.out
          have HX2 := hide (HX.out.set 0 rfl 1 (.int .i64 (p1 : Int)))
          have HW : Hid (p1 + 0 ≤ n) := hm
          have hb1 : (p1 : Int) + 0 ≤ 9223372036854775807 := by omega
          have hb2 : -9223372036854775808 ≤ (p1 : Int) + 0 := by omega
          clear hwr hwr2 hwr4 hsub he1 hs5 hs6 hs7 hs4 hm hxd
          go_wp2_with fail
          go_ret
          refine ⟨rfl, HX2.out.grown, p1 + 0, HW.out, by simp, ?_⟩
          have := (HX2.out.fr.get (i := 0) rfl).2
          simpa using this
        | some ad =>
          obtain ⟨g, oo, po⟩ := ad
          refine wp_region_held_drew (S := fun w' => (∀ o, w'.cell? ⟨b, o, none⟩ = (#[Value.slice (some ⟨g, oo, po⟩) n p1, .int .i64 p1, .bool tz])[o]?) ∧ (∀ X C, (convert 28 9 (.slice X 0 C)).run Try.prog w' = .ok (.string (strOf [])) w')) (by kernel_rfl) ⟨(HX.out.cell 0 rfl), HCV.out⟩ (fun hHeld => ?_)
          refine wpAnyH_take (i := 0) (v := ?_) rfl (by kernel_rfl) (by kernel_rfl) (by kernel_rfl) (fun _ _ _ h => h) (Or.inl ⟨by rfl, ?_⟩) (by assumption) ?_
          rotate_left
          · (intro w hSw; (try dsimp only at hSw); obtain ⟨hSw0, hSw1⟩ := hSw; go_simp) <;> with_reducible rfl
          (simp only [Act.put, List.getElem_toArray, List.getElem_cons_zero, List.getElem_cons_succ, List.setIfInBounds_toArray, List.set_cons_zero, List.set_cons_succ])
          refine wpAnyH_take (i := 1) (v := ?_) rfl (by kernel_rfl) (by kernel_rfl) (by kernel_rfl) (fun _ _ _ h => h) (Or.inl ⟨by rfl, ?_⟩) (by assumption) ?_
          rotate_left
          · (intro w hSw; (try dsimp only at hSw); obtain ⟨hSw0, hSw1⟩ := hSw; go_simp) <;> with_reducible rfl
          (simp only [Act.put, List.getElem_toArray, List.getElem_cons_zero, List.getElem_cons_succ, List.setIfInBounds_toArray, List.set_cons_zero, List.set_cons_succ])
          refine wpAnyH_take (i := 2) (v := ?_) rfl (by kernel_rfl) (by kernel_rfl) (by kernel_rfl) (fun _ _ _ h => h) (Or.inl ⟨by rfl, ?_⟩) (by assumption) ?_
          rotate_left
          · (intro w hSw; (try dsimp only at hSw); obtain ⟨hSw0, hSw1⟩ := hSw; go_simp) <;> with_reducible rfl
          (simp only [Act.put, List.getElem_toArray, List.getElem_cons_zero, List.getElem_cons_succ, List.setIfInBounds_toArray, List.set_cons_zero, List.set_cons_succ])
          refine wpAnyH_take (i := 3) (v := ?_) rfl (by kernel_rfl) (by kernel_rfl) (by kernel_rfl) (fun _ _ _ h => h) (Or.inl ⟨by rfl, ?_⟩) (by assumption) ?_
          rotate_left
          · (intro w hSw; (try dsimp only at hSw); obtain ⟨hSw0, hSw1⟩ := hSw; go_simp) <;> with_reducible rfl
          (simp only [Act.put, List.getElem_toArray, List.getElem_cons_zero, List.getElem_cons_succ, List.setIfInBounds_toArray, List.set_cons_zero, List.set_cons_succ])
          refine wpAnyH_take (i := 4) (v := ?_) rfl (by kernel_rfl) (by kernel_rfl) (by kernel_rfl) (fun _ _ _ h => h) (Or.inl ⟨by rfl, ?_⟩) (by assumption) ?_
          rotate_left
          · (intro w hSw; (try dsimp only at hSw); obtain ⟨hSw0, hSw1⟩ := hSw; go_simp) <;> with_reducible rfl
          (simp only [Act.put, List.getElem_toArray, List.getElem_cons_zero, List.getElem_cons_succ, List.setIfInBounds_toArray, List.set_cons_zero, List.set_cons_succ])
          refine wpAnyH_take (i := 5) (v := ?_) rfl (by kernel_rfl) (by kernel_rfl) (by kernel_rfl) (fun _ _ _ h => h) (Or.inl ⟨by rfl, ?_⟩) (by assumption) ?_
          rotate_left
          · (intro w hSw; (try dsimp only at hSw); obtain ⟨hSw0, hSw1⟩ := hSw; go_simp) <;> with_reducible rfl
          (simp only [Act.put, List.getElem_toArray, List.getElem_cons_zero, List.getElem_cons_succ, List.setIfInBounds_toArray, List.set_cons_zero, List.set_cons_succ])
          refine wpAnyH_take (i := 6) (v := ?_) rfl (by kernel_rfl) (by kernel_rfl) (by kernel_rfl) (fun _ _ _ h => h) (Or.inl ⟨by rfl, ?_⟩) (by assumption) ?_
          rotate_left
          · (intro w hSw; (try dsimp only at hSw); obtain ⟨hSw0, hSw1⟩ := hSw; go_simp) <;> with_reducible rfl
          (simp only [Act.put, List.getElem_toArray, List.getElem_cons_zero, List.getElem_cons_succ, List.setIfInBounds_toArray, List.set_cons_zero, List.set_cons_succ])
          refine wpAnyH_take (i := 7) (v := ?_) rfl (by kernel_rfl) (by kernel_rfl) (by kernel_rfl) (fun _ _ _ h => h) (Or.inl ⟨by rfl, ?_⟩) (by assumption) ?_
          rotate_left
          · (intro w hSw; (try dsimp only at hSw); obtain ⟨hSw0, hSw1⟩ := hSw; go_simp) <;> with_reducible rfl
          (simp only [Act.put, List.getElem_toArray, List.getElem_cons_zero, List.getElem_cons_succ, List.setIfInBounds_toArray, List.set_cons_zero, List.set_cons_succ])
          refine wpAnyH_take (i := 8) (v := ?_) rfl (by kernel_rfl) (by kernel_rfl) (by kernel_rfl) (fun _ _ _ h => h) (Or.inl ⟨by rfl, ?_⟩) (by assumption) ?_
          rotate_left
          · (intro w hSw; (try dsimp only at hSw); obtain ⟨hSw0, hSw1⟩ := hSw; go_simp) <;> with_reducible rfl
          (simp only [Act.put, List.getElem_toArray, List.getElem_cons_zero, List.getElem_cons_succ, List.setIfInBounds_toArray, List.set_cons_zero, List.set_cons_succ])
          refine wpAnyH_take (i := 9) (v := ?_) rfl (by kernel_rfl) (by kernel_rfl) (by kernel_rfl) (fun _ _ _ h => h) (Or.inl ⟨by rfl, ?_⟩) (by assumption) ?_
          rotate_left
          · (intro w hSw; (try dsimp only at hSw); obtain ⟨hSw0, hSw1⟩ := hSw; go_simp) <;> with_reducible rfl
          (simp only [Act.put, List.getElem_toArray, List.getElem_cons_zero, List.getElem_cons_succ, List.setIfInBounds_toArray, List.set_cons_zero, List.set_cons_succ])
          refine wpAnyH_take (i := 10) (v := ?_) rfl (by kernel_rfl) (by kernel_rfl) (by kernel_rfl) (fun _ _ _ h => h) (Or.inl ⟨by rfl, ?_⟩) (by assumption) ?_
          rotate_left
          · (intro w hSw; (try dsimp only at hSw); obtain ⟨hSw0, hSw1⟩ := hSw; go_simp) <;> with_reducible rfl
          (simp only [Act.put, List.getElem_toArray, List.getElem_cons_zero, List.getElem_cons_succ, List.setIfInBounds_toArray, List.set_cons_zero, List.set_cons_succ])
          refine wpAnyH_take (i := 11) (v := ?_) rfl (by kernel_rfl) (by kernel_rfl) (by kernel_rfl) (fun _ _ _ h => h) (Or.inl ⟨by rfl, ?_⟩) (by assumption) ?_
          rotate_left
          · (intro w hSw; (try dsimp only at hSw); obtain ⟨hSw0, hSw1⟩ := hSw; go_simp) <;> with_reducible rfl
          (simp only [Act.put, List.getElem_toArray, List.getElem_cons_zero, List.getElem_cons_succ, List.setIfInBounds_toArray, List.set_cons_zero, List.set_cons_succ])
          refine wpAnyH_take (i := 12) (v := ?_) rfl (by kernel_rfl) (by kernel_rfl) (by kernel_rfl) (fun _ _ _ h => h) (Or.inl ⟨by rfl, ?_⟩) (by assumption) ?_
          rotate_left
          · (intro w hSw; (try dsimp only at hSw); obtain ⟨hSw0, hSw1⟩ := hSw; go_simp) <;> with_reducible rfl
          (simp only [Act.put, List.getElem_toArray, List.getElem_cons_zero, List.getElem_cons_succ, List.setIfInBounds_toArray, List.set_cons_zero, List.set_cons_succ])
          refine wpAnyH_take (i := 13) (v := ?_) rfl (by kernel_rfl) (by kernel_rfl) (by kernel_rfl) (fun _ _ _ h => h) (Or.inl ⟨by rfl, ?_⟩) (by assumption) ?_
          rotate_left
          · (intro w hSw; (try dsimp only at hSw); obtain ⟨hSw0, hSw1⟩ := hSw; go_simp) <;> with_reducible rfl
          (simp only [Act.put, List.getElem_toArray, List.getElem_cons_zero, List.getElem_cons_succ, List.setIfInBounds_toArray, List.set_cons_zero, List.set_cons_succ])
          refine wpAnyH_take (i := 14) (v := ?_) rfl (by kernel_rfl) (by kernel_rfl) (by kernel_rfl) (fun _ _ _ h => h) (Or.inl ⟨by rfl, ?_⟩) (by assumption) ?_
          rotate_left
          · (intro w hSw; (try dsimp only at hSw); obtain ⟨hSw0, hSw1⟩ := hSw; go_simp) <;> with_reducible rfl
          (simp only [Act.put, List.getElem_toArray, List.getElem_cons_zero, List.getElem_cons_succ, List.setIfInBounds_toArray, List.set_cons_zero, List.set_cons_succ])
          refine wpAnyH_take (i := 15) (v := ?_) rfl (by kernel_rfl) (by kernel_rfl) (by kernel_rfl) (fun _ _ _ h => h) (Or.inl ⟨by rfl, ?_⟩) (by assumption) ?_
          rotate_left
          · (intro w hSw; (try dsimp only at hSw); obtain ⟨hSw0, hSw1⟩ := hSw; go_simp) <;> with_reducible rfl
          (simp only [Act.put, List.getElem_toArray, List.getElem_cons_zero, List.getElem_cons_succ, List.setIfInBounds_toArray, List.set_cons_zero, List.set_cons_succ])
          refine wpAnyH_take (i := 16) (v := ?_) rfl (by kernel_rfl) (by kernel_rfl) (by kernel_rfl) (fun _ _ _ h => h) (Or.inl ⟨by rfl, ?_⟩) (by assumption) ?_
          rotate_left
          · (intro w hSw; (try dsimp only at hSw); obtain ⟨hSw0, hSw1⟩ := hSw; go_simp) <;> with_reducible rfl
          (simp only [Act.put, List.getElem_toArray, List.getElem_cons_zero, List.getElem_cons_succ, List.setIfInBounds_toArray, List.set_cons_zero, List.set_cons_succ])
          refine wpAnyH_done (by kernel_rfl) ?_ _
          have f0 := HFZ.out
          have c0 := HC1.out
          have HX2 := hide (HX.out.set 0 rfl 1 (.int .i64 (p1 : Int)))
          have HW : Hid (p1 + 0 ≤ n) := hm
          have hb1 : (p1 : Int) + 0 ≤ 9223372036854775807 := by omega
          have hb2 : -9223372036854775808 ≤ (p1 : Int) + 0 := by omega
          clear hwr hwr2 hwr4 hsub he1 hs5 hs6 hs7 hs4 hm hxd
          go_wp2_with fail
          go_ret
          refine ⟨rfl, HX2.out.grown, p1 + 0, HW.out, by simp, ?_⟩
          have := (HX2.out.fr.get (i := 0) rfl).2
          simpa using this
      · cases a with
        | none =>
          refine wp_region_held_drew (S := fun w' => (∀ o, w'.cell? ⟨b, o, none⟩ = (#[Value.slice none n c, .int .i64 p1, .bool tz])[o]?) ∧ (∀ X C, (convert 28 9 (.slice X 0 C)).run Try.prog w' = .ok (.string (strOf [])) w')) (by kernel_rfl) ⟨(HX.out.cell 0 rfl), HCV.out⟩ (fun hHeld => ?_)
          refine wpAnyH_take (i := 0) (v := ?_) rfl (by kernel_rfl) (by kernel_rfl) (by kernel_rfl) (fun _ _ _ h => h) (Or.inl ⟨by rfl, ?_⟩) (by assumption) ?_
          rotate_left
          · (intro w hSw; (try dsimp only at hSw); obtain ⟨hSw0, hSw1⟩ := hSw; go_simp) <;> with_reducible rfl
          (simp only [Act.put, List.getElem_toArray, List.getElem_cons_zero, List.getElem_cons_succ, List.setIfInBounds_toArray, List.set_cons_zero, List.set_cons_succ])
          refine wpAnyH_take (i := 1) (v := ?_) rfl (by kernel_rfl) (by kernel_rfl) (by kernel_rfl) (fun _ _ _ h => h) (Or.inl ⟨by rfl, ?_⟩) (by assumption) ?_
          rotate_left
          · (intro w hSw; (try dsimp only at hSw); obtain ⟨hSw0, hSw1⟩ := hSw; go_simp) <;> with_reducible rfl
          (simp only [Act.put, List.getElem_toArray, List.getElem_cons_zero, List.getElem_cons_succ, List.setIfInBounds_toArray, List.set_cons_zero, List.set_cons_succ])
          refine wpAnyH_take (i := 2) (v := ?_) rfl (by kernel_rfl) (by kernel_rfl) (by kernel_rfl) (fun _ _ _ h => h) (Or.inl ⟨by rfl, ?_⟩) (by assumption) ?_
          rotate_left
          · (intro w hSw; (try dsimp only at hSw); obtain ⟨hSw0, hSw1⟩ := hSw; go_simp) <;> with_reducible rfl
          (simp only [Act.put, List.getElem_toArray, List.getElem_cons_zero, List.getElem_cons_succ, List.setIfInBounds_toArray, List.set_cons_zero, List.set_cons_succ])
          refine wpAnyH_take (i := 3) (v := ?_) rfl (by kernel_rfl) (by kernel_rfl) (by kernel_rfl) (fun _ _ _ h => h) (Or.inl ⟨by rfl, ?_⟩) (by assumption) ?_
          rotate_left
          · (intro w hSw; (try dsimp only at hSw); obtain ⟨hSw0, hSw1⟩ := hSw; go_simp) <;> with_reducible rfl
          (simp only [Act.put, List.getElem_toArray, List.getElem_cons_zero, List.getElem_cons_succ, List.setIfInBounds_toArray, List.set_cons_zero, List.set_cons_succ])
          refine wpAnyH_take (i := 4) (v := ?_) rfl (by kernel_rfl) (by kernel_rfl) (by kernel_rfl) (fun _ _ _ h => h) (Or.inl ⟨by rfl, ?_⟩) (by assumption) ?_
          rotate_left
          · (intro w hSw; (try dsimp only at hSw); obtain ⟨hSw0, hSw1⟩ := hSw; go_simp) <;> with_reducible rfl
          (simp only [Act.put, List.getElem_toArray, List.getElem_cons_zero, List.getElem_cons_succ, List.setIfInBounds_toArray, List.set_cons_zero, List.set_cons_succ])
          refine wpAnyH_take (i := 5) (v := ?_) rfl (by kernel_rfl) (by kernel_rfl) (by kernel_rfl) (fun _ _ _ h => h) (Or.inl ⟨by rfl, ?_⟩) (by assumption) ?_
          rotate_left
          · (intro w hSw; (try dsimp only at hSw); obtain ⟨hSw0, hSw1⟩ := hSw; go_simp) <;> with_reducible rfl
          (simp only [Act.put, List.getElem_toArray, List.getElem_cons_zero, List.getElem_cons_succ, List.setIfInBounds_toArray, List.set_cons_zero, List.set_cons_succ])
          refine wpAnyH_take (i := 6) (v := ?_) rfl (by kernel_rfl) (by kernel_rfl) (by kernel_rfl) (fun _ _ _ h => h) (Or.inl ⟨by rfl, ?_⟩) (by assumption) ?_
          rotate_left
          · (intro w hSw; (try dsimp only at hSw); obtain ⟨hSw0, hSw1⟩ := hSw; go_simp) <;> with_reducible rfl
          (simp only [Act.put, List.getElem_toArray, List.getElem_cons_zero, List.getElem_cons_succ, List.setIfInBounds_toArray, List.set_cons_zero, List.set_cons_succ])
          refine wpAnyH_take (i := 7) (v := ?_) rfl (by kernel_rfl) (by kernel_rfl) (by kernel_rfl) (fun _ _ _ h => h) (Or.inl ⟨by rfl, ?_⟩) (by assumption) ?_
          rotate_left
          · (intro w hSw; (try dsimp only at hSw); obtain ⟨hSw0, hSw1⟩ := hSw; go_simp) <;> with_reducible rfl
          (simp only [Act.put, List.getElem_toArray, List.getElem_cons_zero, List.getElem_cons_succ, List.setIfInBounds_toArray, List.set_cons_zero, List.set_cons_succ])
          refine wpAnyH_take (i := 8) (v := ?_) rfl (by kernel_rfl) (by kernel_rfl) (by kernel_rfl) (fun _ _ _ h => h) (Or.inl ⟨by rfl, ?_⟩) (by assumption) ?_
          rotate_left
          · (intro w hSw; (try dsimp only at hSw); obtain ⟨hSw0, hSw1⟩ := hSw; go_simp) <;> with_reducible rfl
          (simp only [Act.put, List.getElem_toArray, List.getElem_cons_zero, List.getElem_cons_succ, List.setIfInBounds_toArray, List.set_cons_zero, List.set_cons_succ])
          refine wpAnyH_take (i := 9) (v := ?_) rfl (by kernel_rfl) (by kernel_rfl) (by kernel_rfl) (fun _ _ _ h => h) (Or.inl ⟨by rfl, ?_⟩) (by assumption) ?_
          rotate_left
          · (intro w hSw; (try dsimp only at hSw); obtain ⟨hSw0, hSw1⟩ := hSw; go_simp) <;> with_reducible rfl
          (simp only [Act.put, List.getElem_toArray, List.getElem_cons_zero, List.getElem_cons_succ, List.setIfInBounds_toArray, List.set_cons_zero, List.set_cons_succ])
          refine wpAnyH_take (i := 10) (v := ?_) rfl (by kernel_rfl) (by kernel_rfl) (by kernel_rfl) (fun _ _ _ h => h) (Or.inl ⟨by rfl, ?_⟩) (by assumption) ?_
          rotate_left
          · (intro w hSw; (try dsimp only at hSw); obtain ⟨hSw0, hSw1⟩ := hSw; go_simp) <;> with_reducible rfl
          (simp only [Act.put, List.getElem_toArray, List.getElem_cons_zero, List.getElem_cons_succ, List.setIfInBounds_toArray, List.set_cons_zero, List.set_cons_succ])
          refine wpAnyH_take (i := 11) (v := ?_) rfl (by kernel_rfl) (by kernel_rfl) (by kernel_rfl) (fun _ _ _ h => h) (Or.inl ⟨by rfl, ?_⟩) (by assumption) ?_
          rotate_left
          · (intro w hSw; (try dsimp only at hSw); obtain ⟨hSw0, hSw1⟩ := hSw; go_simp) <;> with_reducible rfl
          (simp only [Act.put, List.getElem_toArray, List.getElem_cons_zero, List.getElem_cons_succ, List.setIfInBounds_toArray, List.set_cons_zero, List.set_cons_succ])
          refine wpAnyH_take (i := 12) (v := ?_) rfl (by kernel_rfl) (by kernel_rfl) (by kernel_rfl) (fun _ _ _ h => h) (Or.inl ⟨by rfl, ?_⟩) (by assumption) ?_
          rotate_left
          · (intro w hSw; (try dsimp only at hSw); obtain ⟨hSw0, hSw1⟩ := hSw; go_simp) <;> with_reducible rfl
          (simp only [Act.put, List.getElem_toArray, List.getElem_cons_zero, List.getElem_cons_succ, List.setIfInBounds_toArray, List.set_cons_zero, List.set_cons_succ])
          refine wpAnyH_take (i := 13) (v := ?_) rfl (by kernel_rfl) (by kernel_rfl) (by kernel_rfl) (fun _ _ _ h => h) (Or.inl ⟨by rfl, ?_⟩) (by assumption) ?_
          rotate_left
          · (intro w hSw; (try dsimp only at hSw); obtain ⟨hSw0, hSw1⟩ := hSw; go_simp) <;> with_reducible rfl
          (simp only [Act.put, List.getElem_toArray, List.getElem_cons_zero, List.getElem_cons_succ, List.setIfInBounds_toArray, List.set_cons_zero, List.set_cons_succ])
          refine wpAnyH_take (i := 14) (v := ?_) rfl (by kernel_rfl) (by kernel_rfl) (by kernel_rfl) (fun _ _ _ h => h) (Or.inl ⟨by rfl, ?_⟩) (by assumption) ?_
          rotate_left
          · (intro w hSw; (try dsimp only at hSw); obtain ⟨hSw0, hSw1⟩ := hSw; go_simp) <;> with_reducible rfl
          (simp only [Act.put, List.getElem_toArray, List.getElem_cons_zero, List.getElem_cons_succ, List.setIfInBounds_toArray, List.set_cons_zero, List.set_cons_succ])
          refine wpAnyH_take (i := 15) (v := ?_) rfl (by kernel_rfl) (by kernel_rfl) (by kernel_rfl) (fun _ _ _ h => h) (Or.inl ⟨by rfl, ?_⟩) (by assumption) ?_
          rotate_left
          · (intro w hSw; (try dsimp only at hSw); obtain ⟨hSw0, hSw1⟩ := hSw; go_simp) <;> with_reducible rfl
          (simp only [Act.put, List.getElem_toArray, List.getElem_cons_zero, List.getElem_cons_succ, List.setIfInBounds_toArray, List.set_cons_zero, List.set_cons_succ])
          refine wpAnyH_take (i := 16) (v := ?_) rfl (by kernel_rfl) (by kernel_rfl) (by kernel_rfl) (fun _ _ _ h => h) (Or.inl ⟨by rfl, ?_⟩) (by assumption) ?_
          rotate_left
          · (intro w hSw; (try dsimp only at hSw); obtain ⟨hSw0, hSw1⟩ := hSw; go_simp) <;> with_reducible rfl
          (simp only [Act.put, List.getElem_toArray, List.getElem_cons_zero, List.getElem_cons_succ, List.setIfInBounds_toArray, List.set_cons_zero, List.set_cons_succ])
          refine wpAnyH_done (by kernel_rfl) ?_ _
          have f0 := HFZ.out
          have c0 := HC1.out
          have HX2 := hide (HX.out.set 0 rfl 1 (.int .i64 (p1 : Int)))
          have HW : Hid (p1 + 0 ≤ n) := hm
          have hb1 : (p1 : Int) + 0 ≤ 9223372036854775807 := by omega
          have hb2 : -9223372036854775808 ≤ (p1 : Int) + 0 := by omega
          clear hwr hwr2 hwr4 hsub he1 hs5 hs6 hs7 hs4 hm hxd
          go_wp2_with fail
          go_ret
          refine ⟨rfl, HX2.out.grown, p1 + 0, HW.out, by simp, ?_⟩
          have := (HX2.out.fr.get (i := 0) rfl).2
          simpa using this
        | some ad =>
          obtain ⟨g, oo, po⟩ := ad
          refine wp_region_held_drew (S := fun w' => (∀ o, w'.cell? ⟨b, o, none⟩ = (#[Value.slice (some ⟨g, oo, po⟩) n c, .int .i64 p1, .bool tz])[o]?) ∧ (∀ X C, (convert 28 9 (.slice X 0 C)).run Try.prog w' = .ok (.string (strOf [])) w')) (by kernel_rfl) ⟨(HX.out.cell 0 rfl), HCV.out⟩ (fun hHeld => ?_)
          refine wpAnyH_take (i := 0) (v := ?_) rfl (by kernel_rfl) (by kernel_rfl) (by kernel_rfl) (fun _ _ _ h => h) (Or.inl ⟨by rfl, ?_⟩) (by assumption) ?_
          rotate_left
          · (intro w hSw; (try dsimp only at hSw); obtain ⟨hSw0, hSw1⟩ := hSw; go_simp) <;> with_reducible rfl
          (simp only [Act.put, List.getElem_toArray, List.getElem_cons_zero, List.getElem_cons_succ, List.setIfInBounds_toArray, List.set_cons_zero, List.set_cons_succ])
          refine wpAnyH_take (i := 1) (v := ?_) rfl (by kernel_rfl) (by kernel_rfl) (by kernel_rfl) (fun _ _ _ h => h) (Or.inl ⟨by rfl, ?_⟩) (by assumption) ?_
          rotate_left
          · (intro w hSw; (try dsimp only at hSw); obtain ⟨hSw0, hSw1⟩ := hSw; go_simp) <;> with_reducible rfl
          (simp only [Act.put, List.getElem_toArray, List.getElem_cons_zero, List.getElem_cons_succ, List.setIfInBounds_toArray, List.set_cons_zero, List.set_cons_succ])
          refine wpAnyH_take (i := 2) (v := ?_) rfl (by kernel_rfl) (by kernel_rfl) (by kernel_rfl) (fun _ _ _ h => h) (Or.inl ⟨by rfl, ?_⟩) (by assumption) ?_
          rotate_left
          · (intro w hSw; (try dsimp only at hSw); obtain ⟨hSw0, hSw1⟩ := hSw; go_simp) <;> with_reducible rfl
          (simp only [Act.put, List.getElem_toArray, List.getElem_cons_zero, List.getElem_cons_succ, List.setIfInBounds_toArray, List.set_cons_zero, List.set_cons_succ])
          refine wpAnyH_take (i := 3) (v := ?_) rfl (by kernel_rfl) (by kernel_rfl) (by kernel_rfl) (fun _ _ _ h => h) (Or.inl ⟨by rfl, ?_⟩) (by assumption) ?_
          rotate_left
          · (intro w hSw; (try dsimp only at hSw); obtain ⟨hSw0, hSw1⟩ := hSw; go_simp) <;> with_reducible rfl
          (simp only [Act.put, List.getElem_toArray, List.getElem_cons_zero, List.getElem_cons_succ, List.setIfInBounds_toArray, List.set_cons_zero, List.set_cons_succ])
          refine wpAnyH_take (i := 4) (v := ?_) rfl (by kernel_rfl) (by kernel_rfl) (by kernel_rfl) (fun _ _ _ h => h) (Or.inl ⟨by rfl, ?_⟩) (by assumption) ?_
          rotate_left
          · (intro w hSw; (try dsimp only at hSw); obtain ⟨hSw0, hSw1⟩ := hSw; go_simp) <;> with_reducible rfl
          (simp only [Act.put, List.getElem_toArray, List.getElem_cons_zero, List.getElem_cons_succ, List.setIfInBounds_toArray, List.set_cons_zero, List.set_cons_succ])
          refine wpAnyH_take (i := 5) (v := ?_) rfl (by kernel_rfl) (by kernel_rfl) (by kernel_rfl) (fun _ _ _ h => h) (Or.inl ⟨by rfl, ?_⟩) (by assumption) ?_
          rotate_left
          · (intro w hSw; (try dsimp only at hSw); obtain ⟨hSw0, hSw1⟩ := hSw; go_simp) <;> with_reducible rfl
          (simp only [Act.put, List.getElem_toArray, List.getElem_cons_zero, List.getElem_cons_succ, List.setIfInBounds_toArray, List.set_cons_zero, List.set_cons_succ])
          refine wpAnyH_take (i := 6) (v := ?_) rfl (by kernel_rfl) (by kernel_rfl) (by kernel_rfl) (fun _ _ _ h => h) (Or.inl ⟨by rfl, ?_⟩) (by assumption) ?_
          rotate_left
          · (intro w hSw; (try dsimp only at hSw); obtain ⟨hSw0, hSw1⟩ := hSw; go_simp) <;> with_reducible rfl
          (simp only [Act.put, List.getElem_toArray, List.getElem_cons_zero, List.getElem_cons_succ, List.setIfInBounds_toArray, List.set_cons_zero, List.set_cons_succ])
          refine wpAnyH_take (i := 7) (v := ?_) rfl (by kernel_rfl) (by kernel_rfl) (by kernel_rfl) (fun _ _ _ h => h) (Or.inl ⟨by rfl, ?_⟩) (by assumption) ?_
          rotate_left
          · (intro w hSw; (try dsimp only at hSw); obtain ⟨hSw0, hSw1⟩ := hSw; go_simp) <;> with_reducible rfl
          (simp only [Act.put, List.getElem_toArray, List.getElem_cons_zero, List.getElem_cons_succ, List.setIfInBounds_toArray, List.set_cons_zero, List.set_cons_succ])
          refine wpAnyH_take (i := 8) (v := ?_) rfl (by kernel_rfl) (by kernel_rfl) (by kernel_rfl) (fun _ _ _ h => h) (Or.inl ⟨by rfl, ?_⟩) (by assumption) ?_
          rotate_left
          · (intro w hSw; (try dsimp only at hSw); obtain ⟨hSw0, hSw1⟩ := hSw; go_simp) <;> with_reducible rfl
          (simp only [Act.put, List.getElem_toArray, List.getElem_cons_zero, List.getElem_cons_succ, List.setIfInBounds_toArray, List.set_cons_zero, List.set_cons_succ])
          refine wpAnyH_take (i := 9) (v := ?_) rfl (by kernel_rfl) (by kernel_rfl) (by kernel_rfl) (fun _ _ _ h => h) (Or.inl ⟨by rfl, ?_⟩) (by assumption) ?_
          rotate_left
          · (intro w hSw; (try dsimp only at hSw); obtain ⟨hSw0, hSw1⟩ := hSw; go_simp) <;> with_reducible rfl
          (simp only [Act.put, List.getElem_toArray, List.getElem_cons_zero, List.getElem_cons_succ, List.setIfInBounds_toArray, List.set_cons_zero, List.set_cons_succ])
          refine wpAnyH_take (i := 10) (v := ?_) rfl (by kernel_rfl) (by kernel_rfl) (by kernel_rfl) (fun _ _ _ h => h) (Or.inl ⟨by rfl, ?_⟩) (by assumption) ?_
          rotate_left
          · (intro w hSw; (try dsimp only at hSw); obtain ⟨hSw0, hSw1⟩ := hSw; go_simp) <;> with_reducible rfl
          (simp only [Act.put, List.getElem_toArray, List.getElem_cons_zero, List.getElem_cons_succ, List.setIfInBounds_toArray, List.set_cons_zero, List.set_cons_succ])
          refine wpAnyH_take (i := 11) (v := ?_) rfl (by kernel_rfl) (by kernel_rfl) (by kernel_rfl) (fun _ _ _ h => h) (Or.inl ⟨by rfl, ?_⟩) (by assumption) ?_
          rotate_left
          · (intro w hSw; (try dsimp only at hSw); obtain ⟨hSw0, hSw1⟩ := hSw; go_simp) <;> with_reducible rfl
          (simp only [Act.put, List.getElem_toArray, List.getElem_cons_zero, List.getElem_cons_succ, List.setIfInBounds_toArray, List.set_cons_zero, List.set_cons_succ])
          refine wpAnyH_take (i := 12) (v := ?_) rfl (by kernel_rfl) (by kernel_rfl) (by kernel_rfl) (fun _ _ _ h => h) (Or.inl ⟨by rfl, ?_⟩) (by assumption) ?_
          rotate_left
          · (intro w hSw; (try dsimp only at hSw); obtain ⟨hSw0, hSw1⟩ := hSw; go_simp) <;> with_reducible rfl
          (simp only [Act.put, List.getElem_toArray, List.getElem_cons_zero, List.getElem_cons_succ, List.setIfInBounds_toArray, List.set_cons_zero, List.set_cons_succ])
          refine wpAnyH_take (i := 13) (v := ?_) rfl (by kernel_rfl) (by kernel_rfl) (by kernel_rfl) (fun _ _ _ h => h) (Or.inl ⟨by rfl, ?_⟩) (by assumption) ?_
          rotate_left
          · (intro w hSw; (try dsimp only at hSw); obtain ⟨hSw0, hSw1⟩ := hSw; go_simp) <;> with_reducible rfl
          (simp only [Act.put, List.getElem_toArray, List.getElem_cons_zero, List.getElem_cons_succ, List.setIfInBounds_toArray, List.set_cons_zero, List.set_cons_succ])
          refine wpAnyH_take (i := 14) (v := ?_) rfl (by kernel_rfl) (by kernel_rfl) (by kernel_rfl) (fun _ _ _ h => h) (Or.inl ⟨by rfl, ?_⟩) (by assumption) ?_
          rotate_left
          · (intro w hSw; (try dsimp only at hSw); obtain ⟨hSw0, hSw1⟩ := hSw; go_simp) <;> with_reducible rfl
          (simp only [Act.put, List.getElem_toArray, List.getElem_cons_zero, List.getElem_cons_succ, List.setIfInBounds_toArray, List.set_cons_zero, List.set_cons_succ])
          refine wpAnyH_take (i := 15) (v := ?_) rfl (by kernel_rfl) (by kernel_rfl) (by kernel_rfl) (fun _ _ _ h => h) (Or.inl ⟨by rfl, ?_⟩) (by assumption) ?_
          rotate_left
          · (intro w hSw; (try dsimp only at hSw); obtain ⟨hSw0, hSw1⟩ := hSw; go_simp) <;> with_reducible rfl
          (simp only [Act.put, List.getElem_toArray, List.getElem_cons_zero, List.getElem_cons_succ, List.setIfInBounds_toArray, List.set_cons_zero, List.set_cons_succ])
          refine wpAnyH_take (i := 16) (v := ?_) rfl (by kernel_rfl) (by kernel_rfl) (by kernel_rfl) (fun _ _ _ h => h) (Or.inl ⟨by rfl, ?_⟩) (by assumption) ?_
          rotate_left
          · (intro w hSw; (try dsimp only at hSw); obtain ⟨hSw0, hSw1⟩ := hSw; go_simp) <;> with_reducible rfl
          (simp only [Act.put, List.getElem_toArray, List.getElem_cons_zero, List.getElem_cons_succ, List.setIfInBounds_toArray, List.set_cons_zero, List.set_cons_succ])
          refine wpAnyH_done (by kernel_rfl) ?_ _
          have f0 := HFZ.out
          have c0 := HC1.out
          have HX2 := hide (HX.out.set 0 rfl 1 (.int .i64 (p1 : Int)))
          have HW : Hid (p1 + 0 ≤ n) := hm
          have hb1 : (p1 : Int) + 0 ≤ 9223372036854775807 := by omega
          have hb2 : -9223372036854775808 ≤ (p1 : Int) + 0 := by omega
          clear hwr hwr2 hwr4 hsub he1 hs5 hs6 hs7 hs4 hm hxd
          go_wp2_with fail
          go_ret
          refine ⟨rfl, HX2.out.grown, p1 + 0, HW.out, by simp, ?_⟩
          have := (HX2.out.fr.get (i := 0) rfl).2
          simpa using this
    · obtain ⟨g, oo, rfl, HC⟩ := HR.out (by omega)
      have hcp : ¬ c = p1 := by omega
      have HCV : Hid ((convert 28 9 (.slice (some ⟨g, oo + p1, none⟩) m (c - p1))).run Try.prog (w1.drewN qn).drew = .ok (.string (strOf ((raw.drop p1).take m))) (w1.drewN qn).drew) := (by
        have hl : ((raw.drop p1).take m).length = m := by rw [List.length_take, List.length_drop, ← HNL.out]; omega
        have := run_convert_bytes_back (P := Try.prog) (w1.drewN qn).drew 28 9 5 ⟨g, oo + p1, none⟩ (c - p1) ((raw.drop p1).take m) Try.underlying28 Try.underlying5 Try.underlying9 (fun j hj => by
          rw [hl] at hj
          have hj2 : p1 + j < raw.length := by have := HNL.out; omega
          have := HC _ (HX.out.below HB.out HLE.out) (p1 + j) hj2
          rw [Addr.add_lit, show oo + p1 + j = oo + (p1 + j) by omega, this]
          simp)
        rw [hl] at this
        exact this)
      clear HR HC
      refine wp_region_held_drew (S := fun w' => (∀ o, w'.cell? ⟨b, o, none⟩ = (#[Value.slice (some ⟨g, oo, none⟩) n c, .int .i64 p1, .bool tz])[o]?) ∧ (convert 28 9 (.slice (some ⟨g, oo + p1, none⟩) m (c - p1))).run Try.prog w' = .ok (.string (strOf ((raw.drop p1).take m))) w') (by kernel_rfl) ⟨(HX.out.cell 0 rfl), HCV.out⟩ (fun hHeld => ?_)
      refine wpAnyH_take (i := 0) (v := ?_) rfl (by kernel_rfl) (by kernel_rfl) (by kernel_rfl) (fun _ _ _ h => h) (Or.inl ⟨by rfl, ?_⟩) (by assumption) ?_
      rotate_left
      · (intro w hSw; (try dsimp only at hSw); obtain ⟨hSw0, hSw1⟩ := hSw; go_simp) <;> with_reducible rfl
      (simp only [Act.put, List.getElem_toArray, List.getElem_cons_zero, List.getElem_cons_succ, List.setIfInBounds_toArray, List.set_cons_zero, List.set_cons_succ])
      refine wpAnyH_take (i := 1) (v := ?_) rfl (by kernel_rfl) (by kernel_rfl) (by kernel_rfl) (fun _ _ _ h => h) (Or.inl ⟨by rfl, ?_⟩) (by assumption) ?_
      rotate_left
      · (intro w hSw; (try dsimp only at hSw); obtain ⟨hSw0, hSw1⟩ := hSw; go_simp) <;> with_reducible rfl
      (simp only [Act.put, List.getElem_toArray, List.getElem_cons_zero, List.getElem_cons_succ, List.setIfInBounds_toArray, List.set_cons_zero, List.set_cons_succ])
      refine wpAnyH_take (i := 2) (v := ?_) rfl (by kernel_rfl) (by kernel_rfl) (by kernel_rfl) (fun _ _ _ h => h) (Or.inl ⟨by rfl, ?_⟩) (by assumption) ?_
      rotate_left
      · (intro w hSw; (try dsimp only at hSw); obtain ⟨hSw0, hSw1⟩ := hSw; go_simp) <;> with_reducible rfl
      (simp only [Act.put, List.getElem_toArray, List.getElem_cons_zero, List.getElem_cons_succ, List.setIfInBounds_toArray, List.set_cons_zero, List.set_cons_succ])
      refine wpAnyH_take (i := 3) (v := ?_) rfl (by kernel_rfl) (by kernel_rfl) (by kernel_rfl) (fun _ _ _ h => h) (Or.inl ⟨by rfl, ?_⟩) (by assumption) ?_
      rotate_left
      · (intro w hSw; (try dsimp only at hSw); obtain ⟨hSw0, hSw1⟩ := hSw; go_simp) <;> with_reducible rfl
      (simp only [Act.put, List.getElem_toArray, List.getElem_cons_zero, List.getElem_cons_succ, List.setIfInBounds_toArray, List.set_cons_zero, List.set_cons_succ])
      refine wpAnyH_take (i := 4) (v := ?_) rfl (by kernel_rfl) (by kernel_rfl) (by kernel_rfl) (fun _ _ _ h => h) (Or.inl ⟨by rfl, ?_⟩) (by assumption) ?_
      rotate_left
      · (intro w hSw; (try dsimp only at hSw); obtain ⟨hSw0, hSw1⟩ := hSw; go_simp) <;> with_reducible rfl
      (simp only [Act.put, List.getElem_toArray, List.getElem_cons_zero, List.getElem_cons_succ, List.setIfInBounds_toArray, List.set_cons_zero, List.set_cons_succ])
      refine wpAnyH_take (i := 5) (v := ?_) rfl (by kernel_rfl) (by kernel_rfl) (by kernel_rfl) (fun _ _ _ h => h) (Or.inl ⟨by rfl, ?_⟩) (by assumption) ?_
      rotate_left
      · (intro w hSw; (try dsimp only at hSw); obtain ⟨hSw0, hSw1⟩ := hSw; go_simp) <;> with_reducible rfl
      (simp only [Act.put, List.getElem_toArray, List.getElem_cons_zero, List.getElem_cons_succ, List.setIfInBounds_toArray, List.set_cons_zero, List.set_cons_succ])
      refine wpAnyH_take (i := 6) (v := ?_) rfl (by kernel_rfl) (by kernel_rfl) (by kernel_rfl) (fun _ _ _ h => h) (Or.inl ⟨by rfl, ?_⟩) (by assumption) ?_
      rotate_left
      · (intro w hSw; (try dsimp only at hSw); obtain ⟨hSw0, hSw1⟩ := hSw; go_simp) <;> with_reducible rfl
      (simp only [Act.put, List.getElem_toArray, List.getElem_cons_zero, List.getElem_cons_succ, List.setIfInBounds_toArray, List.set_cons_zero, List.set_cons_succ])
      refine wpAnyH_take (i := 7) (v := ?_) rfl (by kernel_rfl) (by kernel_rfl) (by kernel_rfl) (fun _ _ _ h => h) (Or.inl ⟨by rfl, ?_⟩) (by assumption) ?_
      rotate_left
      · (intro w hSw; (try dsimp only at hSw); obtain ⟨hSw0, hSw1⟩ := hSw; go_simp) <;> with_reducible rfl
      (simp only [Act.put, List.getElem_toArray, List.getElem_cons_zero, List.getElem_cons_succ, List.setIfInBounds_toArray, List.set_cons_zero, List.set_cons_succ])
      refine wpAnyH_take (i := 8) (v := ?_) rfl (by kernel_rfl) (by kernel_rfl) (by kernel_rfl) (fun _ _ _ h => h) (Or.inl ⟨by rfl, ?_⟩) (by assumption) ?_
      rotate_left
      · (intro w hSw; (try dsimp only at hSw); obtain ⟨hSw0, hSw1⟩ := hSw; go_simp) <;> with_reducible rfl
      (simp only [Act.put, List.getElem_toArray, List.getElem_cons_zero, List.getElem_cons_succ, List.setIfInBounds_toArray, List.set_cons_zero, List.set_cons_succ])
      refine wpAnyH_take (i := 9) (v := ?_) rfl (by kernel_rfl) (by kernel_rfl) (by kernel_rfl) (fun _ _ _ h => h) (Or.inl ⟨by rfl, ?_⟩) (by assumption) ?_
      rotate_left
      · (intro w hSw; (try dsimp only at hSw); obtain ⟨hSw0, hSw1⟩ := hSw; go_simp) <;> with_reducible rfl
      (simp only [Act.put, List.getElem_toArray, List.getElem_cons_zero, List.getElem_cons_succ, List.setIfInBounds_toArray, List.set_cons_zero, List.set_cons_succ])
      refine wpAnyH_take (i := 10) (v := ?_) rfl (by kernel_rfl) (by kernel_rfl) (by kernel_rfl) (fun _ _ _ h => h) (Or.inl ⟨by rfl, ?_⟩) (by assumption) ?_
      rotate_left
      · (intro w hSw; (try dsimp only at hSw); obtain ⟨hSw0, hSw1⟩ := hSw; go_simp) <;> with_reducible rfl
      (simp only [Act.put, List.getElem_toArray, List.getElem_cons_zero, List.getElem_cons_succ, List.setIfInBounds_toArray, List.set_cons_zero, List.set_cons_succ])
      refine wpAnyH_take (i := 11) (v := ?_) rfl (by kernel_rfl) (by kernel_rfl) (by kernel_rfl) (fun _ _ _ h => h) (Or.inl ⟨by rfl, ?_⟩) (by assumption) ?_
      rotate_left
      · (intro w hSw; (try dsimp only at hSw); obtain ⟨hSw0, hSw1⟩ := hSw; go_simp) <;> with_reducible rfl
      (simp only [Act.put, List.getElem_toArray, List.getElem_cons_zero, List.getElem_cons_succ, List.setIfInBounds_toArray, List.set_cons_zero, List.set_cons_succ])
      refine wpAnyH_take (i := 12) (v := ?_) rfl (by kernel_rfl) (by kernel_rfl) (by kernel_rfl) (fun _ _ _ h => h) (Or.inl ⟨by rfl, ?_⟩) (by assumption) ?_
      rotate_left
      · (intro w hSw; (try dsimp only at hSw); obtain ⟨hSw0, hSw1⟩ := hSw; go_simp) <;> with_reducible rfl
      (simp only [Act.put, List.getElem_toArray, List.getElem_cons_zero, List.getElem_cons_succ, List.setIfInBounds_toArray, List.set_cons_zero, List.set_cons_succ])
      refine wpAnyH_take (i := 13) (v := ?_) rfl (by kernel_rfl) (by kernel_rfl) (by kernel_rfl) (fun _ _ _ h => h) (Or.inl ⟨by rfl, ?_⟩) (by assumption) ?_
      rotate_left
      · (intro w hSw; (try dsimp only at hSw); obtain ⟨hSw0, hSw1⟩ := hSw; go_simp) <;> with_reducible rfl
      (simp only [Act.put, List.getElem_toArray, List.getElem_cons_zero, List.getElem_cons_succ, List.setIfInBounds_toArray, List.set_cons_zero, List.set_cons_succ])
      refine wpAnyH_take (i := 14) (v := ?_) rfl (by kernel_rfl) (by kernel_rfl) (by kernel_rfl) (fun _ _ _ h => h) (Or.inl ⟨by rfl, ?_⟩) (by assumption) ?_
      rotate_left
      · (intro w hSw; (try dsimp only at hSw); obtain ⟨hSw0, hSw1⟩ := hSw; go_simp) <;> with_reducible rfl
      (simp only [Act.put, List.getElem_toArray, List.getElem_cons_zero, List.getElem_cons_succ, List.setIfInBounds_toArray, List.set_cons_zero, List.set_cons_succ])
      refine wpAnyH_take (i := 15) (v := ?_) rfl (by kernel_rfl) (by kernel_rfl) (by kernel_rfl) (fun _ _ _ h => h) (Or.inl ⟨by rfl, ?_⟩) (by assumption) ?_
      rotate_left
      · (intro w hSw; (try dsimp only at hSw); obtain ⟨hSw0, hSw1⟩ := hSw; go_simp) <;> with_reducible rfl
      (simp only [Act.put, List.getElem_toArray, List.getElem_cons_zero, List.getElem_cons_succ, List.setIfInBounds_toArray, List.set_cons_zero, List.set_cons_succ])
      refine wpAnyH_take (i := 16) (v := ?_) rfl (by kernel_rfl) (by kernel_rfl) (by kernel_rfl) (fun _ _ _ h => h) (Or.inl ⟨by rfl, ?_⟩) (by assumption) ?_
      rotate_left
      · (intro w hSw; (try dsimp only at hSw); obtain ⟨hSw0, hSw1⟩ := hSw; go_simp) <;> with_reducible rfl
      (simp only [Act.put, List.getElem_toArray, List.getElem_cons_zero, List.getElem_cons_succ, List.setIfInBounds_toArray, List.set_cons_zero, List.set_cons_succ])
      refine wpAnyH_done (by kernel_rfl) ?_ _
      have f0 := HFZ.out
      have c0 := HC1.out
      have HX2 := hide (HX.out.set 0 rfl 1 (.int .i64 ((p1 : Int) + m)))
      have HW : Hid (p1 + m ≤ n) := hm
      have hb1 : (p1 : Int) + m ≤ 9223372036854775807 := by omega
      have hb2 : -9223372036854775808 ≤ (p1 : Int) + m := by omega
      clear hwr hwr2 hwr4 hsub he1 hs5 hs6 hs7 hs4 hm hxd
      go_wp2_with fail
      go_ret
      refine ⟨rfl, HX2.out.grown, p1 + m, HW.out, by simp, ?_⟩
      have := (HX2.out.fr.get (i := 0) rfl).2
      simpa using this
end Go.Proofs.Ytnjcknlfecednaa.T
