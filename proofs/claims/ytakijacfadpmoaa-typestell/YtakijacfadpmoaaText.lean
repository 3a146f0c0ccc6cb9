/- The contract of the reference's Text. -/
import Derived.Test.YtakijacfadpmoaaMay
namespace Go.Proofs.Ytakijacfadpmoaa.T
open Go.RowKit
set_option linter.unusedVariables false
set_option linter.unusedSimpArgs false

/-- A row of bytes as a string. -/
def strOf (l : List UInt8) : ByteArray := ⟨l.toArray⟩
theorem bytes_strOf (l : List UInt8) : bytes (strOf l) = l := rfl
theorem strOf_bytes (x : ByteArray) : strOf (bytes x) = x := rfl
theorem bytes_append (a b : ByteArray) : bytes (a ++ b) = bytes a ++ bytes b := by
  unfold bytes
  rw [ByteArray.data_append, Array.toList_append]
theorem strOf_append (a b : List UInt8) : strOf a ++ strOf b = strOf (a ++ b) := bytes_inj (by rw [bytes_append]; rfl)
theorem textT_mk (kind : Int) (name : ByteArray) (nn : Nat) (names : Nat → ByteArray) (pn : Nat) (parts : Nat → Ty) (many : Bool) : textT (.mk kind name nn names pn parts many) =
    if kind = 1 then [105, 110, 116] else if kind = 2 then [108, 111, 110, 103] else if kind = 3 then
      [115, 116, 114, 117, 99, 116, 32] ++ bytes name ++ [123] ++ ((List.range pn).flatMap fun i => textT (parts i) ++ [32] ++ bytes (names i) ++ [59]) ++ [125]
    else [102, 110, 40] ++ ((List.range (pn - 1)).flatMap fun i => textT (parts i) ++ (if i + 1 < pn - 1 ∨ many = true then [44] else [])) ++ (if many = true then [46, 46, 46] else []) ++ [41] ++ textT (parts (pn - 1)) := by rw [textT]
def lenB : Nat → Nat
  | 0 => 0
  | d + 1 => 7 * lenB d + 400
theorem name_len {s : List UInt8} (h : nameB s = true) : s.length ≤ 16 := by
  simp only [nameB, Bool.and_eq_true, decide_eq_true_eq] at h
  exact h.1.1.2
theorem flat_len {f : Nat → List UInt8} {c : Nat} : ∀ n, (∀ i, i < n → (f i).length ≤ c) → ((List.range n).flatMap f).length ≤ n * c
  | 0, _ => by simp
  | n + 1, h => by
    have h1 := flat_len n (fun i hi => h i (by omega))
    have h2 := h n (by omega)
    rw [List.range_succ, List.flatMap_append, List.length_append, List.flatMap_singleton, Nat.add_mul]
    omega
theorem text_len {d : Nat} : ∀ {T : Ty}, mayN d T = true → (textT T).length ≤ lenB d := by
  induction d with
  | zero => intro T h; simp [mayN] at h
  | succ d ih =>
    intro T h
    rcases T with _ | ⟨kind, name, nn, names, pn, parts, many⟩
    · rw [mayN_leaf] at h; cases h
    have f := may_facts h
    have hp : ∀ i, i < pn → (textT (parts i)).length ≤ lenB d := fun i hi => ih (f.2.2.1 i hi)
    rw [textT_mk]
    show _ ≤ 7 * lenB d + 400
    rcases f.2.2.2 with ⟨rfl, a1, a2, a3, a4, rfl, a6, _⟩ | ⟨rfl, a1, rfl, a3⟩ | ⟨rfl, a1, rfl, rfl, rfl⟩ | ⟨rfl, a1, rfl, rfl, rfl⟩
    · have h1 := name_len a2
      have h2 := flat_len (f := fun i => textT (parts i) ++ [32] ++ bytes (names i) ++ [59]) (c := lenB d + 18) nn (fun i hi => by
        have := hp i hi
        have := name_len (a6 i hi)
        simp only [List.length_append, List.length_cons, List.length_nil]
        omega)
      have h3 : nn * (lenB d + 18) ≤ 6 * (lenB d + 18) := Nat.mul_le_mul_right _ a4
      rw [if_neg (by decide), if_neg (by decide), if_pos rfl]
      simp only [List.length_append, List.length_cons, List.length_nil]
      omega
    · have h2 := flat_len (f := fun i => textT (parts i) ++ (if i + 1 < pn - 1 ∨ many = true then [44] else [])) (c := lenB d + 1) (pn - 1) (fun i hi => by
        have := hp i (by omega)
        rw [List.length_append]
        split <;> simp <;> omega)
      have h3 : (pn - 1) * (lenB d + 1) ≤ 6 * (lenB d + 1) := Nat.mul_le_mul_right _ (by have := f.1; omega)
      have h4 := hp (pn - 1) (by omega)
      have h5 : (if many = true then [46, 46, 46] else ([] : List UInt8)).length ≤ 3 := by split <;> simp
      rw [if_neg (by decide), if_neg (by decide), if_neg (by decide)]
      simp only [List.length_append, List.length_cons, List.length_nil]
      omega
    · simp
    · simp
theorem lenB_le {d : Nat} (h : d ≤ 3) : lenB d ≤ 22800 := by
  have : d = 0 ∨ d = 1 ∨ d = 2 ∨ d = 3 := by omega
  rcases this with rfl | rfl | rfl | rfl <;> decide
theorem size_bytes (x : ByteArray) : (bytes x).length = x.size := rfl
theorem size_strOf (l : List UInt8) : (strOf l).size = l.length := rfl
variable {kind : Int} {name : ByteArray} {nn : Nat} {names : Nat → ByteArray} {pn : Nat} {parts : Nat → Ty} {many : Bool}
set_option maxRecDepth 100000 in
set_option maxHeartbeats 1000000 in
theorem text_struct (d : Nat) (hd3 : d ≤ 3) (ih : Hid (∀ i, i < pn → ∀ v w, TyV w (parts i) v → Calls Try.prog 15 #[v] w fun e w' => e = .returned (.string (strOf (textT (parts i)))) ∧ Below w.heap.size w w')) (hm : mayN (d + 1) (.mk 3 name nn names pn parts many) = true) (v : Value) (w : World)
    (hv : TyV w (.mk 3 name nn names pn parts many) v) : Calls Try.prog 15 #[v] w fun e w' => e = .returned (.string (strOf (textT (.mk 3 name nn names pn parts many)))) ∧ Below w.heap.size w w' := by
  have F := may_facts hm
  obtain ⟨na, nc, pa, pc, rfl, hS, q1, q2, q3, q4, q5, q6, q7, HP⟩ := hv.part
  have hB0 : Below w.heap.size w (w.alloc (.cells #[.int .i64 3, .string name, .slice na nn nc, .slice pa pn pc, .bool many] 25)) := (Below.refl _ _).alloc (Nat.le_refl _) _
  have HT := hide hv
  have HS := hide hS
  clear hv hS hm
  have HLn : Hid (∀ i, i < pn → (textT (parts i)).length ≤ 22800) := fun i hi => Nat.le_trans (text_len (F.2.2.1 i hi)) (lenB_le hd3)
  obtain ⟨hp7, hn16, HN16, rfl⟩ : pn ≤ 7 ∧ name.size ≤ 16 ∧ Hid (∀ i, i < pn → (names i).size ≤ 16) ∧ nn = pn := by
    rcases F.2.2.2 with ⟨_, _, a2, _, _, e, a6, _⟩ | ⟨e, _⟩ | ⟨e, _⟩ | ⟨e, _⟩
    · exact ⟨F.1, name_len a2, fun i hi => name_len (a6 i hi), e⟩
    all_goals omega
  clear F
  have HE : Hid (textT (.mk 3 name nn names nn parts many) = [115, 116, 114, 117, 99, 116, 32] ++ bytes name ++ [123] ++ ((List.range nn).flatMap fun i => textT (parts i) ++ [32] ++ bytes (names i) ++ [59]) ++ [125]) := by
    show _ = _
    rw [textT_mk, if_neg (by decide), if_neg (by decide), if_pos rfl]
  go_enter Try.func15, Try.ntmps15
  go_wp2_with fail
  have hx0 : ∀ o, (w.alloc (.cells #[.int .i64 3, .string name, .slice na nn nc, .slice pa nn pc, .bool many] 25)).cell? ⟨w.heap.size, o, none⟩ = (#[Value.int .i64 3, .string name, .slice na nn nc, .slice pa nn pc, .bool many])[o]? := fun o => World.cell?_alloc_at _ _ _ _ rfl
  have hz0 : (w.alloc (.cells #[.int .i64 3, .string name, .slice na nn nc, .slice pa nn pc, .bool many] 25)).heap.size = w.heap.size + 1 := by simp
  generalize w.alloc (.cells #[.int .i64 3, .string name, .slice na nn nc, .slice pa nn pc, .bool many] 25) = W at *
  have HW : Hid (∀ w', Below W.heap.size W w' → Below w.heap.size w w') := fun w' hw => hB0.trans (hw.mono (by omega))
  have HXc : Hid (∀ w', Below W.heap.size W w' → ∀ o, w'.cell? ⟨w.heap.size, o, none⟩ = (#[Value.int .i64 3, .string name, .slice na nn nc, .slice pa nn pc, .bool many])[o]?) := fun w' hw o => (hw.cell (p := ⟨w.heap.size, o, none⟩) (by show w.heap.size < _; omega)).trans (hx0 o)
  clear hx0 hz0 hB0
  go_loopw [3, 4] (fun s i wr => ∃ (k : Nat) (x : ByteArray), k ≤ nn ∧ x.size ≤ 30 + k * 30000 ∧ s = .string x ∧ i = .int .i64 k ∧ Hid (Below W.heap.size W wr) ∧ Hid (bytes x = [115, 116, 114, 117, 99, 116, 32] ++ bytes name ++ [123] ++ ((List.range k).flatMap fun i => textT (parts i) ++ [32] ++ bytes (names i) ++ [59]))) (fun _ i _ => nn - (intOf i).toNat)
  case atStart => exact ⟨0, _, Nat.zero_le _, by rw [← size_bytes, bytes_append, bytes_append, List.length_append, List.length_append, size_bytes name]; show 7 + name.size + 1 ≤ _; omega, rfl, rfl, Below.refl _ _, by show _ = _; rw [bytes_append, bytes_append]; simp; rfl⟩
  case round =>
    obtain ⟨k, x, hk, hxs, rfl, rfl, HB, HX⟩ := hrel
    have hx1 := HXc.out wr HB.out
    by_cases hlt : k < nn
    · have hlt' : (k : Int) < nn := by omega
      have hidx : (0 : Int) ≤ k ∧ (k : Int) < nn := by omega
      obtain ⟨b, o, rfl, hb, hc⟩ := HP.out (by omega)
      obtain ⟨c0, c1, c2, c3, c4, g0, g1, g2, g3, g4, g5⟩ := hc k hlt
      have hcal := fun w' (hw : Below W.heap.size W w') => ih.out k hlt _ w' (g5.below (HW.out w' hw))
      have e0 : wr.cell? ⟨b, o + k * 5, none⟩ = some c0 := ((HW.out _ HB.out).cell (p := ⟨b, o + k * 5, none⟩) hb).trans g0
      have e1 : wr.cell? ⟨b, o + k * 5 + 1, none⟩ = some c1 := ((HW.out _ HB.out).cell (p := ⟨b, o + k * 5 + 1, none⟩) hb).trans g1
      have e2 : wr.cell? ⟨b, o + k * 5 + 2, none⟩ = some c2 := ((HW.out _ HB.out).cell (p := ⟨b, o + k * 5 + 2, none⟩) hb).trans g2
      have e3 : wr.cell? ⟨b, o + k * 5 + 3, none⟩ = some c3 := ((HW.out _ HB.out).cell (p := ⟨b, o + k * 5 + 3, none⟩) hb).trans g3
      have e4 : wr.cell? ⟨b, o + k * 5 + 4, none⟩ = some c4 := ((HW.out _ HB.out).cell (p := ⟨b, o + k * 5 + 4, none⟩) hb).trans g4
      clear g0 g1 g2 g3 g4 g5 hc
      obtain ⟨b', o', rfl, hb', hc'⟩ := HS.out (by omega)
      have HC' := hide hc'
      clear hc'
      have hts := HLn.out k hlt
      have hns := HN16.out k hlt
      generalize hte : textT (parts k) = te at *
      have hts2 : (strOf te).size ≤ 22800 := hts
      have HTe := hide hte
      clear hte
      go_wp2_with fail
      go_at_call 15
      refine (hcal _ HB.out).mono ?_
      rintro e w1 ⟨rfl, hb1⟩
      have HB1 : Hid (Below W.heap.size W w1) := HB.out.trans (hb1.mono HB.out.size)
      have hx2 := HXc.out w1 HB1.out
      have r1 : w1.cell? ⟨b', o' + k, none⟩ = some (.string (names k)) := ((HW.out _ HB1.out).cell (p := ⟨b', o' + k, none⟩) hb').trans (HC'.out k hlt)
      clear hb1
      go_wp2_with fail
      go_roundw
      case rel =>
        refine ⟨k + 1, _, by omega, ?_, rfl, by go_num, HB1, ?_⟩
        · rw [← size_bytes, bytes_append, bytes_append, bytes_append, bytes_append]
          simp only [List.length_append, size_bytes]
          have u1 : (⟨#[32]⟩ : ByteArray).size = 1 := rfl
          have u2 : (⟨#[59]⟩ : ByteArray).size = 1 := rfl
          omega
        show bytes _ = _
        rw [bytes_append, bytes_append, bytes_append, bytes_append, HX.out, List.range_succ, List.flatMap_append, List.flatMap_singleton, HTe.out, bytes_strOf]
        simp only [List.append_assoc]
        rfl
      case measure => simp [intOf]; omega
    · obtain rfl : k = nn := by omega
      have hlt' : ¬ (k : Int) < k := by omega
      go_wp2_with fail
      go_ret
      refine ⟨?_, HW.out _ HB.out⟩
      show Ending.returned (.string (x ++ (⟨#[125]⟩ : ByteArray))) = _
      rw [HE.out, ← HX.out]
      rw [show x ++ (⟨#[125]⟩ : ByteArray) = strOf (bytes x ++ [125]) from bytes_inj (by rw [bytes_append]; rfl)]
set_option maxRecDepth 100000 in
set_option maxHeartbeats 1000000 in
theorem text_fn (d : Nat) (hd3 : d ≤ 3) (ih : Hid (∀ i, i < pn → ∀ v w, TyV w (parts i) v → Calls Try.prog 15 #[v] w fun e w' => e = .returned (.string (strOf (textT (parts i)))) ∧ Below w.heap.size w w')) (hm : mayN (d + 1) (.mk 4 name nn names pn parts many) = true) (v : Value) (w : World)
    (hv : TyV w (.mk 4 name nn names pn parts many) v) : Calls Try.prog 15 #[v] w fun e w' => e = .returned (.string (strOf (textT (.mk 4 name nn names pn parts many)))) ∧ Below w.heap.size w w' := by
  have F := may_facts hm
  obtain ⟨na, nc, pa, pc, rfl, hS, q1, q2, q3, q4, q5, q6, q7, HP⟩ := hv.part
  have hB0 : Below w.heap.size w (w.alloc (.cells #[.int .i64 4, .string name, .slice na nn nc, .slice pa pn pc, .bool many] 25)) := (Below.refl _ _).alloc (Nat.le_refl _) _
  have HT := hide hv
  have HS := hide hS
  clear hv hS hm
  have HLn : Hid (∀ i, i < pn → (textT (parts i)).length ≤ 22800) := fun i hi => Nat.le_trans (text_len (F.2.2.1 i hi)) (lenB_le hd3)
  obtain ⟨l, rfl, hl⟩ : ∃ l, pn = l + 1 ∧ l ≤ 6 := by
    rcases F.2.2.2 with ⟨e, _⟩ | ⟨_, _, _, e⟩ | ⟨e, _⟩ | ⟨e, _⟩
    · omega
    · have := F.1
      exact ⟨pn - 1, by omega, by omega⟩
    all_goals omega
  clear F
  have HE : Hid (textT (.mk 4 name nn names (l + 1) parts many) = [102, 110, 40] ++ ((List.range l).flatMap fun i => textT (parts i) ++ (if i + 1 < l ∨ many = true then [44] else [])) ++ (if many = true then [46, 46, 46] else []) ++ [41] ++ textT (parts l)) := by
    show _ = _
    rw [textT_mk, if_neg (by decide), if_neg (by decide), if_neg (by decide)]
    rfl
  have hlw : IntKind.i64.wrap (((l + 1 : Nat) : Int) - 1) = (l : Int) := by rw [IntKind.wrap_i64]; omega
  go_enter Try.func15, Try.ntmps15
  go_wp2_with fail
  have hx0 : ∀ o, (w.alloc (.cells #[.int .i64 4, .string name, .slice na nn nc, .slice pa (l + 1) pc, .bool many] 25)).cell? ⟨w.heap.size, o, none⟩ = (#[Value.int .i64 4, .string name, .slice na nn nc, .slice pa (l + 1) pc, .bool many])[o]? := fun o => World.cell?_alloc_at _ _ _ _ rfl
  have hz0 : (w.alloc (.cells #[.int .i64 4, .string name, .slice na nn nc, .slice pa (l + 1) pc, .bool many] 25)).heap.size = w.heap.size + 1 := by simp
  generalize w.alloc (.cells #[.int .i64 4, .string name, .slice na nn nc, .slice pa (l + 1) pc, .bool many] 25) = W at *
  have HW : Hid (∀ w', Below W.heap.size W w' → Below w.heap.size w w') := fun w' hw => hB0.trans (hw.mono (by omega))
  have HXc : Hid (∀ w', Below W.heap.size W w' → ∀ o, w'.cell? ⟨w.heap.size, o, none⟩ = (#[Value.int .i64 4, .string name, .slice na nn nc, .slice pa (l + 1) pc, .bool many])[o]?) := fun w' hw o => (hw.cell (p := ⟨w.heap.size, o, none⟩) (by show w.heap.size < _; omega)).trans (hx0 o)
  clear hx0 hz0 hB0
  go_loopw [6, 8] (fun s i wr => ∃ (k : Nat) (x : ByteArray), k ≤ l ∧ x.size ≤ 30 + k * 30000 ∧ s = .string x ∧ i = .int .i64 k ∧ Hid (Below W.heap.size W wr) ∧ Hid (bytes x = [102, 110, 40] ++ ((List.range k).flatMap fun i => textT (parts i) ++ (if i + 1 < l ∨ many = true then [44] else [])))) (fun _ i _ => l - (intOf i).toNat)
  case atStart => exact ⟨0, _, Nat.zero_le _, by show 3 ≤ _; omega, rfl, rfl, Below.refl _ _, by show _ = _; simp; rfl⟩
  case round =>
    obtain ⟨k, x, hk, hxs, rfl, rfl, HB, HX⟩ := hrel
    have hx1 := HXc.out wr HB.out
    obtain ⟨b, o, rfl, hb, hc⟩ := HP.out (by omega)
    by_cases hlt : k < l
    · have hlt' : (k : Int) < l := by omega
      have hidx : (0 : Int) ≤ k ∧ (k : Int) < ((l + 1 : Nat) : Int) := by omega
      have hidx2 : (k : Int) < (l : Int) + 1 := by omega
      obtain ⟨c0, c1, c2, c3, c4, g0, g1, g2, g3, g4, g5⟩ := hc k (by omega)
      have hcal := fun w' (hw : Below W.heap.size W w') => ih.out k (by omega) _ w' (g5.below (HW.out w' hw))
      have e0 : wr.cell? ⟨b, o + k * 5, none⟩ = some c0 := ((HW.out _ HB.out).cell (p := ⟨b, o + k * 5, none⟩) hb).trans g0
      have e1 : wr.cell? ⟨b, o + k * 5 + 1, none⟩ = some c1 := ((HW.out _ HB.out).cell (p := ⟨b, o + k * 5 + 1, none⟩) hb).trans g1
      have e2 : wr.cell? ⟨b, o + k * 5 + 2, none⟩ = some c2 := ((HW.out _ HB.out).cell (p := ⟨b, o + k * 5 + 2, none⟩) hb).trans g2
      have e3 : wr.cell? ⟨b, o + k * 5 + 3, none⟩ = some c3 := ((HW.out _ HB.out).cell (p := ⟨b, o + k * 5 + 3, none⟩) hb).trans g3
      have e4 : wr.cell? ⟨b, o + k * 5 + 4, none⟩ = some c4 := ((HW.out _ HB.out).cell (p := ⟨b, o + k * 5 + 4, none⟩) hb).trans g4
      clear g0 g1 g2 g3 g4 g5 hc
      have hts := HLn.out k (by omega)
      generalize hte : textT (parts k) = te at *
      have hts2 : (strOf te).size ≤ 22800 := hts
      have HTe := hide hte
      clear hte
      by_cases k1 : k + 1 < l
      · have k1' : (k : Int) + 1 < l := by omega
        go_wp2_with fail
        go_at_call 15
        refine (hcal _ HB.out).mono ?_
        rintro e w1 ⟨rfl, hb1⟩
        have HB1 : Hid (Below W.heap.size W w1) := HB.out.trans (hb1.mono HB.out.size)
        have hx2 := HXc.out w1 HB1.out
        clear hb1
        go_wp2_with fail
        go_roundw
        case rel =>
          refine ⟨k + 1, _, by omega, ?_, rfl, by go_num, HB1, ?_⟩
          · rw [← size_bytes, bytes_append, bytes_append]
            simp only [List.length_append, size_bytes]
            have u1 : (⟨#[44]⟩ : ByteArray).size = 1 := rfl
            omega
          show bytes _ = _
          rw [bytes_append, bytes_append, HX.out, List.range_succ, List.flatMap_append, List.flatMap_singleton, HTe.out, bytes_strOf, if_pos (Or.inl k1)]
          simp only [List.append_assoc]
          rfl
        case measure => simp [intOf]; omega
      · have k1' : ¬ (k : Int) + 1 < l := by omega
        cases many with
        | true =>
          go_wp2_with fail
          go_at_call 15
          refine (hcal _ HB.out).mono ?_
          rintro e w1 ⟨rfl, hb1⟩
          have HB1 : Hid (Below W.heap.size W w1) := HB.out.trans (hb1.mono HB.out.size)
          have hx2 := HXc.out w1 HB1.out
          clear hb1
          go_wp2_with fail
          go_roundw
          case rel =>
            refine ⟨k + 1, _, by omega, ?_, rfl, by go_num, HB1, ?_⟩
            · rw [← size_bytes, bytes_append, bytes_append]
              simp only [List.length_append, size_bytes]
              have u1 : (⟨#[44]⟩ : ByteArray).size = 1 := rfl
              omega
            show bytes _ = _
            rw [bytes_append, bytes_append, HX.out, List.range_succ, List.flatMap_append, List.flatMap_singleton, HTe.out, bytes_strOf, if_pos (Or.inr (by trivial))]
            simp only [List.append_assoc]
            rfl
          case measure => simp [intOf]; omega
        | false =>
          have HN := hide (show ¬ (k + 1 < l ∨ false = true) by simp; omega)
          go_wp2_with fail
          go_at_call 15
          refine (hcal _ HB.out).mono ?_
          rintro e w1 ⟨rfl, hb1⟩
          have HB1 : Hid (Below W.heap.size W w1) := HB.out.trans (hb1.mono HB.out.size)
          have hx2 := HXc.out w1 HB1.out
          clear hb1
          go_wp2_with fail
          go_roundw
          case rel =>
            refine ⟨k + 1, _, by omega, ?_, rfl, by go_num, HB1, ?_⟩
            · rw [← size_bytes, bytes_append]
              simp only [List.length_append, size_bytes]
              have u1 : (⟨#[44]⟩ : ByteArray).size = 1 := rfl
              omega
            show bytes _ = _
            rw [bytes_append, HX.out, List.range_succ, List.flatMap_append, List.flatMap_singleton, HTe.out, bytes_strOf, if_neg HN.out]
            simp only [List.append_assoc, List.append_nil]
          case measure => simp [intOf]; omega
    · obtain rfl : k = l := by omega
      have hlt' : ¬ (k : Int) < k := by omega
      have hidx : (0 : Int) ≤ k ∧ (k : Int) < ((k + 1 : Nat) : Int) := by omega
      have hidx2 : (k : Int) < (k : Int) + 1 := by omega
      obtain ⟨c0, c1, c2, c3, c4, g0, g1, g2, g3, g4, g5⟩ := hc k (by omega)
      have hcal := fun w' (hw : Below W.heap.size W w') => ih.out k (by omega) _ w' (g5.below (HW.out w' hw))
      have e0 : wr.cell? ⟨b, o + k * 5, none⟩ = some c0 := ((HW.out _ HB.out).cell (p := ⟨b, o + k * 5, none⟩) hb).trans g0
      have e1 : wr.cell? ⟨b, o + k * 5 + 1, none⟩ = some c1 := ((HW.out _ HB.out).cell (p := ⟨b, o + k * 5 + 1, none⟩) hb).trans g1
      have e2 : wr.cell? ⟨b, o + k * 5 + 2, none⟩ = some c2 := ((HW.out _ HB.out).cell (p := ⟨b, o + k * 5 + 2, none⟩) hb).trans g2
      have e3 : wr.cell? ⟨b, o + k * 5 + 3, none⟩ = some c3 := ((HW.out _ HB.out).cell (p := ⟨b, o + k * 5 + 3, none⟩) hb).trans g3
      have e4 : wr.cell? ⟨b, o + k * 5 + 4, none⟩ = some c4 := ((HW.out _ HB.out).cell (p := ⟨b, o + k * 5 + 4, none⟩) hb).trans g4
      clear g0 g1 g2 g3 g4 g5 hc
      have hts := HLn.out k (by omega)
      generalize hte : textT (parts k) = te at *
      have hts2 : (strOf te).size ≤ 22800 := hts
      have HTe := hide hte
      clear hte
      cases many with
      | true =>
        go_wp2_with fail
        go_at_call 15
        refine (hcal _ HB.out).mono ?_
        rintro e w1 ⟨rfl, hb1⟩
        have HB1 : Hid (Below W.heap.size W w1) := HB.out.trans (hb1.mono HB.out.size)
        clear hb1
        go_wp2_with fail
        go_ret
        refine ⟨?_, HW.out _ HB1.out⟩
        show Ending.returned (.string (x ++ (⟨#[46, 46, 46]⟩ : ByteArray) ++ (⟨#[41]⟩ : ByteArray) ++ strOf te)) = _
        rw [HE.out, ← HX.out]
        (try simp only [if_true, if_false, Bool.false_eq_true, List.append_nil])
        rw [show x ++ (⟨#[46, 46, 46]⟩ : ByteArray) ++ (⟨#[41]⟩ : ByteArray) ++ strOf te = strOf (bytes x ++ [46, 46, 46] ++ [41] ++ te) from bytes_inj (by rw [bytes_append, bytes_append, bytes_append]; rfl)]
      | false =>
        go_wp2_with fail
        go_at_call 15
        refine (hcal _ HB.out).mono ?_
        rintro e w1 ⟨rfl, hb1⟩
        have HB1 : Hid (Below W.heap.size W w1) := HB.out.trans (hb1.mono HB.out.size)
        clear hb1
        go_wp2_with fail
        go_ret
        refine ⟨?_, HW.out _ HB1.out⟩
        show Ending.returned (.string (x ++ (⟨#[41]⟩ : ByteArray) ++ strOf te)) = _
        rw [HE.out, ← HX.out]
        (try simp only [if_true, if_false, Bool.false_eq_true, List.append_nil])
        rw [show x ++ (⟨#[41]⟩ : ByteArray) ++ strOf te = strOf (bytes x ++ [41] ++ te) from bytes_inj (by rw [bytes_append, bytes_append]; rfl)]
set_option maxRecDepth 100000 in
set_option maxHeartbeats 1000000 in
theorem text_one (v : Value) (w : World) (hv : TyV w (.mk 1 name nn names pn parts many) v) : Calls Try.prog 15 #[v] w fun e w' => e = .returned (.string (strOf (textT (.mk 1 name nn names pn parts many)))) ∧ Below w.heap.size w w' := by
  obtain ⟨na, nc, pa, pc, rfl, hS, q1, q2, q3, q4, q5, q6, q7, HP⟩ := hv.part
  have hB0 : Below w.heap.size w (w.alloc (.cells #[.int .i64 1, .string name, .slice na nn nc, .slice pa pn pc, .bool many] 25)) := (Below.refl _ _).alloc (Nat.le_refl _) _
  have HE : Hid (textT (.mk 1 name nn names pn parts many) = [105, 110, 116]) := by
    show _ = _
    rw [textT_mk, if_pos rfl]
  clear hv hS
  go_enter Try.func15, Try.ntmps15
  go_wp2_with fail
  go_ret
  exact ⟨by rw [HE.out]; rfl, hB0⟩
set_option maxRecDepth 100000 in
set_option maxHeartbeats 1000000 in
theorem text_two (v : Value) (w : World) (hv : TyV w (.mk 2 name nn names pn parts many) v) : Calls Try.prog 15 #[v] w fun e w' => e = .returned (.string (strOf (textT (.mk 2 name nn names pn parts many)))) ∧ Below w.heap.size w w' := by
  obtain ⟨na, nc, pa, pc, rfl, hS, q1, q2, q3, q4, q5, q6, q7, HP⟩ := hv.part
  have hB0 : Below w.heap.size w (w.alloc (.cells #[.int .i64 2, .string name, .slice na nn nc, .slice pa pn pc, .bool many] 25)) := (Below.refl _ _).alloc (Nat.le_refl _) _
  have HE : Hid (textT (.mk 2 name nn names pn parts many) = [108, 111, 110, 103]) := by
    show _ = _
    rw [textT_mk, if_neg (by decide), if_pos rfl]
  clear hv hS
  go_enter Try.func15, Try.ntmps15
  go_wp2_with fail
  go_ret
  exact ⟨by rw [HE.out]; rfl, hB0⟩
theorem text_any : ∀ (T : Ty) (d : Nat), d ≤ 4 → mayN d T = true → ∀ (v : Value) (w : World), TyV w T v → Calls Try.prog 15 #[v] w fun e w' => e = .returned (.string (strOf (textT T))) ∧ Below w.heap.size w w' := by
  intro T
  induction T with
  | leaf => intro d _ _ v w hv; exact (TyV_leaf hv).elim
  | mk kind name nn names pn parts many ih =>
    intro d hd hm v w hv
    cases d with
    | zero => simp [mayN] at hm
    | succ d =>
      have F := may_facts hm
      have HI : Hid (∀ i, i < pn → ∀ v w, TyV w (parts i) v → Calls Try.prog 15 #[v] w fun e w' => e = .returned (.string (strOf (textT (parts i)))) ∧ Below w.heap.size w w') := fun i hi v w hv => ih i d (by omega) (F.2.2.1 i hi) v w hv
      rcases F.2.2.2 with ⟨rfl, _⟩ | ⟨rfl, _⟩ | ⟨rfl, _⟩ | ⟨rfl, _⟩
      · exact text_struct d (by omega) HI hm v w hv
      · exact text_fn d (by omega) HI hm v w hv
      · exact text_one v w hv
      · exact text_two v w hv
end Go.Proofs.Ytakijacfadpmoaa.T
