/- The program's token, Scan. -/
import Derived.Test.YtakijacfadpmoaaDoorTok
import Derived.Test.YtakijacfadpmoaaDoorPPass
namespace Go.Proofs.YtakijacfadpmoaaDoor.T
open Go.RowKit
set_option linter.unusedVariables false
set_option linter.unusedSimpArgs false
variable {w0 w : World} {b : Nat} {t : ByteArray} {c p : Int} {i : Nat} {L : List Tok}
/-- What token leaves. -/
def TkPost (w0 w' : World) (b : Nat) (t : ByteArray) (c p : Int) (i : Nat) (L : List Tok) (k : Look) : Prop := if k.code = 0 then Sc w0 w' b t c p k.next (L ++ [⟨k.kind, k.text, i⟩]) else Sc w0 w' b t k.code i i L
theorem byteAt_ext (t : ByteArray) (i j k : Nat) (h : i + k < j) (hj : j ≤ t.size) : byteAt (t.extract i j) k = byteAt t (i + k) := by
  unfold byteAt
  rw [← Array.getElem?_toList, ← Array.getElem?_toList, Lib.extract_data, List.getElem?_take_of_lt (by omega), List.getElem?_drop]
set_option maxRecDepth 100000 in
set_option maxHeartbeats 2000000 in
theorem token_any (G : Gl w0) (h : Sc w0 w b t c p i L) (hi : i < t.size) : Calls Tryd.prog 8 #[.pointer (some ⟨b, 0, none⟩)] w fun e w' => (∃ v, e = .returned v) ∧ TkPost w0 w' b t c p i L (look t i) := by
  have hlen := h.len
  have HS := hide h
  obtain ⟨v, h1, h2⟩ := h.blk
  have hc := cells_at h1
  clear h h1 h2
  have hi' : (i : Int) < t.size := by omega
  have hidx : (0 : Int) ≤ i ∧ (i : Int) < t.size := by omega
  have hb8 : t[i].toNat < 256 := UInt8.toNat_lt _
  have HBy := hide (byteAt_get t i hi)
  have hle := fun w' => pletter_any t[i].toNat w' hb8
  have hdi := fun w' => pdigit_any t[i].toNat w' hb8
  obtain ⟨lk, hlk⟩ : ∃ lk, lk = look t i := ⟨_, rfl⟩
  rw [← hlk]
  have HLk := hide hlk
  clear hlk
  cases hL : letB t[i].toNat with
  | true =>
    rw [hL] at hle
    have HI : Hid (insB (byteAt t i) = true) := by show _ = _; rw [HBy.out]; exact let_ins hL
    have HLt : Hid (letB (byteAt t i) = true) := by show _ = _; rw [HBy.out]; exact hL
    clear hL
    go_enter Tryd.func8, Tryd.ntmps8
    go_wp2_with fail
    go_quiet (fail)
    generalize nq = q
    have hS : Sc w0 (w.drewN q) b t c p i L := HS.out.kept (below_drew (Below.refl _ _) _)
    have HS1 := hide hS
    clear hS hc
    generalize w.drewN q = w1 at *
    go_wp2_with fail
    go_at_call 16
    refine (hle _).mono ?_
    rintro e w2 ⟨rfl, rfl⟩
    go_wp2_with fail
    go_at_call 14
    refine (row_ins_any HS1.out insB rfl).mono ?_
    rintro e w3 ⟨j, q1, q2, q3, q4, rfl, hb3⟩
    have he := rowEnd_eq q1 q2 q3 q4
    have hgt := rowEnd_gt hi HI.out
    rw [he] at hgt
    have hex : (t.extract i j).size = j - i := by rw [ByteArray.size_extract]; omega
    have hwd := word_any (HS1.out.kept hb3) (t.extract i j) (by omega) (by omega)
    have HF : Hid (∀ w' : World, (if 16 < (t.extract i j).size then Sc w0 w' b t 1 i i L else Sc w0 w' b t c p (i + (t.extract i j).size) (L ++ [⟨1, t.extract i j, i⟩])) → TkPost w0 w' b t c p i L lk) := fun w' hw => by
      have e1 : lk = ⟨if 16 < j - i then 1 else 0, 1, t.extract i j, j⟩ := by
        rw [HLk.out]
        unfold look
        rw [HLt.out, he]
        rfl
      unfold TkPost
      rw [hex] at hw
      by_cases h16 : 16 < j - i
      · rw [if_pos h16] at hw
        rw [e1, if_neg (by simp [h16])]
        rw [if_pos h16]
        exact hw
      · rw [if_neg h16] at hw
        rw [e1, if_pos (by simp [h16])]
        rw [show i + (j - i) = j by omega] at hw
        exact hw
    clear he hex q3 q4 hb3 HS1 HS
    go_wp2_with fail
    go_at_call 17
    refine hwd.mono ?_
    rintro e w4 ⟨⟨v4, rfl⟩, hw4⟩
    have HW := hide (HF.out w4 hw4)
    clear hw4 HF
    go_wp2_with fail
    go_end0
    exact ⟨⟨_, rfl⟩, HW.out⟩
  | false =>
  rw [hL] at hle
  cases hD : digB t[i].toNat with
  | true =>
    rw [hD] at hdi
    have HI : Hid (insB (byteAt t i) = true) := by show _ = _; rw [HBy.out]; exact dig_ins hD
    have HLt : Hid (letB (byteAt t i) = false ∧ digB (byteAt t i) = true) := by show _ ∧ _; rw [HBy.out]; exact ⟨hL, hD⟩
    clear hL hD
    go_enter Tryd.func8, Tryd.ntmps8
    go_wp2_with fail
    go_quiet (fail)
    generalize nq = q
    have hS : Sc w0 (w.drewN q) b t c p i L := HS.out.kept (below_drew (Below.refl _ _) _)
    have HS1 := hide hS
    clear hS hc
    generalize w.drewN q = w1 at *
    go_wp2_with fail
    go_at_call 16
    refine (hle _).mono ?_
    rintro e w2 ⟨rfl, rfl⟩
    go_wp2_with fail
    go_at_call 19
    refine (hdi _).mono ?_
    rintro e w2 ⟨rfl, rfl⟩
    go_wp2_with fail
    go_at_call 14
    refine (row_ins_any HS1.out insB rfl).mono ?_
    rintro e w3 ⟨j, q1, q2, q3, q4, rfl, hb3⟩
    have he := rowEnd_eq q1 q2 q3 q4
    have hgt := rowEnd_gt hi HI.out
    rw [he] at hgt
    have hex : (t.extract i j).size = j - i := by rw [ByteArray.size_extract]; omega
    have hwd := number_any G (HS1.out.kept hb3) (t.extract i j) (by omega) (by omega) (by rw [byteAt_ext t i j 0 (by omega) q2]; exact HLt.out.2)
    have HF : Hid (∀ w' : World, NumPost w0 w' b t c p i L (t.extract i j) → TkPost w0 w' b t c p i L lk) := fun w' hw => by
      have e1 : lk = ⟨rowCode (t.extract i j), if isL (t.extract i j) then 3 else 2, rowText (t.extract i j), j⟩ := by
        rw [HLk.out]
        unfold look
        rw [HLt.out.1, HLt.out.2, he]
        rfl
      unfold NumPost at hw
      unfold TkPost
      rw [hex, show i + (j - i) = j by omega] at hw
      rw [e1]
      exact hw
    clear he hex q3 q4 hb3 HS1 HS
    go_wp2_with fail
    go_at_call 20
    refine hwd.mono ?_
    rintro e w4 ⟨⟨v4, rfl⟩, hw4⟩
    have HW := hide (HF.out w4 hw4)
    clear hw4 HF
    go_wp2_with fail
    go_end0
    exact ⟨⟨_, rfl⟩, HW.out⟩
  | false =>
    rw [hD] at hdi
    have HLt : Hid (letB (byteAt t i) = false ∧ digB (byteAt t i) = false) := by show _ ∧ _; rw [HBy.out]; exact ⟨hL, hD⟩
    clear hL hD
    go_enter Tryd.func8, Tryd.ntmps8
    go_wp2_with fail
    go_quiet (fail)
    generalize nq = q
    have hS : Sc w0 (w.drewN q) b t c p i L := HS.out.kept (below_drew (Below.refl _ _) _)
    have HS1 := hide hS
    clear hS hc
    generalize w.drewN q = w1 at *
    have hwd := psign_any HS1.out hi
    have HF : Hid (∀ w' : World, SgPost w0 w' b t c p i L (signOf (t.extract i t.size)) → TkPost w0 w' b t c p i L lk) := fun w' hw => by
      have e1 : lk = ⟨if (signOf (t.extract i t.size)).size = 0 then 2 else 0, 4, signOf (t.extract i t.size), i + (signOf (t.extract i t.size)).size⟩ := by
        rw [HLk.out]
        unfold look
        rw [HLt.out.1, HLt.out.2]
        rfl
      unfold SgPost at hw
      unfold TkPost
      rw [e1]
      by_cases h0 : (signOf (t.extract i t.size)).size = 0
      · rw [if_pos h0] at hw
        rw [if_neg (by simp [h0]), if_pos h0]
        exact hw
      · rw [if_neg h0] at hw
        rw [if_pos (by simp [h0])]
        exact hw
    go_wp2_with fail
    go_at_call 16
    refine (hle _).mono ?_
    rintro e w2 ⟨rfl, rfl⟩
    go_wp2_with fail
    go_at_call 19
    refine (hdi _).mono ?_
    rintro e w2 ⟨rfl, rfl⟩
    go_wp2_with fail
    go_at_call 21
    refine hwd.mono ?_
    rintro e w4 ⟨⟨v4, rfl⟩, hw4⟩
    have HW := hide (HF.out w4 hw4)
    clear hw4 HF
    go_wp2_with fail
    go_end0
    exact ⟨⟨_, rfl⟩, HW.out⟩
end Go.Proofs.YtakijacfadpmoaaDoor.T
