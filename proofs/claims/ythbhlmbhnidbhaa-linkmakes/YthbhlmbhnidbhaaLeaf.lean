/- The contracts of the reference's Letter, Digit, Reserved, Among, Name. -/
import Derived.Test.YthbhlmbhnidbhaaProg
import Derived.WalkKit
import Derived.WalkSpells
import Derived.Outline
import Derived.LoopTactic
namespace Go.Proofs.Ythbhlmbhnidbhaa.T
open Go.RowKit
set_option linter.unusedVariables false
set_option linter.unusedSimpArgs false
def letB (c : Nat) : Bool := (decide (97 ≤ c) && decide (c ≤ 122)) || (decide (65 ≤ c) && decide (c ≤ 90))
def digB (c : Nat) : Bool := decide (48 ≤ c) && decide (c ≤ 57)
/-- May a byte stand at a name's place? -/
def signB (s : List UInt8) (i : Nat) : Bool := match s[i]? with | some c => letB c.toNat || (decide (i ≠ 0) && (digB c.toNat || decide (c.toNat = 95))) | none => false
def reserved : List (List UInt8) := [[98, 114, 101, 97, 107], [99, 111, 117, 110, 116], [101, 108, 115, 101], [101, 120, 116, 101, 114, 110], [101, 120, 116, 114, 97], [102, 110], [105, 102], [105, 110, 116], [108, 111, 110, 103], [112, 117, 116], [114, 101, 116, 117, 114, 110], [115, 116, 97, 116, 105, 99], [115, 116, 114, 117, 99, 116], [119, 104, 105, 108, 101]]
def nameB (s : List UInt8) : Bool := decide (1 ≤ s.length) && decide (s.length ≤ 16) && ((List.range s.length).all fun i => signB s i) && !(reserved.contains s)
def bytes (s : ByteArray) : List UInt8 := s.data.toList
theorem hide {p : Prop} (h : p) : Hid p := h

theorem letter_any (c : Nat) (w : World) (hc : c < 256) : Calls Try.prog 48 #[.int .u8 c] w fun e w' => e = .returned (.bool (letB c)) ∧ w' = w := by
  have key : ∀ b1 b2 b3 b4, decide (97 ≤ c) = b1 → decide (c ≤ 122) = b2 → decide (65 ≤ c) = b3 → decide (c ≤ 90) = b4 → letB c = ((b1 && b2) || (b3 && b4)) := fun _ _ _ _ h1 h2 h3 h4 => by unfold letB; rw [h1, h2, h3, h4]
  by_cases a1 : 97 ≤ c
  · by_cases a2 : c ≤ 122
    · rw [key true true _ _ (decide_eq_true a1) (decide_eq_true a2) rfl rfl]
      have d1 : (97 : Int) ≤ c := by omega
      have d2 : (c : Int) ≤ 122 := by omega
      go_enter Try.func48, Try.ntmps48
      go_wp2_with fail
      go_ret
      exact ⟨rfl, rfl⟩
    · rw [key true false true false (decide_eq_true a1) (decide_eq_false a2) (decide_eq_true (by omega)) (decide_eq_false (by omega))]
      have d1 : (97 : Int) ≤ c := by omega
      have d2 : ¬ (c : Int) ≤ 122 := by omega
      have d3 : (65 : Int) ≤ c := by omega
      have d4 : ¬ (c : Int) ≤ 90 := by omega
      go_enter Try.func48, Try.ntmps48
      go_wp2_with fail
      go_ret
      exact ⟨rfl, rfl⟩
  · by_cases a3 : 65 ≤ c
    · have d1 : ¬ (97 : Int) ≤ c := by omega
      have d3 : (65 : Int) ≤ c := by omega
      by_cases a4 : c ≤ 90
      · rw [key false true true true (decide_eq_false a1) (decide_eq_true (by omega)) (decide_eq_true a3) (decide_eq_true a4)]
        have d4 : (c : Int) ≤ 90 := by omega
        go_enter Try.func48, Try.ntmps48
        go_wp2_with fail
        go_ret
        exact ⟨rfl, rfl⟩
      · rw [key false true true false (decide_eq_false a1) (decide_eq_true (by omega)) (decide_eq_true a3) (decide_eq_false a4)]
        have d4 : ¬ (c : Int) ≤ 90 := by omega
        go_enter Try.func48, Try.ntmps48
        go_wp2_with fail
        go_ret
        exact ⟨rfl, rfl⟩
    · rw [key false true false true (decide_eq_false a1) (decide_eq_true (by omega)) (decide_eq_false a3) (decide_eq_true (by omega))]
      have d1 : ¬ (97 : Int) ≤ c := by omega
      have d3 : ¬ (65 : Int) ≤ c := by omega
      go_enter Try.func48, Try.ntmps48
      go_wp2_with fail
      go_ret
      exact ⟨rfl, rfl⟩
theorem digit_any (c : Nat) (w : World) (hc : c < 256) : Calls Try.prog 49 #[.int .u8 c] w fun e w' => e = .returned (.bool (digB c)) ∧ w' = w := by
  have key : ∀ b1 b2, decide (48 ≤ c) = b1 → decide (c ≤ 57) = b2 → digB c = (b1 && b2) := fun _ _ h1 h2 => by unfold digB; rw [h1, h2]
  by_cases a1 : 48 ≤ c
  · have d1 : (48 : Int) ≤ c := by omega
    by_cases a2 : c ≤ 57
    · rw [key true true (decide_eq_true a1) (decide_eq_true a2)]
      have d2 : (c : Int) ≤ 57 := by omega
      go_enter Try.func49, Try.ntmps49
      go_wp2_with fail
      go_ret
      exact ⟨rfl, rfl⟩
    · rw [key true false (decide_eq_true a1) (decide_eq_false a2)]
      have d2 : ¬ (c : Int) ≤ 57 := by omega
      go_enter Try.func49, Try.ntmps49
      go_wp2_with fail
      go_ret
      exact ⟨rfl, rfl⟩
  · rw [key false true (decide_eq_false a1) (decide_eq_true (by omega))]
    have d1 : ¬ (48 : Int) ≤ c := by omega
    go_enter Try.func49, Try.ntmps49
    go_wp2_with fail
    go_ret
    exact ⟨rfl, rfl⟩
/-- A row of strings in the world. -/
def Strs (w : World) (na : Option Addr) (nn : Nat) (names : Nat → ByteArray) : Prop := 0 < nn → ∃ b o, na = some ⟨b, o, none⟩ ∧ b < w.heap.size ∧ ∀ j, j < nn → w.cell? ⟨b, o + j, none⟩ = some (.string (names j))
theorem str_eq (a b : ByteArray) : (a.toList == b.toList) = decide (a = b) := by
  by_cases h : a = b
  · subst h; simp
  · rw [decide_eq_false h]
    simp only [ByteArray.toList_eq, beq_eq_false_iff_ne, ne_eq]
    intro e
    exact h (ByteArray.ext (Array.toList_inj.1 e))
theorem any_upto {p : Nat → Bool} {n : Nat} (h : ∀ j, j < n → p j = false) : (List.range n).any p = false := by simpa using h
theorem any_at {p : Nat → Bool} {n k : Nat} (hk : k < n) (h : p k = true) : (List.range n).any p = true := by simpa using ⟨k, hk, h⟩
set_option maxHeartbeats 2000000 in
theorem among_any (na : Option Addr) (nn nc : Nat) (names : Nat → ByteArray) (s : ByteArray) (w : World) (hn : nn ≤ 1000000) (hs : Strs w na nn names) :
    Calls Try.prog 50 #[.slice na nn nc, .string s] w fun e w' => e = .returned (.bool ((List.range nn).any fun j => decide (names j = s))) ∧ w' = w := by
  go_enter Try.func50, Try.ntmps50
  go_wp2_with fail
  go_loopw [5] (fun i wr => ∃ k : Nat, k ≤ nn ∧ i = .int .i64 k ∧ wr = w ∧ Hid (∀ j, j < k → decide (names j = s) = false)) (fun i _ => nn - (intOf i).toNat)
  case atStart => exact ⟨0, Nat.zero_le _, rfl, rfl, fun j hj => by omega⟩
  case round =>
    obtain ⟨k, hk, rfl, rfl, HK⟩ := hrel
    by_cases hlt : k < nn
    · have hlt' : (k : Int) < nn := by omega
      have hidx : (0 : Int) ≤ k ∧ (k : Int) < nn := by omega
      obtain ⟨b, o, rfl, hb, hc⟩ := hs (by omega)
      have r1 := hc k hlt
      have HC := hide hc
      clear hc hs
      by_cases he : names k = s
      · have h1 : ((names k).toList == s.toList) = true := by rw [str_eq, decide_eq_true he]
        go_wp2_with fail
        go_ret
        exact ⟨by rw [any_at hlt (decide_eq_true he)]; rfl, rfl⟩
      · have h1 : ((names k).toList == s.toList) = false := by rw [str_eq, decide_eq_false he]
        have HK1 : Hid (∀ j, j < k + 1 → decide (names j = s) = false) := fun j hj => by
          by_cases e : j = k
          · subst e; exact decide_eq_false he
          · exact HK.out j (by omega)
        go_wp2_with fail
        go_roundw
        case rel => exact ⟨k + 1, by omega, by go_num, trivial, HK1⟩
        case measure => simp [intOf]; omega
    · have hkn : k = nn := by omega
      subst hkn
      have hlt' : ¬ (k : Int) < k := by omega
      go_wp2_with fail
      go_ret
      exact ⟨by rw [any_upto HK.out]; rfl, rfl⟩
def resN (j : Nat) : ByteArray := ⟨(reserved.getD j []).toArray⟩
theorem contains_at (l : List (List UInt8)) (s : ByteArray) : ((List.range l.length).any fun j => decide ((⟨(l.getD j []).toArray⟩ : ByteArray) = s)) = l.contains (bytes s) := by
  rw [Bool.eq_iff_iff]
  simp only [List.any_eq_true, List.mem_range, decide_eq_true_eq, List.contains_iff_mem]
  constructor
  · rintro ⟨j, hj, e⟩
    subst e
    simp [bytes, List.getD_eq_getElem?_getD, hj]
  · intro h
    obtain ⟨j, hj, e⟩ := List.mem_iff_getElem.1 h
    refine ⟨j, hj, ?_⟩
    apply ByteArray.ext
    apply Array.toList_inj.1
    simp [List.getD_eq_getElem?_getD, hj, e, bytes]
theorem reserved_at (s : ByteArray) : ((List.range 14).any fun j => decide (resN j = s)) = reserved.contains (bytes s) := contains_at reserved s
set_option maxHeartbeats 2000000 in
theorem reserved_any (w : World) : Calls Try.prog 51 #[] w fun e w' => ∃ na, e = .returned (.slice na 14 14) ∧ Strs w' na 14 resN ∧ Below w.heap.size w w' := by
  go_enter Try.func51, Try.ntmps51
  go_wp2_with fail
  go_ret
  refine ⟨_, rfl, fun _ => ⟨w.heap.size, 0, rfl, by simp, fun j hj => ?_⟩, (Below.refl _ _).alloc (Nat.le_refl _) _⟩
  rw [World.cell?_alloc_at _ _ _ _ rfl, Nat.zero_add]
  have : j = 0 ∨ j = 1 ∨ j = 2 ∨ j = 3 ∨ j = 4 ∨ j = 5 ∨ j = 6 ∨ j = 7 ∨ j = 8 ∨ j = 9 ∨ j = 10 ∨ j = 11 ∨ j = 12 ∨ j = 13 := by omega
  rcases this with rfl | rfl | rfl | rfl | rfl | rfl | rfl | rfl | rfl | rfl | rfl | rfl | rfl | rfl <;> rfl
set_option maxRecDepth 100000 in
set_option maxHeartbeats 1000000 in
theorem name_any (s : ByteArray) (w : World) (hs : s.size ≤ maxLen) : Calls Try.prog 38 #[.string s] w fun e w' => e = .returned (.bool (nameB (bytes s))) ∧ Below w.heap.size w w' := by
  have hm : maxLen = 9223372036854775807 := rfl
  have hl : (bytes s).length = s.size := rfl
  by_cases a1 : s.size < 1
  · have : nameB (bytes s) = false := by unfold nameB; rw [hl, decide_eq_false (by omega)]; rfl
    rw [this]
    have d1 : (s.size : Int) < 1 := by omega
    go_enter Try.func38, Try.ntmps38
    go_wp2_with fail
    go_ret
    exact ⟨rfl, Below.refl _ _⟩
  have d1 : ¬ (s.size : Int) < 1 := by omega
  by_cases a2 : 16 < s.size
  · have : nameB (bytes s) = false := by unfold nameB; rw [hl, decide_eq_true (show 1 ≤ s.size by omega), decide_eq_false (show ¬ s.size ≤ 16 by omega)]; rfl
    rw [this]
    have d2 : (16 : Int) < s.size := by omega
    go_enter Try.func38, Try.ntmps38
    go_wp2_with fail
    go_ret
    exact ⟨rfl, Below.refl _ _⟩
  have d2 : ¬ (16 : Int) < s.size := by omega
  go_enter Try.func38, Try.ntmps38
  go_wp2_with fail
  go_loopw [3] (fun i wr => ∃ k : Nat, k ≤ s.size ∧ i = .int .i64 k ∧ wr = w ∧ Hid (∀ j, j < k → signB (bytes s) j = true)) (fun i _ => s.size - (intOf i).toNat)
  case atStart => exact ⟨0, Nat.zero_le _, rfl, rfl, fun j hj => by omega⟩
  case round =>
    obtain ⟨k, hk, rfl, rfl, HK⟩ := hrel
    by_cases hlt : k < s.size
    · have hlt' : (k : Int) < s.size := by omega
      have hidx : (0 : Int) ≤ k ∧ (k : Int) < s.size := by omega
      have hb : s[k].toNat < 256 := UInt8.toNat_lt _
      have hsig : signB (bytes s) k = (letB s[k].toNat || (decide (k ≠ 0) && (digB s[k].toNat || decide (s[k].toNat = 95)))) := by
        have e : (bytes s)[k]? = some s[k] := by
          show s.data.toList[k]? = _
          rw [Array.getElem?_toList]
          exact Array.getElem?_eq_getElem hlt
        unfold signB
        rw [e]
      have HE : Hid (signB (bytes s) k = true → ∀ j, j < k + 1 → signB (bytes s) j = true) := fun h j hj => by
        by_cases e : j = k
        · subst e; exact h
        · exact HK.out j (by omega)
      have HF : Hid (signB (bytes s) k = false → nameB (bytes s) = false) := fun h => by
        unfold nameB
        have : ((List.range (bytes s).length).all fun i => signB (bytes s) i) = false := by
          rw [Bool.eq_false_iff]
          intro e
          rw [List.all_eq_true] at e
          have := e k (by rw [List.mem_range]; exact hlt)
          rw [h] at this
          cases this
        rw [this]
        simp
      have hlet := fun w' => letter_any s[k].toNat w' hb
      have hdig := fun w' => digit_any s[k].toNat w' hb
      cases hL : letB s[k].toNat with
      | true =>
        rw [hL] at hlet hsig
        go_wp2_with fail
        go_at_call 48
        refine (hlet _).mono ?_
        rintro e w1 ⟨rfl, rfl⟩
        go_wp2_with fail
        go_roundw
        case rel => exact ⟨k + 1, by omega, by go_num, trivial, HE.out (by rw [hsig]; rfl)⟩
        case measure => simp [intOf]; omega
      | false =>
        rw [hL] at hlet hsig
        by_cases k0 : k = 0
        · subst k0
          go_wp2_with fail
          go_at_call 48
          refine (hlet _).mono ?_
          rintro e w1 ⟨rfl, rfl⟩
          go_wp2_with fail
          go_ret
          exact ⟨by rw [HF.out (by rw [hsig]; rfl)]; rfl, Below.refl _ _⟩
        · have k0' : ((k : Int) == 0) = false := by simp; omega
          have k1 : ¬ (k : Int) = 0 := by omega
          cases hD : digB s[k].toNat with
          | true =>
            rw [hD] at hdig hsig
            go_wp2_with fail
            go_at_call 48
            refine (hlet _).mono ?_
            rintro e w1 ⟨rfl, rfl⟩
            go_wp2_with fail
            go_at_call 49
            refine (hdig _).mono ?_
            rintro e w1 ⟨rfl, rfl⟩
            go_wp2_with fail
            go_roundw
            case rel => exact ⟨k + 1, by omega, by go_num, trivial, HE.out (by rw [hsig]; simp [k0])⟩
            case measure => simp [intOf]; omega
          | false =>
            rw [hD] at hdig hsig
            by_cases u : s[k].toNat = 95
            · have u1 : ((s[k].toNat : Int) == 95) = true := by simp; omega
              have u3 : ((s[k].toNat : Int) != 95) = false := by simp; omega
              have HU := hide u
              clear u
              go_wp2_with fail
              go_at_call 48
              refine (hlet _).mono ?_
              rintro e w1 ⟨rfl, rfl⟩
              go_wp2_with fail
              go_at_call 49
              refine (hdig _).mono ?_
              rintro e w1 ⟨rfl, rfl⟩
              go_wp2_with fail
              go_roundw
              case rel => exact ⟨k + 1, by omega, by go_num, trivial, HE.out (by rw [hsig]; simp [k0, HU.out])⟩
              case measure => simp [intOf]; omega
            · have u1 : ((s[k].toNat : Int) == 95) = false := by simp; omega
              have u3 : ((s[k].toNat : Int) != 95) = true := by simp; omega
              go_wp2_with fail
              go_at_call 48
              refine (hlet _).mono ?_
              rintro e w1 ⟨rfl, rfl⟩
              go_wp2_with fail
              go_at_call 49
              refine (hdig _).mono ?_
              rintro e w1 ⟨rfl, rfl⟩
              go_wp2_with fail
              go_ret
              exact ⟨by rw [HF.out (by rw [hsig]; simp [k0, u])]; rfl, Below.refl _ _⟩
    · have hkn : k = s.size := by omega
      subst hkn
      have hlt' : ¬ (s.size : Int) < s.size := by omega
      obtain ⟨rb, hrb⟩ : ∃ rb, rb = reserved.contains (bytes s) := ⟨_, rfl⟩
      have HRB := hide hrb
      clear hrb
      have HN : Hid (nameB (bytes s) = !rb) := by
        show _ = _
        unfold nameB
        rw [HRB.out]
        rw [hl, decide_eq_true (show 1 ≤ s.size by omega), decide_eq_true (show s.size ≤ 16 by omega), (List.all_eq_true).2 (fun i hi => HK.out i (List.mem_range.1 hi))]
        rfl
      go_wp2_with fail
      go_at_call 51
      refine (reserved_any _).mono ?_
      rintro e w1 ⟨na, rfl, hst, hb1⟩
      have ham := among_any na 14 14 resN s w1 (by omega) hst
      rw [reserved_at, ← HRB.out] at ham
      have HB1 := hide hb1
      clear hb1 hst
      go_wp2_with fail
      go_at_call 50
      refine ham.mono ?_
      rintro e w2 ⟨rfl, rfl⟩
      go_wp2_with fail
      go_ret
      exact ⟨by rw [HN.out]; rfl, HB1.out⟩
end Go.Proofs.Ythbhlmbhnidbhaa.T
