/- The contract of the program's Name. -/
import Derived.Test.YthbhlmbhnidbhaaPLeaf
namespace Go.Proofs.Ythbhlmbhnidbhaa.T
open Go.RowKit
set_option linter.unusedVariables false
set_option linter.unusedSimpArgs false
theorem sign_at (s : ByteArray) (k : Nat) (hlt : k < s.size) : signB (bytes s) k = (letB s[k].toNat || (decide (k ≠ 0) && (digB s[k].toNat || decide (s[k].toNat = 95)))) := by
  have e : (bytes s)[k]? = some s[k] := by
    show s.data.toList[k]? = _
    rw [Array.getElem?_toList]
    exact Array.getElem?_eq_getElem hlt
  unfold signB
  rw [e]
theorem name_bad (s : ByteArray) (k : Nat) (hlt : k < s.size) (h : signB (bytes s) k = false) : nameB (bytes s) = false := by
  unfold nameB
  have : ((List.range (bytes s).length).all fun i => signB (bytes s) i) = false := by
    rw [Bool.eq_false_iff]
    intro e
    rw [List.all_eq_true] at e
    have := e k (by rw [List.mem_range]; exact hlt)
    rw [h] at this
    cases this
  rw [this]
  simp
set_option maxRecDepth 100000 in
set_option maxHeartbeats 1000000 in
theorem pname_any (s : ByteArray) (w : World) (hs : s.size ≤ maxLen) : Calls Try.prog 59 #[.string s] w fun e w' => e = .returned (.bool (nameB (bytes s))) ∧ w' = w := by
  have hm : maxLen = 9223372036854775807 := rfl
  have hl : (bytes s).length = s.size := rfl
  by_cases a1 : s.size < 1
  · have : nameB (bytes s) = false := by unfold nameB; rw [hl, decide_eq_false (by omega)]; rfl
    rw [this]
    have d1 : (s.size : Int) < 1 := by omega
    go_enter Try.func59, Try.ntmps59
    go_wp2_with fail
    go_ret
    exact ⟨rfl, rfl⟩
  have d1 : ¬ (s.size : Int) < 1 := by omega
  by_cases a2 : 16 < s.size
  · have : nameB (bytes s) = false := by unfold nameB; rw [hl, decide_eq_true (show 1 ≤ s.size by omega), decide_eq_false (show ¬ s.size ≤ 16 by omega)]; rfl
    rw [this]
    have d2 : (16 : Int) < s.size := by omega
    go_enter Try.func59, Try.ntmps59
    go_wp2_with fail
    go_ret
    exact ⟨rfl, rfl⟩
  have d2 : ¬ (16 : Int) < s.size := by omega
  have h0 : 0 < s.size := by omega
  have h0i : (0 : Int) < s.size := by omega
  have hlet0 := fun w' => pletter_any s[0].toNat w' (UInt8.toNat_lt _)
  have hs0 := sign_at s 0 h0
  cases hL0 : letB s[0].toNat with
  | false =>
    rw [hL0] at hlet0 hs0
    have HF : Hid (nameB (bytes s) = false) := name_bad s 0 h0 (by rw [hs0]; rfl)
    clear hs0
    rw [HF.out]
    go_enter Try.func59, Try.ntmps59
    go_wp2_with fail
    go_at_call 63
    refine (hlet0 _).mono ?_
    rintro e w1 ⟨rfl, rfl⟩
    go_wp2_with fail
    go_ret
    exact ⟨rfl, rfl⟩
  | true =>
  rw [hL0] at hlet0 hs0
  have HS0 : Hid (signB (bytes s) 0 = true) := by show _ = _; rw [hs0]; rfl
  clear hs0
  go_enter Try.func59, Try.ntmps59
  go_wp2_with fail
  go_at_call 63
  refine (hlet0 _).mono ?_
  rintro e w1 ⟨rfl, rfl⟩
  go_wp2_with fail
  go_loopw [3] (fun i wr => ∃ k : Nat, k ≤ s.size ∧ 1 ≤ k ∧ i = .int .i64 k ∧ wr = w1 ∧ Hid (∀ j, j < k → signB (bytes s) j = true)) (fun i _ => s.size - (intOf i).toNat)
  case atStart => exact ⟨1, by omega, Nat.le_refl _, rfl, rfl, fun j hj => (show j = 0 by omega) ▸ HS0.out⟩
  case round =>
    clear hlet0
    obtain ⟨k, hk, k1, rfl, rfl, HK⟩ := hrel
    by_cases hlt : k < s.size
    · have hlt' : (k : Int) < s.size := by omega
      have hidx : (0 : Int) ≤ k ∧ (k : Int) < s.size := by omega
      have hb : s[k].toNat < 256 := UInt8.toNat_lt _
      have hsig := sign_at s k hlt
      rw [decide_eq_true (show k ≠ 0 by omega), Bool.true_and] at hsig
      have HE : Hid (signB (bytes s) k = true → ∀ j, j < k + 1 → signB (bytes s) j = true) := fun h j hj => by
        by_cases e : j = k
        · subst e; exact h
        · exact HK.out j (by omega)
      have HF : Hid (signB (bytes s) k = false → nameB (bytes s) = false) := fun h => name_bad s k hlt h
      have hin := fun w' => pin_any s[k].toNat w' hb
      have hsig2 : signB (bytes s) k = inNB s[k].toNat := by rw [hsig]; unfold inNB; rw [Bool.or_assoc]
      clear hsig
      cases hI : inNB s[k].toNat with
      | true =>
        rw [hI] at hin hsig2
        go_wp2_with fail
        go_at_call 64
        refine (hin _).mono ?_
        rintro e w1 ⟨rfl, rfl⟩
        go_wp2_with fail
        go_roundw
        case rel => exact ⟨k + 1, by omega, by omega, by go_num, trivial, HE.out hsig2⟩
        case measure => simp [intOf]; omega
      | false =>
        rw [hI] at hin hsig2
        go_wp2_with fail
        go_at_call 64
        refine (hin _).mono ?_
        rintro e w1 ⟨rfl, rfl⟩
        go_wp2_with fail
        go_ret
        exact ⟨by rw [HF.out hsig2]; rfl, rfl⟩
    · have hkn : k = s.size := by omega
      subst hkn
      have hlt' : ¬ (s.size : Int) < s.size := by omega
      have hba := fun w' => barred_any s w'
      obtain ⟨rb, hrb⟩ : ∃ rb, rb = reserved.contains (bytes s) := ⟨_, rfl⟩
      have HN : Hid (nameB (bytes s) = !rb) := by
        show _ = _
        unfold nameB
        rw [hrb]
        rw [hl, decide_eq_true (show 1 ≤ s.size by omega), decide_eq_true (show s.size ≤ 16 by omega), (List.all_eq_true).2 (fun i hi => HK.out i (List.mem_range.1 hi))]
        rfl
      rw [← hrb] at hba
      clear hrb
      go_wp2_with fail
      go_at_call 65
      refine (hba _).mono ?_
      rintro e w2 ⟨rfl, rfl⟩
      go_wp2_with fail
      go_ret
      exact ⟨by rw [HN.out]; rfl, rfl⟩
end Go.Proofs.Ythbhlmbhnidbhaa.T
