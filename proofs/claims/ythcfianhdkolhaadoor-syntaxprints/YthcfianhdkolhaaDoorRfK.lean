/- The contracts of the reference's Digits and Long. -/
import Derived.Test.YthcfianhdkolhaaDoorRfC
import Derived.Laws.IdiomStrings
namespace Go.Proofs.YthcfianhdkolhaaDoor.T
open Go.RowKit Go.Proofs.YthcfianhdkolhaaDoor.S
set_option linter.unusedVariables false
set_option linter.unusedSimpArgs false

/-- The last digit's byte. -/
def dgt (n : Nat) : UInt8 := UInt8.ofNat (48 + n % 10)
theorem dec_small {n : Nat} (h : n < 10) : decN n = [dgt n] := by rw [← dec_lib, Lib.decDigits_one h, dgt, show n % 10 = n by omega]
theorem dec_big {n : Nat} (h : ¬ n < 10) : decN n = decN (n / 10) ++ [dgt n] := by rw [decN, dif_neg h]; rfl
theorem one_byte (w : World) (n : Nat) : (convert 57 9 (.slice (some ⟨w.heap.size, 0, none⟩) 1 1)).run Tryd.prog (w.alloc (.cells #[.int .u8 (48 + (n : Int) % 10)] 5)) = .ok (.string ⟨[dgt n].toArray⟩) (w.alloc (.cells #[.int .u8 (48 + (n : Int) % 10)] 5)) := by
  refine run_convert_bytes_back _ 57 9 5 ⟨w.heap.size, 0, none⟩ 1 [dgt n] Tryd.underlying57 Tryd.underlying5 Tryd.underlying9 ?_
  intro j hj
  simp at hj
  subst hj
  simp [Addr.add, dgt]
  omega
theorem ret_str {l l' : List UInt8} (h : l = l') : Ending.returned (.string ⟨l.toArray⟩) = .returned (.string ⟨l'.toArray⟩) := by rw [h]
set_option maxRecDepth 100000 in
set_option maxHeartbeats 800000 in
theorem digits_small (n : Nat) (w : World) (h10 : n < 10) :
    Calls Tryd.prog 39 #[.int .i64 n] w fun e w' => e = .returned (.string ⟨(decN n).toArray⟩) ∧ Below w.heap.size w w' := by
  have hcv := one_byte w n
  go_enter Tryd.func39, Tryd.ntmps39
  go_wp2_with fail
  go_ret
  exact ⟨ret_str (dec_small h10).symm, (Below.refl _ _).alloc (Nat.le_refl _) _⟩
set_option maxRecDepth 100000 in
set_option maxHeartbeats 800000 in
theorem digits_nat (k : Nat) : ∀ (n : Nat) (w : World), n ≤ k → n ≤ 9223372036854775807 →
    Calls Tryd.prog 39 #[.int .i64 n] w fun e w' => e = .returned (.string ⟨(decN n).toArray⟩) ∧ Below w.heap.size w w' := by
  induction k with
  | zero =>
    intro n w hk hm
    exact digits_small n w (by omega)
  | succ k ih =>
    intro n w hk hm
    by_cases h10 : n < 10
    · exact digits_small n w h10
    · have hcv := one_byte w n
      have ih' : ∀ w', Calls Tryd.prog 39 #[.int .i64 ((n : Int) / 10)] w' fun e w'' => e = .returned (.string ⟨(decN (n / 10)).toArray⟩) ∧ Below w'.heap.size w' w'' := fun w' => by
        have h := ih (n / 10) w' (by omega) (by omega)
        rw [show ((n / 10 : Nat) : Int) = (n : Int) / 10 by omega] at h
        exact h
      have hl := dec_len20 (n / 10) (by omega)
      have HB := hide (dec_big h10)
      have hadd := fun w' => run_string_add_lists (P := Tryd.prog) w' (decN (n / 10)) [dgt n] (by omega) (by simp)
      clear ih hl
      generalize decN (n / 10) = dd at *
      go_enter Tryd.func39, Tryd.ntmps39
      go_wp2_with fail
      go_at_call 39
      refine (ih' _).mono ?_
      rintro e w1 ⟨rfl, hb⟩
      go_wp2_with fail
      go_ret
      exact ⟨ret_str HB.out.symm, ((Below.refl _ _).alloc (Nat.le_refl _) _).trans (hb.mono (by simp))⟩
def pad : Nat → Nat → List UInt8
  | 0, _ => []
  | k + 1, m => pad k (m / 10) ++ [dgt m]
theorem dec_pad : ∀ (k a m : Nat), 1 ≤ a → m < 10 ^ k → decN (a * 10 ^ k + m) = decN a ++ pad k m
  | 0, a, m, ha, hm => by
    have : m = 0 := by simpa using hm
    subst this
    simp [pad]
  | k + 1, a, m, ha, hm => by
    have hp : 10 ^ (k + 1) = 10 ^ k * 10 := Nat.pow_succ 10 k
    have hp1 : 1 ≤ 10 ^ k := Nat.one_le_pow _ _ (by omega)
    have e1 : (a * 10 ^ (k + 1) + m) / 10 = a * 10 ^ k + m / 10 := by rw [hp, ← Nat.mul_assoc]; omega
    have h10 : ¬ a * 10 ^ (k + 1) + m < 10 := by
      have : 10 ≤ a * 10 ^ (k + 1) := by
        rw [hp]
        exact Nat.le_trans (show 10 ≤ 1 * (1 * 10) by omega) (Nat.mul_le_mul ha (Nat.mul_le_mul_right _ hp1))
      omega
    have e2 : dgt (a * 10 ^ (k + 1) + m) = dgt m := by
      unfold dgt
      rw [show (a * 10 ^ (k + 1) + m) % 10 = m % 10 by rw [hp, ← Nat.mul_assoc]; omega]
    rw [dec_big h10, e1, dec_pad k a (m / 10) ha (by rw [hp] at hm; omega), e2, pad, List.append_assoc]
theorem pad_zero : ∀ k, pad k 0 = List.replicate k 48
  | 0 => rfl
  | k + 1 => by rw [pad, Nat.zero_div, pad_zero k, List.replicate_succ']; rfl
theorem pad_rep : ∀ (k m : Nat), 1 ≤ k → m < 10 ^ k → (decN m).length ≤ k ∧ pad k m = List.replicate (k - (decN m).length) 48 ++ decN m
  | 0, m, h, _ => by omega
  | k + 1, m, _, hm => by
    by_cases h10 : m < 10
    · rw [dec_small h10, pad, show m / 10 = 0 by omega, pad_zero]
      simp
    · have hk : 1 ≤ k := by
        rcases Nat.eq_zero_or_pos k with h | h
        · subst h; simp at hm; omega
        · exact h
      have ih := pad_rep k (m / 10) hk (by rw [Nat.pow_succ] at hm; omega)
      rw [dec_big h10, pad, ih.2]
      refine ⟨by rw [List.length_append]; simp; exact ih.1, ?_⟩
      rw [List.length_append, List.length_cons, List.length_nil, Nat.zero_add, Nat.add_sub_add_right, List.append_assoc]
theorem long_dec {n : Nat} (h : ¬ n < 1000000) : decN n = decN (n / 1000000) ++ (List.replicate (6 - (decN (n % 1000000)).length) 48 ++ decN (n % 1000000)) ∧ (decN (n % 1000000)).length ≤ 6 := by
  have h1 := dec_pad 6 (n / 1000000) (n % 1000000) (by omega) (by have : (10 : Nat) ^ 6 = 1000000 := by decide
                                                                  omega)
  have h2 := pad_rep 6 (n % 1000000) (by omega) (by have : (10 : Nat) ^ 6 = 1000000 := by decide
                                                    omega)
  have e : n / 1000000 * 10 ^ 6 + n % 1000000 = n := by have : (10 : Nat) ^ 6 = 1000000 := by decide
                                                        omega
  rw [e, h2.2] at h1
  exact ⟨h1, h2.1⟩
set_option maxRecDepth 100000 in
set_option maxHeartbeats 800000 in
theorem long_any (k : Nat) : ∀ (n : Nat) (w : World), n ≤ k → n ≤ 9223372036854775807 →
    Calls Tryd.prog 26 #[.int .i64 n] w fun e w' => e = .returned (.string (str (decN n))) ∧ Below w.heap.size w w' := by
  induction k using Nat.strongRecOn with
  | ind k ih =>
    intro n w hk hm
    by_cases h6 : n < 1000000
    · have h6' : (n : Int) < 1000000 := by omega
      have hd := digits_nat n n w (Nat.le_refl _) hm
      clear ih
      go_enter Tryd.func26, Tryd.ntmps26
      go_wp2_with fail
      go_at_call 39
      refine hd.mono ?_
      rintro e w1 ⟨rfl, hb⟩
      have HB := hide hb
      clear hb hd
      go_wp2_with fail
      go_ret
      exact ⟨rfl, HB.out⟩
    · have h6' : ¬ (n : Int) < 1000000 := by omega
      have hhi := fun w' => ih (n / 1000000) (by omega) (n / 1000000) w' (Nat.le_refl _) (by omega)
      have hlo := fun w' => digits_nat (n % 1000000) (n % 1000000) w' (Nat.le_refl _) (by omega)
      have hq : ((n / 1000000 : Nat) : Int) = (n : Int) / 1000000 := by omega
      have hr : ((n % 1000000 : Nat) : Int) = (n : Int) % 1000000 := by omega
      rw [hq] at hhi
      rw [hr] at hlo
      obtain ⟨hL, hl6⟩ := long_dec h6
      have hl21 := dec_len20 (n / 1000000) (by omega)
      have HL := hide hL
      clear ih hq hr hL
      generalize hhd : decN (n / 1000000) = hd at *
      generalize hld : decN (n % 1000000) = ld at *
      clear hhd hld
      go_enter Tryd.func26, Tryd.ntmps26
      go_wp2_with fail
      go_at_call 26
      refine (hhi _).mono ?_
      rintro e w1 ⟨rfl, hb1⟩
      have HB1 := hide hb1
      clear hb1 hhi
      go_wp2_with fail
      go_at_call 39
      refine (hlo _).mono ?_
      rintro e w2 ⟨rfl, hb2⟩
      have HB2 := hide (HB1.out.trans (hb2.mono HB1.out.size))
      clear hb2 hlo
      have hhs : (str hd).size ≤ 21 := hl21
      generalize hsh : str hd = sh at *
      have HSh := hide hsh
      clear hsh
      go_wp2_with fail
      go_loopw [4] (fun s wr => ∃ (j : Nat) (x : ByteArray), s = .string x ∧ x.size = ld.length + j ∧ x.size ≤ 6 ∧ wr = w2 ∧ Hid (x = str (List.replicate j 48 ++ ld))) (fun s _ => match s with | .string x => 6 - x.size | _ => 0)
      case atStart => exact ⟨0, _, rfl, by simp; rfl, hl6, rfl, rfl⟩
      case round =>
        obtain ⟨j, x, rfl, hx1, hx2, rfl, HX⟩ := hrel
        by_cases hx6 : x.size < 6
        · have hx6' : (x.size : Int) < 6 := by omega
          have hadd : ((⟨#[48]⟩ : ByteArray) ++ x).size = x.size + 1 := by rw [ByteArray.size_append]; show 1 + x.size = _; omega
          have HX9 : Hid ((⟨#[48]⟩ : ByteArray) ++ x = str (List.replicate (j + 1) 48 ++ ld)) := by
            show _ = _
            rw [HX.out]
            apply ByteArray.ext
            apply Array.toList_inj.1
            simp [str, List.replicate_succ]
          go_wp2_with fail
          go_roundw
          case rel => exact ⟨j + 1, _, rfl, by omega, by omega, trivial, HX9⟩
          case measure => simp only; omega
        · have hx6' : ¬ (x.size : Int) < 6 := by omega
          have HE : Hid (sh ++ x = str (decN n)) := by
            show _ = _
            rw [HL.out, HX.out, ← HSh.out, show 6 - ld.length = j by omega]
            apply ByteArray.ext
            apply Array.toList_inj.1
            simp [str]
          go_wp2_with fail
          go_ret
          exact ⟨by rw [← HE.out]; rfl, HB2.out⟩
end Go.Proofs.YthcfianhdkolhaaDoor.T
