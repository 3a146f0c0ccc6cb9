/- The contract of the reference's Digits: a number's digits. -/
import Derived.Test.YtplenmhkhaoapaaDoorText
import Derived.Laws.IdiomStrings
namespace Go.Proofs.YtplenmhkhaoapaaDoor.M
/-- The last digit's byte. -/
def dgt (n : Nat) : UInt8 := UInt8.ofNat (48 + n % 10)
theorem dec_small {n : Nat} (h : n < 10) : Lib.decDigits n = [dgt n] := by rw [Lib.decDigits_one h, dgt, show n % 10 = n by omega]
theorem dec_big {n : Nat} (h : ¬ n < 10) : Lib.decDigits n = Lib.decDigits (n / 10) ++ [dgt n] := by rw [Lib.decDigits, dif_neg h]; rfl
theorem dec_len (n : Nat) (h : n ≤ 9223372036854775807) : (Lib.decDigits n).length ≤ 20 := by
  rw [Lib.decDigits_length]; exact Lib.nDigits_le20 n (by omega)
end Go.Proofs.YtplenmhkhaoapaaDoor.M
namespace Go.Proofs.YtplenmhkhaoapaaDoor.W
open Go.RowKit Go.Proofs.YtplenmhkhaoapaaDoor.M
set_option linter.unusedVariables false

/-- One byte as a text. -/
theorem one_byte (w : World) (n : Nat) : (convert 43 9 (.slice (some ⟨w.heap.size, 0, none⟩) 1 1)).run Tryd.prog (w.alloc (.cells #[.int .u8 (48 + (n : Int) % 10)] 5)) = .ok (.string ⟨[dgt n].toArray⟩) (w.alloc (.cells #[.int .u8 (48 + (n : Int) % 10)] 5)) := by
  refine run_convert_bytes_back _ 43 9 5 ⟨w.heap.size, 0, none⟩ 1 [dgt n] Tryd.underlying43 Tryd.underlying5 Tryd.underlying9 ?_
  intro j hj
  simp at hj
  subst hj
  simp [Addr.add, dgt]
  omega
theorem ret_str {l l' : List UInt8} (h : l = l') : Ending.returned (.string ⟨l.toArray⟩) = .returned (.string ⟨l'.toArray⟩) := by rw [h]

set_option maxRecDepth 100000 in
set_option maxHeartbeats 1000000 in
theorem digits_small (n : Nat) (w : World) (h10 : n < 10) :
    Calls Tryd.prog 22 #[.int .i64 n] w fun e w' => e = .returned (.string ⟨(Lib.decDigits n).toArray⟩) ∧ Below w.heap.size w w' := by
  have hcv := one_byte w n
  go_enter Tryd.func22, Tryd.ntmps22
  go_wp2_with fail
  go_ret
  exact ⟨ret_str (dec_small h10).symm, (Below.refl _ _).alloc (Nat.le_refl _) _⟩

set_option maxRecDepth 100000 in
set_option maxHeartbeats 1000000 in
theorem digits_nat (k : Nat) : ∀ (n : Nat) (w : World), n ≤ k → n ≤ 9223372036854775807 →
    Calls Tryd.prog 22 #[.int .i64 n] w fun e w' => e = .returned (.string ⟨(Lib.decDigits n).toArray⟩) ∧ Below w.heap.size w w' := by
  induction k with
  | zero =>
    intro n w hk hm
    exact digits_small n w (by omega)
  | succ k ih =>
    intro n w hk hm
    by_cases h10 : n < 10
    · exact digits_small n w h10
    · have hcv := one_byte w n
      have ih' : ∀ w', Calls Tryd.prog 22 #[.int .i64 ((n : Int) / 10)] w' fun e w'' => e = .returned (.string ⟨(Lib.decDigits (n / 10)).toArray⟩) ∧ Below w'.heap.size w' w'' := fun w' => by
        have h := ih (n / 10) w' (by omega) (by omega)
        rw [show ((n / 10 : Nat) : Int) = (n : Int) / 10 by omega] at h
        exact h
      have hl := dec_len (n / 10) (by omega)
      have HB := hide (dec_big h10)
      have hadd := fun w' => run_string_add_lists (P := Tryd.prog) w' (Lib.decDigits (n / 10)) [dgt n] (by omega) (by simp)
      clear ih hl
      generalize Lib.decDigits (n / 10) = dd at *
      go_enter Tryd.func22, Tryd.ntmps22
      go_wp2_with fail
      go_at_call 22
      refine (ih' _).mono ?_
      rintro e w1 ⟨rfl, hb⟩
      go_wp2_with fail
      go_ret
      exact ⟨ret_str (unhide HB).symm, ((Below.refl _ _).alloc (Nat.le_refl _) _).trans (hb.mono (by simp))⟩

set_option maxRecDepth 100000 in
set_option maxHeartbeats 1000000 in
theorem digits_any (n : Int) (w : World) (h0 : -9223372036854775807 ≤ n) (h1 : n ≤ 9223372036854775807) :
    Calls Tryd.prog 22 #[.int .i64 n] w fun e w' => e = .returned (.string ⟨(Lib.itoa n).toArray⟩) ∧ Below w.heap.size w w' := by
  by_cases hn : n < 0
  · have hi : Lib.itoa n = 45 :: Lib.decDigits n.natAbs := by unfold Lib.itoa; rw [if_pos hn]
    have HI := hide hi
    clear hi
    have ih' : ∀ w', Calls Tryd.prog 22 #[.int .i64 (-n)] w' fun e w'' => e = .returned (.string ⟨(Lib.decDigits n.natAbs).toArray⟩) ∧ Below w'.heap.size w' w'' := fun w' => by
      have h := digits_nat n.natAbs n.natAbs w' (Nat.le_refl _) (by omega)
      rw [show ((n.natAbs : Nat) : Int) = -n by omega] at h
      exact h
    have hl := dec_len n.natAbs (by omega)
    have hadd := fun w' => run_string_add_lists (P := Tryd.prog) w' [45] (Lib.decDigits n.natAbs) (by simp) (by omega)
    clear hl
    generalize Lib.decDigits n.natAbs = dd at *
    go_enter Tryd.func22, Tryd.ntmps22
    go_wp2_with fail
    go_at_call 22
    refine (ih' _).mono ?_
    rintro e w1 ⟨rfl, hb⟩
    go_wp2_with fail
    go_ret
    exact ⟨ret_str (unhide HI).symm, hb⟩
  · have h := digits_nat n.toNat n.toNat w (Nat.le_refl _) (by omega)
    rw [show ((n.toNat : Nat) : Int) = n by omega] at h
    have hi : Lib.itoa n = Lib.decDigits n.toNat := by unfold Lib.itoa; rw [if_neg hn]
    rw [hi]
    exact h
end Go.Proofs.YtplenmhkhaoapaaDoor.W
