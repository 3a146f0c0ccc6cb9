/- The contract of the reference's number. -/
import Derived.Test.YtplenmhkhaoapaaDoorRdd
namespace Go.Proofs.YtplenmhkhaoapaaDoor.M
/-- The number of up to f digits at a list's head, and how many they are. -/
def numV : Nat → List UInt8 → Nat → Nat
  | 0, _, acc => acc
  | _ + 1, [], acc => acc
  | f + 1, c :: l, acc => if 48 ≤ c.toNat ∧ c.toNat ≤ 57 then numV f l (10 * acc + (c.toNat - 48)) else acc
def numC : Nat → List UInt8 → Nat
  | 0, _ => 0
  | _ + 1, [] => 0
  | f + 1, c :: l => if 48 ≤ c.toNat ∧ c.toNat ≤ 57 then numC f l + 1 else 0
theorem num_step {f : Nat} {c : UInt8} {l : List UInt8} {acc : Nat} (h : 48 ≤ c.toNat ∧ c.toNat ≤ 57) : numV (f + 1) (c :: l) acc = numV f l (10 * acc + (c.toNat - 48)) ∧ numC (f + 1) (c :: l) = numC f l + 1 := by
  simp [numV, numC, h]
theorem num_stop {f : Nat} {c : UInt8} {l : List UInt8} {acc : Nat} (h : ¬ (48 ≤ c.toNat ∧ c.toNat ≤ 57)) : numV f (c :: l) acc = acc ∧ numC f (c :: l) = 0 := by
  cases f <;> simp [numV, numC, h]
theorem num_nil {f acc : Nat} : numV f [] acc = acc ∧ numC f [] = 0 := by cases f <;> simp [numV, numC]
theorem num_zero {l : List UInt8} {acc : Nat} : numV 0 l acc = acc ∧ numC 0 l = 0 := by cases l <;> simp [numV, numC]
theorem numV_le : ∀ (f : Nat) (l : List UInt8) (acc : Nat), numV f l acc < (acc + 1) * 10 ^ f
  | 0, l, acc => by rw [num_zero.1]; simp
  | f + 1, [], acc => by
    rw [num_nil.1]
    have : 1 ≤ 10 ^ (f + 1) := Nat.one_le_pow _ _ (by omega)
    have := Nat.mul_le_mul_left (acc + 1) this
    omega
  | f + 1, c :: l, acc => by
    by_cases h : 48 ≤ c.toNat ∧ c.toNat ≤ 57
    · rw [(num_step h).1]
      have h1 := numV_le f l (10 * acc + (c.toNat - 48))
      have h2 : (10 * acc + (c.toNat - 48) + 1) * 10 ^ f ≤ (10 * (acc + 1)) * 10 ^ f := Nat.mul_le_mul_right _ (by omega)
      have h3 : (10 * (acc + 1)) * 10 ^ f = (acc + 1) * 10 ^ (f + 1) := by rw [Nat.pow_succ]; rw [Nat.mul_comm 10, Nat.mul_assoc, Nat.mul_comm 10]
      omega
    · rw [(num_stop h).1]
      have : 1 ≤ 10 ^ (f + 1) := Nat.one_le_pow _ _ (by omega)
      have := Nat.mul_le_mul_left (acc + 1) this
      omega
theorem numC_le (f : Nat) (l : List UInt8) : numC f l ≤ l.length := by
  induction f generalizing l with
  | zero => rw [(num_zero (acc := 0)).2]; omega
  | succ f ih =>
    cases l with
    | nil => rw [(num_nil (acc := 0)).2]; omega
    | cons c l =>
      by_cases h : 48 ≤ c.toNat ∧ c.toNat ≤ 57
      · rw [(num_step (acc := 0) h).2]; have := ih l; simp; omega
      · rw [(num_stop (acc := 0) h).2]; omega
end Go.Proofs.YtplenmhkhaoapaaDoor.M
namespace Go.Proofs.YtplenmhkhaoapaaDoor.W
open Go.RowKit Go.Proofs.YtplenmhkhaoapaaDoor.M
set_option linter.unusedVariables false

theorem ret_num {a b c d : Int} {e f : Bool} (h : a = b) (g : c = d) (k : e = f) : Ending.returned (.tuple #[.int .i64 a, .int .i64 c, .bool e]) = .returned (.tuple #[.int .i64 b, .int .i64 d, .bool f]) := by rw [h, g, k]

set_option maxRecDepth 100000 in
set_option maxHeartbeats 2000000 in
theorem number_any (s : ByteArray) (at0 : Nat) (w : World) (hs : s.size ≤ 140737488355328) (hat : at0 ≤ s.size) :
    Calls Tryd.prog 28 #[.string s, .int .i64 at0] w fun e w' => e = .returned (.tuple #[.int .i64 (numV 6 (s.data.toList.drop at0) 0 : Nat), .int .i64 ((at0 + numC 6 (s.data.toList.drop at0) : Nat) : Int), .bool (decide (0 < numC 6 (s.data.toList.drop at0)))]) ∧ w' = w := by
  obtain ⟨V, hV⟩ : ∃ V, numV 6 (s.data.toList.drop at0) 0 = V := ⟨_, rfl⟩
  obtain ⟨C, hC⟩ : ∃ C, numC 6 (s.data.toList.drop at0) = C := ⟨_, rfl⟩
  rw [hV, hC]
  have HV := hide hV
  have HC := hide hC
  clear hV hC
  go_enter Tryd.func28, Tryd.ntmps28
  go_wp2
  go_loop [1, 7] (fun x q => ∃ p acc : Nat, at0 ≤ p ∧ p ≤ at0 + 6 ∧ p ≤ s.size ∧ acc < 10 ^ (p - at0) ∧ x = .int .i64 p ∧ q = .int .i64 acc ∧ Hid (numV (6 - (p - at0)) (s.data.toList.drop p) acc = V ∧ (p - at0) + numC (6 - (p - at0)) (s.data.toList.drop p) = C)) (fun x _ => s.size + 1 - (intOf x).toNat)
  case atStart => exact ⟨at0, 0, by omega, by omega, by omega, by simp, rfl, rfl, by rw [Nat.sub_self]; exact unhide HV, by rw [Nat.sub_self, Nat.zero_add]; exact unhide HC⟩
  case round =>
    obtain ⟨p, acc, hp0, hp6, hle, hac2, rfl, rfl, HN⟩ := hrel
    have hac : acc ≤ 1000000 := by
      have : 10 ^ (p - at0) ≤ 10 ^ 6 := Nat.pow_le_pow_right (by omega) (by omega)
      omega
    have HA := hide hac2
    clear hac2
    by_cases hlt : p < s.size
    · have HD : Hid (s.data.toList.drop p = s[p] :: s.data.toList.drop (p + 1)) := List.drop_eq_getElem_cons (by simpa using hlt)
      by_cases h48 : (48 : Int) ≤ (s[p].toNat : Int)
      · by_cases h57 : (s[p].toNat : Int) ≤ 57
        · by_cases h6 : (p : Int) - (at0 : Int) < 6
          · have HS := hide (num_step (f := 6 - (p + 1 - at0)) (c := s[p]) (l := s.data.toList.drop (p + 1)) (acc := acc) ⟨by omega, by omega⟩)
            have hwr : (s[p].toNat : Int) - 48 = ((s[p].toNat - 48 : Nat) : Int) := by omega
            have HW := hide hwr
            clear hwr
            go_wp2
            go_round
            case rel =>
              obtain ⟨n1, n2⟩ := unhide HN
              obtain ⟨s1, s2⟩ := unhide HS
              have e6 : 6 - (p - at0) = 6 - (p + 1 - at0) + 1 := by omega
              rw [unhide HD, e6, s1] at n1
              rw [unhide HD, e6, s2] at n2
              refine ⟨p + 1, 10 * acc + (s[p].toNat - 48), by omega, by omega, by omega, ?_, by go_num, ?_, n1, by omega⟩
              · rw [show p + 1 - at0 = (p - at0) + 1 by omega, Nat.pow_succ]
                have := unhide HA
                omega
              · have := unhide HW
                first | go_num | (congr 1; omega)
            case measure => simp [intOf]; omega
          · go_wp2
            go_ret3
            obtain ⟨n1, n2⟩ := unhide HN
            have e0 : 6 - (p - at0) = 0 := by omega
            rw [e0, (num_zero).1] at n1
            rw [e0, (num_zero (acc := 0)).2] at n2
            exact ⟨ret_num (by omega) (by omega) (by simp; omega), rfl⟩
        · have HS := hide (num_stop (f := 6 - (p - at0)) (c := s[p]) (l := s.data.toList.drop (p + 1)) (acc := acc) (by omega))
          go_wp2
          go_ret3
          obtain ⟨n1, n2⟩ := unhide HN
          obtain ⟨s1, s2⟩ := unhide HS
          rw [unhide HD, s1] at n1
          rw [unhide HD, s2] at n2
          exact ⟨ret_num (by omega) (by omega) (by simp; omega), rfl⟩
      · have HS := hide (num_stop (f := 6 - (p - at0)) (c := s[p]) (l := s.data.toList.drop (p + 1)) (acc := acc) (by omega))
        go_wp2
        go_ret3
        obtain ⟨n1, n2⟩ := unhide HN
        obtain ⟨s1, s2⟩ := unhide HS
        rw [unhide HD, s1] at n1
        rw [unhide HD, s2] at n2
        exact ⟨ret_num (by omega) (by omega) (by simp; omega), rfl⟩
    · have hsl : s.data.toList.length = s.size := by rw [Array.length_toList]; rfl
      have HD : Hid (s.data.toList.drop p = []) := List.drop_of_length_le (by omega)
      clear hsl
      go_wp2
      go_ret3
      obtain ⟨n1, n2⟩ := unhide HN
      rw [unhide HD, (num_nil).1] at n1
      rw [unhide HD, (num_nil (acc := 0)).2] at n2
      exact ⟨ret_num (by omega) (by omega) (by simp; omega), rfl⟩
end Go.Proofs.YtplenmhkhaoapaaDoor.W
