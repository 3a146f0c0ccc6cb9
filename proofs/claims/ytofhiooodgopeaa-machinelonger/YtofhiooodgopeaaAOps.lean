/- Contracts of word.Op and of its reference: both answer opS, for every operation and every two words, and leave the world as it was. -/
import Derived.Test.YtofhiooodgopeaaALeaf
import Derived.Outline
namespace Go.Proofs.Ytofhiooodgopeaa.AW
open Go.RowKit Go.Proofs.Ytofhiooodgopeaa.AM
set_option linter.unusedVariables false

set_option maxHeartbeats 400000 in
theorem and_any (x y : Bool) (w : World) : Calls Try.prog 34 #[.bool x, .bool y] w fun e w' => e = .returned (.bool (x && y)) ∧ w' = w := by
  cases x <;> cases y
  all_goals
    go_enter Try.func34, Try.ntmps34
    go_wp2
    go_ret
    exact ⟨rfl, rfl⟩
set_option maxHeartbeats 400000 in
theorem or_any (x y : Bool) (w : World) : Calls Try.prog 35 #[.bool x, .bool y] w fun e w' => e = .returned (.bool (x || y)) ∧ w' = w := by
  cases x <;> cases y
  all_goals
    go_enter Try.func35, Try.ntmps35
    go_wp2
    go_ret
    exact ⟨rfl, rfl⟩
set_option maxHeartbeats 400000 in
theorem xor_any (x y : Bool) (w : World) : Calls Try.prog 36 #[.bool x, .bool y] w fun e w' => e = .returned (.bool (x != y)) ∧ w' = w := by
  cases x <;> cases y
  all_goals
    go_enter Try.func36, Try.ntmps36
    go_wp2
    go_ret
    exact ⟨rfl, rfl⟩

set_option maxHeartbeats 1000000 in
theorem bits_and (a b : Int) (w : World) (h0 : -2147483648 ≤ a) (h1 : a ≤ 2147483647) (h2 : -2147483648 ≤ b) (h3 : b ≤ 2147483647) :
    Calls Try.prog 33 #[.int .i32 a, .int .i32 b, .func (.func 34) #[] #[]] w fun e w' => e = .returned (.int .i32 (bits .and .i32 a b)) ∧ w' = w := by
  have B := hide (acc_and a b)
  generalize bits .and .i32 a b = r at *
  generalize hg : (fun x y : Bool => x && y) = g at B
  have G : Hid (∀ x y : Bool, g x y = (x && y)) := fun x y => by rw [← hg]
  clear hg
  go_enter Try.func33, Try.ntmps33
  go_wp2_with fail
  go_loop [7, 8, 9] (fun n p i => ∃ j : Nat, j ≤ 32 ∧ i = .int .i64 j ∧ n = .int .i64 (acc g (a % 4294967296) (b % 4294967296) j) ∧ p = .int .i64 (pw j)) (fun _ _ i => 32 - (intOf i).toNat)
  case atStart => exact ⟨0, Nat.zero_le _, rfl, rfl, rfl⟩
  case round =>
    obtain ⟨j, hj, rfl, rfl, rfl⟩ := hrel
    have hb := acc_bd g (a % 4294967296) (b % 4294967296) j
    have hp := pw_pos j
    have hq := pw_le j hj
    obtain ⟨hb0, hb1⟩ := hb
    by_cases hlt : j < 32
    · have S := hide (pw_succ j)
      have A : Hid (acc g (a % 4294967296) (b % 4294967296) (j + 1) = acc g (a % 4294967296) (b % 4294967296) j + if g (bitAt (a % 4294967296) j) (bitAt (b % 4294967296) j) then pw j else 0) := rfl
      have C := unhide G (bitAt (a % 4294967296) j) (bitAt (b % 4294967296) j)
      generalize g (bitAt (a % 4294967296) j) (bitAt (b % 4294967296) j) = c at A C
      have C' := hide C
      clear C
      go_wp2_with fail
      refine (free_any _ _ h0 h1).mono ?_
      rintro e w' ⟨rfl, rfl⟩
      go_wp2_with fail
      refine (bit_any _ _ _ (by omega) (by omega) (by omega)).mono ?_
      rintro e w' ⟨rfl, rfl⟩
      go_wp2_with fail
      refine (free_any _ _ h2 h3).mono ?_
      rintro e w' ⟨rfl, rfl⟩
      go_wp2_with fail
      refine (bit_any _ _ _ (by omega) (by omega) (by omega)).mono ?_
      rintro e w' ⟨rfl, rfl⟩
      go_wp2_with fail
      refine (and_any _ _ _).mono ?_
      rintro e w' ⟨rfl, rfl⟩
      rw [← unhide C']
      cases c
      all_goals
        go_wp2
        go_round
        case rel => exact ⟨j + 1, by omega, by go_num, by rw [unhide A]; simp, by rw [unhide S]⟩
        case measure => simp [intOf]; omega
    · have e : j = 32 := by omega
      subst e
      have e : pw 32 = 4294967296 := rfl
      rw [e] at hb1
      clear hp hq hlt e
      go_wp2_with (go_at_call 21; refine (word_any _ _ (by omega) (by omega)).mono ?_; rintro e w' ⟨rfl, rfl⟩)
      go_ret
      exact ⟨ret_int (unhide B), rfl⟩
set_option maxHeartbeats 1000000 in
theorem bits_or (a b : Int) (w : World) (h0 : -2147483648 ≤ a) (h1 : a ≤ 2147483647) (h2 : -2147483648 ≤ b) (h3 : b ≤ 2147483647) :
    Calls Try.prog 33 #[.int .i32 a, .int .i32 b, .func (.func 35) #[] #[]] w fun e w' => e = .returned (.int .i32 (bits .or .i32 a b)) ∧ w' = w := by
  have B := hide (acc_or a b)
  generalize bits .or .i32 a b = r at *
  generalize hg : (fun x y : Bool => x || y) = g at B
  have G : Hid (∀ x y : Bool, g x y = (x || y)) := fun x y => by rw [← hg]
  clear hg
  go_enter Try.func33, Try.ntmps33
  go_wp2_with fail
  go_loop [7, 8, 9] (fun n p i => ∃ j : Nat, j ≤ 32 ∧ i = .int .i64 j ∧ n = .int .i64 (acc g (a % 4294967296) (b % 4294967296) j) ∧ p = .int .i64 (pw j)) (fun _ _ i => 32 - (intOf i).toNat)
  case atStart => exact ⟨0, Nat.zero_le _, rfl, rfl, rfl⟩
  case round =>
    obtain ⟨j, hj, rfl, rfl, rfl⟩ := hrel
    have hb := acc_bd g (a % 4294967296) (b % 4294967296) j
    have hp := pw_pos j
    have hq := pw_le j hj
    obtain ⟨hb0, hb1⟩ := hb
    by_cases hlt : j < 32
    · have S := hide (pw_succ j)
      have A : Hid (acc g (a % 4294967296) (b % 4294967296) (j + 1) = acc g (a % 4294967296) (b % 4294967296) j + if g (bitAt (a % 4294967296) j) (bitAt (b % 4294967296) j) then pw j else 0) := rfl
      have C := unhide G (bitAt (a % 4294967296) j) (bitAt (b % 4294967296) j)
      generalize g (bitAt (a % 4294967296) j) (bitAt (b % 4294967296) j) = c at A C
      have C' := hide C
      clear C
      go_wp2_with fail
      refine (free_any _ _ h0 h1).mono ?_
      rintro e w' ⟨rfl, rfl⟩
      go_wp2_with fail
      refine (bit_any _ _ _ (by omega) (by omega) (by omega)).mono ?_
      rintro e w' ⟨rfl, rfl⟩
      go_wp2_with fail
      refine (free_any _ _ h2 h3).mono ?_
      rintro e w' ⟨rfl, rfl⟩
      go_wp2_with fail
      refine (bit_any _ _ _ (by omega) (by omega) (by omega)).mono ?_
      rintro e w' ⟨rfl, rfl⟩
      go_wp2_with fail
      refine (or_any _ _ _).mono ?_
      rintro e w' ⟨rfl, rfl⟩
      rw [← unhide C']
      cases c
      all_goals
        go_wp2
        go_round
        case rel => exact ⟨j + 1, by omega, by go_num, by rw [unhide A]; simp, by rw [unhide S]⟩
        case measure => simp [intOf]; omega
    · have e : j = 32 := by omega
      subst e
      have e : pw 32 = 4294967296 := rfl
      rw [e] at hb1
      clear hp hq hlt e
      go_wp2_with (go_at_call 21; refine (word_any _ _ (by omega) (by omega)).mono ?_; rintro e w' ⟨rfl, rfl⟩)
      go_ret
      exact ⟨ret_int (unhide B), rfl⟩
set_option maxHeartbeats 1000000 in
theorem bits_xor (a b : Int) (w : World) (h0 : -2147483648 ≤ a) (h1 : a ≤ 2147483647) (h2 : -2147483648 ≤ b) (h3 : b ≤ 2147483647) :
    Calls Try.prog 33 #[.int .i32 a, .int .i32 b, .func (.func 36) #[] #[]] w fun e w' => e = .returned (.int .i32 (bits .xor .i32 a b)) ∧ w' = w := by
  have B := hide (acc_xor a b)
  generalize bits .xor .i32 a b = r at *
  generalize hg : (fun x y : Bool => x != y) = g at B
  have G : Hid (∀ x y : Bool, g x y = (x != y)) := fun x y => by rw [← hg]
  clear hg
  go_enter Try.func33, Try.ntmps33
  go_wp2_with fail
  go_loop [7, 8, 9] (fun n p i => ∃ j : Nat, j ≤ 32 ∧ i = .int .i64 j ∧ n = .int .i64 (acc g (a % 4294967296) (b % 4294967296) j) ∧ p = .int .i64 (pw j)) (fun _ _ i => 32 - (intOf i).toNat)
  case atStart => exact ⟨0, Nat.zero_le _, rfl, rfl, rfl⟩
  case round =>
    obtain ⟨j, hj, rfl, rfl, rfl⟩ := hrel
    have hb := acc_bd g (a % 4294967296) (b % 4294967296) j
    have hp := pw_pos j
    have hq := pw_le j hj
    obtain ⟨hb0, hb1⟩ := hb
    by_cases hlt : j < 32
    · have S := hide (pw_succ j)
      have A : Hid (acc g (a % 4294967296) (b % 4294967296) (j + 1) = acc g (a % 4294967296) (b % 4294967296) j + if g (bitAt (a % 4294967296) j) (bitAt (b % 4294967296) j) then pw j else 0) := rfl
      have C := unhide G (bitAt (a % 4294967296) j) (bitAt (b % 4294967296) j)
      generalize g (bitAt (a % 4294967296) j) (bitAt (b % 4294967296) j) = c at A C
      have C' := hide C
      clear C
      go_wp2_with fail
      refine (free_any _ _ h0 h1).mono ?_
      rintro e w' ⟨rfl, rfl⟩
      go_wp2_with fail
      refine (bit_any _ _ _ (by omega) (by omega) (by omega)).mono ?_
      rintro e w' ⟨rfl, rfl⟩
      go_wp2_with fail
      refine (free_any _ _ h2 h3).mono ?_
      rintro e w' ⟨rfl, rfl⟩
      go_wp2_with fail
      refine (bit_any _ _ _ (by omega) (by omega) (by omega)).mono ?_
      rintro e w' ⟨rfl, rfl⟩
      go_wp2_with fail
      refine (xor_any _ _ _).mono ?_
      rintro e w' ⟨rfl, rfl⟩
      rw [← unhide C']
      cases c
      all_goals
        go_wp2
        go_round
        case rel => exact ⟨j + 1, by omega, by go_num, by rw [unhide A]; simp, by rw [unhide S]⟩
        case measure => simp [intOf]; omega
    · have e : j = 32 := by omega
      subst e
      have e : pw 32 = 4294967296 := rfl
      rw [e] at hb1
      clear hp hq hlt e
      go_wp2_with (go_at_call 21; refine (word_any _ _ (by omega) (by omega)).mono ?_; rintro e w' ⟨rfl, rfl⟩)
      go_ret
      exact ⟨ret_int (unhide B), rfl⟩
end Go.Proofs.Ytofhiooodgopeaa.AW
