/- The road of WordMade: what is reckoned of two longs is made of what is reckoned of their words; for every two longs the call returns true and leaves the world as it was. -/
import Derived.Test.YtkbepnaioohokaaRwide
namespace Go.Proofs.Ytkbepnaioohokaa.W
open Go.RowKit Go.Proofs.Ytkbepnaioohokaa.M
set_option linter.unusedVariables false

def R (x : Int) : Prop := -2147483648 ≤ x ∧ x ≤ 2147483647
theorem R_low (a : Int) : R (wrap32 a) := wrap_bd a
theorem R_high (a : Int) (h0 : -9223372036854775808 ≤ a) (h1 : a ≤ 9223372036854775807) : R (a / 4294967296) := by unfold R; omega
theorem R_ite (c : Prop) [Decidable c] (x y : Int) (hx : c → R x) (hy : ¬ c → R y) : R (if c then x else y) := by
  by_cases h : c
  · rw [if_pos h]; exact hx h
  · rw [if_neg h]; exact hy h
theorem R_op (k x y : Int) (hx : R x) (hy : R y) : R (opN k x y) := by
  have z : R 0 := ⟨by omega, by omega⟩
  have o : R 1 := ⟨by omega, by omega⟩
  unfold opN
  refine R_ite _ _ _ (fun _ => R_low _) fun _ => ?_
  refine R_ite _ _ _ (fun _ => R_low _) fun _ => ?_
  refine R_ite _ _ _ (fun _ => R_low _) fun _ => ?_
  refine R_ite _ _ _ (fun _ => R_low _) fun _ => ?_
  refine R_ite _ _ _ (fun _ => R_ite _ _ _ (fun _ => z) (fun _ => R_low _)) fun _ => ?_
  refine R_ite _ _ _ (fun _ => R_ite _ _ _ (fun _ => z) (fun _ => tmod_bd x y hx.1 hx.2)) fun _ => ?_
  refine R_ite _ _ _ (fun _ => by rw [(bits32 x y).1]; exact R_low _) fun _ => ?_
  refine R_ite _ _ _ (fun _ => by rw [(bits32 x y).2.1]; exact R_low _) fun _ => ?_
  refine R_ite _ _ _ (fun _ => by rw [(bits32 x y).2.2]; exact R_low _) fun _ => ?_
  refine R_ite _ _ _ (fun _ => R_ite _ _ _ (fun _ => o) (fun _ => z)) fun _ => ?_
  refine R_ite _ _ _ (fun _ => R_ite _ _ _ (fun _ => o) (fun _ => z)) fun _ => ?_
  exact R_ite _ _ _ (fun _ => R_ite _ _ _ (fun _ => o) (fun _ => z)) fun _ => z

set_option maxHeartbeats 400000 in
theorem kop (k x y : Int) (w : World) (hx : R x) (hy : R y) :
    Calls Try.prog 15 #[.int .i64 k, .int .i32 x, .int .i32 y] w fun e w' => e = .returned (.int .i32 (opN k x y)) ∧ w' = w := by
  go_enter Try.func15, Try.ntmps15
  go_wp2_with (go_at_call 7; refine (wop_any _ _ _ _ hx.1 hx.2 hy.1 hy.2).mono ?_; rintro e w' ⟨rfl, rfl⟩)
  go_ret
  exact ⟨rfl, rfl⟩
theorem kjoin (x y : Int) (w : World) (hx : R x) (hy : R y) :
    Calls Try.prog 13 #[.int .i32 x, .int .i32 y] w fun e w' => e = .returned (.int .i64 (y * 4294967296 + x % 4294967296)) ∧ w' = w :=
  join_any x y w hx.1 hx.2 hy.1 hy.2

theorem made_join (a : Int) : a / 4294967296 * 4294967296 + wrap32 a % 4294967296 = a := by rw [w32]; omega
theorem made_add (a b : Int) : opN 1 (opN 1 (a / 4294967296) (b / 4294967296)) (opN 11 (opN 1 (wrap32 a) (wrap32 b)) (wrap32 a)) * 4294967296 + opN 1 (wrap32 a) (wrap32 b) % 4294967296 = wideN 1 a b := by
  show wrap32 (wrap32 (a / 4294967296 + b / 4294967296) + (if wrap32 (wrap32 a + wrap32 b) % 4294967296 < wrap32 a % 4294967296 then 1 else 0)) * 4294967296 + wrap32 (wrap32 a + wrap32 b) % 4294967296 = wrap64 (a + b)
  simp only [w32, w64]
  split <;> omega
theorem made_sub (a b : Int) : opN 2 (opN 2 (a / 4294967296) (b / 4294967296)) (opN 11 (wrap32 a) (wrap32 b)) * 4294967296 + opN 2 (wrap32 a) (wrap32 b) % 4294967296 = wideN 2 a b := by
  show wrap32 (wrap32 (a / 4294967296 - b / 4294967296) - (if wrap32 a % 4294967296 < wrap32 b % 4294967296 then 1 else 0)) * 4294967296 + wrap32 (wrap32 a - wrap32 b) % 4294967296 = wrap64 (a - b)
  simp only [w32, w64]
  split <;> omega
theorem wrap_mul (x y : Int) : wrap32 (x * y) = wrap32 ((x % 4294967296) * (y % 4294967296)) := by
  rw [← wrap_cut (x * y), ← wrap_cut (x % 4294967296 * (y % 4294967296)), mul_cut]
theorem made_mul (a b : Int) : opN 1 (opN 4 (wrap32 a) (wrap32 b)) (opN 1 (opN 3 (wrap32 a) (b / 4294967296)) (opN 3 (a / 4294967296) (wrap32 b))) * 4294967296 + opN 3 (wrap32 a) (wrap32 b) % 4294967296 = wideN 3 a b := by
  show wrap32 (wrap32 ((wrap32 a % 4294967296) * (wrap32 b % 4294967296) / 4294967296) + wrap32 (wrap32 (wrap32 a * (b / 4294967296)) + wrap32 (a / 4294967296 * wrap32 b))) * 4294967296 + wrap32 (wrap32 a * wrap32 b) % 4294967296 = wrap64 (a * b)
  rw [wrap_mul (wrap32 a) (b / 4294967296), wrap_mul (a / 4294967296) (wrap32 b), wrap_mul (wrap32 a) (wrap32 b), free_low, free_low, free_low, ← wide_mul]
  generalize a / 4294967296 % 4294967296 * (b % 4294967296) = r
  generalize a % 4294967296 * (b / 4294967296 % 4294967296) = q
  generalize a % 4294967296 * (b % 4294967296) = p
  simp only [w32]
  omega
theorem made_less (a b : Int) : opN 8 (opN 10 (a / 4294967296) (b / 4294967296)) (opN 7 (opN 12 (a / 4294967296) (b / 4294967296)) (opN 11 (wrap32 a) (wrap32 b))) = wideN 10 a b := by
  show bits .or .i32 (if a / 4294967296 < b / 4294967296 then 1 else 0) (bits .and .i32 (if a / 4294967296 = b / 4294967296 then 1 else 0) (if wrap32 a % 4294967296 < wrap32 b % 4294967296 then 1 else 0)) = if a < b then 1 else 0
  rw [free_low, free_low]
  by_cases c1 : a / 4294967296 < b / 4294967296
  · rw [if_pos c1, if_neg (by omega), if_pos (show a < b by omega)]
    split <;> rfl
  · rw [if_neg c1]
    by_cases c2 : a / 4294967296 = b / 4294967296
    · rw [if_pos c2]
      by_cases c3 : a % 4294967296 < b % 4294967296
      · rw [if_pos c3, if_pos (show a < b by omega)]; rfl
      · rw [if_neg c3, if_neg (show ¬ a < b by omega)]; rfl
    · rw [if_neg c2, if_neg (show ¬ a < b by omega)]
      split <;> rfl
theorem less_bd (a b : Int) : 0 ≤ wideN 10 a b ∧ wideN 10 a b ≤ 1 := by
  show 0 ≤ (if a < b then (1 : Int) else 0) ∧ (if a < b then (1 : Int) else 0) ≤ 1
  split <;> omega

set_option maxRecDepth 100000 in
set_option maxHeartbeats 4000000 in
theorem made (a b : Int) (w : World) (h0 : -9223372036854775808 ≤ a) (h1 : a ≤ 9223372036854775807) (h2 : -9223372036854775808 ≤ b) (h3 : b ≤ 9223372036854775807) :
    Calls Try.prog 6 #[.int .i64 a, .int .i64 b] w fun e w' => e = .returned (.bool true) ∧ w' = w := by
  have Ha := R_high a h0 h1
  have Hb := R_high b h2 h3
  have ja := made_join a
  have jb := made_join b
  have m1 := made_add a b
  have m2 := made_sub a b
  have m3 := made_mul a b
  have m4 := made_less a b
  have t1 : wideB 1 = true := rfl
  have t2 : wideB 2 = true := rfl
  have t3 : wideB 3 = true := rfl
  have t4 : wideB 10 = true := rfl
  obtain ⟨v0, v1⟩ := less_bd a b
  go_enter Try.func6, Try.ntmps6
  go_wp2_with (first | (go_at_call 11; refine (split_any _ _ (by assumption) (by assumption)).mono ?_; rintro e w' ⟨rfl, rfl⟩) | (go_at_call 9; refine (wwide_any _ _ _ _ h0 h1 h2 h3).mono ?_; rintro e w' ⟨rfl, rfl⟩) | (go_at_call 15; refine (kop _ _ _ _ (by repeat' (first | exact R_low _ | exact Ha | exact Hb | apply R_op)) (by repeat' (first | exact R_low _ | exact Ha | exact Hb | apply R_op))).mono ?_; rintro e w' ⟨rfl, rfl⟩) | (go_at_call 13; refine (kjoin _ _ _ (by repeat' (first | exact R_low _ | exact Ha | exact Hb | apply R_op)) (by repeat' (first | exact R_low _ | exact Ha | exact Hb | apply R_op))).mono ?_; rintro e w' ⟨rfl, rfl⟩))
  go_ret
  exact ⟨rfl, rfl⟩
end Go.Proofs.Ytkbepnaioohokaa.W
