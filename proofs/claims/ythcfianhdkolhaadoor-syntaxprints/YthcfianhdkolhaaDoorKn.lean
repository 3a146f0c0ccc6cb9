/- What know asks, and which nodes are a unit's. No walk. -/
import Derived.Test.YthcfianhdkolhaaDoorParts
namespace Go.Proofs.YthcfianhdkolhaaDoor.T
open Go.RowKit Go.Proofs.YthcfianhdkolhaaDoor.S
set_option linter.unusedVariables false
set_option linter.unusedSimpArgs false
theorem kn_iff {k : Int} {t : List UInt8} {v : Int} {n : Nat} : knB k t v n = true ↔ (1 ≤ k ∧ k ≤ 34) ∧ txtB (shp k.toNat).1 t = true ∧ 0 ≤ v ∧ v ≤ (shp k.toNat).2.1 ∧ (shp k.toNat).2.2.1 ≤ n ∧ (n : Int) ≤ (shp k.toNat).2.2.2 := by
  unfold knB
  simp only [Bool.and_eq_true, decide_eq_true_eq, and_assoc]
theorem loc_kn {k : Int} {t : List UInt8} {v : Int} {kids : List Nd} (hn : kids.length ≤ 700) (hv : v ≤ 9223372036854775807) : locN k t v kids false = true ↔ knB k t v kids.length = true ∧ (k = 32 → opSign v ≠ []) ∧ (k = 15 → baseN false (kid0 kids) = 23) ∧ (k = 20 → (kid0 kids).kind = 25 ∧ baseN true (kid0 kids) = 23) := by
  by_cases hk : 1 ≤ k ∧ k ≤ 34
  · have hc : k = 1 ∨ k = 2 ∨ k = 3 ∨ k = 4 ∨ k = 5 ∨ k = 6 ∨ k = 7 ∨ k = 8 ∨ k = 9 ∨ k = 10 ∨ k = 11 ∨ k = 12 ∨ k = 13 ∨ k = 14 ∨ k = 15 ∨ k = 16 ∨ k = 17 ∨ k = 18 ∨ k = 19 ∨ k = 20 ∨ k = 21 ∨ k = 22 ∨ k = 23 ∨ k = 24 ∨ k = 25 ∨ k = 26 ∨ k = 27 ∨ k = 28 ∨ k = 29 ∨ k = 30 ∨ k = 31 ∨ k = 32 ∨ k = 33 ∨ k = 34 := by omega
    rcases hc with rfl | rfl | rfl | rfl | rfl | rfl | rfl | rfl | rfl | rfl | rfl | rfl | rfl | rfl | rfl | rfl | rfl | rfl | rfl | rfl | rfl | rfl | rfl | rfl | rfl | rfl | rfl | rfl | rfl | rfl | rfl | rfl | rfl | rfl
    · rw [loc_iff (t := false) (mx := 0) (least := 0) (most := -1) (by rfl), kn_iff, abs_f, show shp (Int.toNat 1) = (false, 0, 0, 700) from rfl]
      constructor
      · rintro ⟨⟨c1, c2⟩, tx, ⟨n1, n2, n3⟩, r⟩
        exact ⟨⟨by decide, tx, n1, by first | exact n2 (by decide) | exact n3 rfl | exact hv, c1, by first | exact c2 (by decide) | (show (kids.length : Int) ≤ 700; omega)⟩, r⟩
      · rintro ⟨⟨-, tx, n1, n2, c1, c2⟩, r⟩
        exact ⟨⟨c1, fun _ => by first | exact c2 | omega⟩, tx, ⟨n1, fun _ => by first | exact n2 | omega, fun _ => by first | exact n2 | omega⟩, r⟩
    · rw [loc_iff (t := true) (mx := 0) (least := 1) (most := -1) (by rfl), kn_iff, abs_f, show shp (Int.toNat 2) = (true, 0, 1, 700) from rfl]
      constructor
      · rintro ⟨⟨c1, c2⟩, tx, ⟨n1, n2, n3⟩, r⟩
        exact ⟨⟨by decide, tx, n1, by first | exact n2 (by decide) | exact n3 rfl | exact hv, c1, by first | exact c2 (by decide) | (show (kids.length : Int) ≤ 700; omega)⟩, r⟩
      · rintro ⟨⟨-, tx, n1, n2, c1, c2⟩, r⟩
        exact ⟨⟨c1, fun _ => by first | exact c2 | omega⟩, tx, ⟨n1, fun _ => by first | exact n2 | omega, fun _ => by first | exact n2 | omega⟩, r⟩
    · rw [loc_iff (t := true) (mx := 0) (least := 1) (most := 1) (by rfl), kn_iff, abs_f, show shp (Int.toNat 3) = (true, 0, 1, 1) from rfl]
      constructor
      · rintro ⟨⟨c1, c2⟩, tx, ⟨n1, n2, n3⟩, r⟩
        exact ⟨⟨by decide, tx, n1, by first | exact n2 (by decide) | exact n3 rfl | exact hv, c1, by first | exact c2 (by decide) | (show (kids.length : Int) ≤ 700; omega)⟩, r⟩
      · rintro ⟨⟨-, tx, n1, n2, c1, c2⟩, r⟩
        exact ⟨⟨c1, fun _ => by first | exact c2 | omega⟩, tx, ⟨n1, fun _ => by first | exact n2 | omega, fun _ => by first | exact n2 | omega⟩, r⟩
    · rw [loc_iff (t := true) (mx := 1) (least := 1) (most := -1) (by rfl), kn_iff, abs_f, show shp (Int.toNat 4) = (true, 1, 1, 700) from rfl]
      constructor
      · rintro ⟨⟨c1, c2⟩, tx, ⟨n1, n2, n3⟩, r⟩
        exact ⟨⟨by decide, tx, n1, by first | exact n2 (by decide) | exact n3 rfl | exact hv, c1, by first | exact c2 (by decide) | (show (kids.length : Int) ≤ 700; omega)⟩, r⟩
      · rintro ⟨⟨-, tx, n1, n2, c1, c2⟩, r⟩
        exact ⟨⟨c1, fun _ => by first | exact c2 | omega⟩, tx, ⟨n1, fun _ => by first | exact n2 | omega, fun _ => by first | exact n2 | omega⟩, r⟩
    · rw [loc_iff (t := true) (mx := 0) (least := 1) (most := 1) (by rfl), kn_iff, abs_f, show shp (Int.toNat 5) = (true, 0, 1, 1) from rfl]
      constructor
      · rintro ⟨⟨c1, c2⟩, tx, ⟨n1, n2, n3⟩, r⟩
        exact ⟨⟨by decide, tx, n1, by first | exact n2 (by decide) | exact n3 rfl | exact hv, c1, by first | exact c2 (by decide) | (show (kids.length : Int) ≤ 700; omega)⟩, r⟩
      · rintro ⟨⟨-, tx, n1, n2, c1, c2⟩, r⟩
        exact ⟨⟨c1, fun _ => by first | exact c2 | omega⟩, tx, ⟨n1, fun _ => by first | exact n2 | omega, fun _ => by first | exact n2 | omega⟩, r⟩
    · rw [loc_iff (t := true) (mx := 1) (least := 2) (most := 2) (by rfl), kn_iff, abs_f, show shp (Int.toNat 6) = (true, 1, 2, 2) from rfl]
      constructor
      · rintro ⟨⟨c1, c2⟩, tx, ⟨n1, n2, n3⟩, r⟩
        exact ⟨⟨by decide, tx, n1, by first | exact n2 (by decide) | exact n3 rfl | exact hv, c1, by first | exact c2 (by decide) | (show (kids.length : Int) ≤ 700; omega)⟩, r⟩
      · rintro ⟨⟨-, tx, n1, n2, c1, c2⟩, r⟩
        exact ⟨⟨c1, fun _ => by first | exact c2 | omega⟩, tx, ⟨n1, fun _ => by first | exact n2 | omega, fun _ => by first | exact n2 | omega⟩, r⟩
    · rw [loc_iff (t := true) (mx := 3) (least := 2) (most := -1) (by rfl), kn_iff, abs_f, show shp (Int.toNat 7) = (true, 3, 2, 700) from rfl]
      constructor
      · rintro ⟨⟨c1, c2⟩, tx, ⟨n1, n2, n3⟩, r⟩
        exact ⟨⟨by decide, tx, n1, by first | exact n2 (by decide) | exact n3 rfl | exact hv, c1, by first | exact c2 (by decide) | (show (kids.length : Int) ≤ 700; omega)⟩, r⟩
      · rintro ⟨⟨-, tx, n1, n2, c1, c2⟩, r⟩
        exact ⟨⟨c1, fun _ => by first | exact c2 | omega⟩, tx, ⟨n1, fun _ => by first | exact n2 | omega, fun _ => by first | exact n2 | omega⟩, r⟩
    · rw [loc_iff (t := true) (mx := 0) (least := 1) (most := 1) (by rfl), kn_iff, abs_f, show shp (Int.toNat 8) = (true, 0, 1, 1) from rfl]
      constructor
      · rintro ⟨⟨c1, c2⟩, tx, ⟨n1, n2, n3⟩, r⟩
        exact ⟨⟨by decide, tx, n1, by first | exact n2 (by decide) | exact n3 rfl | exact hv, c1, by first | exact c2 (by decide) | (show (kids.length : Int) ≤ 700; omega)⟩, r⟩
      · rintro ⟨⟨-, tx, n1, n2, c1, c2⟩, r⟩
        exact ⟨⟨c1, fun _ => by first | exact c2 | omega⟩, tx, ⟨n1, fun _ => by first | exact n2 | omega, fun _ => by first | exact n2 | omega⟩, r⟩
    · rw [loc_iff (t := false) (mx := 0) (least := 0) (most := 0) (by rfl), kn_iff, abs_f, show shp (Int.toNat 9) = (false, 0, 0, 0) from rfl]
      constructor
      · rintro ⟨⟨c1, c2⟩, tx, ⟨n1, n2, n3⟩, r⟩
        exact ⟨⟨by decide, tx, n1, by first | exact n2 (by decide) | exact n3 rfl | exact hv, c1, by first | exact c2 (by decide) | (show (kids.length : Int) ≤ 700; omega)⟩, r⟩
      · rintro ⟨⟨-, tx, n1, n2, c1, c2⟩, r⟩
        exact ⟨⟨c1, fun _ => by first | exact c2 | omega⟩, tx, ⟨n1, fun _ => by first | exact n2 | omega, fun _ => by first | exact n2 | omega⟩, r⟩
    · rw [loc_iff (t := false) (mx := 0) (least := 0) (most := 0) (by rfl), kn_iff, abs_f, show shp (Int.toNat 10) = (false, 0, 0, 0) from rfl]
      constructor
      · rintro ⟨⟨c1, c2⟩, tx, ⟨n1, n2, n3⟩, r⟩
        exact ⟨⟨by decide, tx, n1, by first | exact n2 (by decide) | exact n3 rfl | exact hv, c1, by first | exact c2 (by decide) | (show (kids.length : Int) ≤ 700; omega)⟩, r⟩
      · rintro ⟨⟨-, tx, n1, n2, c1, c2⟩, r⟩
        exact ⟨⟨c1, fun _ => by first | exact c2 | omega⟩, tx, ⟨n1, fun _ => by first | exact n2 | omega, fun _ => by first | exact n2 | omega⟩, r⟩
    · rw [loc_iff (t := true) (mx := 0) (least := 0) (most := 0) (by rfl), kn_iff, abs_f, show shp (Int.toNat 11) = (true, 0, 0, 0) from rfl]
      constructor
      · rintro ⟨⟨c1, c2⟩, tx, ⟨n1, n2, n3⟩, r⟩
        exact ⟨⟨by decide, tx, n1, by first | exact n2 (by decide) | exact n3 rfl | exact hv, c1, by first | exact c2 (by decide) | (show (kids.length : Int) ≤ 700; omega)⟩, r⟩
      · rintro ⟨⟨-, tx, n1, n2, c1, c2⟩, r⟩
        exact ⟨⟨c1, fun _ => by first | exact c2 | omega⟩, tx, ⟨n1, fun _ => by first | exact n2 | omega, fun _ => by first | exact n2 | omega⟩, r⟩
    · rw [loc_iff (t := false) (mx := 1) (least := 1) (most := -1) (by rfl), kn_iff, abs_f, show shp (Int.toNat 12) = (false, 1, 1, 700) from rfl]
      constructor
      · rintro ⟨⟨c1, c2⟩, tx, ⟨n1, n2, n3⟩, r⟩
        exact ⟨⟨by decide, tx, n1, by first | exact n2 (by decide) | exact n3 rfl | exact hv, c1, by first | exact c2 (by decide) | (show (kids.length : Int) ≤ 700; omega)⟩, r⟩
      · rintro ⟨⟨-, tx, n1, n2, c1, c2⟩, r⟩
        exact ⟨⟨c1, fun _ => by first | exact c2 | omega⟩, tx, ⟨n1, fun _ => by first | exact n2 | omega, fun _ => by first | exact n2 | omega⟩, r⟩
    · rw [loc_iff (t := false) (mx := 0) (least := 0) (most := -1) (by rfl), kn_iff, abs_f, show shp (Int.toNat 13) = (false, 0, 0, 700) from rfl]
      constructor
      · rintro ⟨⟨c1, c2⟩, tx, ⟨n1, n2, n3⟩, r⟩
        exact ⟨⟨by decide, tx, n1, by first | exact n2 (by decide) | exact n3 rfl | exact hv, c1, by first | exact c2 (by decide) | (show (kids.length : Int) ≤ 700; omega)⟩, r⟩
      · rintro ⟨⟨-, tx, n1, n2, c1, c2⟩, r⟩
        exact ⟨⟨c1, fun _ => by first | exact c2 | omega⟩, tx, ⟨n1, fun _ => by first | exact n2 | omega, fun _ => by first | exact n2 | omega⟩, r⟩
    · rw [loc_iff (t := true) (mx := 0) (least := 2) (most := 2) (by rfl), kn_iff, abs_f, show shp (Int.toNat 14) = (true, 0, 2, 2) from rfl]
      constructor
      · rintro ⟨⟨c1, c2⟩, tx, ⟨n1, n2, n3⟩, r⟩
        exact ⟨⟨by decide, tx, n1, by first | exact n2 (by decide) | exact n3 rfl | exact hv, c1, by first | exact c2 (by decide) | (show (kids.length : Int) ≤ 700; omega)⟩, r⟩
      · rintro ⟨⟨-, tx, n1, n2, c1, c2⟩, r⟩
        exact ⟨⟨c1, fun _ => by first | exact c2 | omega⟩, tx, ⟨n1, fun _ => by first | exact n2 | omega, fun _ => by first | exact n2 | omega⟩, r⟩
    · rw [loc_iff (t := false) (mx := 0) (least := 2) (most := 2) (by rfl), kn_iff, abs_f, show shp (Int.toNat 15) = (false, 0, 2, 2) from rfl]
      constructor
      · rintro ⟨⟨c1, c2⟩, tx, ⟨n1, n2, n3⟩, r⟩
        exact ⟨⟨by decide, tx, n1, by first | exact n2 (by decide) | exact n3 rfl | exact hv, c1, by first | exact c2 (by decide) | (show (kids.length : Int) ≤ 700; omega)⟩, r⟩
      · rintro ⟨⟨-, tx, n1, n2, c1, c2⟩, r⟩
        exact ⟨⟨c1, fun _ => by first | exact c2 | omega⟩, tx, ⟨n1, fun _ => by first | exact n2 | omega, fun _ => by first | exact n2 | omega⟩, r⟩
    · rw [loc_iff (t := false) (mx := 0) (least := 2) (most := 3) (by rfl), kn_iff, abs_f, show shp (Int.toNat 16) = (false, 0, 2, 3) from rfl]
      constructor
      · rintro ⟨⟨c1, c2⟩, tx, ⟨n1, n2, n3⟩, r⟩
        exact ⟨⟨by decide, tx, n1, by first | exact n2 (by decide) | exact n3 rfl | exact hv, c1, by first | exact c2 (by decide) | (show (kids.length : Int) ≤ 700; omega)⟩, r⟩
      · rintro ⟨⟨-, tx, n1, n2, c1, c2⟩, r⟩
        exact ⟨⟨c1, fun _ => by first | exact c2 | omega⟩, tx, ⟨n1, fun _ => by first | exact n2 | omega, fun _ => by first | exact n2 | omega⟩, r⟩
    · rw [loc_iff (t := false) (mx := 0) (least := 2) (most := 2) (by rfl), kn_iff, abs_f, show shp (Int.toNat 17) = (false, 0, 2, 2) from rfl]
      constructor
      · rintro ⟨⟨c1, c2⟩, tx, ⟨n1, n2, n3⟩, r⟩
        exact ⟨⟨by decide, tx, n1, by first | exact n2 (by decide) | exact n3 rfl | exact hv, c1, by first | exact c2 (by decide) | (show (kids.length : Int) ≤ 700; omega)⟩, r⟩
      · rintro ⟨⟨-, tx, n1, n2, c1, c2⟩, r⟩
        exact ⟨⟨c1, fun _ => by first | exact c2 | omega⟩, tx, ⟨n1, fun _ => by first | exact n2 | omega, fun _ => by first | exact n2 | omega⟩, r⟩
    · rw [loc_iff (t := false) (mx := 0) (least := 1) (most := 1) (by rfl), kn_iff, abs_f, show shp (Int.toNat 18) = (false, 0, 1, 1) from rfl]
      constructor
      · rintro ⟨⟨c1, c2⟩, tx, ⟨n1, n2, n3⟩, r⟩
        exact ⟨⟨by decide, tx, n1, by first | exact n2 (by decide) | exact n3 rfl | exact hv, c1, by first | exact c2 (by decide) | (show (kids.length : Int) ≤ 700; omega)⟩, r⟩
      · rintro ⟨⟨-, tx, n1, n2, c1, c2⟩, r⟩
        exact ⟨⟨c1, fun _ => by first | exact c2 | omega⟩, tx, ⟨n1, fun _ => by first | exact n2 | omega, fun _ => by first | exact n2 | omega⟩, r⟩
    · rw [loc_iff (t := false) (mx := 0) (least := 1) (most := 1) (by rfl), kn_iff, abs_f, show shp (Int.toNat 19) = (false, 0, 1, 1) from rfl]
      constructor
      · rintro ⟨⟨c1, c2⟩, tx, ⟨n1, n2, n3⟩, r⟩
        exact ⟨⟨by decide, tx, n1, by first | exact n2 (by decide) | exact n3 rfl | exact hv, c1, by first | exact c2 (by decide) | (show (kids.length : Int) ≤ 700; omega)⟩, r⟩
      · rintro ⟨⟨-, tx, n1, n2, c1, c2⟩, r⟩
        exact ⟨⟨c1, fun _ => by first | exact c2 | omega⟩, tx, ⟨n1, fun _ => by first | exact n2 | omega, fun _ => by first | exact n2 | omega⟩, r⟩
    · rw [loc_iff (t := false) (mx := 0) (least := 1) (most := 1) (by rfl), kn_iff, abs_f, show shp (Int.toNat 20) = (false, 0, 1, 1) from rfl]
      constructor
      · rintro ⟨⟨c1, c2⟩, tx, ⟨n1, n2, n3⟩, r⟩
        exact ⟨⟨by decide, tx, n1, by first | exact n2 (by decide) | exact n3 rfl | exact hv, c1, by first | exact c2 (by decide) | (show (kids.length : Int) ≤ 700; omega)⟩, r⟩
      · rintro ⟨⟨-, tx, n1, n2, c1, c2⟩, r⟩
        exact ⟨⟨c1, fun _ => by first | exact c2 | omega⟩, tx, ⟨n1, fun _ => by first | exact n2 | omega, fun _ => by first | exact n2 | omega⟩, r⟩
    · rw [loc_iff (t := false) (mx := -1) (least := 0) (most := 0) (by rfl), kn_iff, abs_f, show shp (Int.toNat 21) = (false, 2147483647, 0, 0) from rfl]
      constructor
      · rintro ⟨⟨c1, c2⟩, tx, ⟨n1, n2, n3⟩, r⟩
        exact ⟨⟨by decide, tx, n1, by first | exact n2 (by decide) | exact n3 rfl | exact hv, c1, by first | exact c2 (by decide) | (show (kids.length : Int) ≤ 700; omega)⟩, r⟩
      · rintro ⟨⟨-, tx, n1, n2, c1, c2⟩, r⟩
        exact ⟨⟨c1, fun _ => by first | exact c2 | omega⟩, tx, ⟨n1, fun _ => by first | exact n2 | omega, fun _ => by first | exact n2 | omega⟩, r⟩
    · rw [loc_iff (t := false) (mx := -1) (least := 0) (most := 0) (by rfl), kn_iff, abs_f, show shp (Int.toNat 22) = (false, 9223372036854775807, 0, 0) from rfl]
      constructor
      · rintro ⟨⟨c1, c2⟩, tx, ⟨n1, n2, n3⟩, r⟩
        exact ⟨⟨by decide, tx, n1, by first | exact n2 (by decide) | exact n3 rfl | exact hv, c1, by first | exact c2 (by decide) | (show (kids.length : Int) ≤ 700; omega)⟩, r⟩
      · rintro ⟨⟨-, tx, n1, n2, c1, c2⟩, r⟩
        exact ⟨⟨c1, fun _ => by first | exact c2 | omega⟩, tx, ⟨n1, fun _ => by first | exact n2 | omega, fun _ => by first | exact n2 | omega⟩, r⟩
    · rw [loc_iff (t := true) (mx := 0) (least := 0) (most := 0) (by rfl), kn_iff, abs_f, show shp (Int.toNat 23) = (true, 0, 0, 0) from rfl]
      constructor
      · rintro ⟨⟨c1, c2⟩, tx, ⟨n1, n2, n3⟩, r⟩
        exact ⟨⟨by decide, tx, n1, by first | exact n2 (by decide) | exact n3 rfl | exact hv, c1, by first | exact c2 (by decide) | (show (kids.length : Int) ≤ 700; omega)⟩, r⟩
      · rintro ⟨⟨-, tx, n1, n2, c1, c2⟩, r⟩
        exact ⟨⟨c1, fun _ => by first | exact c2 | omega⟩, tx, ⟨n1, fun _ => by first | exact n2 | omega, fun _ => by first | exact n2 | omega⟩, r⟩
    · rw [loc_iff (t := true) (mx := 0) (least := 1) (most := 1) (by rfl), kn_iff, abs_f, show shp (Int.toNat 24) = (true, 0, 1, 1) from rfl]
      constructor
      · rintro ⟨⟨c1, c2⟩, tx, ⟨n1, n2, n3⟩, r⟩
        exact ⟨⟨by decide, tx, n1, by first | exact n2 (by decide) | exact n3 rfl | exact hv, c1, by first | exact c2 (by decide) | (show (kids.length : Int) ≤ 700; omega)⟩, r⟩
      · rintro ⟨⟨-, tx, n1, n2, c1, c2⟩, r⟩
        exact ⟨⟨c1, fun _ => by first | exact c2 | omega⟩, tx, ⟨n1, fun _ => by first | exact n2 | omega, fun _ => by first | exact n2 | omega⟩, r⟩
    · rw [loc_iff (t := false) (mx := 0) (least := 1) (most := -1) (by rfl), kn_iff, abs_f, show shp (Int.toNat 25) = (false, 0, 1, 700) from rfl]
      constructor
      · rintro ⟨⟨c1, c2⟩, tx, ⟨n1, n2, n3⟩, r⟩
        exact ⟨⟨by decide, tx, n1, by first | exact n2 (by decide) | exact n3 rfl | exact hv, c1, by first | exact c2 (by decide) | (show (kids.length : Int) ≤ 700; omega)⟩, r⟩
      · rintro ⟨⟨-, tx, n1, n2, c1, c2⟩, r⟩
        exact ⟨⟨c1, fun _ => by first | exact c2 | omega⟩, tx, ⟨n1, fun _ => by first | exact n2 | omega, fun _ => by first | exact n2 | omega⟩, r⟩
    · rw [loc_iff (t := true) (mx := 0) (least := 0) (most := 0) (by rfl), kn_iff, abs_f, show shp (Int.toNat 26) = (true, 0, 0, 0) from rfl]
      constructor
      · rintro ⟨⟨c1, c2⟩, tx, ⟨n1, n2, n3⟩, r⟩
        exact ⟨⟨by decide, tx, n1, by first | exact n2 (by decide) | exact n3 rfl | exact hv, c1, by first | exact c2 (by decide) | (show (kids.length : Int) ≤ 700; omega)⟩, r⟩
      · rintro ⟨⟨-, tx, n1, n2, c1, c2⟩, r⟩
        exact ⟨⟨c1, fun _ => by first | exact c2 | omega⟩, tx, ⟨n1, fun _ => by first | exact n2 | omega, fun _ => by first | exact n2 | omega⟩, r⟩
    · rw [loc_iff (t := true) (mx := 0) (least := 0) (most := -1) (by rfl), kn_iff, abs_f, show shp (Int.toNat 27) = (true, 0, 0, 700) from rfl]
      constructor
      · rintro ⟨⟨c1, c2⟩, tx, ⟨n1, n2, n3⟩, r⟩
        exact ⟨⟨by decide, tx, n1, by first | exact n2 (by decide) | exact n3 rfl | exact hv, c1, by first | exact c2 (by decide) | (show (kids.length : Int) ≤ 700; omega)⟩, r⟩
      · rintro ⟨⟨-, tx, n1, n2, c1, c2⟩, r⟩
        exact ⟨⟨c1, fun _ => by first | exact c2 | omega⟩, tx, ⟨n1, fun _ => by first | exact n2 | omega, fun _ => by first | exact n2 | omega⟩, r⟩
    · rw [loc_iff (t := false) (mx := 0) (least := 1) (most := 1) (by rfl), kn_iff, abs_f, show shp (Int.toNat 28) = (false, 0, 1, 1) from rfl]
      constructor
      · rintro ⟨⟨c1, c2⟩, tx, ⟨n1, n2, n3⟩, r⟩
        exact ⟨⟨by decide, tx, n1, by first | exact n2 (by decide) | exact n3 rfl | exact hv, c1, by first | exact c2 (by decide) | (show (kids.length : Int) ≤ 700; omega)⟩, r⟩
      · rintro ⟨⟨-, tx, n1, n2, c1, c2⟩, r⟩
        exact ⟨⟨c1, fun _ => by first | exact c2 | omega⟩, tx, ⟨n1, fun _ => by first | exact n2 | omega, fun _ => by first | exact n2 | omega⟩, r⟩
    · rw [loc_iff (t := false) (mx := 0) (least := 1) (most := 1) (by rfl), kn_iff, abs_f, show shp (Int.toNat 29) = (false, 0, 1, 1) from rfl]
      constructor
      · rintro ⟨⟨c1, c2⟩, tx, ⟨n1, n2, n3⟩, r⟩
        exact ⟨⟨by decide, tx, n1, by first | exact n2 (by decide) | exact n3 rfl | exact hv, c1, by first | exact c2 (by decide) | (show (kids.length : Int) ≤ 700; omega)⟩, r⟩
      · rintro ⟨⟨-, tx, n1, n2, c1, c2⟩, r⟩
        exact ⟨⟨c1, fun _ => by first | exact c2 | omega⟩, tx, ⟨n1, fun _ => by first | exact n2 | omega, fun _ => by first | exact n2 | omega⟩, r⟩
    · rw [loc_iff (t := false) (mx := 0) (least := 1) (most := 1) (by rfl), kn_iff, abs_f, show shp (Int.toNat 30) = (false, 0, 1, 1) from rfl]
      constructor
      · rintro ⟨⟨c1, c2⟩, tx, ⟨n1, n2, n3⟩, r⟩
        exact ⟨⟨by decide, tx, n1, by first | exact n2 (by decide) | exact n3 rfl | exact hv, c1, by first | exact c2 (by decide) | (show (kids.length : Int) ≤ 700; omega)⟩, r⟩
      · rintro ⟨⟨-, tx, n1, n2, c1, c2⟩, r⟩
        exact ⟨⟨c1, fun _ => by first | exact c2 | omega⟩, tx, ⟨n1, fun _ => by first | exact n2 | omega, fun _ => by first | exact n2 | omega⟩, r⟩
    · rw [loc_iff (t := false) (mx := 0) (least := 1) (most := 1) (by rfl), kn_iff, abs_f, show shp (Int.toNat 31) = (false, 0, 1, 1) from rfl]
      constructor
      · rintro ⟨⟨c1, c2⟩, tx, ⟨n1, n2, n3⟩, r⟩
        exact ⟨⟨by decide, tx, n1, by first | exact n2 (by decide) | exact n3 rfl | exact hv, c1, by first | exact c2 (by decide) | (show (kids.length : Int) ≤ 700; omega)⟩, r⟩
      · rintro ⟨⟨-, tx, n1, n2, c1, c2⟩, r⟩
        exact ⟨⟨c1, fun _ => by first | exact c2 | omega⟩, tx, ⟨n1, fun _ => by first | exact n2 | omega, fun _ => by first | exact n2 | omega⟩, r⟩
    · rw [loc_iff (t := false) (mx := 12) (least := 2) (most := 2) (by rfl), kn_iff, abs_f, show shp (Int.toNat 32) = (false, 12, 2, 2) from rfl]
      constructor
      · rintro ⟨⟨c1, c2⟩, tx, ⟨n1, n2, n3⟩, r⟩
        exact ⟨⟨by decide, tx, n1, by first | exact n2 (by decide) | exact n3 rfl | exact hv, c1, by first | exact c2 (by decide) | (show (kids.length : Int) ≤ 700; omega)⟩, r⟩
      · rintro ⟨⟨-, tx, n1, n2, c1, c2⟩, r⟩
        exact ⟨⟨c1, fun _ => by first | exact c2 | omega⟩, tx, ⟨n1, fun _ => by first | exact n2 | omega, fun _ => by first | exact n2 | omega⟩, r⟩
    · rw [loc_iff (t := false) (mx := 0) (least := 0) (most := 0) (by rfl), kn_iff, abs_f, show shp (Int.toNat 33) = (false, 0, 0, 0) from rfl]
      constructor
      · rintro ⟨⟨c1, c2⟩, tx, ⟨n1, n2, n3⟩, r⟩
        exact ⟨⟨by decide, tx, n1, by first | exact n2 (by decide) | exact n3 rfl | exact hv, c1, by first | exact c2 (by decide) | (show (kids.length : Int) ≤ 700; omega)⟩, r⟩
      · rintro ⟨⟨-, tx, n1, n2, c1, c2⟩, r⟩
        exact ⟨⟨c1, fun _ => by first | exact c2 | omega⟩, tx, ⟨n1, fun _ => by first | exact n2 | omega, fun _ => by first | exact n2 | omega⟩, r⟩
    · rw [loc_iff (t := false) (mx := 0) (least := 1) (most := 1) (by rfl), kn_iff, abs_f, show shp (Int.toNat 34) = (false, 0, 1, 1) from rfl]
      constructor
      · rintro ⟨⟨c1, c2⟩, tx, ⟨n1, n2, n3⟩, r⟩
        exact ⟨⟨by decide, tx, n1, by first | exact n2 (by decide) | exact n3 rfl | exact hv, c1, by first | exact c2 (by decide) | (show (kids.length : Int) ≤ 700; omega)⟩, r⟩
      · rintro ⟨⟨-, tx, n1, n2, c1, c2⟩, r⟩
        exact ⟨⟨c1, fun _ => by first | exact c2 | omega⟩, tx, ⟨n1, fun _ => by first | exact n2 | omega, fun _ => by first | exact n2 | omega⟩, r⟩
  · have h1 : shpN k = none := by
      unfold shpN
      repeat rw [if_neg (by omega)]
    have h2 : locN k t v kids false = false := by unfold locN; rw [h1]
    rw [h2, kn_no hk]
    simp
theorem want_ex {k : Int} (h : 21 ≤ k) (n i : Nat) : wantN k n i = (4, 0) := by
  unfold wantN
  repeat rw [if_neg (by omega)]
theorem want_ty {k : Int} (n i : Nat) (h : k = 3 ∨ k = 5 ∨ k = 8 ∨ k = 12) : wantN k n i = (2, 0) := by
  unfold wantN
  rw [if_neg (by omega), if_neg (by omega), if_pos h]
theorem lg_num {k : Int} {t : List UInt8} {v : Int} {kids : List Nd} (h : Lg (.mk k t v kids)) : v ≤ 9223372036854775807 ∧ ∀ x, x ∈ kids → Lg x := by
  cases h with
  | mk _ _ _ _ h1 h2 h3 => exact ⟨h2, h3⟩
/-- An expression: what know asks, and that its kids are. -/
theorem ex_kn {k : Int} {t : List UInt8} {v : Int} {kids : List Nd} (hL : Lg (.mk k t v kids)) (hn : kids.length ≤ 700) : IsEx (.mk k t v kids) ↔ knB k t v kids.length = true ∧ 21 ≤ k ∧ (k = 32 → isOp v) ∧ ∀ x, x ∈ kids → IsEx x := by
  obtain ⟨hv, hLk⟩ := lg_num hL
  constructor
  · intro h
    obtain ⟨hc, hi⟩ := ex_is h
    have hk : 21 ≤ k := by have := cls_ex.1 hc; simp only [Nd.kind] at this; omega
    rw [isN_iff] at hi
    obtain ⟨h1, h2⟩ := hi
    rw [loc_kn hn hv] at h1
    refine ⟨h1.1, hk, fun e => op_of.1 (h1.2.1 e), kids_all (kind := 0) fun j hj => ?_⟩
    obtain ⟨a1, a2⟩ := kid_cls (want_ex hk _ _) (h2 j hj)
    exact is_ex _ (hLk _ (List.getElem_mem hj)) a2 a1
  · rintro ⟨h1, hk, h3, h4⟩
    have h34 := (kn_iff.1 h1).1.2
    refine is_ex _ hL ((isN_iff _ _ _ _ _).2 ⟨(loc_kn hn hv).2 ⟨h1, fun e => op_of.2 (h3 e), fun e => by omega, fun e => by omega⟩, fun j hj => ?_⟩) (cls_ex.2 (by simp only [Nd.kind]; omega))
    have hx := ex_is (h4 _ (List.getElem_mem hj))
    exact kid_ok (want_ex hk _ _) hx.1 hx.2
/-- A type. -/
theorem ty_kn {k : Int} {t : List UInt8} {v : Int} {kids : List Nd} (hL : Lg (.mk k t v kids)) (hn : kids.length ≤ 700) : IsTy (.mk k t v kids) ↔ knB k t v kids.length = true ∧ (k = 9 ∨ k = 10 ∨ k = 11 ∨ k = 12) ∧ ∀ x, x ∈ kids → IsTy x := by
  obtain ⟨hv, hLk⟩ := lg_num hL
  constructor
  · intro h
    obtain ⟨hc, hi⟩ := ty_is h
    have hk : k = 9 ∨ k = 10 ∨ k = 11 ∨ k = 12 := cls_ty.1 hc
    rw [isN_iff] at hi
    obtain ⟨h1, h2⟩ := hi
    rw [loc_kn hn hv] at h1
    refine ⟨h1.1, hk, fun x hx => ?_⟩
    cases h with
    | int => simp at hx
    | long => simp at hx
    | named s hs => simp at hx
    | fn l d t hl ht =>
      rcases List.mem_append.1 hx with hx | hx
      · exact hl x hx
      · rw [List.mem_singleton.1 hx]; exact ht
  · rintro ⟨h1, hk, h4⟩
    refine is_ty _ ((isN_iff _ _ _ _ _).2 ⟨(loc_kn hn hv).2 ⟨h1, fun e => by omega, fun e => by omega, fun e => by omega⟩, fun j hj => ?_⟩) (cls_ty.2 hk)
    have hx := ty_is (h4 _ (List.getElem_mem hj))
    rcases hk with rfl | rfl | rfl | rfl
    · have h6 : (kids.length : Int) ≤ 0 := (kn_iff.1 h1).2.2.2.2.2; omega
    · have h6 : (kids.length : Int) ≤ 0 := (kn_iff.1 h1).2.2.2.2.2; omega
    · have h6 : (kids.length : Int) ≤ 0 := (kn_iff.1 h1).2.2.2.2.2; omega
    · exact kid_ok (want_ty _ _ (by omega)) hx.1 hx.2
end Go.Proofs.YthcfianhdkolhaaDoor.T
