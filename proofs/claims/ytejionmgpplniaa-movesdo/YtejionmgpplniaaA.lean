/- Moves as plain lists; the contracts of the reference's place and At. -/
import Derived.Test.YtejionmgpplniaaProg
import Derived.Test.YtejionmgpplniaaFr
import Derived.WalkKit
import Derived.WalkSpells
import Derived.Outline
import Derived.LoopTactic
import Derived.BigQuiet
namespace Go.Proofs.Ytejionmgpplniaa.T
open Go.RowKit
set_option linter.unusedVariables false
set_option linter.unusedSimpArgs false
theorem hide {p : Prop} (h : p) : Hid p := h
/-- A place. -/
def placeB (l : Lc) : Bool := decide (0 ≤ l.2) && decide (l.2 ≤ if l.1 = true then 999 else 15)
/-- What is at a place, behind what was laid. -/
def atN : List (Lc × Lc) → Lc → Lc
  | [], p => p
  | x :: L, p => if (L.any fun y => decide (y.1 = p)) = true then atN L p else if x.1 = p then x.2 else p
theorem at_none {L : List (Lc × Lc)} {p : Lc} (h : ∀ x, x ∈ L → x.1 ≠ p) : atN L p = p := by
  cases L with
  | nil => rfl
  | cons x L =>
    simp only [atN]
    rw [if_neg, if_neg (h x List.mem_cons_self)]
    intro hh
    obtain ⟨y, hy, hp⟩ := List.any_eq_true.1 hh
    exact h y (List.mem_cons_of_mem _ hy) (of_decide_eq_true hp)
theorem at_last {p : Lc} : ∀ {L K : List (Lc × Lc)} {x : Lc × Lc}, x.1 = p → (∀ y, y ∈ K → y.1 ≠ p) → atN (L ++ x :: K) p = x.2
  | [], K, x, hx, hK => by
    simp only [List.nil_append, atN]
    rw [if_neg, if_pos hx]
    intro hh
    obtain ⟨y, hy, hp⟩ := List.any_eq_true.1 hh
    exact hK y hy (of_decide_eq_true hp)
  | z :: L, K, x, hx, hK => by
    simp only [List.cons_append, atN]
    rw [if_pos]
    · exact at_last hx hK
    · exact List.any_eq_true.2 ⟨x, by simp, decide_eq_true hx⟩
/-- A value that is a row of pairs of places (moves, or what is held), in the world. -/
def Prs (w : World) (v : Value) (L : List (Lc × Lc)) : Prop := ∃ a c, v = .slice a L.length c ∧ (0 < L.length → ∃ g o, a = some ⟨g, o, none⟩ ∧ g < w.heap.size ∧ ∀ j (h : j < L.length), w.cell? ⟨g, o + j * 4, none⟩ = some (.bool L[j].1.1) ∧ w.cell? ⟨g, o + j * 4 + 1, none⟩ = some (.int .i64 L[j].1.2) ∧ w.cell? ⟨g, o + j * 4 + 2, none⟩ = some (.bool L[j].2.1) ∧ w.cell? ⟨g, o + j * 4 + 3, none⟩ = some (.int .i64 L[j].2.2))
theorem place_any (s : Bool) (n : Int) (w : World) : Calls Try.prog 12 #[.agg #[.bool s, .int .i64 n]] w fun e w' => e = .returned (.bool (placeB (s, n))) ∧ Below w.heap.size w w' := by
  have HF := hide ((Fr.start w).alloc rfl #[.bool s, .int .i64 n] 31)
  have hp : placeB (s, n) = (decide (0 ≤ n) && decide (n ≤ if s = true then 999 else 15)) := rfl
  obtain ⟨B, HB⟩ : ∃ B, Hid (placeB (s, n) = B) := ⟨placeB (s, n), rfl⟩
  rw [HB.out]
  rw [HB.out] at hp
  have HP := hide hp
  clear hp HB
  cases s
  · by_cases h0 : 0 ≤ n
    · by_cases h1 : n ≤ 15
      · obtain rfl : B = true := HP.out.trans (by simp [h0, h1])
        go_enter Try.func12, Try.ntmps12
        go_wp2_with fail
        go_ret
        exact ⟨by simp [h0, h1], HF.out.below⟩
      · obtain rfl : B = false := HP.out.trans (by simp [h0, h1])
        go_enter Try.func12, Try.ntmps12
        go_wp2_with fail
        go_ret
        exact ⟨by simp [h0, h1], HF.out.below⟩
    · obtain rfl : B = false := HP.out.trans (by simp [h0])
      go_enter Try.func12, Try.ntmps12
      go_wp2_with fail
      go_ret
      exact ⟨by simp [h0], HF.out.below⟩
  · by_cases h0 : 0 ≤ n
    · by_cases h1 : n ≤ 999
      · obtain rfl : B = true := HP.out.trans (by simp [h0, h1])
        go_enter Try.func12, Try.ntmps12
        go_wp2_with fail
        go_ret
        exact ⟨by simp [h0, h1], HF.out.below⟩
      · obtain rfl : B = false := HP.out.trans (by simp [h0, h1])
        go_enter Try.func12, Try.ntmps12
        go_wp2_with fail
        go_ret
        exact ⟨by simp [h0, h1], HF.out.below⟩
    · obtain rfl : B = false := HP.out.trans (by simp [h0])
      go_enter Try.func12, Try.ntmps12
      go_wp2_with fail
      go_ret
      exact ⟨by simp [h0], HF.out.below⟩
theorem Prs.below {w w' : World} {v : Value} {L : List (Lc × Lc)} (h : Prs w v L) (hb : Below w.heap.size w w') : Prs w' v L := by
  obtain ⟨a, c, rfl, H⟩ := h
  refine ⟨a, c, rfl, fun h0 => ?_⟩
  obtain ⟨g, o, e1, e2, e3⟩ := H h0
  exact ⟨g, o, e1, Nat.lt_of_lt_of_le e2 hb.size, fun j hj => ⟨(hb.cell (p := ⟨g, o + j * 4, none⟩) e2).trans (e3 j hj).1, (hb.cell (p := ⟨g, o + j * 4 + 1, none⟩) e2).trans (e3 j hj).2.1, (hb.cell (p := ⟨g, o + j * 4 + 2, none⟩) e2).trans (e3 j hj).2.2.1, (hb.cell (p := ⟨g, o + j * 4 + 3, none⟩) e2).trans (e3 j hj).2.2.2⟩⟩
end Go.Proofs.Ytejionmgpplniaa.T
