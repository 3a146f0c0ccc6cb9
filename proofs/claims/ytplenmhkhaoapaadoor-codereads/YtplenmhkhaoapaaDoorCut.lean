/- Contracts of strings.Cut at a blank, and of code.named. -/
import Derived.Test.YtplenmhkhaoapaaDoorText
import Derived.Lib.CutLaws
namespace Go.Proofs.YtplenmhkhaoapaaDoor.M
/-- What stands ahead of the first blank, and behind it. -/
def cutW : List UInt8 → List UInt8 | [] => [] | c :: l => if c = 32 then [] else c :: cutW l
def cutR : List UInt8 → List UInt8 | [] => [] | c :: l => if c = 32 then l else cutR l
theorem cut_len (l : List UInt8) : (cutW l).length ≤ l.length ∧ (cutR l).length ≤ l.length := by
  induction l with
  | nil => exact ⟨Nat.le_refl _, Nat.le_refl _⟩
  | cons c l ih =>
    simp only [cutW, cutR]
    split
    · exact ⟨by simp, by simp⟩
    · exact ⟨by simp; exact ih.1, by simp; omega⟩
theorem idx_cut (l : List UInt8) : (Lib.indexByte l 32 = -1 ∧ cutW l = l ∧ cutR l = []) ∨ ∃ i : Nat, Lib.indexByte l 32 = i ∧ i < l.length ∧ cutW l = l.take i ∧ cutR l = l.drop (i + 1) := by
  induction l with
  | nil => exact .inl ⟨rfl, rfl, rfl⟩
  | cons c l ih =>
    simp only [Lib.indexByte, cutW, cutR]
    by_cases hc : c = 32
    · exact .inr ⟨0, by simp [hc], by simp, by simp [hc], by simp [hc]⟩
    · have hb : (c == 32) = false := by simpa using hc
      rcases ih with ⟨h1, h2, h3⟩ | ⟨i, h1, h2, h3, h4⟩
      · exact .inl ⟨by simp [hb, h1], by simp [hc, h2], by simp [hc, h3]⟩
      · refine .inr ⟨i + 1, ?_, by simp; omega, by simp [hc, h3], by simp [hc, h4]⟩
        have : ¬ (i : Int) = -1 := by omega
        simp [hb, h1, this]
end Go.Proofs.YtplenmhkhaoapaaDoor.M
namespace Go.Proofs.YtplenmhkhaoapaaDoor.W
open Go.RowKit Go.Proofs.YtplenmhkhaoapaaDoor.M
set_option linter.unusedVariables false

theorem mixed : Tryd.prog.follows .mixedOrders = true := by kernel_rfl
theorem ret_cut {a a' b b' : ByteArray} {f : Bool} (h : a = a') (g : b = b') : Ending.returned (.tuple #[.string a, .string b, .bool f]) = .returned (.tuple #[.string a', .string b', .bool f]) := by rw [h, g]
set_option maxHeartbeats 2000000 in
set_option maxRecDepth 100000 in
theorem cut1 (s : ByteArray) (w : World) (hs : s.size ≤ 9223372036854775806) :
    Calls Tryd.prog 34 #[.string s, .string ⟨#[32]⟩] w fun e w' => ∃ f, e = .returned (.tuple #[.string ⟨(cutW s.data.toList).toArray⟩, .string ⟨(cutR s.data.toList).toArray⟩, .bool f]) ∧ Below w.heap.size w w' := by
  have hix0 := Tryd.stringslite_Index_one s 32
  rcases idx_cut s.data.toList with ⟨h1, h2, h3⟩ | ⟨i, h1, h2, h3, h4⟩
  · rw [h1] at hix0
    have E2 := hide h2
    have E3 := hide h3
    clear h1 h2 h3
    go_enter Tryd.func34, Tryd.ntmps34
    go_wp2_with (go_at_call 43; refine (hix0 _).mono ?_; rintro e w' ⟨rfl, rfl⟩)
    go_ret3
    exact ⟨false, ret_cut (by rw [unhide E2]) (by rw [unhide E3]), Below.refl _ _⟩
  · rw [h1] at hix0
    have hsz : s.data.toList.length = s.size := by rw [Array.length_toList]; rfl
    rw [hsz] at h2
    have c1 : (0 : Int) ≤ (i : Int) := by omega
    have c2 : (i : Int) ≤ (s.size : Int) := by omega
    have c3 : (0 : Int) ≤ (i : Int) + 1 := by omega
    have c4 : (i : Int) + 1 ≤ (s.size : Int) := by omega
    have hmx := mixed
    have E3 := hide h3
    have E4 := hide h4
    clear h1 h3 h4 hsz
    go_enter Tryd.func34, Tryd.ntmps34
    go_wp2_with (go_at_call 43; refine (hix0 _).mono ?_; rintro e w' ⟨rfl, rfl⟩)
    go_region_o
    go_wp2
    go_ret3
    refine ⟨true, ret_cut ?_ ?_, (Below.refl _ _).drew⟩
    · rw [unhide E3, Lib.extract_eq]; simp
    · rw [unhide E4, Lib.extract_eq]
      rw [List.take_of_length_le (by rw [List.length_drop, ← Lib.size_eq]; exact Nat.le_refl _)]

set_option maxHeartbeats 2000000 in
theorem cut_any (s : ByteArray) (w : World) (hs : s.size ≤ 9223372036854775806) :
    Calls Tryd.prog 23 #[.string s, .string ⟨#[32]⟩] w fun e w' => ∃ f, e = .returned (.tuple #[.string ⟨(cutW s.data.toList).toArray⟩, .string ⟨(cutR s.data.toList).toArray⟩, .bool f]) ∧ Below w.heap.size w w' := by
  go_enter Tryd.func23, Tryd.ntmps23
  go_wp2_with fail
  go_at_call 34
  refine (cut1 s _ hs).mono ?_
  rintro e x ⟨f, rfl, hb⟩
  go_wp2_with fail
  go_ret3
  exact ⟨f, rfl, hb⟩

theorem str_eq (a b : ByteArray) : (a.toList == b.toList) = true ↔ a = b := by
  rw [ByteArray.toList_eq, ByteArray.toList_eq]
  simp only [beq_iff_eq]
  constructor
  · intro h
    cases a; cases b
    simpa using h
  · rintro rfl; rfl
theorem str_ne {a b : ByteArray} (h : ¬ a = b) : (a.toList == b.toList) = false := by
  cases e : (a.toList == b.toList) with
  | false => rfl
  | true => exact absurd ((str_eq a b).1 e) h
theorem nm_inj : ∀ i j : Fin 26, nameOf (i.val : Int) = nameOf (j.val : Int) → i = j := by decide +kernel

set_option maxHeartbeats 2000000 in
theorem named_any (s : ByteArray) (w : World) (G : Glob w) :
    Calls Tryd.prog 24 #[.string s] w fun e w' => ∃ k : Nat, e = .returned (.int .i64 k) ∧ w' = w ∧ k ≤ 25 ∧ ∀ j : Nat, j < 26 → nameOf (j : Int) = s → k = j := by
  have hz := G.size
  go_enter Tryd.func24, Tryd.ntmps24
  go_wp2
  go_loop [4] (fun i => ∃ k : Nat, k ≤ 26 ∧ i = .int .i64 k ∧ Hid (∀ j : Nat, j < k → nameOf (j : Int) ≠ s)) (fun i => 26 - (intOf i).toNat)
  case atStart => exact ⟨0, by omega, rfl, fun j hj => by omega⟩
  case round =>
    obtain ⟨k, hk, rfl, hall⟩ := hrel
    by_cases hlt : k < 26
    · have hc := G.names k hlt
      generalize hnm : nameOf (k : Int) = nm at *
      have HN := hide hnm
      clear hnm
      by_cases he : nm = s
      · have he' := (str_eq nm s).2 he
        have HE := hide he
        clear he
        go_wp2
        go_ret
        refine ⟨k, rfl, rfl, by omega, fun j hj e => ?_⟩
        have := nm_inj ⟨k, hlt⟩ ⟨j, hj⟩ ((unhide HN).trans ((unhide HE).trans e.symm))
        exact congrArg Fin.val this
      · have he' := str_ne he
        have HE := hide he
        clear he
        go_wp2
        go_round
        case rel => exact ⟨k + 1, by omega, by go_num, fun j hj => by
          by_cases e : j = k
          · subst e; rw [unhide HN]; exact unhide HE
          · exact unhide hall j (by omega)⟩
        case measure => simp [intOf]; omega
    · have hk2 : k = 26 := by omega
      subst hk2
      go_wp2
      go_ret
      exact ⟨0, rfl, rfl, by omega, fun j hj e => absurd e (unhide hall j hj)⟩
end Go.Proofs.YtplenmhkhaoapaaDoor.W
