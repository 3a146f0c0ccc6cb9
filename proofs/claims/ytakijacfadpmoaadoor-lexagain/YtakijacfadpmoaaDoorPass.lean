/- What is scanned from a place on: blanks and notes passed, a token taken. No walk. -/
import Derived.Test.YtakijacfadpmoaaDoorScan
namespace Go.Proofs.YtakijacfadpmoaaDoor.T
open Go.RowKit
set_option linter.unusedVariables false
set_option linter.unusedSimpArgs false
theorem scanN_fuel (t : ByteArray) : ∀ n m i note l, t.size - i ≤ n → t.size - i ≤ m → scanN t n i note l = scanN t m i note l
  | 0, 0, _, _, _, _, _ => rfl
  | 0, m + 1, i, note, l, h, _ => by
    rw [scanN_succ, if_neg (by omega)]
    rfl
  | n + 1, 0, i, note, l, _, h => by
    rw [scanN_succ, if_neg (by omega)]
    rfl
  | n + 1, m + 1, i, note, l, h1, h2 => by
    rw [scanN_succ, scanN_succ]
    by_cases hi : i < t.size
    · rw [if_pos hi, if_pos hi]
      rw [scanN_fuel t n m (i + 1) _ l (by omega) (by omega)]
      by_cases hc : (look t i).code = 0
      · have := look_next hi hc
        rw [scanN_fuel t n m (look t i).next note _ (by omega) (by omega)]
      · rw [if_neg hc, if_neg hc]
    · rw [if_neg hi, if_neg hi]
/-- What is scanned from a place on. -/
def scanAt (t : ByteArray) (i : Nat) (note : Bool) (l : List Tok) : List Tok × Int × Nat := scanN t (t.size - i) i note l
theorem scanAt_end (t : ByteArray) (i : Nat) (note : Bool) (l : List Tok) (h : t.size ≤ i) : scanAt t i note l = (l, 0, 0) := by
  unfold scanAt
  rw [show t.size - i = 0 by omega]
  rfl
theorem scanAt_step (t : ByteArray) (i : Nat) (note : Bool) (l : List Tok) (h : i < t.size) : scanAt t i note l = if blank note (byteAt t i) then scanAt t (i + 1) (note2 note (byteAt t i)) l else if (look t i).code = 0 then scanAt t (look t i).next note (l ++ [⟨(look t i).kind, (look t i).text, i⟩]) else ([], (look t i).code, i) := by
  unfold scanAt
  obtain ⟨n, hn⟩ : ∃ n, t.size - i = n + 1 := ⟨t.size - i - 1, by omega⟩
  rw [hn, scanN_succ, if_pos h]
  rw [scanN_fuel t n (t.size - (i + 1)) (i + 1) _ l (by omega) (by omega)]
  by_cases hc : (look t i).code = 0
  · have := look_next h hc
    rw [scanN_fuel t n (t.size - (look t i).next) (look t i).next note _ (by omega) (by omega)]
  · rw [if_neg hc, if_neg hc]
theorem scan_at (t : ByteArray) (h : t.size ≤ 4000) : scan t = scanAt t 0 false [] := by
  unfold scan scanAt
  rw [if_neg (by omega)]
  rfl
theorem pass_blank (t : ByteArray) (i : Nat) (h : i < t.size) (hb : byteAt t i = 32 ∨ byteAt t i = 10) (l : List Tok) : scanAt t i false l = scanAt t (i + 1) false l := by
  rw [scanAt_step t i false l h]
  rcases hb with e | e <;> (rw [e]; rfl)
theorem note_run (t : ByteArray) (e : Nat) (he : e ≤ t.size) : ∀ d k, k + d = e → (∀ j, k ≤ j → j < e → byteAt t j ≠ 10) → ∀ l, scanAt t k true l = scanAt t e true l
  | 0, k, h, _, l => by rw [show k = e by omega]
  | d + 1, k, h, hk, l => by
    rw [scanAt_step t k true l (by omega)]
    have h10 := hk k (Nat.le_refl _) (by omega)
    rw [show blank true (byteAt t k) = true from rfl, show note2 true (byteAt t k) = true by unfold note2; simp [h10], if_pos rfl]
    exact note_run t e he d (k + 1) (by omega) (fun j h1 h2 => hk j (by omega) h2) l
theorem pass_note (t : ByteArray) (i e : Nat) (h : i < t.size) (hb : byteAt t i = 35) (hie : i < e) (he : e ≤ t.size) (hk : ∀ j, i ≤ j → j < e → byteAt t j ≠ 10) (hl : e = t.size ∨ byteAt t e = 10) (l : List Tok) : scanAt t i false l = scanAt t e false l := by
  rw [scanAt_step t i false l h, hb, show blank false 35 = true from rfl, if_pos rfl, show note2 false 35 = true from rfl]
  rw [note_run t e he (e - (i + 1)) (i + 1) (by omega) (fun j h1 h2 => hk j (by omega) h2) l]
  rcases hl with hl | hl
  · rw [scanAt_end _ _ _ _ (by omega), scanAt_end _ _ _ _ (by omega)]
  · by_cases hlt : e < t.size
    · rw [scanAt_step t e true l hlt, scanAt_step t e false l hlt, hl]
      rfl
    · rw [scanAt_end _ _ _ _ (by omega), scanAt_end _ _ _ _ (by omega)]
theorem take_tok (t : ByteArray) (i : Nat) (h : i < t.size) (hb : blank false (byteAt t i) = false) (l : List Tok) : scanAt t i false l = if (look t i).code = 0 then scanAt t (look t i).next false (l ++ [⟨(look t i).kind, (look t i).text, i⟩]) else ([], (look t i).code, i) := by
  rw [scanAt_step t i false l h, hb]
  rfl
/-- Where a row of letters, digits and low lines ends. -/
theorem rowEnd_eq {t : ByteArray} {i e : Nat} (hi : i ≤ e) (he : e ≤ t.size) (hk : ∀ j, i ≤ j → j < e → insB (byteAt t j) = true) (hl : e = t.size ∨ insB (byteAt t e) = false) : rowEnd t i = e := by
  have key : ∀ n k, k ≤ e → i ≤ k → t.size = k + n → rowEndN t n k = e := by
    intro n
    induction n with
    | zero => intro k h1 h2 h3; show k = e; omega
    | succ n ih =>
      intro k h1 h2 h3
      unfold rowEndN
      by_cases q : k < e
      · rw [if_pos (hk k h2 q)]
        exact ih (k + 1) (by omega) (by omega) (by omega)
      · obtain rfl : k = e := by omega
        rcases hl with hl | hl
        · omega
        · rw [hl]; rfl
  unfold rowEnd
  exact key _ i hi (Nat.le_refl _) (by omega)
end Go.Proofs.YtakijacfadpmoaaDoor.T
