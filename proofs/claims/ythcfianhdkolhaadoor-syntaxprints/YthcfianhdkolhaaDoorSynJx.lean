/- Tokens' texts with a blank between. No program. -/
import Derived.Test.YthcfianhdkolhaaDoorSynLen
namespace Go.Proofs.YthcfianhdkolhaaDoor.S
set_option linter.unusedVariables false
set_option linter.unusedSimpArgs false
def jx (ts : List Tk) : List UInt8 := Lib.join (txs ts) [32]
theorem inter_app (s : List UInt8) : ∀ (a b : List (List UInt8)), a ≠ [] → b ≠ [] → s.intercalate (a ++ b) = s.intercalate a ++ s ++ s.intercalate b
  | [], b, ha, hb => absurd rfl ha
  | [x], [], ha, hb => absurd rfl hb
  | [x], y :: r, ha, hb => by simp [List.intercalate]
  | x :: y :: r, b, ha, hb => by
    have ih := inter_app s (y :: r) b (by simp) hb
    simp only [List.intercalate, List.cons_append, List.intersperse_cons_cons, List.flatten_cons] at ih ⊢
    rw [ih]
    simp
theorem inter_one (s x : List UInt8) : s.intercalate [x] = x := by simp [List.intercalate]
theorem inter_nil (s : List UInt8) : s.intercalate [] = [] := by simp [List.intercalate]
theorem jx_app {a b : List Tk} (ha : a ≠ []) (hb : b ≠ []) : jx (a ++ b) = jx a ++ [32] ++ jx b := by
  show [32].intercalate (txs (a ++ b)) = _
  rw [txs_app]
  exact inter_app _ _ _ (by simpa [txs] using ha) (by simpa [txs] using hb)
theorem jx_one (t : Tk) : jx [t] = rawT t := inter_one [32] (rawT t)
theorem jx_nil : jx [] = [] := rfl
theorem jx_cons {t : Tk} {b : List Tk} (hb : b ≠ []) : jx (t :: b) = rawT t ++ [32] ++ jx b := by
  have := jx_app (a := [t]) (by simp) hb
  rw [jx_one] at this
  exact this
theorem jx_flat : ∀ (ts : List (List Tk)), (∀ t, t ∈ ts → t ≠ []) → jx ts.flatten = Lib.join (ts.map jx) [32]
  | [], h => rfl
  | [x], h => by simp [Lib.join, inter_one]
  | x :: y :: r, h => by
    have ih := jx_flat (y :: r) (fun t ht => h t (by simp only [List.mem_cons] at ht ⊢; exact Or.inr ht))
    have hne : (y :: r).flatten ≠ [] := by
      rw [List.flatten_cons]
      intro e
      exact h y (by simp) (List.append_eq_nil_iff.1 e).1
    rw [List.flatten_cons, jx_app (h x (by simp)) hne, ih]
    unfold Lib.join
    rw [show (x :: y :: r).map jx = [jx x] ++ (y :: r).map jx from rfl, inter_app _ _ _ (by simp) (by simp), inter_one]
theorem joinT_ne : ∀ (ts : List (List Tk)), (∀ t, t ∈ ts → t ≠ []) → ts ≠ [] → joinT ts ≠ []
  | [], h, hn => absurd rfl hn
  | [x], h, _ => by simpa [joinT] using h x (by simp)
  | x :: y :: r, h, _ => by simp [joinT]
theorem jx_join : ∀ (ts : List (List Tk)), (∀ t, t ∈ ts → t ≠ []) → jx (joinT ts) = Lib.join (ts.map jx) [32, 44, 32]
  | [], h => rfl
  | [x], h => by simp [joinT, Lib.join, inter_one]
  | x :: y :: r, h => by
    have hs : ∀ t, t ∈ y :: r → t ≠ [] := fun t ht => h t (by simp only [List.mem_cons] at ht ⊢; exact Or.inr ht)
    have ih := jx_join (y :: r) hs
    rw [joinT, jx_app (h x (by simp)) (by simp), jx_cons (joinT_ne _ hs (by simp)), ih]
    unfold Lib.join
    rw [show (x :: y :: r).map jx = [jx x] ++ (y :: r).map jx from rfl, inter_app _ _ _ (by simp) (by simp), inter_one]
    rw [raw_sg]
    simp
/-- What stands in parentheses. -/
theorem jx_row (ts : List (List Tk)) (d : Bool) (h : ∀ t, t ∈ ts → t ≠ []) : jx (rowT ts d) = (if ts = [] ∧ d = false then [40, 32, 41] else [40, 32] ++ Lib.join (ts.map jx ++ (if d = true then [sDOTS] else [])) [32, 44, 32] ++ [32, 41]) := by
  unfold rowT
  have hall : ∀ t, t ∈ ts ++ (if d = true then [[sg sDOTS]] else []) → t ≠ [] := fun t ht => by
    rcases List.mem_append.1 ht with ht | ht
    · exact h t ht
    · cases d with
      | false => simp at ht
      | true => simp at ht; subst ht; simp
  have hm : (ts ++ (if d = true then [[sg sDOTS]] else [])).map jx = ts.map jx ++ (if d = true then [sDOTS] else []) := by
    rw [List.map_append]
    cases d with
    | false => rfl
    | true => simp [jx_one, raw_sg]
  by_cases he : ts = [] ∧ d = false
  · rw [if_pos he]
    obtain ⟨rfl, rfl⟩ := he
    rfl
  · rw [if_neg he]
    have hne : ts ++ (if d = true then [[sg sDOTS]] else []) ≠ [] := by
      intro e
      have := List.append_eq_nil_iff.1 e
      refine he ⟨this.1, ?_⟩
      cases d with
      | false => rfl
      | true => simp at this
    rw [jx_cons (by simp), jx_app (joinT_ne _ hall hne) (by simp), jx_one, jx_join _ hall, hm]
    simp [raw_sg]
theorem jx_at (b k : Int) (x : List Tk) (hx : x ≠ []) : jx (atT b k x) = if b < k then [40, 32] ++ jx x ++ [32, 41] else jx x := by
  unfold atT
  split
  · rw [jx_cons (by simp), jx_app hx (by simp), jx_one]
    simp [raw_sg]
  · rfl
theorem at_ne {b k : Int} {x : List Tk} (hx : x ≠ []) : atT b k x ≠ [] := by unfold atT; split <;> simp [hx]
theorem row_ne (ts : List (List Tk)) (d : Bool) : rowT ts d ≠ [] := by unfold rowT; simp
theorem num_ne (k v : Int) : numT k v ≠ [] := by unfold numT; split <;> simp
/-- The tokens of a node that is one are some. -/
theorem ne_ty {n : Nd} (h : IsTy n) : shT n ≠ [] := by
  cases h <;> (rw [shT_mk]; simp [shK])
theorem ne_ex {n : Nd} (h : IsEx n) : shT n ≠ [] := by
  cases h with
  | num v _ _ => rw [shT_mk]; simp only [shK]; exact num_ne _ _
  | long v _ _ => rw [shT_mk]; simp only [shK]; exact num_ne _ _
  | call x l hx hl => rw [shT_mk]; simp [shK, shC, row_ne]
  | _ => rw [shT_mk]; simp [shK, sh1, sh2]
theorem jx_len {ts : List Tk} (h : ∀ t, t ∈ ts → TkG t) : (jx ts).length ≤ ts.length * 23 := by
  have h1 := inter_len [32] (txs ts) 22 (fun x hx => by
    obtain ⟨t, ht, rfl⟩ := List.mem_map.1 hx
    exact h t ht)
  rw [txs_len] at h1
  exact h1
end Go.Proofs.YthcfianhdkolhaaDoor.S
