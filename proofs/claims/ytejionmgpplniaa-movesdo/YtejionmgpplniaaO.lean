/- Moves at once as a row: what is kept while the program works (no walk). -/
import Derived.Test.YtejionmgpplniaaK
namespace Go.Proofs.Ytejionmgpplniaa.T
open Go.RowKit
set_option linter.unusedVariables false
set_option linter.unusedSimpArgs false
abbrev Mv := Lc × Lc
theorem at_snoc {x : Mv} {p : Lc} (h : ¬ x.1 = p) : ∀ L : List Mv, atN (L ++ [x]) p = atN L p
  | [] => by simp [atN, h]
  | y :: L => by
    have := at_snoc h L
    simp only [List.cons_append, atN, List.any_append, List.any_cons, List.any_nil, Bool.or_false, decide_eq_false h, this]
theorem perm_of : ∀ {A B : List Lc}, A.Nodup → A ⊆ B → B.length ≤ A.length → A.Perm B
  | [], B, _, _, h => by
    have : B = [] := List.length_eq_zero_iff.1 (by simpa using h)
    rw [this]
  | a :: A, B, hn, hs, hl => by
    rw [List.nodup_cons] at hn
    have ha : a ∈ B := hs List.mem_cons_self
    have h1 := List.perm_cons_erase ha
    have hlen := h1.length_eq
    have ih := perm_of (A := A) (B := B.erase a) hn.2 (fun p hp => (List.mem_erase_of_ne (fun e => hn.1 (by rw [← e]; exact hp))).2 (hs (List.mem_cons_of_mem _ hp))) (by simp at hl hlen; omega)
    exact (ih.cons a).trans h1.symm
/-- What is at a place behind a row of moves. -/
theorem row_at (R : List Mv) (m : Mv) (p : Lc) : atN (rowL (R ++ [m])) p = if m.2 = p then atN (rowL R) m.1 else atN (rowL R) p := by
  rw [rowL_snoc]
  by_cases h : m.2 = p
  · rw [if_pos h]
    exact at_last (L := rowL R) (K := []) (x := (m.2, atN (rowL R) m.1)) h (by simp)
  · rw [if_neg h]
    exact at_snoc h _
/-- How many of the moves ask for p. -/
def asks (l : List Mv) (p : Lc) : Int := ((l.countP (fun m => decide (m.1 = p)) : Nat) : Int)
theorem asks_pos {l : List Mv} {p : Lc} : 0 < asks l p ↔ ∃ m, m ∈ l ∧ m.1 = p := by
  unfold asks
  rw [Int.natCast_pos, List.countP_pos_iff]
  exact ⟨fun ⟨m, h, e⟩ => ⟨m, h, by simpa using e⟩, fun ⟨m, h, e⟩ => ⟨m, h, by simpa using e⟩⟩
/-- What is kept: n: how many moves there were; fin: what is to be at each place; t: the spare place. -/
structure Inv (n : Nat) (fin : Lc → Lc) (t : Lc) (left R : List Mv) : Prop where
  tos : (left.map (·.2)).Nodup
  free : ∀ m, m ∈ left → m.2 ≠ t
  turn : ∀ m, m ∈ left → m.1 ≠ m.2
  has : ∀ m, m ∈ left → atN (rowL R) m.1 = fin m.2
  done : ∀ p, p ≠ t → (∀ m, m ∈ left → m.2 ≠ p) → atN (rowL R) p = fin p
  one : asks left t ≤ 1
  len : ∃ c d, R.length = d + c ∧ d + left.length = n ∧ (2 * c ≤ d ∨ (∃ r, r ∈ left ∧ r.1 = t ∧ (2 * c ≤ d + 1 ∨ (2 * c ≤ d + 2 ∧ ∃ r2, r2 ∈ left ∧ r2.1 = r.2))))
theorem asks_cons (m : Mv) (l : List Mv) (p : Lc) : asks (m :: l) p = asks l p + if m.1 = p then 1 else 0 := by
  unfold asks
  rw [List.countP_cons]
  by_cases h : m.1 = p <;> simp [h]
theorem asks_append (l k : List Mv) (p : Lc) : asks (l ++ k) p = asks l p + asks k p := by
  unfold asks
  rw [List.countP_append]
  simp
theorem split_at {l : List Mv} {i : Nat} (h : i < l.length) : ∃ a b, l = a ++ l[i] :: b ∧ l.eraseIdx i = a ++ b ∧ a.length = i ∧ ∀ x, l.set i x = a ++ x :: b := by
  have h1 : l = l.take i ++ l[i] :: l.drop (i + 1) := by
    rw [← List.drop_eq_getElem_cons h, List.take_append_drop]
  refine ⟨l.take i, l.drop (i + 1), h1, List.eraseIdx_eq_take_drop_succ .., by simp; omega, fun x => ?_⟩
  rw [List.set_eq_take_append_cons_drop, if_pos h]
theorem asks_erase {l : List Mv} {i : Nat} (h : i < l.length) : asks (l.eraseIdx i) = upd (asks l) l[i].1 (asks l l[i].1 - 1) := by
  obtain ⟨a, b, e1, e2, -, -⟩ := split_at h
  generalize l[i] = x at *
  subst e1
  rw [e2]
  funext p
  unfold upd
  rw [asks_append, asks_append, asks_cons, asks_append, asks_cons]
  by_cases hp : p = x.1
  · subst hp; simp; omega
  · rw [if_neg hp, if_neg (Ne.symm hp)]; omega
theorem asks_set {l : List Mv} {i : Nat} (h : i < l.length) (t : Lc) (ht : t ≠ l[i].1) : asks (l.set i (t, l[i].2)) = upd (upd (asks l) l[i].1 (asks l l[i].1 - 1)) t (asks l t + 1) := by
  obtain ⟨a, b, e1, -, -, e3⟩ := split_at h
  rw [e3]
  generalize l[i] = x at *
  subst e1
  funext p
  unfold upd
  simp only [asks_append, asks_cons]
  by_cases hp : p = t
  · subst hp; rw [if_pos rfl, if_pos rfl, if_neg (Ne.symm ht)]; omega
  · rw [if_neg (Ne.symm hp), if_neg hp]
    by_cases hq : p = x.1
    · subst hq; simp; omega
    · rw [if_neg hq, if_neg (Ne.symm hq)]
/-- Where every move's To is asked for, each is asked for once, and nobody asks for another place. -/
theorem circles {left : List Mv} (hn : (left.map (·.2)).Nodup) (ha : ∀ m, m ∈ left → 0 < asks left m.2) : (∀ m, m ∈ left → asks left m.2 = 1) ∧ (∀ m, m ∈ left → ∃ x, x ∈ left ∧ x.2 = m.1) := by
  have hsub : (left.map (·.2)) ⊆ (left.map (·.1)) := fun p hp => by
    obtain ⟨m, hm, rfl⟩ := List.mem_map.1 hp
    obtain ⟨x, hx, e⟩ := asks_pos.1 (ha m hm)
    exact List.mem_map.2 ⟨x, hx, e⟩
  have hperm : (left.map (·.2)).Perm (left.map (·.1)) := perm_of hn hsub (by simp)
  have hn1 : (left.map (·.1)).Nodup := (hperm.nodup_iff).1 hn
  refine ⟨fun m hm => ?_, fun m hm => ?_⟩
  · have h1 : asks left m.2 = (((left.map (·.1)).count m.2 : Nat) : Int) := by
      unfold asks
      rw [List.count_eq_countP, List.countP_map]
      congr 2
      funext x
      show decide (x.1 = m.2) = (x.1 == m.2)
      by_cases h : x.1 = m.2 <;> simp [h]
    rw [h1, hn1.count, if_pos (hsub (List.mem_map.2 ⟨m, hm, rfl⟩))]
    rfl
  · obtain ⟨x, hx, e⟩ := List.mem_map.1 (hperm.mem_iff.2 (List.mem_map.2 ⟨m, hm, rfl⟩))
    exact ⟨x, hx, e⟩
variable {n : Nat} {fin : Lc → Lc} {t : Lc} {left R : List Mv}
theorem mem_mid {a b : List Mv} {x m : Mv} (h : m ∈ a ++ x :: b) : m = x ∨ m ∈ a ++ b := by
  rcases List.mem_append.1 h with h | h
  · exact Or.inr (List.mem_append_left _ h)
  · rcases List.mem_cons.1 h with h | h
    · exact Or.inl h
    · exact Or.inr (List.mem_append_right _ h)
theorem mem_less {a b : List Mv} {x m : Mv} (h : m ∈ a ++ b) : m ∈ a ++ x :: b := by
  rcases List.mem_append.1 h with h | h
  · exact List.mem_append_left _ h
  · exact List.mem_append_right _ (List.mem_cons_of_mem _ h)
/-- A move that may be done is done. -/
theorem Inv.emit (h : Inv n fin t left R) {i : Nat} (hi : i < left.length) (ha : ¬ 0 < asks left left[i].2) : Inv n fin t (left.eraseIdx i) (R ++ [left[i]]) := by
  obtain ⟨a, b, e1, e2, -, -⟩ := split_at hi
  have hlen : (left.eraseIdx i).length + 1 = left.length := by rw [List.length_eraseIdx_of_lt hi]; omega
  generalize left[i] = x at *
  rw [e2] at hlen ⊢
  have hna : ∀ m, m ∈ left → m.1 ≠ x.2 := fun m hm e => ha (asks_pos.2 ⟨m, hm, e⟩)
  have up : ∀ m, m ∈ a ++ b → m ∈ left := fun m hm => by rw [e1]; exact mem_less hm
  have hx : x ∈ left := by rw [e1]; simp
  refine ⟨?_, fun m hm => h.free m (up m hm), fun m hm => h.turn m (up m hm), fun m hm => ?_, fun p hp hq => ?_, ?_, ?_⟩
  · have := h.tos
    rw [e1] at this
    exact this.sublist (List.Sublist.map _ ((List.Sublist.refl a).append (List.sublist_cons_self x b)))
  · rw [row_at, if_neg (Ne.symm (hna m (up m hm)))]
    exact h.has m (up m hm)
  · rw [row_at]
    by_cases hxp : x.2 = p
    · rw [if_pos hxp, ← hxp]
      exact h.has x hx
    · rw [if_neg hxp]
      refine h.done p hp fun m hm => ?_
      rw [e1] at hm
      rcases mem_mid hm with rfl | hm
      · exact hxp
      · exact hq m hm
  · have := h.one
    rw [e1] at this
    rw [asks_append] at this ⊢
    rw [asks_cons] at this
    split at this <;> omega
  · obtain ⟨c, d, h1, h2, h3⟩ := h.len
    refine ⟨c, d + 1, by simp; omega, by omega, ?_⟩
    rcases h3 with h3 | ⟨r, hr, hrt, h3⟩
    · exact Or.inl (by omega)
    · have hr0 := hr
      rw [e1] at hr
      rcases mem_mid hr with rfl | hr
      · rcases h3 with h3 | ⟨_, r2, hr2, e⟩
        · exact Or.inl h3
        · exact absurd e (hna r2 hr2)
      · exact Or.inr ⟨r, hr, hrt, Or.inl (by rcases h3 with h3 | ⟨h3, _⟩ <;> omega)⟩
theorem asks_nonneg (l : List Mv) (p : Lc) : 0 ≤ asks l p := by unfold asks; omega
/-- Where none may, a circle is opened. -/
theorem Inv.opens (h : Inv n fin t left R) (ha : ∀ m, m ∈ left → 0 < asks left m.2) {sv : Lc} (hs : ∃ m, m ∈ left ∧ m.2 = sv) {j : Nat} (hj : j < left.length) (e : left[j].1 = sv) :
    Inv n fin t (left.set j (t, left[j].2)) (R ++ [(sv, t)]) ∧ asks (left.set j (t, left[j].2)) = upd (upd (asks left) sv 0) t 1 ∧ asks left t = 0 ∧ sv ≠ t := by
  obtain ⟨c1, c2⟩ := circles h.tos ha
  obtain ⟨m0, hm0, hm0s⟩ := hs
  have hsv1 : asks left sv = 1 := by rw [← hm0s]; exact c1 m0 hm0
  have hst : sv ≠ t := by rw [← hm0s]; exact h.free m0 hm0
  have ht0 : ∀ m, m ∈ left → m.1 ≠ t := fun m hm e => by
    obtain ⟨y, hy, hy2⟩ := c2 m hm
    exact h.free y hy (hy2.trans e)
  have hat : asks left t = 0 := by
    have h1 := asks_nonneg left t
    have h2 : ¬ 0 < asks left t := fun hh => by
      obtain ⟨m, hm, e⟩ := asks_pos.1 hh
      exact ht0 m hm e
    omega
  have hset := asks_set hj t (by rw [e]; exact Ne.symm hst)
  rw [e, hsv1, hat] at hset
  have hset' : asks (left.set j (t, left[j].2)) = upd (upd (asks left) sv 0) t 1 := hset
  refine ⟨?_, hset', hat, hst⟩
  have hone : asks (left.set j (t, left[j].2)) t ≤ 1 := by rw [hset']; unfold upd; simp
  have hlen : (left.set j (t, left[j].2)).length = left.length := by simp
  obtain ⟨a, b, e1, -, -, e3⟩ := split_at hj
  rw [e3] at hone hlen ⊢
  generalize left[j] = x at *
  have up : ∀ m, m ∈ a ++ b → m ∈ left := fun m hm => by rw [e1]; exact mem_less hm
  have hx : x ∈ left := by rw [e1]; simp
  refine ⟨?_, fun m hm => ?_, fun m hm => ?_, fun m hm => ?_, fun p hp hq => ?_, hone, ?_⟩
  · have := h.tos
    rw [e1] at this
    simpa using this
  · rcases mem_mid hm with rfl | hm
    · exact h.free x hx
    · exact h.free m (up m hm)
  · rcases mem_mid hm with rfl | hm
    · exact Ne.symm (h.free x hx)
    · exact h.turn m (up m hm)
  · rw [row_at]
    rcases mem_mid hm with rfl | hm
    · rw [if_pos rfl]
      show atN (rowL R) sv = _
      rw [← e]
      exact h.has x hx
    · rw [if_neg (Ne.symm (ht0 m (up m hm)))]
      exact h.has m (up m hm)
  · rw [row_at, if_neg (Ne.symm hp)]
    refine h.done p hp fun m hm => ?_
    rw [e1] at hm
    rcases mem_mid hm with rfl | hm
    · exact hq (t, m.2) (by simp)
    · exact hq m (mem_less hm)
  · obtain ⟨c, d, h1, h2, h3⟩ := h.len
    have h3' : 2 * c ≤ d := by
      rcases h3 with h3 | ⟨r, hr, hrt, _⟩
      · exact h3
      · exact absurd hrt (ht0 r hr)
    refine ⟨c + 1, d, by simp; omega, by omega, Or.inr ⟨(t, x.2), by simp, rfl, Or.inr ⟨by omega, ?_⟩⟩⟩
    obtain ⟨y, hy, hy1⟩ := asks_pos.1 (ha x hx)
    refine ⟨y, ?_, hy1⟩
    have hy' := hy
    rw [e1] at hy'
    rcases mem_mid hy' with rfl | hy'
    · exact absurd hy1 (h.turn y hy)
    · exact mem_less hy'
theorem Inv.ends (h : Inv n fin t [] R) : R.length ≤ n + n / 2 ∧ ∀ p, p ≠ t → atN (rowL R) p = fin p := by
  refine ⟨?_, fun p hp => h.done p hp (by simp)⟩
  obtain ⟨c, d, h1, h2, h3⟩ := h.len
  rcases h3 with h3 | ⟨r, hr, _⟩
  · simp at h2; omega
  · cases hr
theorem fin_of {L : List Mv} (hd : ¬ dupP L) {m : Mv} (hm : m ∈ L) : atN (L.map swp) m.2 = m.1 := by
  obtain ⟨i, hi, rfl⟩ := List.getElem_of_mem hm
  obtain ⟨a, b, e1, -, hal, -⟩ := split_at hi
  have hb : ∀ y, y ∈ b → y.2 ≠ L[i].2 := fun y hy e => by
    obtain ⟨k, hk, rfl⟩ := List.getElem_of_mem hy
    have hk' : L[i + 1 + k]? = some b[k] := by
      have : (a ++ L[i] :: b)[i + 1 + k]? = some b[k] := by
        rw [List.getElem?_append_right (by omega), hal, show i + 1 + k - i = k + 1 by omega, List.getElem?_cons_succ, List.getElem?_eq_getElem hk]
      rw [← e1] at this
      exact this
    obtain ⟨h1, h2⟩ := List.getElem?_eq_some_iff.1 hk'
    exact hd ⟨i + 1 + k, i, h1, by omega, by rw [h2]; exact e.symm⟩
  generalize L[i] = x at *
  rw [e1, List.map_append, List.map_cons]
  exact at_last (x := swp x) rfl fun y hy => by
    obtain ⟨z, hz, rfl⟩ := List.mem_map.1 hy
    exact hb z hz
theorem fin_not {L : List Mv} {p : Lc} (h : ∀ m, m ∈ L → m.2 ≠ p) : atN (L.map swp) p = p :=
  at_none fun y hy => by
    obtain ⟨z, hz, rfl⟩ := List.mem_map.1 hy
    exact h z hz
theorem nodup_to : ∀ {L : List Mv}, ¬ dupP L → (L.map (·.2)).Nodup := fun {L} hd => by
  rw [List.Nodup, List.pairwise_iff_getElem]
  intro i j hi hj hij e
  simp at e
  exact hd ⟨j, i, by simpa using hj, hij, e⟩
theorem Inv.start {L : List Mv} (hd : ¬ dupP L) (ht : ∀ m, m ∈ L → isM t m = false) : Inv (L.filter movM).length (atN (L.map swp)) t (L.filter movM) [] := by
  have up : ∀ m, m ∈ L.filter movM → m ∈ L ∧ m.1 ≠ m.2 := fun m hm => by
    obtain ⟨h1, h2⟩ := List.mem_filter.1 hm
    exact ⟨h1, by simpa [movM] using h2⟩
  have hno : ∀ m, m ∈ L → m.1 ≠ t ∧ m.2 ≠ t := fun m hm => by
    have := ht m hm
    unfold isM at this
    simp at this
    exact this
  refine ⟨(nodup_to hd).sublist (List.Sublist.map _ List.filter_sublist), fun m hm => (hno m (up m hm).1).2, fun m hm => (up m hm).2, fun m hm => (fin_of hd (up m hm).1).symm, fun p hp hq => ?_, ?_, 0, 0, rfl, by simp, Or.inl (by omega)⟩
  · show p = _
    by_cases hx : ∃ m, m ∈ L ∧ m.2 = p
    · obtain ⟨m, hm, rfl⟩ := hx
      have he : m.1 = m.2 := by
        by_cases h : m.1 = m.2
        · exact h
        · exact absurd rfl (hq m (List.mem_filter.2 ⟨hm, by simpa [movM] using h⟩))
      rw [fin_of hd hm, he]
    · exact (fin_not fun m hm e => hx ⟨m, hm, e⟩).symm
  · have : ¬ 0 < asks (L.filter movM) t := fun h => by
      obtain ⟨m, hm, e⟩ := asks_pos.1 h
      exact (hno m (up m hm).1).1 e
    omega
end Go.Proofs.Ytejionmgpplniaa.T
