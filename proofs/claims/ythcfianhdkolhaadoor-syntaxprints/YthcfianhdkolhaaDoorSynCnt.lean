/- A node is what it is asked to be, if and only if it is a unit's. No program. -/
import Derived.Test.YthcfianhdkolhaaDoorSynIs
namespace Go.Proofs.YthcfianhdkolhaaDoor.S
set_option linter.unusedVariables false
set_option linter.unusedSimpArgs false
theorem kids_all {kind : Int} {kids : List Nd} {p : Nd → Prop} (h : ∀ j (hj : j < kids.length), p kids[j]) : ∀ x, x ∈ kids → p x := fun x hx => by
  obtain ⟨j, hj, rfl⟩ := List.getElem_of_mem hx
  exact h j hj
theorem last_form {kids : List Nd} (h : 1 ≤ kids.length) : ∃ l t, kids = l ++ [t] := by
  have hne : kids ≠ [] := by intro e; subst e; simp at h
  exact ⟨kids.dropLast, kids.getLast hne, (List.dropLast_concat_getLast hne).symm⟩
theorem last2_form {kids : List Nd} (h : 2 ≤ kids.length) : ∃ l t b, kids = l ++ [t] ++ [b] := by
  obtain ⟨m, b, rfl⟩ := last_form (kids := kids) (by omega)
  obtain ⟨l, t, rfl⟩ := last_form (kids := m) (by simp at h; omega)
  exact ⟨l, t, b, rfl⟩
theorem one_form {kids : List Nd} (h : kids.length = 1) : ∃ a, kids = [a] := by
  match kids, h with
  | [a], _ => exact ⟨a, rfl⟩
theorem two_form {kids : List Nd} (h : kids.length = 2) : ∃ a b, kids = [a, b] := by
  match kids, h with
  | [a, b], _ => exact ⟨a, b, rfl⟩
theorem three_form {kids : List Nd} (h : kids.length = 3) : ∃ a b c, kids = [a, b, c] := by
  match kids, h with
  | [a, b, c], _ => exact ⟨a, b, c, rfl⟩
theorem ex_pl {p : Nd} (h : IsEx p) : baseN false p = 23 → IsPl p := by
  induction h with
  | name s hs => exact fun _ => IsPl.name s hs
  | dot s x hs _ ih => exact fun e => IsPl.dot s x hs (ih (by simpa [baseN, baseL] using e))
  | _ => intro e; simp [baseN] at e
theorem ex_ca {p : Nd} (h : IsEx p) : baseN true p = 23 → IsCa p := by
  induction h with
  | name s hs => exact fun _ => IsCa.name s hs
  | dot s x hs _ ih => exact fun e => IsCa.dot s x hs (ih (by simpa [baseN, baseL] using e))
  | call x l _ hl ih _ => exact fun e => IsCa.call x l (ih (by simpa [baseN, baseL] using e)) hl
  | _ => intro e; simp [baseN] at e
theorem pl_ex {p : Nd} (h : IsPl p) : IsEx p ∧ baseN false p = 23 := by
  induction h with
  | name s hs => exact ⟨IsEx.name s hs, by simp [baseN]⟩
  | dot s x hs _ ih => exact ⟨IsEx.dot s x hs ih.1, by simpa [baseN, baseL] using ih.2⟩
theorem ca_ex {p : Nd} (h : IsCa p) : IsEx p ∧ baseN true p = 23 := by
  induction h with
  | name s hs => exact ⟨IsEx.name s hs, by simp [baseN]⟩
  | dot s x hs _ ih => exact ⟨IsEx.dot s x hs ih.1, by simpa [baseN, baseL] using ih.2⟩
  | call x l _ hl ih => exact ⟨IsEx.call x l ih.1 hl, by simpa [baseN, baseL] using ih.2⟩
theorem cls_ty {k : Int} : clsN k = 2 ↔ k = 9 ∨ k = 10 ∨ k = 11 ∨ k = 12 := by
  unfold clsN; repeat' split
  all_goals omega
theorem cls_ex {k : Int} : clsN k = 4 ↔ k = 21 ∨ k = 22 ∨ k = 23 ∨ k = 24 ∨ k = 25 ∨ k = 26 ∨ k = 27 ∨ k = 28 ∨ k = 29 ∨ k = 30 ∨ k = 31 ∨ k = 32 ∨ k = 33 ∨ k = 34 := by
  unfold clsN; repeat' split
  all_goals omega
theorem cls_st {k : Int} : clsN k = 3 ↔ k = 14 ∨ k = 15 ∨ k = 16 ∨ k = 17 ∨ k = 18 ∨ k = 19 ∨ k = 20 := by
  unfold clsN; repeat' split
  all_goals omega
theorem cls_de {k : Int} : clsN k = 1 ↔ k = 2 ∨ k = 4 ∨ k = 5 ∨ k = 6 ∨ k = 7 := by
  unfold clsN; repeat' split
  all_goals omega
theorem op_of {v : Int} : opSign v ≠ [] ↔ isOp v := by
  unfold opSign isOp
  repeat' split
  all_goals simp_all
theorem b2n_of {v : Int} (h0 : 0 ≤ v) (h1 : v ≤ 1) : ∃ d, v = b2n d := by
  have : v = 0 ∨ v = 1 := by omega
  rcases this with rfl | rfl
  · exact ⟨false, rfl⟩
  · exact ⟨true, rfl⟩
theorem b2n_of2 {v : Int} (h0 : 0 ≤ v) (h1 : v ≤ 3) : ∃ st d, v = b2n st + 2 * b2n d := by
  have : v = 0 ∨ v = 1 ∨ v = 2 ∨ v = 3 := by omega
  rcases this with rfl | rfl | rfl | rfl
  · exact ⟨false, false, rfl⟩
  · exact ⟨true, false, rfl⟩
  · exact ⟨false, true, rfl⟩
  · exact ⟨true, true, rfl⟩
theorem loc_iff {kind : Int} {text : List UInt8} {num : Int} {kids : List Nd} {free t : Bool} {mx least most : Int} (hs : shpN kind = some (t, mx, least, most)) : locN kind text num kids free = true ↔
    (least ≤ kids.length ∧ (0 ≤ most → (kids.length : Int) ≤ most)) ∧ txtB t text = true ∧ (0 ≤ absN free num ∧ (0 ≤ mx → absN free num ≤ mx) ∧ (kind = 21 → absN free num ≤ 2147483647)) ∧ (kind = 32 → opSign num ≠ []) ∧ (kind = 15 → baseN false (kid0 kids) = 23) ∧ (kind = 20 → (kid0 kids).kind = 25 ∧ baseN true (kid0 kids) = 23) := by
  unfold locN
  rw [hs]
  simp only [cntB, numB, Bool.and_eq_true, decide_eq_true_eq, and_assoc]
theorem abs_f (v : Int) : absN false v = v := by simp [absN]
theorem nil_of {kids : List Nd} (h : (kids.length : Int) ≤ 0) : kids = [] := List.eq_nil_of_length_eq_zero (by omega)
theorem txt_f {s : List UInt8} (h : txtB false s = true) : s = [] := by simpa [txtB] using h
theorem txt_t {s : List UInt8} (h : txtB true s = true) : nameB s = true := by simpa [txtB] using h
theorem kid_of {kind : Int} {n i : Nat} {k : Int} (h : kidB kind n i k = true) : clsN k = (wantN kind n i).1 ∧ (0 < (wantN kind n i).2 → k = (wantN kind n i).2) ∧ ((wantN kind n i).2 < 0 → k = 21 ∨ k = 22) := of_decide_eq_true h
/-- What is asked of a kid that is a type, an expression, a statement, a declaration. -/
theorem kid_cls {kind : Int} {n i : Nat} {x : Nd} {c : Int} (hw : wantN kind n i = (c, 0)) (h : kidB kind n i x.kind = true ∧ isN x (freeB kind n i) = true) : clsN x.kind = c ∧ isN x false = true := by
  have h1 := (kid_of h.1).1
  have h2 := h.2
  rw [hw] at h1
  unfold freeB at h2
  rw [hw] at h2
  exact ⟨h1, h2⟩
/-- .. that is of a kind. -/
theorem kid_knd {kind : Int} {n i : Nat} {x : Nd} {c : Int} {k : Nat} (hw : wantN kind n i = (c, (k : Int))) (hk : 0 < k) (h : kidB kind n i x.kind = true ∧ isN x (freeB kind n i) = true) : x.kind = k ∧ isN x false = true := by
  have h1 := (kid_of h.1).2.1
  have h2 := h.2
  rw [hw] at h1
  unfold freeB at h2
  rw [hw] at h2
  refine ⟨h1 (by show (0 : Int) < k; omega), ?_⟩
  have : decide ((k : Int) < 0) = false := by simp
  rw [show ((c, (k : Int)).2) = (k : Int) from rfl, this] at h2
  exact h2
theorem is_ty : ∀ n, isN n false = true → clsN n.kind = 2 → IsTy n := by
  refine Nd.ind fun k t v kids ih h hc => ?_
  rw [isN_iff] at h
  obtain ⟨h1, h2⟩ := h
  have hc' : k = 9 ∨ k = 10 ∨ k = 11 ∨ k = 12 := cls_ty.1 hc
  rcases hc' with rfl | rfl | rfl | rfl
  · obtain ⟨⟨c1, c2⟩, tx, ⟨n1, n2, n3⟩, -⟩ := (loc_iff (t := false) (mx := 0) (least := 0) (most := 0) (by rfl)).1 h1
    rw [abs_f] at n1 n2
    obtain rfl := nil_of (c2 (by decide))
    obtain rfl := txt_f tx
    obtain rfl : v = 0 := by omega
    exact IsTy.int
  · obtain ⟨⟨c1, c2⟩, tx, ⟨n1, n2, n3⟩, -⟩ := (loc_iff (t := false) (mx := 0) (least := 0) (most := 0) (by rfl)).1 h1
    rw [abs_f] at n1 n2
    obtain rfl := nil_of (c2 (by decide))
    obtain rfl := txt_f tx
    obtain rfl : v = 0 := by omega
    exact IsTy.long
  · obtain ⟨⟨c1, c2⟩, tx, ⟨n1, n2, n3⟩, -⟩ := (loc_iff (t := true) (mx := 0) (least := 0) (most := 0) (by rfl)).1 h1
    rw [abs_f] at n1 n2
    obtain rfl := nil_of (c2 (by decide))
    obtain rfl : v = 0 := by omega
    exact IsTy.named t (txt_t tx)
  · obtain ⟨⟨c1, c2⟩, tx, ⟨n1, n2, n3⟩, -⟩ := (loc_iff (t := false) (mx := 1) (least := 1) (most := -1) (by rfl)).1 h1
    rw [abs_f] at n1 n2
    obtain rfl := txt_f tx
    obtain ⟨d, rfl⟩ := b2n_of n1 (n2 (by decide))
    have hk : ∀ x, x ∈ kids → IsTy x := kids_all (kind := 0) fun j hj => by
      obtain ⟨a1, a2⟩ := kid_cls (c := 2) (by rfl) (h2 j hj)
      exact ih _ (List.getElem_mem hj) a2 a1
    obtain ⟨l, t, rfl⟩ := last_form (kids := kids) (by omega)
    exact IsTy.fn l d t (fun x hx => hk x (by simp [hx])) (hk t (by simp))
theorem is_ex : ∀ n, Lg n → isN n false = true → clsN n.kind = 4 → IsEx n := by
  refine Nd.ind fun k t v kids ih0 hL h hc => ?_
  obtain ⟨_, _, _, _, g1, g2, g3⟩ := hL
  have ih := fun x hx => ih0 x hx (g3 x hx)
  rw [isN_iff] at h
  obtain ⟨h1, h2⟩ := h
  have hc' : k = 21 ∨ k = 22 ∨ k = 23 ∨ k = 24 ∨ k = 25 ∨ k = 26 ∨ k = 27 ∨ k = 28 ∨ k = 29 ∨ k = 30 ∨ k = 31 ∨ k = 32 ∨ k = 33 ∨ k = 34 := cls_ex.1 hc
  rcases hc' with rfl | rfl | rfl | rfl | rfl | rfl | rfl | rfl | rfl | rfl | rfl | rfl | rfl | rfl
  · obtain ⟨⟨c1, c2⟩, tx, ⟨n1, n2, n3⟩, o1, o2, o3⟩ := (loc_iff (t := false) (mx := -1) (least := 0) (most := 0) (by rfl)).1 h1
    rw [abs_f] at n1 n2 n3
    obtain rfl := nil_of (c2 (by decide))
    obtain rfl := txt_f tx
    exact IsEx.num v n1 (n3 rfl)
  · obtain ⟨⟨c1, c2⟩, tx, ⟨n1, n2, n3⟩, o1, o2, o3⟩ := (loc_iff (t := false) (mx := -1) (least := 0) (most := 0) (by rfl)).1 h1
    rw [abs_f] at n1 n2 n3
    obtain rfl := nil_of (c2 (by decide))
    obtain rfl := txt_f tx
    exact IsEx.long v n1 g2
  · obtain ⟨⟨c1, c2⟩, tx, ⟨n1, n2, n3⟩, o1, o2, o3⟩ := (loc_iff (t := true) (mx := 0) (least := 0) (most := 0) (by rfl)).1 h1
    rw [abs_f] at n1 n2 n3
    obtain rfl := nil_of (c2 (by decide))
    obtain rfl : v = 0 := by omega
    exact IsEx.name t (txt_t tx)
  · obtain ⟨⟨c1, c2⟩, tx, ⟨n1, n2, n3⟩, o1, o2, o3⟩ := (loc_iff (t := true) (mx := 0) (least := 1) (most := 1) (by rfl)).1 h1
    rw [abs_f] at n1 n2 n3
    obtain rfl : v = 0 := by omega
    obtain ⟨a, rfl⟩ := one_form (kids := kids) (by omega)
    have k0 := kid_cls (c := 4) (by rfl) (h2 0 (by simp))
    have i0 : IsEx a := ih a (by simp) k0.2 k0.1
    exact IsEx.dot t a (txt_t tx) i0
  · obtain ⟨⟨c1, c2⟩, tx, ⟨n1, n2, n3⟩, o1, o2, o3⟩ := (loc_iff (t := false) (mx := 0) (least := 1) (most := -1) (by rfl)).1 h1
    rw [abs_f] at n1 n2 n3
    obtain rfl : v = 0 := by omega
    obtain rfl := txt_f tx
    have hk : ∀ x, x ∈ kids → IsEx x := kids_all (kind := 0) fun j hj => by
      obtain ⟨a1, a2⟩ := kid_cls (c := 4) (by rfl) (h2 j hj)
      exact ih _ (List.getElem_mem hj) a2 a1
    cases kids with
    | nil => simp at c1
    | cons x l => exact IsEx.call x l (hk x (by simp)) (fun y hy => hk y (by simp [hy]))
  · obtain ⟨⟨c1, c2⟩, tx, ⟨n1, n2, n3⟩, o1, o2, o3⟩ := (loc_iff (t := true) (mx := 0) (least := 0) (most := 0) (by rfl)).1 h1
    rw [abs_f] at n1 n2 n3
    obtain rfl := nil_of (c2 (by decide))
    obtain rfl : v = 0 := by omega
    exact IsEx.addr t (txt_t tx)
  · obtain ⟨⟨c1, c2⟩, tx, ⟨n1, n2, n3⟩, o1, o2, o3⟩ := (loc_iff (t := true) (mx := 0) (least := 0) (most := -1) (by rfl)).1 h1
    rw [abs_f] at n1 n2 n3
    obtain rfl : v = 0 := by omega
    have hk : ∀ x, x ∈ kids → IsEx x := kids_all (kind := 0) fun j hj => by
      obtain ⟨a1, a2⟩ := kid_cls (c := 4) (by rfl) (h2 j hj)
      exact ih _ (List.getElem_mem hj) a2 a1
    exact IsEx.make t kids (txt_t tx) hk
  · obtain ⟨⟨c1, c2⟩, tx, ⟨n1, n2, n3⟩, o1, o2, o3⟩ := (loc_iff (t := false) (mx := 0) (least := 1) (most := 1) (by rfl)).1 h1
    rw [abs_f] at n1 n2 n3
    obtain rfl : v = 0 := by omega
    obtain rfl := txt_f tx
    obtain ⟨a, rfl⟩ := one_form (kids := kids) (by omega)
    have k0 := kid_cls (c := 4) (by rfl) (h2 0 (by simp))
    have i0 : IsEx a := ih a (by simp) k0.2 k0.1
    exact IsEx.neg a i0
  · obtain ⟨⟨c1, c2⟩, tx, ⟨n1, n2, n3⟩, o1, o2, o3⟩ := (loc_iff (t := false) (mx := 0) (least := 1) (most := 1) (by rfl)).1 h1
    rw [abs_f] at n1 n2 n3
    obtain rfl : v = 0 := by omega
    obtain rfl := txt_f tx
    obtain ⟨a, rfl⟩ := one_form (kids := kids) (by omega)
    have k0 := kid_cls (c := 4) (by rfl) (h2 0 (by simp))
    have i0 : IsEx a := ih a (by simp) k0.2 k0.1
    exact IsEx.not a i0
  · obtain ⟨⟨c1, c2⟩, tx, ⟨n1, n2, n3⟩, o1, o2, o3⟩ := (loc_iff (t := false) (mx := 0) (least := 1) (most := 1) (by rfl)).1 h1
    rw [abs_f] at n1 n2 n3
    obtain rfl : v = 0 := by omega
    obtain rfl := txt_f tx
    obtain ⟨a, rfl⟩ := one_form (kids := kids) (by omega)
    have k0 := kid_cls (c := 4) (by rfl) (h2 0 (by simp))
    have i0 : IsEx a := ih a (by simp) k0.2 k0.1
    exact IsEx.toInt a i0
  · obtain ⟨⟨c1, c2⟩, tx, ⟨n1, n2, n3⟩, o1, o2, o3⟩ := (loc_iff (t := false) (mx := 0) (least := 1) (most := 1) (by rfl)).1 h1
    rw [abs_f] at n1 n2 n3
    obtain rfl : v = 0 := by omega
    obtain rfl := txt_f tx
    obtain ⟨a, rfl⟩ := one_form (kids := kids) (by omega)
    have k0 := kid_cls (c := 4) (by rfl) (h2 0 (by simp))
    have i0 : IsEx a := ih a (by simp) k0.2 k0.1
    exact IsEx.toLong a i0
  · obtain ⟨⟨c1, c2⟩, tx, ⟨n1, n2, n3⟩, o1, o2, o3⟩ := (loc_iff (t := false) (mx := 12) (least := 2) (most := 2) (by rfl)).1 h1
    rw [abs_f] at n1 n2 n3
    obtain rfl := txt_f tx
    obtain ⟨a, b, rfl⟩ := two_form (kids := kids) (by omega)
    have k0 := kid_cls (c := 4) (by rfl) (h2 0 (by simp))
    have i0 : IsEx a := ih a (by simp) k0.2 k0.1
    have k1 := kid_cls (c := 4) (by rfl) (h2 1 (by simp))
    have i1 : IsEx b := ih b (by simp) k1.2 k1.1
    exact IsEx.op v a b (op_of.1 (o1 rfl)) i0 i1
  · obtain ⟨⟨c1, c2⟩, tx, ⟨n1, n2, n3⟩, o1, o2, o3⟩ := (loc_iff (t := false) (mx := 0) (least := 0) (most := 0) (by rfl)).1 h1
    rw [abs_f] at n1 n2 n3
    obtain rfl := nil_of (c2 (by decide))
    obtain rfl : v = 0 := by omega
    obtain rfl := txt_f tx
    exact IsEx.count
  · obtain ⟨⟨c1, c2⟩, tx, ⟨n1, n2, n3⟩, o1, o2, o3⟩ := (loc_iff (t := false) (mx := 0) (least := 1) (most := 1) (by rfl)).1 h1
    rw [abs_f] at n1 n2 n3
    obtain rfl : v = 0 := by omega
    obtain rfl := txt_f tx
    obtain ⟨a, rfl⟩ := one_form (kids := kids) (by omega)
    have k0 := kid_cls (c := 4) (by rfl) (h2 0 (by simp))
    have i0 : IsEx a := ih a (by simp) k0.2 k0.1
    exact IsEx.extra a i0
/-- A block. -/
def IsBl (n : Nd) : Prop := ∃ l, n = .mk 13 [] 0 l ∧ ∀ y, y ∈ l → IsSt y
theorem blk_of {x : Nd} (h : isN x false = true) (hk : x.kind = 13) (hs : ∀ y, y ∈ x.kids → isN y false = true → clsN y.kind = 3 → IsSt y) : IsBl x := by
  obtain ⟨k, t, v, kids⟩ := x
  obtain rfl : k = 13 := hk
  rw [isN_iff] at h
  obtain ⟨h1, h2⟩ := h
  obtain ⟨⟨c1, c2⟩, tx, ⟨n1, n2, n3⟩, -⟩ := (loc_iff (t := false) (mx := 0) (least := 0) (most := -1) (by rfl)).1 h1
  rw [abs_f] at n1 n2
  obtain rfl := txt_f tx
  obtain rfl : v = 0 := by omega
  exact ⟨kids, rfl, kids_all (kind := 0) fun j hj => by
    obtain ⟨a1, a2⟩ := kid_cls (c := 3) (by rfl) (h2 j hj)
    exact hs _ (List.getElem_mem hj) a2 a1⟩
theorem Lg.kid {x y : Nd} (h : Lg x) (hy : y ∈ x.kids) : Lg y := by
  cases h with
  | mk k t v kids h1 h2 h3 => exact h3 y hy
/-- By how deep it is. -/
def dep : Nd → Nat
  | .mk _ _ _ kids => depL kids + 1
  where depL : List Nd → Nat
  | [] => 0
  | k :: r => max (dep k) (depL r)
theorem is_st : ∀ n, Lg n → (isN n false = true → clsN n.kind = 3 → IsSt n) ∧ (∀ y, y ∈ n.kids → isN y false = true → clsN y.kind = 3 → IsSt y) := by
  refine Nd.ind fun k t v kids ih0 hL => ?_
  obtain ⟨_, _, _, _, g1, g2, g3⟩ := hL
  refine ⟨fun h hc => ?_, fun y hy => (ih0 y hy (g3 y hy)).1⟩
  have ihb : ∀ x, x ∈ kids → isN x false = true → x.kind = 13 → IsBl x := fun x hx h1 h2 => blk_of h1 h2 (ih0 x hx (g3 x hx)).2
  have ihx : ∀ x, x ∈ kids → isN x false = true → clsN x.kind = 4 → IsEx x := fun x hx h1 h2 => is_ex x (g3 x hx) h1 h2
  rw [isN_iff] at h
  obtain ⟨h1, h2⟩ := h
  have hc' : k = 14 ∨ k = 15 ∨ k = 16 ∨ k = 17 ∨ k = 18 ∨ k = 19 ∨ k = 20 := cls_st.1 hc
  rcases hc' with rfl | rfl | rfl | rfl | rfl | rfl | rfl
  · obtain ⟨⟨c1, c2⟩, tx, ⟨n1, n2, n3⟩, o1, o2, o3⟩ := (loc_iff (t := true) (mx := 0) (least := 2) (most := 2) (by rfl)).1 h1
    rw [abs_f] at n1 n2 n3
    obtain rfl : v = 0 := by omega
    obtain ⟨a, b, rfl⟩ := two_form (kids := kids) (by omega)
    have k0 := kid_cls (c := 2) (by rfl) (h2 0 (by simp))
    have i0 : IsTy a := is_ty a k0.2 k0.1
    have k1 := kid_cls (c := 4) (by rfl) (h2 1 (by simp))
    have i1 : IsEx b := ihx b (by simp) k1.2 k1.1
    exact IsSt.var t a b (txt_t tx) i0 i1
  · obtain ⟨⟨c1, c2⟩, tx, ⟨n1, n2, n3⟩, o1, o2, o3⟩ := (loc_iff (t := false) (mx := 0) (least := 2) (most := 2) (by rfl)).1 h1
    rw [abs_f] at n1 n2 n3
    obtain rfl : v = 0 := by omega
    obtain rfl := txt_f tx
    obtain ⟨a, b, rfl⟩ := two_form (kids := kids) (by omega)
    have k0 := kid_cls (c := 4) (by rfl) (h2 0 (by simp))
    have i0 : IsEx a := ihx a (by simp) k0.2 k0.1
    have k1 := kid_cls (c := 4) (by rfl) (h2 1 (by simp))
    have i1 : IsEx b := ihx b (by simp) k1.2 k1.1
    exact IsSt.set a b (ex_pl i0 (o2 rfl)) i1
  · obtain ⟨⟨c1, c2⟩, tx, ⟨n1, n2, n3⟩, o1, o2, o3⟩ := (loc_iff (t := false) (mx := 0) (least := 2) (most := 3) (by rfl)).1 h1
    rw [abs_f] at n1 n2 n3
    obtain rfl : v = 0 := by omega
    obtain rfl := txt_f tx
    have hl : kids.length = 2 ∨ kids.length = 3 := by have := c2 (by decide); omega
    rcases hl with hl | hl
    · obtain ⟨a, b, rfl⟩ := two_form hl
      have k0 := kid_cls (c := 4) (by rfl) (h2 0 (by simp))
      have i0 : IsEx a := ihx a (by simp) k0.2 k0.1
      have k1 := kid_knd (c := 5) (k := 13) (by rfl) (by decide) (h2 1 (by simp))
      obtain ⟨l, rfl, q1⟩ : IsBl b := ihb b (by simp) k1.2 k1.1
      exact IsSt.if1 a l i0 q1
    · obtain ⟨a, b, c, rfl⟩ := three_form hl
      have k0 := kid_cls (c := 4) (by rfl) (h2 0 (by simp))
      have i0 : IsEx a := ihx a (by simp) k0.2 k0.1
      have k1 := kid_knd (c := 5) (k := 13) (by rfl) (by decide) (h2 1 (by simp))
      obtain ⟨l, rfl, q1⟩ : IsBl b := ihb b (by simp) k1.2 k1.1
      have k2 := kid_knd (c := 5) (k := 13) (by rfl) (by decide) (h2 2 (by simp))
      obtain ⟨m, rfl, q2⟩ : IsBl c := ihb c (by simp) k2.2 k2.1
      exact IsSt.if2 a l m i0 q1 q2
  · obtain ⟨⟨c1, c2⟩, tx, ⟨n1, n2, n3⟩, o1, o2, o3⟩ := (loc_iff (t := false) (mx := 0) (least := 2) (most := 2) (by rfl)).1 h1
    rw [abs_f] at n1 n2 n3
    obtain rfl : v = 0 := by omega
    obtain rfl := txt_f tx
    obtain ⟨a, b, rfl⟩ := two_form (kids := kids) (by omega)
    have k0 := kid_cls (c := 4) (by rfl) (h2 0 (by simp))
    have i0 : IsEx a := ihx a (by simp) k0.2 k0.1
    have k1 := kid_knd (c := 5) (k := 13) (by rfl) (by decide) (h2 1 (by simp))
    obtain ⟨l, rfl, q1⟩ : IsBl b := ihb b (by simp) k1.2 k1.1
    exact IsSt.while1 a l i0 q1
  · obtain ⟨⟨c1, c2⟩, tx, ⟨n1, n2, n3⟩, o1, o2, o3⟩ := (loc_iff (t := false) (mx := 0) (least := 1) (most := 1) (by rfl)).1 h1
    rw [abs_f] at n1 n2 n3
    obtain rfl : v = 0 := by omega
    obtain rfl := txt_f tx
    obtain ⟨a, rfl⟩ := one_form (kids := kids) (by omega)
    have k0 := kid_cls (c := 4) (by rfl) (h2 0 (by simp))
    have i0 : IsEx a := ihx a (by simp) k0.2 k0.1
    exact IsSt.ret a i0
  · obtain ⟨⟨c1, c2⟩, tx, ⟨n1, n2, n3⟩, o1, o2, o3⟩ := (loc_iff (t := false) (mx := 0) (least := 1) (most := 1) (by rfl)).1 h1
    rw [abs_f] at n1 n2 n3
    obtain rfl : v = 0 := by omega
    obtain rfl := txt_f tx
    obtain ⟨a, rfl⟩ := one_form (kids := kids) (by omega)
    have k0 := kid_cls (c := 4) (by rfl) (h2 0 (by simp))
    have i0 : IsEx a := ihx a (by simp) k0.2 k0.1
    exact IsSt.put a i0
  · obtain ⟨⟨c1, c2⟩, tx, ⟨n1, n2, n3⟩, o1, o2, o3⟩ := (loc_iff (t := false) (mx := 0) (least := 1) (most := 1) (by rfl)).1 h1
    rw [abs_f] at n1 n2 n3
    obtain rfl : v = 0 := by omega
    obtain rfl := txt_f tx
    obtain ⟨a, rfl⟩ := one_form (kids := kids) (by omega)
    have k0 := kid_cls (c := 4) (by rfl) (h2 0 (by simp))
    have i0 : IsEx a := ihx a (by simp) k0.2 k0.1
    have h20 := o3 rfl
    have hca := ex_ca i0 h20.2
    cases hca with
    | name s hs => exact absurd (show (23 : Int) = 25 from h20.1) (by decide)
    | dot s x hs hx => exact absurd (show (24 : Int) = 25 from h20.1) (by decide)
    | call x l hx hl => exact IsSt.do1 x l hx hl
theorem is_one {n : Nd} {k : Int} (h : isN n false = true) (hk : n.kind = k) (h3 : k = 3 ∨ k = 8) : ∃ s t, nameB s = true ∧ IsTy t ∧ n = .mk k s 0 [t] := by
  obtain ⟨k', t, v, kids⟩ := n
  obtain rfl : k' = k := hk
  rw [isN_iff] at h
  obtain ⟨h1, h2⟩ := h
  rcases h3 with rfl | rfl
  · obtain ⟨⟨c1, c2⟩, tx, ⟨n1, n2, n3⟩, o1, o2, o3⟩ := (loc_iff (t := true) (mx := 0) (least := 1) (most := 1) (by rfl)).1 h1
    rw [abs_f] at n1 n2 n3
    obtain rfl : v = 0 := by omega
    obtain ⟨a, rfl⟩ := one_form (kids := kids) (by omega)
    have k0 := kid_cls (c := 2) (by rfl) (h2 0 (by simp))
    exact ⟨t, a, txt_t tx, is_ty a k0.2 k0.1, rfl⟩
  · obtain ⟨⟨c1, c2⟩, tx, ⟨n1, n2, n3⟩, o1, o2, o3⟩ := (loc_iff (t := true) (mx := 0) (least := 1) (most := 1) (by rfl)).1 h1
    rw [abs_f] at n1 n2 n3
    obtain rfl : v = 0 := by omega
    obtain ⟨a, rfl⟩ := one_form (kids := kids) (by omega)
    have k0 := kid_cls (c := 2) (by rfl) (h2 0 (by simp))
    exact ⟨t, a, txt_t tx, is_ty a k0.2 k0.1, rfl⟩
theorem is_pa {n : Nd} (h : isN n false = true) (hk : n.kind = 8) : IsPa n := by
  obtain ⟨s, t, h1, h2, rfl⟩ := is_one h hk (Or.inr rfl)
  exact IsPa.param s t h1 h2
theorem is_fi {n : Nd} (h : isN n false = true) (hk : n.kind = 3) : IsFi n := by
  obtain ⟨s, t, h1, h2, rfl⟩ := is_one h hk (Or.inl rfl)
  exact IsFi.field s t h1 h2
theorem abs_b {v m : Int} (h0 : 0 ≤ absN true v) (h1 : absN true v ≤ m) : -m ≤ v ∧ v ≤ m := by
  unfold absN neg64 at h0 h1
  repeat' split at h0
  all_goals (repeat' split at h1) <;> omega
theorem is_num {n : Nd} (hL : Lg n) (h : isN n true = true) (hk : n.kind = 21 ∨ n.kind = 22) : ∃ v, (n = .mk 21 [] v [] ∧ -2147483647 ≤ v ∧ v ≤ 2147483647) ∨ (n = .mk 22 [] v [] ∧ -9223372036854775807 ≤ v ∧ v ≤ 9223372036854775807) := by
  obtain ⟨k, t, v, kids⟩ := n
  obtain ⟨_, _, _, _, g1, g2, g3⟩ := hL
  rw [isN_iff] at h
  obtain ⟨h1, h2⟩ := h
  rcases hk with hk | hk
  · obtain rfl : k = 21 := hk
    obtain ⟨⟨c1, c2⟩, tx, ⟨n1, n2, n3⟩, -⟩ := (loc_iff (t := false) (mx := -1) (least := 0) (most := 0) (by rfl)).1 h1
    obtain rfl := nil_of (c2 (by decide))
    obtain rfl := txt_f tx
    exact ⟨v, Or.inl ⟨rfl, abs_b n1 (n3 rfl)⟩⟩
  · obtain rfl : k = 22 := hk
    obtain ⟨⟨c1, c2⟩, tx, ⟨n1, n2, n3⟩, -⟩ := (loc_iff (t := false) (mx := -1) (least := 0) (most := 0) (by rfl)).1 h1
    obtain rfl := nil_of (c2 (by decide))
    obtain rfl := txt_f tx
    have : absN true v ≤ 9223372036854775807 := by
      unfold absN neg64
      repeat' split
      all_goals omega
    exact ⟨v, Or.inr ⟨rfl, abs_b n1 this⟩⟩
theorem is_de : ∀ n, Lg n → isN n false = true → clsN n.kind = 1 → IsDe n := by
  intro n hL h hc
  obtain ⟨k, t, v, kids⟩ := n
  obtain ⟨_, _, _, _, g1, g2, g3⟩ := hL
  rw [isN_iff] at h
  obtain ⟨h1, h2⟩ := h
  have hc' : k = 2 ∨ k = 4 ∨ k = 5 ∨ k = 6 ∨ k = 7 := cls_de.1 hc
  rcases hc' with rfl | rfl | rfl | rfl | rfl
  · obtain ⟨⟨c1, c2⟩, tx, ⟨n1, n2, n3⟩, o1, o2, o3⟩ := (loc_iff (t := true) (mx := 0) (least := 1) (most := -1) (by rfl)).1 h1
    rw [abs_f] at n1 n2 n3
    obtain rfl : v = 0 := by omega
    refine IsDe.struct1 t kids (txt_t tx) (fun e => by subst e; simp at c1) (kids_all (kind := 0) fun j hj => ?_)
    obtain ⟨a1, a2⟩ := kid_knd (c := 5) (k := 3) (by rfl) (by decide) (h2 j hj)
    exact is_fi a2 a1
  · obtain ⟨⟨c1, c2⟩, tx, ⟨n1, n2, n3⟩, o1, o2, o3⟩ := (loc_iff (t := true) (mx := 1) (least := 1) (most := -1) (by rfl)).1 h1
    rw [abs_f] at n1 n2 n3
    obtain ⟨d, rfl⟩ := b2n_of n1 (n2 (by decide))
    obtain ⟨l, u, rfl⟩ := last_form (kids := kids) (by omega)
    refine IsDe.extern1 t l d u (txt_t tx) (kids_all (kind := 0) fun j hj => ?_) ?_
    · have := h2 j (by simp; omega)
      rw [List.getElem_append_left hj] at this
      obtain ⟨a1, a2⟩ := kid_knd (c := 5) (k := 8) (by unfold wantN; simp; omega) (by decide) this
      exact is_pa a2 a1
    · have := h2 l.length (by simp)
      rw [List.getElem_append_right (Nat.le_refl _)] at this
      simp only [Nat.sub_self, List.getElem_cons_zero] at this
      obtain ⟨a1, a2⟩ := kid_cls (c := 2) (by unfold wantN; simp) this
      exact is_ty _ a2 a1
  · obtain ⟨⟨c1, c2⟩, tx, ⟨n1, n2, n3⟩, o1, o2, o3⟩ := (loc_iff (t := true) (mx := 0) (least := 1) (most := 1) (by rfl)).1 h1
    rw [abs_f] at n1 n2 n3
    obtain rfl : v = 0 := by omega
    obtain ⟨a, rfl⟩ := one_form (kids := kids) (by omega)
    have k0 := kid_cls (c := 2) (by rfl) (h2 0 (by simp))
    exact IsDe.outside t a (txt_t tx) (is_ty a k0.2 k0.1)
  · obtain ⟨⟨c1, c2⟩, tx, ⟨n1, n2, n3⟩, o1, o2, o3⟩ := (loc_iff (t := true) (mx := 1) (least := 2) (most := 2) (by rfl)).1 h1
    rw [abs_f] at n1 n2 n3
    obtain ⟨a, b, rfl⟩ := two_form (kids := kids) (by omega)
    obtain ⟨d, rfl⟩ := b2n_of n1 (n2 (by decide))
    have k0 := kid_cls (c := 2) (by rfl) (h2 0 (by simp))
    have k1 := h2 1 (by simp)
    have k2 := (kid_of k1.1).2.2 (show (wantN 6 2 1).2 < 0 by decide)
    obtain ⟨v, ⟨e, e1, e2⟩ | ⟨e, e1, e2⟩⟩ := is_num (n := b) (g3 b (by simp)) k1.2 k2
    · rw [e]
      exact IsDe.global t d a v (txt_t tx) (is_ty a k0.2 k0.1) e1 e2
    · rw [e]
      exact IsDe.globalL t d a v (txt_t tx) (is_ty a k0.2 k0.1) e1 e2
  · obtain ⟨⟨c1, c2⟩, tx, ⟨n1, n2, n3⟩, o1, o2, o3⟩ := (loc_iff (t := true) (mx := 3) (least := 2) (most := -1) (by rfl)).1 h1
    rw [abs_f] at n1 n2 n3
    obtain ⟨st, d, rfl⟩ := b2n_of2 n1 (n2 (by decide))
    obtain ⟨l, u, b, rfl⟩ := last2_form (kids := kids) (by omega)
    have hb := h2 (l.length + 1) (by simp)
    rw [List.getElem_append_right (by simp)] at hb
    simp only [List.length_append, List.length_cons, List.length_nil, Nat.zero_add, Nat.sub_self, List.getElem_cons_zero] at hb
    obtain ⟨b1, b2⟩ := kid_knd (c := 5) (k := 13) (by unfold wantN; simp) (by decide) hb
    obtain ⟨m, rfl, hm⟩ := blk_of b2 b1 (is_st b (g3 b (by simp))).2
    refine IsDe.fun1 t st d l u m (txt_t tx) (kids_all (kind := 0) fun j hj => ?_) ?_ hm
    · have := h2 j (by simp; omega)
      rw [List.getElem_append_left (by simp; omega), List.getElem_append_left hj] at this
      obtain ⟨a1, a2⟩ := kid_knd (c := 5) (k := 8) (by unfold wantN; simp; rw [if_neg (by omega), if_neg (by omega)]) (by decide) this
      exact is_pa a2 a1
    · have := h2 l.length (by simp)
      rw [List.getElem_append_left (by simp), List.getElem_append_right (Nat.le_refl _)] at this
      simp only [Nat.sub_self, List.getElem_cons_zero] at this
      obtain ⟨a1, a2⟩ := kid_cls (c := 2) (by unfold wantN; simp) this
      exact is_ty _ a2 a1
theorem is_un {n : Nd} (hL : Lg n) (h : isN n false = true) (hk : n.kind = 1) : IsUn n := by
  obtain ⟨k, t, v, kids⟩ := n
  obtain rfl : k = 1 := hk
  obtain ⟨_, _, _, _, g1, g2, g3⟩ := hL
  rw [isN_iff] at h
  obtain ⟨h1, h2⟩ := h
  obtain ⟨⟨c1, c2⟩, tx, ⟨n1, n2, n3⟩, -⟩ := (loc_iff (t := false) (mx := 0) (least := 0) (most := -1) (by rfl)).1 h1
  rw [abs_f] at n1 n2
  obtain rfl := txt_f tx
  obtain rfl : v = 0 := by omega
  exact IsUn.unit kids (kids_all (kind := 0) fun j hj => by
    obtain ⟨a1, a2⟩ := kid_cls (c := 1) (by rfl) (h2 j hj)
    exact is_de _ (g3 _ (List.getElem_mem hj)) a2 a1)
end Go.Proofs.YthcfianhdkolhaaDoor.S

namespace Go.Proofs.YthcfianhdkolhaaDoor.S
set_option linter.unusedVariables false
set_option linter.unusedSimpArgs false
theorem txt_ok {s : List UInt8} (h : nameB s = true) : txtB true s = true := by simpa [txtB] using h
theorem kid_ok {kind : Int} {n i : Nat} {x : Nd} {c : Int} (hw : wantN kind n i = (c, 0)) (h1 : clsN x.kind = c) (h2 : isN x false = true) : kidB kind n i x.kind = true ∧ isN x (freeB kind n i) = true := by
  unfold kidB freeB
  rw [hw]
  refine ⟨decide_eq_true ⟨h1, fun h => absurd (show (0 : Int) < 0 from h) (by decide), fun h => absurd (show (0 : Int) < 0 from h) (by decide)⟩, h2⟩
theorem kid_okK {kind : Int} {n i : Nat} {x : Nd} {c : Int} {k : Nat} (hw : wantN kind n i = (c, (k : Int))) (hc : clsN k = c) (h1 : x.kind = k) (h2 : isN x false = true) : kidB kind n i x.kind = true ∧ isN x (freeB kind n i) = true := by
  unfold kidB freeB
  rw [hw]
  refine ⟨decide_eq_true ⟨by rw [h1]; exact hc, fun h => h1, fun h => absurd h (by show ¬ (k : Int) < 0; omega)⟩, ?_⟩
  have : decide ((k : Int) < 0) = false := by simp
  show isN x (decide ((k : Int) < 0)) = true
  rw [this]
  exact h2
theorem mk_is {kind : Int} {text : List UInt8} {num : Int} {kids : List Nd} {free t : Bool} {mx least most : Int} (hs : shpN kind = some (t, mx, least, most)) (h1 : least ≤ kids.length ∧ (0 ≤ most → (kids.length : Int) ≤ most)) (h2 : txtB t text = true) (h3 : 0 ≤ absN free num ∧ (0 ≤ mx → absN free num ≤ mx) ∧ (kind = 21 → absN free num ≤ 2147483647))
    (h4 : (kind = 32 → opSign num ≠ []) ∧ (kind = 15 → baseN false (kid0 kids) = 23) ∧ (kind = 20 → (kid0 kids).kind = 25 ∧ baseN true (kid0 kids) = 23)) (h5 : ∀ j (hj : j < kids.length), kidB kind kids.length j kids[j].kind = true ∧ isN kids[j] (freeB kind kids.length j) = true) : isN (.mk kind text num kids) free = true :=
  (isN_iff _ _ _ _ _).2 ⟨(loc_iff hs).2 ⟨h1, h2, h3, h4.1, h4.2.1, h4.2.2⟩, h5⟩
theorem all_one {p : (j : Nat) → Nd → Prop} {a : Nd} (h : p 0 a) : ∀ j (hj : j < [a].length), p j [a][j] := fun j hj => by
  have : j = 0 := by simp at hj; omega
  subst this
  exact h
theorem all_two {p : (j : Nat) → Nd → Prop} {a b : Nd} (h : p 0 a) (h1 : p 1 b) : ∀ j (hj : j < [a, b].length), p j [a, b][j] := fun j hj => by
  have : j = 0 ∨ j = 1 := by simp at hj; omega
  rcases this with rfl | rfl
  · exact h
  · exact h1
theorem all_three {p : (j : Nat) → Nd → Prop} {a b c : Nd} (h : p 0 a) (h1 : p 1 b) (h2 : p 2 c) : ∀ j (hj : j < [a, b, c].length), p j [a, b, c][j] := fun j hj => by
  have : j = 0 ∨ j = 1 ∨ j = 2 := by simp at hj; omega
  rcases this with rfl | rfl | rfl
  · exact h
  · exact h1
  · exact h2
theorem abs_z {n : Int} {k kd : Int} (h0 : 0 ≤ n) (h1 : n ≤ k) (hk : ¬ kd = 21) : 0 ≤ absN false n ∧ (0 ≤ k → absN false n ≤ k) ∧ (kd = 21 → absN false n ≤ 2147483647) := by
  rw [abs_f]
  exact ⟨h0, fun _ => h1, fun e => absurd e hk⟩
theorem abs_0 {kd : Int} (hk : ¬ kd = 21) : 0 ≤ absN false 0 ∧ ((0 : Int) ≤ 0 → absN false 0 ≤ 0) ∧ (kd = 21 → absN false 0 ≤ 2147483647) := abs_z (by decide) (by decide) hk
theorem b2n_le (d : Bool) : 0 ≤ b2n d ∧ b2n d ≤ 1 := by cases d <;> decide
theorem ty_is {n : Nd} (h : IsTy n) : clsN n.kind = 2 ∧ isN n false = true := by
  induction h with
  | int => exact ⟨rfl, mk_is (t := false) (mx := 0) (least := 0) (most := 0) (by rfl) ⟨by simp, fun _ => by simp⟩ rfl (abs_0 (by decide)) ⟨fun e => absurd e (by decide), fun e => absurd e (by decide), fun e => absurd e (by decide)⟩ (fun j hj => absurd hj (by simp))⟩
  | long => exact ⟨rfl, mk_is (t := false) (mx := 0) (least := 0) (most := 0) (by rfl) ⟨by simp, fun _ => by simp⟩ rfl (abs_0 (by decide)) ⟨fun e => absurd e (by decide), fun e => absurd e (by decide), fun e => absurd e (by decide)⟩ (fun j hj => absurd hj (by simp))⟩
  | named s hs => exact ⟨rfl, mk_is (t := true) (mx := 0) (least := 0) (most := 0) (by rfl) ⟨by simp, fun _ => by simp⟩ (txt_ok hs) (abs_0 (by decide)) ⟨fun e => absurd e (by decide), fun e => absurd e (by decide), fun e => absurd e (by decide)⟩ (fun j hj => absurd hj (by simp))⟩
  | fn l d t hl ht ihl iht =>
    refine ⟨rfl, mk_is (t := false) (mx := 1) (least := 1) (most := -1) (by rfl) ⟨by simp; omega, fun e => absurd e (by decide)⟩ rfl (abs_z (b2n_le d).1 (b2n_le d).2 (by decide)) ⟨fun e => absurd e (by decide), fun e => absurd e (by decide), fun e => absurd e (by decide)⟩ ?_⟩
    intro j hj
    have hm : (l ++ [t])[j] ∈ l ++ [t] := List.getElem_mem hj
    have hx : clsN ((l ++ [t])[j]).kind = 2 ∧ isN ((l ++ [t])[j]) false = true := by
      rcases List.mem_append.1 hm with h | h
      · exact ihl _ h
      · rw [List.mem_singleton.1 h]; exact iht
    exact kid_ok (c := 2) (by rfl) hx.1 hx.2
theorem ex_is {n : Nd} (h : IsEx n) : clsN n.kind = 4 ∧ isN n false = true := by
  induction h with
  | num v h0 h1 => exact ⟨rfl, mk_is (t := false) (mx := -1) (least := 0) (most := 0) (by rfl) ⟨by simp, fun _ => by simp⟩ rfl (by rw [abs_f]; exact ⟨h0, fun e => absurd e (by decide), fun _ => h1⟩) ⟨fun e => absurd e (by decide), fun e => absurd e (by decide), fun e => absurd e (by decide)⟩ (fun j hj => absurd hj (by simp))⟩
  | long v h0 h1 => exact ⟨rfl, mk_is (t := false) (mx := -1) (least := 0) (most := 0) (by rfl) ⟨by simp, fun _ => by simp⟩ rfl (by rw [abs_f]; exact ⟨h0, fun e => absurd e (by decide), fun e => absurd e (by decide)⟩) ⟨fun e => absurd e (by decide), fun e => absurd e (by decide), fun e => absurd e (by decide)⟩ (fun j hj => absurd hj (by simp))⟩
  | name s hs => exact ⟨rfl, mk_is (t := true) (mx := 0) (least := 0) (most := 0) (by rfl) ⟨by simp, fun _ => by simp⟩ (txt_ok hs) (abs_0 (by decide)) ⟨fun e => absurd e (by decide), fun e => absurd e (by decide), fun e => absurd e (by decide)⟩ (fun j hj => absurd hj (by simp))⟩
  | dot s x hs hx ih => exact ⟨rfl, mk_is (t := true) (mx := 0) (least := 1) (most := 1) (by rfl) ⟨by simp, fun _ => by simp⟩ (txt_ok hs) (abs_0 (by decide)) ⟨fun e => absurd e (by decide), fun e => absurd e (by decide), fun e => absurd e (by decide)⟩ (all_one (p := fun j x => kidB _ _ j x.kind = true ∧ isN x (freeB _ _ j) = true) (kid_ok (c := 4) (by rfl) ih.1 ih.2))⟩
  | call x l hx hl ihx ihl =>
    have hA : ∀ y, y ∈ x :: l → clsN y.kind = 4 ∧ isN y false = true := fun y hy => by
      rcases List.mem_cons.1 hy with rfl | h
      · exact ihx
      · exact ihl y h
    exact ⟨rfl, mk_is (t := false) (mx := 0) (least := 1) (most := -1) (by rfl) ⟨by simp; omega, fun e => absurd e (by decide)⟩ rfl (abs_0 (by decide)) ⟨fun e => absurd e (by decide), fun e => absurd e (by decide), fun e => absurd e (by decide)⟩ (fun j hj => by
      have hx := hA _ (List.getElem_mem hj)
      exact kid_ok (c := 4) (by rfl) hx.1 hx.2)⟩
  | addr s hs => exact ⟨rfl, mk_is (t := true) (mx := 0) (least := 0) (most := 0) (by rfl) ⟨by simp, fun _ => by simp⟩ (txt_ok hs) (abs_0 (by decide)) ⟨fun e => absurd e (by decide), fun e => absurd e (by decide), fun e => absurd e (by decide)⟩ (fun j hj => absurd hj (by simp))⟩
  | make s l hs hl ihl =>
    have hA : ∀ y, y ∈ l → clsN y.kind = 4 ∧ isN y false = true := ihl
    exact ⟨rfl, mk_is (t := true) (mx := 0) (least := 0) (most := -1) (by rfl) ⟨by simp, fun e => absurd e (by decide)⟩ (txt_ok hs) (abs_0 (by decide)) ⟨fun e => absurd e (by decide), fun e => absurd e (by decide), fun e => absurd e (by decide)⟩ (fun j hj => by
      have hx := hA _ (List.getElem_mem hj)
      exact kid_ok (c := 4) (by rfl) hx.1 hx.2)⟩
  | neg x hx ih => exact ⟨rfl, mk_is (t := false) (mx := 0) (least := 1) (most := 1) (by rfl) ⟨by simp, fun _ => by simp⟩ rfl (abs_0 (by decide)) ⟨fun e => absurd e (by decide), fun e => absurd e (by decide), fun e => absurd e (by decide)⟩ (all_one (p := fun j x => kidB _ _ j x.kind = true ∧ isN x (freeB _ _ j) = true) (kid_ok (c := 4) (by rfl) ih.1 ih.2))⟩
  | not x hx ih => exact ⟨rfl, mk_is (t := false) (mx := 0) (least := 1) (most := 1) (by rfl) ⟨by simp, fun _ => by simp⟩ rfl (abs_0 (by decide)) ⟨fun e => absurd e (by decide), fun e => absurd e (by decide), fun e => absurd e (by decide)⟩ (all_one (p := fun j x => kidB _ _ j x.kind = true ∧ isN x (freeB _ _ j) = true) (kid_ok (c := 4) (by rfl) ih.1 ih.2))⟩
  | toInt x hx ih => exact ⟨rfl, mk_is (t := false) (mx := 0) (least := 1) (most := 1) (by rfl) ⟨by simp, fun _ => by simp⟩ rfl (abs_0 (by decide)) ⟨fun e => absurd e (by decide), fun e => absurd e (by decide), fun e => absurd e (by decide)⟩ (all_one (p := fun j x => kidB _ _ j x.kind = true ∧ isN x (freeB _ _ j) = true) (kid_ok (c := 4) (by rfl) ih.1 ih.2))⟩
  | toLong x hx ih => exact ⟨rfl, mk_is (t := false) (mx := 0) (least := 1) (most := 1) (by rfl) ⟨by simp, fun _ => by simp⟩ rfl (abs_0 (by decide)) ⟨fun e => absurd e (by decide), fun e => absurd e (by decide), fun e => absurd e (by decide)⟩ (all_one (p := fun j x => kidB _ _ j x.kind = true ∧ isN x (freeB _ _ j) = true) (kid_ok (c := 4) (by rfl) ih.1 ih.2))⟩
  | extra x hx ih => exact ⟨rfl, mk_is (t := false) (mx := 0) (least := 1) (most := 1) (by rfl) ⟨by simp, fun _ => by simp⟩ rfl (abs_0 (by decide)) ⟨fun e => absurd e (by decide), fun e => absurd e (by decide), fun e => absurd e (by decide)⟩ (all_one (p := fun j x => kidB _ _ j x.kind = true ∧ isN x (freeB _ _ j) = true) (kid_ok (c := 4) (by rfl) ih.1 ih.2))⟩
  | op v a b hv ha hb iha ihb =>
    have hv2 : 0 ≤ v ∧ v ≤ 12 := by unfold isOp at hv; omega
    exact ⟨rfl, mk_is (t := false) (mx := 12) (least := 2) (most := 2) (by rfl) ⟨by simp, fun _ => by simp⟩ rfl (abs_z hv2.1 hv2.2 (by decide)) ⟨fun _ => op_of.2 hv, fun e => absurd e (by decide), fun e => absurd e (by decide)⟩ (all_two (p := fun j x => kidB _ _ j x.kind = true ∧ isN x (freeB _ _ j) = true) (kid_ok (c := 4) (by rfl) iha.1 iha.2) (kid_ok (c := 4) (by rfl) ihb.1 ihb.2))⟩
  | count => exact ⟨rfl, mk_is (t := false) (mx := 0) (least := 0) (most := 0) (by rfl) ⟨by simp, fun _ => by simp⟩ rfl (abs_0 (by decide)) ⟨fun e => absurd e (by decide), fun e => absurd e (by decide), fun e => absurd e (by decide)⟩ (fun j hj => absurd hj (by simp))⟩
theorem bl_is {l : List Nd} (h : ∀ y, y ∈ l → clsN y.kind = 3 ∧ isN y false = true) : isN (.mk 13 [] 0 l) false = true :=
  mk_is (t := false) (mx := 0) (least := 0) (most := -1) (by rfl) ⟨by simp, fun e => absurd e (by decide)⟩ rfl (abs_0 (by decide)) ⟨fun e => absurd e (by decide), fun e => absurd e (by decide), fun e => absurd e (by decide)⟩ (fun j hj => by
      have hx := h _ (List.getElem_mem hj)
      exact kid_ok (c := 3) (by rfl) hx.1 hx.2)
theorem st_is {n : Nd} (h : IsSt n) : clsN n.kind = 3 ∧ isN n false = true := by
  induction h with
  | var s t x hs ht hx => exact ⟨rfl, mk_is (t := true) (mx := 0) (least := 2) (most := 2) (by rfl) ⟨by simp, fun _ => by simp⟩ (txt_ok hs) (abs_0 (by decide)) ⟨fun e => absurd e (by decide), fun e => absurd e (by decide), fun e => absurd e (by decide)⟩ (all_two (p := fun j x => kidB _ _ j x.kind = true ∧ isN x (freeB _ _ j) = true) (kid_ok (c := 2) (by rfl) (ty_is ht).1 (ty_is ht).2) (kid_ok (c := 4) (by rfl) (ex_is hx).1 (ex_is hx).2))⟩
  | set p x hp hx => exact ⟨rfl, mk_is (t := false) (mx := 0) (least := 2) (most := 2) (by rfl) ⟨by simp, fun _ => by simp⟩ rfl (abs_0 (by decide)) ⟨fun e => absurd e (by decide), fun _ => (pl_ex hp).2, fun e => absurd e (by decide)⟩ (all_two (p := fun j x => kidB _ _ j x.kind = true ∧ isN x (freeB _ _ j) = true) (kid_ok (c := 4) (by rfl) (ex_is (pl_ex hp).1).1 (ex_is (pl_ex hp).1).2) (kid_ok (c := 4) (by rfl) (ex_is hx).1 (ex_is hx).2))⟩
  | if1 c l hc hl ih => exact ⟨rfl, mk_is (t := false) (mx := 0) (least := 2) (most := 3) (by rfl) ⟨by simp, fun _ => by simp⟩ rfl (abs_0 (by decide)) ⟨fun e => absurd e (by decide), fun e => absurd e (by decide), fun e => absurd e (by decide)⟩ (all_two (p := fun j x => kidB _ _ j x.kind = true ∧ isN x (freeB _ _ j) = true) (kid_ok (c := 4) (by rfl) (ex_is hc).1 (ex_is hc).2) (kid_okK (c := 5) (k := 13) (by rfl) (by rfl) rfl (bl_is ih)))⟩
  | if2 c l m hc hl hm ih ihm => exact ⟨rfl, mk_is (t := false) (mx := 0) (least := 2) (most := 3) (by rfl) ⟨by simp, fun _ => by simp⟩ rfl (abs_0 (by decide)) ⟨fun e => absurd e (by decide), fun e => absurd e (by decide), fun e => absurd e (by decide)⟩ (all_three (p := fun j x => kidB _ _ j x.kind = true ∧ isN x (freeB _ _ j) = true) (kid_ok (c := 4) (by rfl) (ex_is hc).1 (ex_is hc).2) (kid_okK (c := 5) (k := 13) (by rfl) (by rfl) rfl (bl_is ih)) (kid_okK (c := 5) (k := 13) (by rfl) (by rfl) rfl (bl_is ihm)))⟩
  | while1 c l hc hl ih => exact ⟨rfl, mk_is (t := false) (mx := 0) (least := 2) (most := 2) (by rfl) ⟨by simp, fun _ => by simp⟩ rfl (abs_0 (by decide)) ⟨fun e => absurd e (by decide), fun e => absurd e (by decide), fun e => absurd e (by decide)⟩ (all_two (p := fun j x => kidB _ _ j x.kind = true ∧ isN x (freeB _ _ j) = true) (kid_ok (c := 4) (by rfl) (ex_is hc).1 (ex_is hc).2) (kid_okK (c := 5) (k := 13) (by rfl) (by rfl) rfl (bl_is ih)))⟩
  | ret x hx => exact ⟨rfl, mk_is (t := false) (mx := 0) (least := 1) (most := 1) (by rfl) ⟨by simp, fun _ => by simp⟩ rfl (abs_0 (by decide)) ⟨fun e => absurd e (by decide), fun e => absurd e (by decide), fun e => absurd e (by decide)⟩ (all_one (p := fun j x => kidB _ _ j x.kind = true ∧ isN x (freeB _ _ j) = true) (kid_ok (c := 4) (by rfl) (ex_is hx).1 (ex_is hx).2))⟩
  | put x hx => exact ⟨rfl, mk_is (t := false) (mx := 0) (least := 1) (most := 1) (by rfl) ⟨by simp, fun _ => by simp⟩ rfl (abs_0 (by decide)) ⟨fun e => absurd e (by decide), fun e => absurd e (by decide), fun e => absurd e (by decide)⟩ (all_one (p := fun j x => kidB _ _ j x.kind = true ∧ isN x (freeB _ _ j) = true) (kid_ok (c := 4) (by rfl) (ex_is hx).1 (ex_is hx).2))⟩
  | do1 x l hx hl =>
    have hc := ca_ex (IsCa.call x l hx hl)
    exact ⟨rfl, mk_is (t := false) (mx := 0) (least := 1) (most := 1) (by rfl) ⟨by simp, fun _ => by simp⟩ rfl (abs_0 (by decide)) ⟨fun e => absurd e (by decide), fun e => absurd e (by decide), fun _ => ⟨rfl, hc.2⟩⟩ (all_one (p := fun j x => kidB _ _ j x.kind = true ∧ isN x (freeB _ _ j) = true) (kid_ok (c := 4) (by rfl) (ex_is hc.1).1 (ex_is hc.1).2))⟩
theorem pa_is {n : Nd} (h : IsPa n) : n.kind = 8 ∧ isN n false = true := by
  cases h with
  | param s t hs ht => exact ⟨rfl, mk_is (t := true) (mx := 0) (least := 1) (most := 1) (by rfl) ⟨by simp, fun _ => by simp⟩ (txt_ok hs) (abs_0 (by decide)) ⟨fun e => absurd e (by decide), fun e => absurd e (by decide), fun e => absurd e (by decide)⟩ (all_one (p := fun j x => kidB _ _ j x.kind = true ∧ isN x (freeB _ _ j) = true) (kid_ok (c := 2) (by rfl) (ty_is ht).1 (ty_is ht).2))⟩
theorem fi_is {n : Nd} (h : IsFi n) : n.kind = 3 ∧ isN n false = true := by
  cases h with
  | field s t hs ht => exact ⟨rfl, mk_is (t := true) (mx := 0) (least := 1) (most := 1) (by rfl) ⟨by simp, fun _ => by simp⟩ (txt_ok hs) (abs_0 (by decide)) ⟨fun e => absurd e (by decide), fun e => absurd e (by decide), fun e => absurd e (by decide)⟩ (all_one (p := fun j x => kidB _ _ j x.kind = true ∧ isN x (freeB _ _ j) = true) (kid_ok (c := 2) (by rfl) (ty_is ht).1 (ty_is ht).2))⟩
theorem num_is {k : Int} {v m : Int} (hk : k = 21 ∧ m = 2147483647 ∨ k = 22 ∧ m = 9223372036854775807) (h0 : -m ≤ v) (h1 : v ≤ m) : isN (.mk k [] v []) true = true := by
  have ha : 0 ≤ absN true v ∧ absN true v ≤ m := by
    unfold absN neg64
    simp only [true_and]
    repeat' split
    all_goals omega
  rcases hk with ⟨rfl, rfl⟩ | ⟨rfl, rfl⟩
  · exact mk_is (t := false) (mx := -1) (least := 0) (most := 0) (by rfl) ⟨by simp, fun _ => by simp⟩ rfl ⟨ha.1, fun e => absurd e (by decide), fun _ => ha.2⟩ ⟨fun e => absurd e (by decide), fun e => absurd e (by decide), fun e => absurd e (by decide)⟩ (fun j hj => absurd hj (by simp))
  · exact mk_is (t := false) (mx := -1) (least := 0) (most := 0) (by rfl) ⟨by simp, fun _ => by simp⟩ rfl ⟨ha.1, fun e => absurd e (by decide), fun e => absurd e (by decide)⟩ ⟨fun e => absurd e (by decide), fun e => absurd e (by decide), fun e => absurd e (by decide)⟩ (fun j hj => absurd hj (by simp))
theorem kid_num {n : Nat} {k v : Int} (hk : k = 21 ∨ k = 22) (h : isN (.mk k [] v []) true = true) : kidB 6 2 1 (Nd.mk k [] v []).kind = true ∧ isN (.mk k [] v []) (freeB 6 2 1) = true := by
  rcases hk with rfl | rfl
  · exact ⟨rfl, h⟩
  · exact ⟨rfl, h⟩
theorem de_is {n : Nd} (h : IsDe n) : clsN n.kind = 1 ∧ isN n false = true := by
  cases h with
  | struct1 s l hs hne hl =>
    have hp : 1 ≤ l.length := by cases l with | nil => exact absurd rfl hne | cons a r => simp
    exact ⟨rfl, mk_is (t := true) (mx := 0) (least := 1) (most := -1) (by rfl) ⟨by omega, fun e => absurd e (by decide)⟩ (txt_ok hs) (abs_0 (by decide)) ⟨fun e => absurd e (by decide), fun e => absurd e (by decide), fun e => absurd e (by decide)⟩ (fun j hj => by have hx := fi_is (hl _ (List.getElem_mem hj)); exact kid_okK (c := 5) (k := 3) (by rfl) (by rfl) hx.1 hx.2)⟩
  | extern1 s l d t hs hl ht =>
    refine ⟨rfl, mk_is (t := true) (mx := 1) (least := 1) (most := -1) (by rfl) ⟨by simp; omega, fun e => absurd e (by decide)⟩ (txt_ok hs) (abs_z (b2n_le d).1 (b2n_le d).2 (by decide)) ⟨fun e => absurd e (by decide), fun e => absurd e (by decide), fun e => absurd e (by decide)⟩ (fun j hj => ?_)⟩
    by_cases q : j < l.length
    · rw [List.getElem_append_left q]
      have hx := pa_is (hl _ (List.getElem_mem q))
      exact kid_okK (c := 5) (k := 8) (by unfold wantN; simp; omega) (by rfl) hx.1 hx.2
    · obtain rfl : j = l.length := by simp at hj; omega
      rw [List.getElem_append_right (Nat.le_refl _)]
      simp only [Nat.sub_self, List.getElem_cons_zero]
      exact kid_ok (c := 2) (by unfold wantN; simp) (ty_is ht).1 (ty_is ht).2
  | outside s t hs ht => exact ⟨rfl, mk_is (t := true) (mx := 0) (least := 1) (most := 1) (by rfl) ⟨by simp, fun _ => by simp⟩ (txt_ok hs) (abs_0 (by decide)) ⟨fun e => absurd e (by decide), fun e => absurd e (by decide), fun e => absurd e (by decide)⟩ (all_one (p := fun j x => kidB _ _ j x.kind = true ∧ isN x (freeB _ _ j) = true) (kid_ok (c := 2) (by rfl) (ty_is ht).1 (ty_is ht).2))⟩
  | global s st t v hs ht h0 h1 => exact ⟨rfl, mk_is (t := true) (mx := 1) (least := 2) (most := 2) (by rfl) ⟨by simp, fun _ => by simp⟩ (txt_ok hs) (abs_z (b2n_le st).1 (b2n_le st).2 (by decide)) ⟨fun e => absurd e (by decide), fun e => absurd e (by decide), fun e => absurd e (by decide)⟩ (all_two (p := fun j x => kidB _ _ j x.kind = true ∧ isN x (freeB _ _ j) = true) (kid_ok (c := 2) (by rfl) (ty_is ht).1 (ty_is ht).2) (kid_num (n := 0) (Or.inl rfl) (num_is (Or.inl ⟨rfl, rfl⟩) h0 h1)))⟩
  | globalL s st t v hs ht h0 h1 => exact ⟨rfl, mk_is (t := true) (mx := 1) (least := 2) (most := 2) (by rfl) ⟨by simp, fun _ => by simp⟩ (txt_ok hs) (abs_z (b2n_le st).1 (b2n_le st).2 (by decide)) ⟨fun e => absurd e (by decide), fun e => absurd e (by decide), fun e => absurd e (by decide)⟩ (all_two (p := fun j x => kidB _ _ j x.kind = true ∧ isN x (freeB _ _ j) = true) (kid_ok (c := 2) (by rfl) (ty_is ht).1 (ty_is ht).2) (kid_num (n := 0) (Or.inr rfl) (num_is (Or.inr ⟨rfl, rfl⟩) h0 h1)))⟩
  | fun1 s st d l t b hs hl ht hb =>
    have hv : 0 ≤ b2n st + 2 * b2n d ∧ b2n st + 2 * b2n d ≤ 3 := by have := b2n_le st; have := b2n_le d; omega
    refine ⟨rfl, mk_is (t := true) (mx := 3) (least := 2) (most := -1) (by rfl) ⟨by simp; omega, fun e => absurd e (by decide)⟩ (txt_ok hs) (abs_z hv.1 hv.2 (by decide)) ⟨fun e => absurd e (by decide), fun e => absurd e (by decide), fun e => absurd e (by decide)⟩ (fun j hj => ?_)⟩
    by_cases q : j < l.length
    · rw [List.getElem_append_left (by simp; omega), List.getElem_append_left q]
      have hx := pa_is (hl _ (List.getElem_mem q))
      exact kid_okK (c := 5) (k := 8) (by unfold wantN; simp; rw [if_neg (by omega), if_neg (by omega)]) (by rfl) hx.1 hx.2
    · by_cases q2 : j = l.length
      · subst q2
        rw [List.getElem_append_left (by simp), List.getElem_append_right (Nat.le_refl _)]
        simp only [Nat.sub_self, List.getElem_cons_zero]
        exact kid_ok (c := 2) (by unfold wantN; simp) (ty_is ht).1 (ty_is ht).2
      · obtain rfl : j = l.length + 1 := by simp at hj; omega
        rw [List.getElem_append_right (by simp)]
        simp only [List.length_append, List.length_cons, List.length_nil, Nat.zero_add, Nat.sub_self, List.getElem_cons_zero]
        exact kid_okK (c := 5) (k := 13) (by unfold wantN; simp) (by rfl) rfl (bl_is fun y hy => st_is (hb y hy))
theorem un_is {n : Nd} (h : IsUn n) : n.kind = 1 ∧ isN n false = true := by
  cases h with
  | unit l hl =>
    have h : ∀ y, y ∈ l → clsN y.kind = 1 ∧ isN y false = true := fun y hy => de_is (hl y hy)
    exact ⟨rfl, mk_is (t := false) (mx := 0) (least := 0) (most := -1) (by rfl) ⟨by simp, fun e => absurd e (by decide)⟩ rfl (abs_0 (by decide)) ⟨fun e => absurd e (by decide), fun e => absurd e (by decide), fun e => absurd e (by decide)⟩ (fun j hj => by have hx := h _ (List.getElem_mem hj); exact kid_ok (c := 1) (by rfl) hx.1 hx.2)⟩
/-- A node is a unit's just if the reference says so. -/
theorem un_iff {n : Nd} (hL : Lg n) : IsUn n ↔ n.kind = 1 ∧ isN n false = true := ⟨un_is, fun h => is_un hL h.2 h.1⟩
end Go.Proofs.YthcfianhdkolhaaDoor.S

namespace Go.Proofs.YthcfianhdkolhaaDoor.S
set_option linter.unusedVariables false
set_option linter.unusedSimpArgs false
mutual
def cnt : Nd → Nat
  | .mk _ _ _ kids => cntL kids + 1
def cntL : List Nd → Nat
  | [] => 0
  | k :: r => cnt k + cntL r
end
mutual
def dpt : Nd → Nat
  | .mk _ _ _ kids => dptL kids + 1
def dptL : List Nd → Nat
  | [] => 0
  | k :: r => max (dpt k) (dptL r)
end
theorem cnt_mk (k : Int) (t : List UInt8) (v : Int) (l : List Nd) : cnt (.mk k t v l) = cntL l + 1 := by rw [cnt]
theorem dpt_mk (k : Int) (t : List UInt8) (v : Int) (l : List Nd) : dpt (.mk k t v l) = dptL l + 1 := by rw [dpt]
theorem cntL_cons (k : Nd) (r : List Nd) : cntL (k :: r) = cnt k + cntL r := by rw [cntL]
theorem dptL_cons (k : Nd) (r : List Nd) : dptL (k :: r) = max (dpt k) (dptL r) := by rw [dptL]
theorem cntL_nil : cntL [] = 0 := by rw [cntL]
theorem dptL_nil : dptL [] = 0 := by rw [dptL]
theorem cntL_app (a b : List Nd) : cntL (a ++ b) = cntL a + cntL b := by
  induction a with
  | nil => simp [cntL_nil]
  | cons x r ih => simp only [List.cons_append, cntL_cons, ih]; omega
theorem cnt_pos (n : Nd) : 1 ≤ cnt n := by cases n; rw [cnt_mk]; omega
theorem dpt_pos (n : Nd) : 1 ≤ dpt n := by cases n; rw [dpt_mk]; omega
theorem len_cnt (l : List Nd) : l.length ≤ cntL l := by
  induction l with
  | nil => simp
  | cons x r ih => rw [cntL_cons, List.length_cons]; have := cnt_pos x; omega
theorem cnt_mem {x : Nd} {l : List Nd} (h : x ∈ l) : cnt x ≤ cntL l := by
  induction l with
  | nil => simp at h
  | cons y r ih =>
    rw [cntL_cons]
    rcases List.mem_cons.1 h with rfl | h
    · omega
    · have := ih h; omega
/-- A row of tokens that is no longer than nine a node. -/
def sumT (ts : List (List Tk)) : Nat := (ts.map List.length).sum
theorem sumT_cons (x : List Tk) (r : List (List Tk)) : sumT (x :: r) = x.length + sumT r := by simp [sumT]
theorem sumT_app (a b : List (List Tk)) : sumT (a ++ b) = sumT a + sumT b := by simp [sumT]
theorem flat_sum (ts : List (List Tk)) : ts.flatten.length = sumT ts := by
  induction ts with
  | nil => rfl
  | cons x r ih => rw [List.flatten_cons, List.length_append, ih, sumT_cons]
theorem join_sum : ∀ (ts : List (List Tk)), (joinT ts).length ≤ sumT ts + ts.length
  | [] => by simp [joinT]
  | [x] => by simp [joinT, sumT]
  | x :: y :: r => by
    have := join_sum (y :: r)
    rw [joinT, sumT_cons]
    simp only [List.length_append, List.length_cons] at *
    omega
theorem row_sum (ts : List (List Tk)) (d : Bool) : (rowT ts d).length ≤ sumT ts + ts.length + 4 := by
  unfold rowT
  have := join_sum (ts ++ (if d = true then [[sg sDOTS]] else []))
  rw [sumT_app] at this
  have h2 : sumT (if d = true then [[sg sDOTS]] else []) ≤ 1 := by cases d <;> simp [sumT]
  have h3 : (if d = true then [[sg sDOTS]] else []).length ≤ 1 := by cases d <;> simp
  simp only [List.length_append, List.length_cons, List.length_nil] at *
  omega
theorem last_sum (ts : List (List Tk)) : (lastT ts).length + sumT ts.dropLast ≤ sumT ts ∧ ts.dropLast.length ≤ ts.length := by
  rcases List.eq_nil_or_concat ts with rfl | ⟨a, x, rfl⟩
  · simp [lastT, sumT]
  · simp [lastT, sumT_app, sumT]
    omega
theorem head_sum (ts : List (List Tk)) : (ts.headD []).length ≤ sumT ts := by
  cases ts with
  | nil => simp
  | cons x r => rw [sumT_cons]; simp
theorem head_last {ts : List (List Tk)} : (ts.headD []).length + (lastT ts).length ≤ 2 * sumT ts := by
  have h1 := head_sum ts
  have h2 := (last_sum ts).1
  omega
theorem at_len (b k : Int) (x : List Tk) : (atT b k x).length ≤ x.length + 2 := by unfold atT; split <;> simp
theorem num_len (k v : Int) : (numT k v).length ≤ 2 := by unfold numT; split <;> simp
end Go.Proofs.YthcfianhdkolhaaDoor.S
