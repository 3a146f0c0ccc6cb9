/- The frame, further: a row, which may be of nothing, appended to a row. No program. -/
import Derived.Test.YthbhlmbhnidbhaaFs
import Derived.Deep.Upon
namespace Go.Proofs.Ythbhlmbhnidbhaa.T
open Go.RowKit
set_option linter.unusedVariables false
variable {n0 : Nat} {w0 w w' : World} {L : List Rs}
/-- Two blocks that are owned are two. -/
theorem Fr.apart (h : Fr n0 w0 w L) (i j : Nat) {q p : Nat} {cs ds : Array Value} {T U : TypeId} (hi : L[i]? = some (.blk q cs T)) (hj : L[j]? = some (.blk p ds U)) (hne : i ≠ j) : q ≠ p := fun e => by
  subst e
  exact pw_get (fun _ _ => Rs.off_symm) h.off hi hj hne q rfl rfl
/-- append of a row that lies somewhere (or is of nothing), to a row that is owned. -/
theorem Fr.rows {P : Program} {ops : Array Oper} {rest : List Oper} {o : Oper} {a : Act} {Q : Exit → Act → World → Prop} (t : TypeId) {e : TypeId} {zv : Value} {z by' : Nat}
    (hinfo : (P.info? e).map (fun i => (i.zero, i.size, i.bytes)) = some (some zv, z, by')) (ht : P.underlying t = some (.slice e)) (hz : zv.cells.size = z) (hz0 : 0 < z) (hby : by' ≤ 1000)
    (h : Fr n0 w0 w L) (i : Nat) {v : Value} {n : Nat} {xs : List Value} (hi : L[i]? = some (.row v e z n xs)) (hn : n ≤ 5000000000)
    (p q : Operand) (hgd : o.guard = none) (ho : o.op = .call { callee := .builtin .append, args := #[p, q], argTypes := #[t, t] }) (hs : a.eval p = v)
    (ad : Option Addr) (m c : Nat) (news : List Value) (hx : a.eval q = .slice ad m c) (hl : news.length = m * z) (hnews : 0 < m → ∃ a0, ad = some a0 ∧ ∀ j u, news[j]? = some u → w.cell? (a0.add j) = some u) (h1 : ∀ u ∈ news, u.oneCell' = true) (hm2 : m ≤ 5000000000)
    (k : ∀ ad' cap w', Fr n0 w0 w' (L.set i (.row (.slice ad' (n + m) cap) e z (n + m) (xs ++ news))) → w.grownBy w' v.ownBlock → wpList P ops Q rest (a.put o.dst (.slice ad' (n + m) cap)) w') :
    wpList P ops Q (o :: rest) a w := by
  obtain ⟨i0, hi0, hz0', hz1, hz2⟩ := fr_info hinfo
  have hb : (n + m) * by' ≤ 140737488355328 := Nat.le_trans (Nat.mul_le_mul (show n + m ≤ 10000000000 by omega) hby) (by decide)
  by_cases hm : 0 < m
  · obtain ⟨a0, rfl, hc⟩ := hnews hm
    refine wpList_append_lies w hgd p q t ho n0 e i0 zv z by' ht hi0 hz0' hz1 hz2 hz hz0 v n xs hs (h.get hi) a0 m c news hx hl hc h1 hm (by unfold maxLen; omega) hb h.le w.heap.size rfl ?_
    intro g cap w' h2 h3 h4 h5
    refine k (some ⟨g, 0, none⟩) cap w' (h.app i hi h3 h2 fun q hq => ?_) h3
    have e : g = q := Option.some.inj hq
    subst e
    rcases h4 with e | e
    · exact Or.inl e
    · exact Or.inr (Nat.le_of_eq e.symm)
  · obtain rfl : m = 0 := by omega
    obtain rfl : news = [] := by simpa using hl
    have hrow := h.get hi
    obtain ⟨av, cv, rfl⟩ := row_form hrow
    have hle : n ≤ cv := by
      rcases hrow.2 with ⟨e1, e2⟩ | ⟨g, cap, cur, e1, _, _, a1, _⟩
      · omega
      · cases e1; exact a1
    have hsrc : Src P i0.size t (.slice ad 0 c) 0 [] w := by
      cases ad with
      | none => exact Src.ofNil w ht c
      | some a0 => exact Src.ofSlice w ht a0 0 c [] (by simp) (fun j u hu => by simp at hu) (by simp)
    have hr := run_append_nothing (P := P) w t t o.type e i0 ht hi0 av n cv hle (.slice ad 0 c) hsrc
    refine wpList_plain hgd fun K hK => ?_
    unfold Oper.wp execOp
    simp only [ho, resolve, invoke, builtin, Sem.run_bind, Sem.run_pure, Result.andThen_ok, List.map_toArray, List.map_cons, List.map_nil, hs, hx, hr]
    have hset : L.set i (.row (.slice av (n + 0) cv) e z (n + 0) (xs ++ [])) = L := by
      simp only [Nat.add_zero, List.append_nil]
      obtain ⟨hlt, he⟩ := List.getElem?_eq_some_iff.1 hi
      rw [← he]
      simp
    refine hK _ _ (k av cv w ?_ ⟨rfl, rfl, rfl, Nat.le_refl _, fun _ _ _ => rfl⟩)
    rw [hset]
    exact h
/-- The same at a step of a region that draws its order. -/
theorem Fr.stepRows {P : Program} {ops : Array Oper} {o : Oper} {a : Act} {K : Act → World → Prop} {Q : Exit → Act → World → Prop} {E : Prop} (t : TypeId) {e : TypeId} {zv : Value} {z by' : Nat}
    (hinfo : (P.info? e).map (fun i => (i.zero, i.size, i.bytes)) = some (some zv, z, by')) (ht : P.underlying t = some (.slice e)) (hz : zv.cells.size = z) (hz0 : 0 < z) (hby : by' ≤ 1000)
    (h : Fr n0 w0 w L) (i : Nat) {v : Value} {n : Nat} {xs : List Value} (hi : L[i]? = some (.row v e z n xs)) (hn : n ≤ 5000000000)
    (p q : Operand) (hgd : o.guard = none) (ho : o.op = .call { callee := .builtin .append, args := #[p, q], argTypes := #[t, t] }) (hs : a.eval p = v)
    (ad : Option Addr) (m c : Nat) (news : List Value) (hx : a.eval q = .slice ad m c) (hl : news.length = m * z) (hnews : 0 < m → ∃ a0, ad = some a0 ∧ ∀ j u, news[j]? = some u → w.cell? (a0.add j) = some u) (h1 : ∀ u ∈ news, u.oneCell' = true) (hm2 : m ≤ 5000000000)
    (k : ∀ ad' cap w', Fr n0 w0 w' (L.set i (.row (.slice ad' (n + m) cap) e z (n + m) (xs ++ news))) → w.grownBy w' v.ownBlock → K (a.put o.dst (.slice ad' (n + m) cap)) w') :
    if Region.wanted o (yielded ops a.tmps) = true then Oper.wp P o a w K Q else E := by
  obtain ⟨i0, hi0, hz0', hz1, hz2⟩ := fr_info hinfo
  have hb : (n + m) * by' ≤ 140737488355328 := Nat.le_trans (Nat.mul_le_mul (show n + m ≤ 10000000000 by omega) hby) (by decide)
  by_cases hm : 0 < m
  · obtain ⟨a0, rfl, hc⟩ := hnews hm
    refine step_append_lies w hgd p q t ho n0 e i0 zv z by' ht hi0 hz0' hz1 hz2 hz hz0 v n xs hs (h.get hi) a0 m c news hx hl hc h1 hm (by unfold maxLen; omega) hb h.le w.heap.size rfl ?_
    intro g cap w' h2 h3 h4 h5
    refine k (some ⟨g, 0, none⟩) cap w' (h.app i hi h3 h2 fun q hq => ?_) h3
    have e : g = q := Option.some.inj hq
    subst e
    rcases h4 with e | e
    · exact Or.inl e
    · exact Or.inr (Nat.le_of_eq e.symm)
  · obtain rfl : m = 0 := by omega
    obtain rfl : news = [] := by simpa using hl
    have hrow := h.get hi
    obtain ⟨av, cv, rfl⟩ := row_form hrow
    have hle : n ≤ cv := by
      rcases hrow.2 with ⟨e1, e2⟩ | ⟨g, cap, cur, e1, _, _, a1, _⟩
      · omega
      · cases e1; exact a1
    have hsrc : Src P i0.size t (.slice ad 0 c) 0 [] w := by
      cases ad with
      | none => exact Src.ofNil w ht c
      | some a0 => exact Src.ofSlice w ht a0 0 c [] (by simp) (fun j u hu => by simp at hu) (by simp)
    have hr := run_append_nothing (P := P) w t t o.type e i0 ht hi0 av n cv hle (.slice ad 0 c) hsrc
    rw [if_pos (by simp [Region.wanted, hgd])]
    unfold Oper.wp execOp
    simp only [ho, resolve, invoke, builtin, Sem.run_bind, Sem.run_pure, Result.andThen_ok, List.map_toArray, List.map_cons, List.map_nil, hs, hx, hr]
    have hset : L.set i (.row (.slice av (n + 0) cv) e z (n + 0) (xs ++ [])) = L := by
      simp only [Nat.add_zero, List.append_nil]
      obtain ⟨hlt, he⟩ := List.getElem?_eq_some_iff.1 hi
      rw [← he]
      simp
    refine k av cv w ?_ ⟨rfl, rfl, rfl, Nat.le_refl _, fun _ _ _ => rfl⟩
    rw [hset]
    exact h
end Go.Proofs.Ythbhlmbhnidbhaa.T
