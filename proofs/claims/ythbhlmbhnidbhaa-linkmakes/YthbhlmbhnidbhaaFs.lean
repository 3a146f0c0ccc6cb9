/- The frame, further: a string's bytes appended to a row of bytes; rows of up to 2^33 things. No program. -/
import Derived.Test.YthbhlmbhnidbhaaFr
import Derived.Lib.AppendStr
namespace Go.Proofs.Ythbhlmbhnidbhaa.T
open Go.RowKit
set_option linter.unusedVariables false
variable {n0 : Nat} {w0 w w' : World} {L : List Rs}
theorem row_form {base : Nat} {e : TypeId} {z : Nat} {v : Value} {n : Nat} {xs : List Value} (h : w.ownsRow base e z v n xs) : ∃ a c, v = .slice a n c := by
  rcases h.2 with ⟨rfl, rfl⟩ | ⟨g, cap, cur, rfl, _⟩
  · exact ⟨_, _, rfl⟩
  · exact ⟨_, _, rfl⟩
theorem str_blk {P : Program} (base : Nat) (t u ty e : TypeId) (i : TypeInfo) (ht : P.underlying t = some (.slice e)) (hu : P.underlying u = some .string) (hi : P.info? e = some i) (hz : i.zero = some (.int .u8 0)) (hsize : i.size = 1) (hby : i.bytes = 1)
    (v : Value) (n : Nat) (xs : List Value) (hown : w.ownsRow base e 1 v n xs) (s : ByteArray) (hbytes : n + s.size ≤ 140737488355328) {v' : Value} (hr : (Builtin.append_ #[t, u] ty #[v, .string s]).run P w = .ok v' w') : ∀ q, v'.ownBlock = some q → v.ownBlock = some q ∨ w.heap.size ≤ q := by
  have hxl : xs.length = n := by simpa using hown.1
  rcases hown.2 with ⟨rfl, rfl⟩ | ⟨g, cap, cur, rfl, hbg, hg, hnc, hcm, hcs, htake⟩
  · obtain ⟨v2, w2, hr2, ho2, -⟩ := Lib.run_append_own_string (P := P) w w.heap.size t u ty e i ht hu hi hz hsize hby (.slice none 0 0) 0 xs ⟨hown.1, Or.inl ⟨rfl, rfl⟩⟩ s (by unfold maxLen; omega) hbytes (Nat.le_refl _)
    rw [hr] at hr2
    cases hr2
    exact fun q hq => Or.inr (World.ownsRow.lt ho2 q hq).1
  · have hcs' : cur.size = cap := by simpa using hcs
    by_cases hroom : n + s.size ≤ cap
    · have h2 := Lib.run_append_room_string (P := P) w t u ty e i ht hu hi hsize g n cap cur hg s hroom (by omega)
      rw [hr] at h2
      cases h2
      exact fun q hq => Or.inl hq
    · have h2 := Lib.run_append_grow_string (P := P) w t u ty e i (.int .u8 0) ht hu hi hz ⟨g, 0, none⟩ n cap xs (by rw [hsize]; simpa using hxl) (hown.cells (g := g) rfl) s (by omega) (by omega) (by rw [hby]; exact growslice_fits (by omega) (by omega))
      rw [hr] at h2
      cases h2
      intro q hq
      have : w.heap.size = q := Option.some.inj hq
      exact Or.inr (by omega)
/-- A new row of nothing. -/
theorem Fr.empty (h : Fr n0 w0 w L) {q : Nat} (hq : w.heap.size = q) {T : TypeId} : Fr n0 w0 (w.alloc (.cells #[] T)) (.row (.slice (some ⟨q, 0, none⟩) 0 0) T 1 0 [] :: L) :=
  (h.alloc hq #[] T).shut 0 (g := q) (cap := 0) (n := 0) (z := 1) (cur := #[]) (e := T) (xs := []) rfl (Nat.le_refl _) (Nat.zero_le _) rfl rfl rfl
/-- append of a string's bytes to a row of bytes that is owned. -/
theorem Fr.str {P : Program} {ops : Array Oper} {rest : List Oper} {o : Oper} {a : Act} {Q : Exit → Act → World → Prop} (t u : TypeId) {e : TypeId}
    (hinfo : (P.info? e).map (fun i => (i.zero, i.size, i.bytes)) = some (some (.int .u8 0), 1, 1)) (ht : P.underlying t = some (.slice e)) (hu : P.underlying u = some .string)
    (h : Fr n0 w0 w L) (i : Nat) {v : Value} {n : Nat} {xs : List Value} (hi : L[i]? = some (.row v e 1 n xs)) (hn : n ≤ 1000000000000)
    (p q : Operand) (hgd : o.guard = none) (ho : o.op = .call { callee := .builtin .append, args := #[p, q], argTypes := #[t, u] }) (hs : a.eval p = v)
    (s : ByteArray) (hx : a.eval q = .string s) (hs2 : s.size ≤ 1000000000000)
    (k : ∀ ad c w', Fr n0 w0 w' (L.set i (.row (.slice ad (n + s.size) c) e 1 (n + s.size) (xs ++ Lib.strCells s))) → w.grownBy w' v.ownBlock → wpList P ops Q rest (a.put o.dst (.slice ad (n + s.size) c)) w') :
    wpList P ops Q (o :: rest) a w := by
  obtain ⟨i0, hi0, hz0', hz1, hz2⟩ := fr_info hinfo
  refine wpList_plain hgd fun K hK => ?_
  obtain ⟨v', w', hr, h2, h3, h4⟩ := Lib.run_append_own_string (P := P) w n0 t u o.type e i0 ht hu hi0 hz0' hz1 hz2 v n xs (h.get hi) s (by unfold maxLen; omega) (by omega) h.le
  have hb := str_blk (P := P) n0 t u o.type e i0 ht hu hi0 hz0' hz1 hz2 v n xs (h.get hi) s (by omega) hr
  obtain ⟨ad, c, rfl⟩ := row_form h2
  unfold Oper.wp execOp
  simp only [ho, resolve, invoke, builtin, Sem.run_bind, Sem.run_pure, Result.andThen_ok, List.map_toArray, List.map_cons, List.map_nil, hs, hx, hr]
  exact hK _ _ (k ad c w' (h.app i hi h3 h2 hb) h3)
/-- append of one thing that was just laid in a block of its own, to a row that may be long. -/
theorem Fr.oneBig {P : Program} {ops : Array Oper} {rest : List Oper} {o : Oper} {a : Act} {Q : Exit → Act → World → Prop} (t : TypeId) {e : TypeId} {zv : Value} {z by' : Nat}
    (hinfo : (P.info? e).map (fun i => (i.zero, i.size, i.bytes)) = some (some zv, z, by')) (ht : P.underlying t = some (.slice e)) (hz : zv.cells.size = z) (hz0 : 0 < z) (hby : by' ≤ 1000)
    {B : Nat} {cs : Array Value} {T : TypeId} (h : Fr n0 w0 w (.blk B cs T :: L)) (i : Nat) {v : Value} {n : Nat} {xs : List Value} (hi : L[i]? = some (.row v e z n xs)) (hn : n ≤ 5000000000)
    (p q : Operand) (hgd : o.guard = none) (ho : o.op = .call { callee := .builtin .append, args := #[p, q], argTypes := #[t, t] }) (hs : a.eval p = v)
    {c : Nat} (hx : a.eval q = .slice (some ⟨B, 0, none⟩) 1 c) (hl : cs.size = z) (h1 : cs.toList.all (fun u => u.oneCell') = true)
    (k : ∀ g cap w', Fr n0 w0 w' (L.set i (.row (.slice (some ⟨g, 0, none⟩) (n + 1) cap) e z (n + 1) (xs ++ cs.toList))) → w.grownBy w' v.ownBlock → wpList P ops Q rest (a.put o.dst (.slice (some ⟨g, 0, none⟩) (n + 1) cap)) w') :
    wpList P ops Q (o :: rest) a w := by
  obtain ⟨i0, hi0, hz0', hz1, hz2⟩ := fr_info hinfo
  have hb : (n + 1) * by' ≤ 140737488355328 := Nat.le_trans (Nat.mul_le_mul (show n + 1 ≤ 5000000001 by omega) hby) (by decide)
  refine wpList_append_lies w hgd p q t ho n0 e i0 zv z by' ht hi0 hz0' hz1 hz2 hz hz0 v n xs hs (h.tail.get hi) ⟨B, 0, none⟩ 1 c cs.toList hx (by simp [hl]) (World.news_of_block (h.get (i := 0) rfl).2) (fun u hu => List.all_eq_true.1 h1 u hu) (by decide) (by unfold maxLen; omega) hb h.le w.heap.size rfl ?_
  intro g cap w' h2 h3 h4 h5
  refine k g cap w' (h.tail.app i hi h3 h2 fun q hq => ?_) h3
  have e : g = q := Option.some.inj hq
  subst e
  rcases h4 with e | e
  · exact Or.inl e
  · exact Or.inr (Nat.le_of_eq e.symm)
end Go.Proofs.Ythbhlmbhnidbhaa.T
