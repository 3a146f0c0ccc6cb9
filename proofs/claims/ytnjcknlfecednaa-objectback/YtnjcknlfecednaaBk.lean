/- What the law ObjectBack needs: a long row copied, one byte of it turned. -/
import Derived.Test.YtnjcknlfecednaaLg
namespace Go.Proofs.Ytnjcknlfecednaa.T
open Go.RowKit Go.Proofs.Ytnjcknlfecednaa.M
set_option linter.unusedVariables false
set_option linter.unusedSimpArgs false
section
variable {n0 : Nat} {w0 w w' : World} {L : List Rs}
/-- append of many things that lie somewhere. -/
theorem Fr.listBig {P : Program} {ops : Array Oper} {rest : List Oper} {o : Oper} {a : Act} {Q : Exit → Act → World → Prop} (t : TypeId) {e : TypeId} {zv : Value} {z by' : Nat}
    (hinfo : (P.info? e).map (fun i => (i.zero, i.size, i.bytes)) = some (some zv, z, by')) (ht : P.underlying t = some (.slice e)) (hz : zv.cells.size = z) (hz0 : 0 < z) (hby : by' ≤ 1000)
    (h : Fr n0 w0 w L) (i : Nat) {v : Value} {n : Nat} {xs : List Value} (hi : L[i]? = some (.row v e z n xs)) (hn : n ≤ 5000000000)
    (p q : Operand) (hgd : o.guard = none) (ho : o.op = .call { callee := .builtin .append, args := #[p, q], argTypes := #[t, t] }) (hs : a.eval p = v)
    (ad : Addr) (m c : Nat) (news : List Value) (hx : a.eval q = .slice (some ad) m c) (hl : news.length = m * z) (hnews : ∀ j u, news[j]? = some u → w.cell? (ad.add j) = some u) (h1 : ∀ u ∈ news, u.oneCell' = true) (hm : 0 < m) (hm2 : m ≤ 5000000000)
    (k : ∀ g cap w', Fr n0 w0 w' (L.set i (.row (.slice (some ⟨g, 0, none⟩) (n + m) cap) e z (n + m) (xs ++ news))) → w.grownBy w' v.ownBlock → wpList P ops Q rest (a.put o.dst (.slice (some ⟨g, 0, none⟩) (n + m) cap)) w') :
    wpList P ops Q (o :: rest) a w := by
  obtain ⟨i0, hi0, hz0', hz1, hz2⟩ := fr_info hinfo
  have hb : (n + m) * by' ≤ 140737488355328 := Nat.le_trans (Nat.mul_le_mul (show n + m ≤ 10000000000 by omega) hby) (by decide)
  refine wpList_append_lies w hgd p q t ho n0 e i0 zv z by' ht hi0 hz0' hz1 hz2 hz hz0 v n xs hs (h.get hi) ad m c news hx hl hnews h1 hm (by unfold maxLen; omega) hb h.le w.heap.size rfl ?_
  intro g cap w' h2 h3 h4 h5
  refine k g cap w' (h.app i hi h3 h2 fun q hq => ?_) h3
  have e : g = q := Option.some.inj hq
  subst e
  rcases h4 with e | e
  · exact Or.inl e
  · exact Or.inr (Nat.le_of_eq e.symm)
end
theorem putO_len {o : Ob} (h : mayO o = true) : 16 ≤ (putO o).length ∧ (putO o).length ≤ 2000000 := by
  have hl : o.code.length ≤ 6000 ∧ o.data.length ≤ 16000 ∧ o.syms.length ≤ 400 ∧ o.rels.length ≤ 6000 := by have h := h; unfold mayO at h; simp at h; omega
  have h1 : (o.code.flatMap four).length = 4 * o.code.length := flat_len4 (fun x => x) o.code
  have h2 := flat_len4 free o.data
  have h3 := rel_len o.rels
  have h4 := flat_bound symP o.syms (fun x hx => by
    obtain ⟨k, hk, rfl⟩ := List.getElem_of_mem hx
    have := mayO_n4 h k hk
    exact sym_len this.2.2.2.2.1 this.2.2.2.2.2) o.syms.length (Nat.le_refl _)
  rw [List.take_length] at h4
  unfold putO
  simp only [List.length_append, four_length]
  omega
theorem bc_one (l : List UInt8) : ∀ u ∈ bc l, u.oneCell' = true := by
  intro u hu
  unfold bc at hu
  obtain ⟨b, _, rfl⟩ := List.mem_map.1 hu
  rfl
theorem bc_length (l : List UInt8) : (bc l).length = l.length := by unfold bc; simp
/-- One byte of a row turns. -/
theorem Fr.turnByte {n0 : Nat} {w0 w : World} {L : List Rs} (h : Fr n0 w0 w L) (i : Nat) {g n cap : Nat} {l : List UInt8} (hi : L[i]? = some (.row (.slice (some ⟨g, 0, none⟩) n cap) 5 1 n (bc l))) (k : Nat) (hk : k < l.length) (y : UInt8) :
    Fr n0 w0 (w.setCell ⟨g, k, none⟩ (.int .u8 y.toNat)) (L.set i (.row (.slice (some ⟨g, 0, none⟩) n cap) 5 1 n (bc (l.set k y)))) := by
  have hr := h.get hi
  have hl : l.length = n := by have := hr.1; rw [bc_length] at this; omega
  obtain ⟨g', cap', cur, hv, a1, a2, a3, a4, a5, hF⟩ := h.opened i hi (by omega)
  cases hv
  have hlen : i < L.length := (List.getElem?_eq_some_iff.1 hi).1
  have hS := hF.set i (q := g) (cs := cur) (T := 5) (by simp [hlen]) k (.int .u8 y.toNat)
  have hT := hS.shut i (g := g) (cap := cap) (n := n) (z := 1) (cur := cur.setIfInBounds k (.int .u8 y.toNat)) (e := 5) (xs := bc (l.set k y)) (by simp [hlen]) a1 a2 (by simpa using a3) (by
    simp only [Array.toList_setIfInBounds, Nat.mul_one] at a4 ⊢
    rw [List.take_set, a4]
    unfold bc
    rw [List.map_set]) (by rw [bc_length, List.length_set]; omega)
  simpa using hT
theorem row_byte {w : World} {n0 n g cap : Nat} {l : List UInt8} (h : w.ownsRow n0 5 1 (.slice (some ⟨g, 0, none⟩) n cap) n (bc l)) (k : Nat) (hk : k < l.length) : w.cell? ⟨g, k, none⟩ = some (.int .u8 l[k].toNat) ∧ w.frozen? ⟨g, k, none⟩ = false := by
  have hl : l.length = n := by have := h.1; rw [bc_length] at this; omega
  have h1 := h.cells (g := g) rfl k (.int .u8 l[k].toNat) (by unfold bc; simp [hk])
  rw [Addr.add_lit] at h1
  refine ⟨by simpa using h1, ?_⟩
  rcases h.2 with ⟨hv, h0⟩ | ⟨g', cap', cur, hv, hg, hh, r⟩
  · omega
  · cases hv
    exact fr_frozen hh k
/-- A row stays, where a block turns that holds slices alone. -/
theorem RowV.off {α : Type} {P : World → α → List Value → Prop} {k : Nat} {w w' : World} {v : Value} {L : List α} {b : Nat} (h : RowV P k w v L) (hb : ∀ i u, w.cell? ⟨b, i, none⟩ = some u → ∃ a n c, u = .slice a n c) (h0 : ∀ x cs, P w x cs → ∃ u, cs[0]? = some u ∧ ∀ a n c, u ≠ .slice a n c) (hP : ∀ x cs, P w x cs → P w' x cs) (hk : ∀ q, q ≠ b → w'.heap[q]? = w.heap[q]?) (hs : w.heap.size ≤ w'.heap.size) : RowV P k w' v L := by
  obtain ⟨a, c, e, h1, h2, H⟩ := h
  refine ⟨a, c, e, h1, h2, fun hl => ?_⟩
  obtain ⟨g, o, e1, e2, E⟩ := H hl
  have hne : g ≠ b := by
    intro hgb
    subst hgb
    obtain ⟨cs, p, q⟩ := E 0 hl
    obtain ⟨u, hu, hn⟩ := h0 _ _ p
    obtain ⟨a', n', c', r⟩ := hb _ _ (q 0 u hu)
    exact hn _ _ _ r
  refine ⟨g, o, e1, Nat.lt_of_lt_of_le e2 hs, fun j hj => ?_⟩
  obtain ⟨cs, p, q⟩ := E j hj
  exact ⟨cs, hP _ _ p, fun i u hu => (World.cell?_of_block (a := ⟨g, o + j * k + i, none⟩) (hk g hne)).trans (q i u hu)⟩
theorem ObV.off {w w' : World} {o : Ob} {v : Value} {b : Nat} (h : ObV w o v) (hb : ∀ i u, w.cell? ⟨b, i, none⟩ = some u → ∃ a n c, u = .slice a n c) (hk : ∀ q, q ≠ b → w'.heap[q]? = w.heap[q]?) (hs : w.heap.size ≤ w'.heap.size) : ObV w' o v := by
  obtain ⟨cv, dv, sv, rv, e, h1, h2, h3, h4⟩ := h
  exact ⟨cv, dv, sv, rv, e,
    RowV.off (w := w) (w' := w') h1 hb (fun x cs p => by unfold u32C at p; rw [p.1]; exact ⟨_, rfl, fun _ _ _ h => by cases h⟩) (fun _ _ p => p) hk hs,
    RowV.off (w := w) (w' := w') h2 hb (fun x cs p => by unfold i32C at p; rw [p.1]; exact ⟨_, rfl, fun _ _ _ h => by cases h⟩) (fun _ _ p => p) hk hs,
    RowV.off (w := w) (w' := w') h3 hb (fun x cs p => by unfold syC at p; rw [p.1]; exact ⟨_, rfl, fun _ _ _ h => by cases h⟩) (fun _ _ p => p) hk hs,
    RowV.off (w := w) (w' := w') h4 hb (fun x cs p => by unfold reC at p; rw [p.1]; exact ⟨_, rfl, fun _ _ _ h => by cases h⟩) (fun _ _ p => p) hk hs⟩
theorem four_slices {a b c d : Option Addr} {n1 n2 n3 n4 c1 c2 c3 c4 : Nat} (i : Nat) (u : Value) (h : (#[Value.slice a n1 c1, .slice b n2 c2, .slice c n3 c3, .slice d n4 c4] : Array Value)[i]? = some u) : ∃ a n c, u = .slice a n c := by
  match i, h with
  | 0, h => exact ⟨_, _, _, (Option.some.inj h).symm⟩
  | 1, h => exact ⟨_, _, _, (Option.some.inj h).symm⟩
  | 2, h => exact ⟨_, _, _, (Option.some.inj h).symm⟩
  | 3, h => exact ⟨_, _, _, (Option.some.inj h).symm⟩
  | i + 4, h => simp at h
theorem xor_u8 (x y : Int) (h0 : 0 ≤ x) (h1 : x < 256) (h2 : 0 ≤ y) (h3 : y < 256) : ∃ z : UInt8, bits .xor .u8 x y = z.toNat := by
  have key : 0 ≤ bits .xor .u8 x y ∧ bits .xor .u8 x y < 256 := by
    unfold bits
    simp only [IntKind.wrap]
    have e : (2 : Int) ^ IntKind.u8.bits = 256 := by decide
    have h := Int.emod_nonneg ((BitVec.ofInt IntKind.u8.bits x ^^^ BitVec.ofInt IntKind.u8.bits y).toNat : Int) (show (256 : Int) ≠ 0 by decide)
    have h' := Int.emod_lt_of_pos ((BitVec.ofInt IntKind.u8.bits x ^^^ BitVec.ofInt IntKind.u8.bits y).toNat : Int) (show (0 : Int) < 256 by decide)
    first | exact ⟨by simpa [e] using h, by simpa [e] using h'⟩ | (rw [e]; exact ⟨h, h'⟩) | (constructor <;> (simp [e]; try omega))
  refine ⟨UInt8.ofNat (bits .xor .u8 x y).toNat, ?_⟩
  rw [UInt8.toNat_ofNat']
  omega
end Go.Proofs.Ytnjcknlfecednaa.T
