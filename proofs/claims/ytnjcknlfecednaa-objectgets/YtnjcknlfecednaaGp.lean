/- What the reference's Get reads, round by round; a number and a text read at a frame. -/
import Derived.Test.YtnjcknlfecednaaNu
import Derived.Test.YtnjcknlfecednaaFs
namespace Go.Proofs.Ytnjcknlfecednaa.T
open Go.RowKit Go.Proofs.Ytnjcknlfecednaa.M
set_option linter.unusedVariables false
set_option linter.unusedSimpArgs false
theorem rMany_stop {α : Type} {f : Rd → α × Rd} {s : Rd} {k : Nat} (h : (rMany f s k).2.2 = true) : ∀ n, k ≤ n → rMany f s n = rMany f s k
  | 0, hn => by rw [show k = 0 by omega]
  | n + 1, hn => by
    by_cases e : k = n + 1
    · rw [e]
    · have := rMany_stop h n (by omega)
      show (if (rMany f s n).2.2 then rMany f s n else ((rMany f s n).1 ++ [(f (rMany f s n).2).1], (f (rMany f s n).2).2)) = _
      rw [this, if_pos h]
theorem rMany_go {α : Type} {f : Rd → α × Rd} {s : Rd} {k : Nat} {l : List α} {t : List UInt8} (h : rMany f s k = (l, (t, false))) : rMany f s (k + 1) = (l ++ [(f (t, false)).1], (f (t, false)).2) := by
  show (if (rMany f s k).2.2 then rMany f s k else ((rMany f s k).1 ++ [(f (rMany f s k).2).1], (f (rMany f s k).2).2)) = _
  rw [h]
  rfl
theorem rMany_len {α : Type} (f : Rd → α × Rd) (s : Rd) : ∀ k, (rMany f s k).1.length ≤ k
  | 0 => Nat.le_refl _
  | k + 1 => by
    have := rMany_len f s k
    unfold rMany
    split
    · omega
    · simp; omega
theorem rMany_all {α : Type} {f : Rd → α × Rd} {P : α → Prop} (h : ∀ s, P (f s).1) (s : Rd) : ∀ k x, x ∈ (rMany f s k).1 → P x
  | 0, x, hx => by simp [rMany] at hx
  | k + 1, x, hx => by
    unfold rMany at hx
    split at hx
    · exact rMany_all h s k x hx
    · rcases List.mem_append.1 hx with hx | hx
      · exact rMany_all h s k x hx
      · rw [List.mem_singleton.1 hx]; exact h _
theorem rTxt_size (s : Rd) : (rTxt s).1.size ≤ s.1.length := by
  have key : (rNum s).2.1.length ≤ s.1.length := by
    obtain ⟨l, z⟩ := s
    by_cases h : l.length < 4
    · rw [rNum_few h]; simp
    · rw [rNum_more h]; simp
  unfold rTxt
  split
  · simp [ByteArray.size]
  · have : (⟨((rNum s).2.1.take (rNum s).1.toNat).toArray⟩ : ByteArray).size = ((rNum s).2.1.take (rNum s).1.toNat).length := List.size_toArray
    rw [this, List.length_take]
    omega
theorem rNum_len (s : Rd) : (rNum s).2.1.length ≤ s.1.length := by
  obtain ⟨l, z⟩ := s
  by_cases h : l.length < 4
  · rw [rNum_few h]; simp
  · rw [rNum_more h]; simp
theorem rTxt_len (s : Rd) : (rTxt s).2.1.length ≤ s.1.length := by
  have := rNum_len s
  unfold rTxt
  split
  · exact this
  · simp; omega
/-- A number, read at a frame. -/
theorem num_fr {w wr : World} {L : List Rs} {b n c p : Nat} {a : Option Addr} {z : Bool} {raw : List UInt8} (i : Nat) (h : Fr w.heap.size w wr L) (hi : L[i]? = some (.blk b #[.slice a n c, .int .i64 p, .bool z] 73)) (hraw : Bys w (.slice a n c) raw) (hp : p ≤ n) :
    Calls Try.prog 36 #[.pointer (some ⟨b, 0, none⟩)] wr fun e w' => ∃ (x : Int) (z' : Bool) (p' : Nat), e = .returned (.int .i64 x) ∧ Hid (rNum (raw.drop p, z) = (x, (raw.drop p', z'))) ∧ 0 ≤ x ∧ x < 4294967296 ∧ p' ≤ n ∧ Hid (Fr w.heap.size w w' (L.set i (.blk b #[.slice a n c, .int .i64 p', .bool z'] 73))) := by
  have hb := h.get hi
  have hn := hraw.room
  refine (number_any w wr b a n c p z raw hb.1 h.below hraw (by omega) hp hb.2).mono ?_
  rintro e w' ⟨rfl, hg, p', hp', ht, hh⟩
  have h4 := rNum_n4 (raw.drop p, z)
  exact ⟨_, _, p', rfl, by rw [← ht]; rfl, h4.1, h4.2, hp', h.via i hi hg hh⟩
theorem txt_fr {w wr : World} {L : List Rs} {b n c p : Nat} {a : Option Addr} {z : Bool} {raw : List UInt8} (i : Nat) (h : Fr w.heap.size w wr L) (hi : L[i]? = some (.blk b #[.slice a n c, .int .i64 p, .bool z] 73)) (hraw : Bys w (.slice a n c) raw) (hp : p ≤ n) :
    Calls Try.prog 38 #[.pointer (some ⟨b, 0, none⟩)] wr fun e w' => ∃ (x : ByteArray) (z' : Bool) (p' : Nat), e = .returned (.string x) ∧ Hid (rTxt (raw.drop p, z) = (x, (raw.drop p', z'))) ∧ p' ≤ n ∧ Hid (Fr w.heap.size w w' (L.set i (.blk b #[.slice a n c, .int .i64 p', .bool z'] 73))) := by
  have hb := h.get hi
  have hn := hraw.room
  refine (text_any w wr b a n c p z raw hb.1 h.below hraw (by omega) hp hb.2).mono ?_
  rintro e w' ⟨rfl, hg, p', hp', ht, hh⟩
  exact ⟨_, _, p', rfl, by rw [← ht]; rfl, hp', h.via i hi hg hh⟩
theorem rSym_of {s s1 s2 s3 s4 s5 s6 s7 : Rd} {t1 t6 : ByteArray} {x2 x3 x4 x5 x7 : Int} (h1 : rTxt s = (t1, s1)) (h2 : rNum s1 = (x2, s2)) (h3 : rNum s2 = (x3, s3)) (h4 : rNum s3 = (x4, s4)) (h5 : rNum s4 = (x5, s5)) (h6 : rTxt s5 = (t6, s6)) (h7 : rNum s6 = (x7, s7)) : rSym s = (⟨t1, x2, decide (x3 = 1), x4, x5, t6, x7⟩, s7) := by
  unfold rSym
  simp only [h1, h2, h3, h4, h5, h6, h7]
theorem rRel_of {s s1 s2 s3 : Rd} {x1 x2 x3 : Int} (h1 : rNum s = (x1, s1)) (h2 : rNum s1 = (x2, s2)) (h3 : rNum s2 = (x3, s3)) : rRel s = (⟨x1, x2, x3⟩, s3) := by
  unfold rRel
  simp only [h1, h2, h3]
theorem rData_of {s s1 : Rd} {x : Int} (h : rNum s = (x, s1)) : rData s = (wordOf x, s1) := by
  unfold rData
  rw [h]
theorem rList_of {α : Type} {f : Rd → α × Rd} {s s1 t : Rd} {N : Nat} {l : List α} (h1 : rNum s = ((N : Int), s1)) (h2 : rMany f s1 N = (l, t)) : rList f s = (l, t) := by
  unfold rList
  rw [h1]
  exact h2
theorem rObj_of {raw : List UInt8} {s1 s2 s3 s4 : Rd} {C D : List Int} {S : List Sy} {R : List Re} (h1 : rList rNum (raw, false) = (C, s1)) (h2 : rList rData s1 = (D, s2)) (h3 : rList rSym s2 = (S, s3)) (h4 : rList rRel s3 = (R, s4)) : rObj raw = (⟨C, D, S, R⟩, s4) := by
  unfold rObj
  simp only [h1, h2, h3, h4]
theorem rList_all {α : Type} {f : Rd → α × Rd} {P : α → Prop} (h : ∀ s, P (f s).1) (s : Rd) : ∀ x, x ∈ (rList f s).1 → P x := rMany_all h _ _
theorem rDrop_len {raw : List UInt8} {p : Nat} : (raw.drop p).length ≤ raw.length := by simp
theorem rSym_ok (s : Rd) : N4 (rSym s).1.kind ∧ N4 (rSym s).1.pl ∧ N4 (rSym s).1.size ∧ N4 (rSym s).1.frame ∧ (rSym s).1.name.size ≤ s.1.length ∧ (rSym s).1.sign.size ≤ s.1.length := by
  unfold rSym
  refine ⟨rNum_n4 _, rNum_n4 _, rNum_n4 _, rNum_n4 _, rTxt_size _, ?_⟩
  refine Nat.le_trans (rTxt_size _) (Nat.le_trans (rNum_len _) (Nat.le_trans (rNum_len _) (Nat.le_trans (rNum_len _) (Nat.le_trans (rNum_len _) (rTxt_len _)))))
theorem rSym_len (s : Rd) : (rSym s).2.1.length ≤ s.1.length := by
  unfold rSym
  exact Nat.le_trans (rNum_len _) (Nat.le_trans (rTxt_len _) (Nat.le_trans (rNum_len _) (Nat.le_trans (rNum_len _) (Nat.le_trans (rNum_len _) (Nat.le_trans (rNum_len _) (rTxt_len _))))))
theorem rMany_syms (s : Rd) : ∀ k, (rMany rSym s k).2.1.length ≤ s.1.length ∧ ∀ x, x ∈ (rMany rSym s k).1 → N4 x.kind ∧ N4 x.pl ∧ N4 x.size ∧ N4 x.frame ∧ x.name.size ≤ s.1.length ∧ x.sign.size ≤ s.1.length
  | 0 => ⟨Nat.le_refl _, by simp [rMany]⟩
  | k + 1 => by
    obtain ⟨h1, h2⟩ := rMany_syms s k
    unfold rMany
    split
    · exact ⟨h1, h2⟩
    · refine ⟨Nat.le_trans (rSym_len _) h1, fun x hx => ?_⟩
      rcases List.mem_append.1 hx with hx | hx
      · exact h2 x hx
      · rw [List.mem_singleton.1 hx]
        obtain ⟨a1, a2, a3, a4, a5, a6⟩ := rSym_ok (rMany rSym s k).2
        exact ⟨a1, a2, a3, a4, Nat.le_trans a5 h1, Nat.le_trans a6 h1⟩
/-- Rows of cells, as what they are read as. -/
theorem row_u32 {w : World} {n0 n : Nat} {v : Value} {l : List Int} (h : w.ownsRow n0 41 1 v n (l.map (Value.int .u32))) (hl : ∀ x, x ∈ l → N4 x) : RowV u32C 1 w v l := by
  have e : l.length = n := by have := h.1; simpa using this
  subst e
  rcases h.2 with ⟨rfl, h0⟩ | ⟨g, cap, cur, rfl, hg, hh, a1, a2, a3, a4⟩
  · exact ⟨none, 0, by rw [h0], by omega, by omega, fun h => absurd h (by omega)⟩
  · refine ⟨_, _, rfl, a1, by unfold maxLen at a2; omega, fun h0 => ⟨g, 0, rfl, (Array.getElem?_eq_some_iff.1 hh).1, fun j hj => ⟨[.int .u32 l[j]], ⟨rfl, hl _ (List.getElem_mem hj)⟩, fun i u hu => ?_⟩⟩⟩
    obtain rfl : i = 0 := by
      cases i with
      | zero => rfl
      | succ i => simp at hu
    simp at hu
    subst hu
    have := h.cells (g := g) rfl j (.int .u32 l[j]) (by simp [hj])
    rw [Addr.add_lit] at this
    simpa using this
theorem row_i32 {w : World} {n0 n : Nat} {v : Value} {l : List Int} (h : w.ownsRow n0 21 1 v n (l.map (Value.int .i32))) (hl : ∀ x, x ∈ l → -2147483648 ≤ x ∧ x ≤ 2147483647) : RowV i32C 1 w v l := by
  have e : l.length = n := by have := h.1; simpa using this
  subst e
  rcases h.2 with ⟨rfl, h0⟩ | ⟨g, cap, cur, rfl, hg, hh, a1, a2, a3, a4⟩
  · exact ⟨none, 0, by rw [h0], by omega, by omega, fun h => absurd h (by omega)⟩
  · refine ⟨_, _, rfl, a1, by unfold maxLen at a2; omega, fun h0 => ⟨g, 0, rfl, (Array.getElem?_eq_some_iff.1 hh).1, fun j hj => ⟨[.int .i32 l[j]], ⟨rfl, hl _ (List.getElem_mem hj)⟩, fun i u hu => ?_⟩⟩⟩
    obtain rfl : i = 0 := by
      cases i with
      | zero => rfl
      | succ i => simp at hu
    simp at hu
    subst hu
    have := h.cells (g := g) rfl j (.int .i32 l[j]) (by simp [hj])
    rw [Addr.add_lit] at this
    simpa using this
def syL (s : Sy) : List Value := [.string s.name, .int .i64 s.kind, .bool s.stat, .int .i64 s.pl, .int .i64 s.size, .string s.sign, .int .i64 s.frame]
def reL (r : Re) : List Value := [.int .i64 r.pl, .int .i64 r.sym, .int .i64 r.add]
theorem flat_at {α : Type} (f : α → List Value) (k : Nat) (hk : ∀ x, (f x).length = k) : ∀ (L : List α) (j : Nat) (hj : j < L.length) (i : Nat) (u : Value), (f L[j])[i]? = some u → (L.flatMap f)[j * k + i]? = some u
  | [], j, hj, _, _, _ => absurd hj (by simp)
  | x :: L, 0, hj, i, u, hu => by
    have hi : i < (f x).length := (List.getElem?_eq_some_iff.1 hu).1
    rw [List.flatMap_cons, Nat.zero_mul, Nat.zero_add, List.getElem?_append_left hi]
    exact hu
  | x :: L, j + 1, hj, i, u, hu => by
    have := flat_at f k hk L j (by simpa using hj) i u (by simpa using hu)
    rw [List.flatMap_cons, List.getElem?_append_right (by rw [hk]; rw [Nat.succ_mul]; omega), hk, show (j + 1) * k + i - k = j * k + i by rw [Nat.succ_mul]; omega]
    exact this
theorem flat_k {α : Type} (f : α → List Value) (k : Nat) (hk : ∀ x, (f x).length = k) (L : List α) : (L.flatMap f).length = L.length * k := by
  induction L with
  | nil => simp
  | cons x L ih => rw [List.flatMap_cons, List.length_append, ih, hk, List.length_cons, Nat.succ_mul]; omega
theorem row_flat {α : Type} {P : World → α → List Value → Prop} (f : α → List Value) (e : TypeId) (k : Nat) (hk : ∀ x, (f x).length = k) (hk0 : 0 < k) {w : World} {n0 n : Nat} {v : Value} {l : List α} (h : w.ownsRow n0 e k v n (l.flatMap f)) (hl : ∀ x, x ∈ l → P w x (f x)) : RowV P k w v l := by
  have e : l.length = n := by
    have := h.1
    rw [flat_k f k hk] at this
    exact Nat.eq_of_mul_eq_mul_right hk0 this
  subst e
  rcases h.2 with ⟨rfl, h0⟩ | ⟨g, cap, cur, rfl, hg, hh, a1, a2, a3, a4⟩
  · exact ⟨none, 0, by rw [h0], by omega, by omega, fun h => absurd h (by omega)⟩
  · refine ⟨_, _, rfl, a1, by unfold maxLen at a2; omega, fun h0 => ⟨g, 0, rfl, (Array.getElem?_eq_some_iff.1 hh).1, fun j hj => ⟨f l[j], hl _ (List.getElem_mem hj), fun i u hu => ?_⟩⟩⟩
    have := h.cells (g := g) rfl (j * k + i) u (flat_at f k hk l j hj i u hu)
    rw [Addr.add_lit] at this
    rw [show 0 + j * k + i = 0 + (j * k + i) by omega]
    exact this
end Go.Proofs.Ytnjcknlfecednaa.T
