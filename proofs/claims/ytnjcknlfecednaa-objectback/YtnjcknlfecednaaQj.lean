/- The program's reader in the world; the contracts of insist, take, word. -/
import Derived.Test.YtnjcknlfecednaaQg
import Derived.Test.YtnjcknlfecednaaQi
import Derived.Test.YtnjcknlfecednaaNu
import Derived.Test.YtnjcknlfecednaaPBits
namespace Go.Proofs.Ytnjcknlfecednaa.T
open Go.RowKit Go.Proofs.Ytnjcknlfecednaa.M
set_option linter.unusedVariables false
set_option linter.unusedSimpArgs false
/-- What is thrown. -/
abbrev upE : Ending := .panicked [{ v := .iface 29 (.int .i64 2), recovered := false }]
/-- The reader at a block: the bytes that are left, of those that came in. -/
def Rg (w0 w : World) (b : Nat) (t : List UInt8) (L : List Rs) : Prop := ∃ a c, Fr w0.heap.size w0 w (.blk b #[.slice a t.length c] 61 :: L) ∧ Bys w0 (.slice a t.length c) t
section
variable {w0 w w' : World} {b : Nat} {t : List UInt8} {L : List Rs}
theorem Rg.fr (h : Rg w0 w b t L) : Fr w0.heap.size w0 w L := by obtain ⟨a, c, h, -⟩ := h; exact h.tail
theorem Rg.below (h : Rg w0 w b t L) : Below w0.heap.size w0 w := h.fr.below
theorem Rg.call (h : Rg w0 w b t L) (hb : Below w.heap.size w w') : Rg w0 w' b t L := by obtain ⟨a, c, h, h2⟩ := h; exact ⟨a, c, h.call hb, h2⟩
theorem Rg.cell (h : Rg w0 w b t L) (j : Nat) {q : Nat} {cs : Array Value} {T : TypeId} (hj : L[j]? = some (.blk q cs T)) : ∀ o, w.cell? ⟨q, o, none⟩ = cs[o]? := h.fr.cell j hj
theorem Rg.frz (h : Rg w0 w b t L) (j : Nat) {q : Nat} {cs : Array Value} {T : TypeId} (hj : L[j]? = some (.blk q cs T)) : ∀ o, w.frozen? ⟨q, o, none⟩ = false := h.fr.frz j hj
theorem Rg.alloc (h : Rg w0 w b t L) {q : Nat} (hq : w.heap.size = q) (cs : Array Value) (T : TypeId) : Rg w0 (w.alloc (.cells cs T)) b t (.blk q cs T :: L) := by
  obtain ⟨a, c, h, h2⟩ := h
  exact ⟨a, c, (h.alloc hq cs T).perm (List.Perm.swap _ _ _), h2⟩
theorem Rg.set (h : Rg w0 w b t L) (i : Nat) {q : Nat} {cs : Array Value} {T : TypeId} (hi : L[i]? = some (.blk q cs T)) (o : Nat) (v : Value) : Rg w0 (w.setCell ⟨q, o, none⟩ v) b t (L.set i (.blk q (cs.setIfInBounds o v) T)) := by
  obtain ⟨a, c, h, h2⟩ := h
  exact ⟨a, c, h.set (i + 1) (by simpa using hi) o v, h2⟩
theorem Rg.tail {r : Rs} (h : Rg w0 w b t (r :: L)) : Rg w0 w b t L := by
  obtain ⟨a, c, h, h2⟩ := h
  exact ⟨a, c, h.sub (List.Sublist.cons_cons _ (List.sublist_cons_self _ _)), h2⟩
theorem Rg.perm {K : List Rs} (h : Rg w0 w b t L) (hp : L.Perm K) : Rg w0 w b t K := by
  obtain ⟨a, c, h, h2⟩ := h
  exact ⟨a, c, h.perm (hp.cons _), h2⟩
end
theorem insist_yes (w : World) : Calls Try.prog 35 #[.bool true] w fun e w' => e = .returned (.tuple #[]) ∧ w' = w := by
  go_enter Try.func35, Try.ntmps35
  go_wp2_with fail
  go_end0
  exact ⟨rfl, rfl⟩
theorem insist_no (w : World) : Calls Try.prog 35 #[.bool false] w fun e w' => e = upE ∧ w' = w := by
  go_enter Try.func35, Try.ntmps35
  go_wp2_with fail
  exact ⟨rfl, rfl, rfl⟩
theorem sl_to (a : Option Addr) (n c m : Nat) (hm : m ≤ c) (w : World) : (Instr.slice 28 (.slice a n c) none (some (.int .i64 m)) none).run Try.prog w = .ok (.slice a m c) w := by
  have e : (if c = 0 then a else a.map (fun x => x.add (0 * 1))) = a := by
    split
    · rfl
    · cases a with
      | none => rfl
      | some a => simp [Addr.add]
  simp [Instr.slice, Instr.sliceBounds, Instr.sliceBound, run_underlying Try.underlying28, go_sem, hm, Try.sizeOf5, e]
theorem sl_from (a : Option Addr) (n c m : Nat) (hm : m ≤ n) (w : World) : (Instr.slice 28 (.slice a n c) (some (.int .i64 m)) none none).run Try.prog w = .ok (.slice (if c = m then a else a.map (fun x => x.add m)) (n - m) (c - m)) w := by
  simp [Instr.slice, Instr.sliceBounds, Instr.sliceBound, run_underlying Try.underlying28, go_sem, hm, Try.sizeOf5]
theorem Bys.keep2 {w w' : World} {v : Value} {l : List UInt8} (h : Bys w v l) (hb : Below w.heap.size w w') : Bys w' v l := RowV.below (w := w) (w' := w') (fun _ _ h => h) h hb
theorem Bys.to {w : World} {a : Option Addr} {n c : Nat} {t : List UInt8} (h : Bys w (.slice a n c) t) {m : Nat} (hm : m ≤ n) : Bys w (.slice a m c) (t.take m) := by
  obtain ⟨a', c', e, h1, h2, H⟩ := h
  cases e
  have hl : (t.take m).length = m := by rw [List.length_take]; omega
  refine ⟨a, c, by rw [hl], by rw [hl]; omega, h2, fun h0 => ?_⟩
  obtain ⟨g, o, e1, e2, E⟩ := H (by omega)
  refine ⟨g, o, e1, e2, fun j hj => ?_⟩
  obtain ⟨cs, p, q⟩ := E j (by omega)
  exact ⟨cs, by rw [List.getElem_take]; exact p, q⟩
theorem Bys.from' {w : World} {a : Option Addr} {n c : Nat} {t : List UInt8} (h : Bys w (.slice a n c) t) {m : Nat} (hm : m ≤ n) : Bys w (.slice (if c = m then a else a.map (fun x => x.add m)) (n - m) (c - m)) (t.drop m) := by
  obtain ⟨a', c', e, h1, h2, H⟩ := h
  cases e
  have hl : (t.drop m).length = t.length - m := List.length_drop
  refine ⟨_, c - m, by rw [hl], by rw [hl]; omega, by omega, fun h0 => ?_⟩
  obtain ⟨g, o, e1, e2, E⟩ := H (by omega)
  subst e1
  refine ⟨g, o + m, ?_, e2, fun j hj => ?_⟩
  · rw [if_neg (by omega)]
    simp [Addr.add]
  obtain ⟨cs, p, q⟩ := E (m + j) (by omega)
  refine ⟨cs, by rw [List.getElem_drop]; exact p, fun i u hu => ?_⟩
  have := q i u hu
  rw [show o + m + j * 1 + i = o + (m + j) * 1 + i by omega]
  exact this
set_option maxRecDepth 100000 in
set_option maxHeartbeats 2000000 in
theorem take_ok {w0 w : World} {b : Nat} {t : List UInt8} {L : List Rs} (m : Nat) (hm : m ≤ t.length) (h : Rg w0 w b t L) : Calls Try.prog 51 #[.pointer (some ⟨b, 0, none⟩), .int .i64 m] w fun e w' => ∃ a c, e = .returned (.slice a m c) ∧ Bys w0 (.slice a m c) (t.take m) ∧ Rg w0 w' b (t.drop m) L := by
  obtain ⟨a, c, hf, hb⟩ := h
  have HB1 := hide (Bys.to hb hm)
  have HB2 := hide (Bys.from' hb hm)
  obtain ⟨r1, r2⟩ := hb.room
  have HF := hide hf
  clear hf hb
  have HD : Hid ((t.drop m).length = t.length - m) := List.length_drop
  generalize ht : t.length = n at *
  have hm' : (m : Int) ≤ n := by omega
  have s1 := sl_to a n c m (by omega)
  have s2 := sl_from a n c m hm
  generalize hA : (if c = m then a else a.map (fun x => x.add m)) = A at *
  clear hA
  have c0 := HF.out.cell 0 rfl
  have f0 := HF.out.frz 0 rfl
  have HS := hide (HF.out.set 0 rfl 0 (.slice A (n - m) (c - m)))
  go_enter Try.func51, Try.ntmps51
  go_wp2_with fail
  go_at_call 35
  refine (insist_yes _).mono ?_
  rintro e w1 ⟨rfl, rfl⟩
  go_wp2_with fail
  go_ret
  exact ⟨a, c, rfl, HB1.out, A, c - m, by rw [HD.out]; exact HS.out, by rw [HD.out]; exact HB2.out⟩
set_option maxRecDepth 100000 in
set_option maxHeartbeats 2000000 in
theorem take_no {w0 w : World} {b : Nat} {t : List UInt8} {L : List Rs} (m : Nat) (hm : ¬ m ≤ t.length) (hm2 : m ≤ 9223372036854775807) (h : Rg w0 w b t L) : Calls Try.prog 51 #[.pointer (some ⟨b, 0, none⟩), .int .i64 m] w fun e w' => e = upE ∧ Fr w0.heap.size w0 w' L := by
  have HR := hide h.fr
  obtain ⟨a, c, hf, hb⟩ := h
  have HF := hide hf
  clear hf hb
  generalize ht : t.length = n at *
  have hm' : ¬ (m : Int) ≤ n := by omega
  have c0 := HF.out.cell 0 rfl
  go_enter Try.func51, Try.ntmps51
  go_wp2_with fail
  go_at_call 35
  refine (insist_no _).mono ?_
  rintro e w1 ⟨rfl, rfl⟩
  exact ⟨rfl, rfl, HR.out⟩
theorem or4 (a b c d : Nat) (ha : a < 256) (hb : b < 256) (hc : c < 256) (hd : d < 256) : bits .or .u32 (bits .or .u32 (bits .or .u32 ((a : Int) * 16777216) ((b : Int) * 65536)) ((c : Int) * 256)) (d : Int) = (((a : Int) * 256 + b) * 256 + c) * 256 + d := by
  rw [or_sum (a : Int) ((b : Int) * 65536) 24 16777216 (by decide) (by omega) (by omega) (by omega) (by omega) (by omega)]
  rw [show (a : Int) * 16777216 + (b : Int) * 65536 = ((a : Int) * 256 + b) * 65536 by omega]
  rw [or_sum _ ((c : Int) * 256) 16 65536 (by decide) (by omega) (by omega) (by omega) (by omega) (by omega)]
  rw [show ((a : Int) * 256 + b) * 65536 + (c : Int) * 256 = (((a : Int) * 256 + b) * 256 + c) * 256 by omega]
  rw [or_sum _ (d : Int) 8 256 (by decide) (by omega) (by omega) (by omega) (by omega) (by omega)]
set_option maxRecDepth 100000 in
set_option maxHeartbeats 2000000 in
theorem word_no {w0 w : World} {b : Nat} {t : List UInt8} {L : List Rs} (h : Rg w0 w b t L) (hq : qWord t = none) : Calls Try.prog 28 #[.pointer (some ⟨b, 0, none⟩)] w fun e w' => e = upE ∧ Fr w0.heap.size w0 w' L := by
  have hl : t.length < 4 := by
    rcases Nat.lt_or_ge t.length 4 with h | h
    · exact h
    · obtain ⟨a, b, c, d, -, e⟩ := qWord_some (t := t) (by omega)
      rw [e] at hq
      cases hq
  have HC := hide (take_no 4 (by omega) (by omega) h)
  clear h hq
  go_enter Try.func28, Try.ntmps28
  go_wp2_with fail
  go_at_call 51
  refine HC.out.mono ?_
  rintro e w1 ⟨rfl, hf⟩
  exact ⟨rfl, rfl, hf⟩
set_option maxRecDepth 100000 in
set_option maxHeartbeats 4000000 in
theorem word_yes {w0 w : World} {b : Nat} {t r : List UInt8} {x : Int} {L : List Rs} (h : Rg w0 w b t L) (hq : qWord t = some (x, r)) : Calls Try.prog 28 #[.pointer (some ⟨b, 0, none⟩)] w fun e w' => e = .returned (.int .u32 x) ∧ Rg w0 w' b r L := by
  have hl : ¬ t.length < 4 := fun h => by rw [qWord_none h] at hq; cases hq
  obtain ⟨u0, u1, u2, u3, ht, e⟩ := qWord_some hl
  rw [e] at hq
  simp only [Option.some.injEq, Prod.mk.injEq] at hq
  obtain ⟨hx, hr⟩ := hq
  have HX := hide hx
  have HR := hide hr
  have HC := hide (take_ok 4 (by omega) h)
  have HT : Hid (t.take 4 = [u0, u1, u2, u3]) := by
    show _ = _
    rw [ht]
    rfl
  rw [HT.out, HR.out] at HC
  clear e hx hr h HT HR ht hl
  have b0 := u0.toNat_lt
  have b1 := u1.toNat_lt
  have b2 := u2.toNat_lt
  have b3 := u3.toNat_lt
  have HO := hide (or4 u0.toNat u1.toNat u2.toNat u3.toNat b0 b1 b2 b3)
  rw [HX.out] at HO
  clear HX
  go_enter Try.func28, Try.ntmps28
  go_wp2_with fail
  go_at_call 51
  refine HC.out.mono ?_
  rintro e w1 ⟨a, c, rfl, hb, hg⟩
  clear HC
  have HG := hide hg
  obtain ⟨-, H⟩ := hb.at
  obtain ⟨g, o, rfl, E⟩ := H (by decide)
  have k0 := E w1 HG.out.below 0 (by simp)
  have k1 := E w1 HG.out.below 1 (by simp)
  have k2 := E w1 HG.out.below 2 (by simp)
  have k3 := E w1 HG.out.below 3 (by simp)
  simp only [List.getElem_cons_zero, List.getElem_cons_succ, Nat.add_zero] at k0 k1 k2 k3
  clear E H hb hg
  generalize u0.toNat = n0 at *
  generalize u1.toNat = n1 at *
  generalize u2.toNat = n2 at *
  generalize u3.toNat = n3 at *
  go_wp2_with fail
  go_quiet (fail)
  go_wp2_with fail
  go_ret
  exact ⟨by rw [HO.out]; rfl, HG.out.call ⟨rfl, rfl, rfl, Nat.le_refl _, fun _ _ => rfl⟩⟩
theorem qUp_cases {m : Int} {t : List UInt8} : (qWord t = none ∧ qUp m t = none) ∨ (∃ x r, qWord t = some (x, r) ∧ N4 x ∧ ((x ≤ m ∧ qUp m t = some (x, r)) ∨ (¬ x ≤ m ∧ qUp m t = none))) := by
  unfold qUp
  cases h : qWord t with
  | none => exact Or.inl ⟨rfl, rfl⟩
  | some p =>
    obtain ⟨x, r⟩ := p
    refine Or.inr ⟨x, r, rfl, (qWord_n4 h).1, ?_⟩
    by_cases hx : x ≤ m
    · left; simp [hx]
    · right; simp [hx]
set_option maxRecDepth 100000 in
set_option maxHeartbeats 2000000 in
theorem up_yes {w0 w : World} {b : Nat} {t r : List UInt8} {L : List Rs} {x : Int} (m : Int) (m0 : 0 ≤ m) (m1 : m ≤ 2147483647) (h : Rg w0 w b t L) (hq : qUp m t = some (x, r)) : Calls Try.prog 50 #[.pointer (some ⟨b, 0, none⟩), .int .i64 m] w fun e w' => e = .returned (.int .i64 x) ∧ Rg w0 w' b r L := by
  rcases qUp_cases (m := m) (t := t) with ⟨-, h2⟩ | ⟨x', r', h1, ⟨n0, n1⟩, ⟨h2, h3⟩ | ⟨h2, h3⟩⟩
  · rw [h2] at hq; cases hq
  · rw [h3] at hq
    cases hq
    have HC := hide (word_yes h h1)
    clear h h1 h3
    go_enter Try.func50, Try.ntmps50
    go_wp2_with fail
    go_at_call 28
    refine HC.out.mono ?_
    rintro e w1 ⟨rfl, hg⟩
    have HG := hide hg
    clear hg HC
    go_wp2_with fail
    go_at_call 35
    refine (insist_yes _).mono ?_
    rintro e w2 ⟨rfl, rfl⟩
    go_wp2_with fail
    go_ret
    exact ⟨rfl, HG.out⟩
  · rw [h3] at hq; cases hq
set_option maxRecDepth 100000 in
set_option maxHeartbeats 2000000 in
theorem up_no {w0 w : World} {b : Nat} {t : List UInt8} {L : List Rs} (m : Int) (m0 : 0 ≤ m) (m1 : m ≤ 2147483647) (h : Rg w0 w b t L) (hq : qUp m t = none) : Calls Try.prog 50 #[.pointer (some ⟨b, 0, none⟩), .int .i64 m] w fun e w' => e = upE ∧ Fr w0.heap.size w0 w' L := by
  rcases qUp_cases (m := m) (t := t) with ⟨h1, h2⟩ | ⟨x', r', h1, ⟨n0, n1⟩, ⟨h2, h3⟩ | ⟨h2, h3⟩⟩
  · have HC := hide (word_no h h1)
    clear h h1 h2 hq
    go_enter Try.func50, Try.ntmps50
    go_wp2_with fail
    go_at_call 28
    refine HC.out.mono ?_
    rintro e w1 ⟨rfl, hf⟩
    exact ⟨rfl, rfl, hf⟩
  · rw [h3] at hq; cases hq
  · have HC := hide (word_yes h h1)
    have h2' : decide (x' ≤ m) = false := decide_eq_false h2
    clear h h1 h3 hq h2
    go_enter Try.func50, Try.ntmps50
    go_wp2_with fail
    go_at_call 28
    refine HC.out.mono ?_
    rintro e w1 ⟨rfl, hg⟩
    have HG := hide hg
    clear hg HC
    go_wp2_with fail
    go_at_call 35
    refine (insist_no _).mono ?_
    rintro e w2 ⟨rfl, rfl⟩
    exact ⟨rfl, rfl, HG.out.fr⟩
set_option maxRecDepth 100000 in
set_option maxHeartbeats 2000000 in
theorem num_yes {w0 w : World} {b : Nat} {t r : List UInt8} {L : List Rs} {x : Int} (h : Rg w0 w b t L) (hq : qUp 2147483647 t = some (x, r)) : Calls Try.prog 53 #[.pointer (some ⟨b, 0, none⟩)] w fun e w' => e = .returned (.int .i64 x) ∧ Rg w0 w' b r L := by
  have HC := hide (up_yes 2147483647 (by omega) (by omega) h hq)
  clear h hq
  go_enter Try.func53, Try.ntmps53
  go_wp2_with fail
  go_at_call 50
  refine HC.out.mono ?_
  rintro e w1 ⟨rfl, hg⟩
  have HG := hide hg
  clear hg HC
  go_wp2_with fail
  go_ret
  exact ⟨rfl, HG.out⟩
set_option maxRecDepth 100000 in
set_option maxHeartbeats 2000000 in
theorem num_no {w0 w : World} {b : Nat} {t : List UInt8} {L : List Rs} (h : Rg w0 w b t L) (hq : qUp 2147483647 t = none) : Calls Try.prog 53 #[.pointer (some ⟨b, 0, none⟩)] w fun e w' => e = upE ∧ Fr w0.heap.size w0 w' L := by
  have HC := hide (up_no 2147483647 (by omega) (by omega) h hq)
  clear h hq
  go_enter Try.func53, Try.ntmps53
  go_wp2_with fail
  go_at_call 50
  refine HC.out.mono ?_
  rintro e w1 ⟨rfl, hf⟩
  exact ⟨rfl, rfl, hf⟩
theorem qTxt_cases {m : Int} {t : List UInt8} : (qUp m t = none ∧ qTxt m t = none) ∨ (∃ (k : Nat) (r : List UInt8), qUp m t = some ((k : Int), r) ∧ (k : Int) ≤ m ∧ ((k ≤ r.length ∧ qTxt m t = some (strOf (r.take k), r.drop k)) ∨ (¬ k ≤ r.length ∧ qTxt m t = none))) := by
  unfold qTxt
  cases h : qUp m t with
  | none => exact Or.inl ⟨rfl, rfl⟩
  | some p =>
    obtain ⟨x, r⟩ := p
    obtain ⟨⟨a1, a2⟩, a3, -⟩ := qUp_sound h
    obtain ⟨k, rfl⟩ := Int.eq_ofNat_of_zero_le a1
    refine Or.inr ⟨k, r, rfl, a3, ?_⟩
    simp only [Option.bind_some, Int.toNat_natCast, qTake]
    by_cases hx : k ≤ r.length
    · left; simp [hx]
    · right; simp [hx]
set_option maxRecDepth 100000 in
set_option maxHeartbeats 2000000 in
theorem txt_yes {w0 w : World} {b : Nat} {t r : List UInt8} {L : List Rs} {x : ByteArray} {q j : Nat} {T : TypeId} (m : Int) (m0 : 0 ≤ m) (m1 : m ≤ 2147483647) (hj : L[j]? = some (.blk q #[.pointer (some ⟨b, 0, none⟩)] T)) (h : Rg w0 w b t L) (hq : qTxt m t = some (x, r)) : Calls Try.prog 52 #[.int .i64 m, .pointer (some ⟨q, 0, none⟩)] w fun e w' => e = .returned (.string x) ∧ Rg w0 w' b r L := by
  rcases qTxt_cases (m := m) (t := t) with ⟨-, h2⟩ | ⟨k, r', h1, hk, ⟨h2, h3⟩ | ⟨h2, h3⟩⟩
  · rw [h2] at hq; cases hq
  · rw [h3] at hq
    cases hq
    have c0 := h.cell j hj
    have HC := hide (up_yes m m0 m1 h h1)
    have HJ := hide hj
    clear h h1 h3 hj
    obtain ⟨X, HX⟩ : ∃ X, Hid (strOf (r'.take k) = X) := ⟨_, rfl⟩
    rw [HX.out]
    go_enter Try.func52, Try.ntmps52
    go_wp2_with fail
    go_at_call 50
    refine HC.out.mono ?_
    rintro e w1 ⟨rfl, hg⟩
    have HG := hide hg
    clear hg HC c0
    have c0 := HG.out.cell j HJ.out
    go_wp2_with fail
    go_at_call 51
    refine (take_ok k h2 HG.out).mono ?_
    rintro e w2 ⟨a, c, rfl, hb, hg⟩
    have HG2 := hide hg
    have hcv := (hb.keep2 HG2.out.below).conv.2
    clear hg hb HG c0
    rw [HX.out] at hcv
    go_wp2_with fail
    go_ret
    exact ⟨rfl, HG2.out⟩
  · rw [h3] at hq; cases hq
set_option maxRecDepth 100000 in
set_option maxHeartbeats 2000000 in
theorem txt_no {w0 w : World} {b : Nat} {t : List UInt8} {L : List Rs} {q j : Nat} {T : TypeId} (m : Int) (m0 : 0 ≤ m) (m1 : m ≤ 2147483647) (hj : L[j]? = some (.blk q #[.pointer (some ⟨b, 0, none⟩)] T)) (h : Rg w0 w b t L) (hq : qTxt m t = none) : Calls Try.prog 52 #[.int .i64 m, .pointer (some ⟨q, 0, none⟩)] w fun e w' => e = upE ∧ Fr w0.heap.size w0 w' L := by
  rcases qTxt_cases (m := m) (t := t) with ⟨h1, h2⟩ | ⟨k, r', h1, hk, ⟨h2, h3⟩ | ⟨h2, h3⟩⟩
  · have c0 := h.cell j hj
    have HC := hide (up_no m m0 m1 h h1)
    clear h h1 h2 hq hj
    go_enter Try.func52, Try.ntmps52
    go_wp2_with fail
    go_at_call 50
    refine HC.out.mono ?_
    rintro e w1 ⟨rfl, hf⟩
    exact ⟨rfl, rfl, hf⟩
  · rw [h3] at hq; cases hq
  · have c0 := h.cell j hj
    have HC := hide (up_yes m m0 m1 h h1)
    have HJ := hide hj
    clear h h1 h3 hj hq
    go_enter Try.func52, Try.ntmps52
    go_wp2_with fail
    go_at_call 50
    refine HC.out.mono ?_
    rintro e w1 ⟨rfl, hg⟩
    have HG := hide hg
    clear hg HC c0
    have c0 := HG.out.cell j HJ.out
    go_wp2_with fail
    go_at_call 51
    refine (take_no k h2 (by omega) HG.out).mono ?_
    rintro e w2 ⟨rfl, hf⟩
    exact ⟨rfl, rfl, hf⟩
set_option maxRecDepth 100000 in
set_option maxHeartbeats 2000000 in
theorem data_yes {w0 w : World} {b : Nat} {t r : List UInt8} {L : List Rs} {x : Int} {q j : Nat} {T : TypeId} (hj : L[j]? = some (.blk q #[.pointer (some ⟨b, 0, none⟩)] T)) (h : Rg w0 w b t L) (hq : qData t = some (x, r)) : Calls Try.prog 30 #[.pointer (some ⟨q, 0, none⟩)] w fun e w' => e = .returned (.int .i32 x) ∧ Rg w0 w' b r L := by
  unfold qData at hq
  rw [Option.map_eq_some_iff] at hq
  obtain ⟨⟨y, s⟩, h1, h2⟩ := hq
  simp only [Prod.mk.injEq] at h2
  obtain ⟨h3, rfl⟩ := h2
  obtain ⟨n0, n1⟩ := (qWord_n4 h1).1
  have c0 := h.cell j hj
  have HC := hide (word_yes h h1)
  have HX := hide h3
  clear h h1 hj h3
  by_cases hy : 2147483648 ≤ y
  · have HY : Hid (wrap32 y = x) := by show _ = _; rw [← HX.out]; unfold wordOf wrap32; rw [if_pos hy]; omega
    go_enter Try.func30, Try.ntmps30
    go_wp2_with fail
    go_at_call 28
    refine HC.out.mono ?_
    rintro e w1 ⟨rfl, hg⟩
    have HG := hide hg
    clear hg HC c0
    go_wp2_with fail
    go_ret
    exact ⟨by rw [← HY.out]; first | rfl | simp, HG.out⟩
  · have HY : Hid (y = x) := by show _ = _; rw [← HX.out]; unfold wordOf; rw [if_neg hy]
    go_enter Try.func30, Try.ntmps30
    go_wp2_with fail
    go_at_call 28
    refine HC.out.mono ?_
    rintro e w1 ⟨rfl, hg⟩
    have HG := hide hg
    clear hg HC c0
    go_wp2_with fail
    go_ret
    exact ⟨by rw [← HY.out]; first | rfl | simp, HG.out⟩
set_option maxRecDepth 100000 in
set_option maxHeartbeats 2000000 in
theorem data_no {w0 w : World} {b : Nat} {t : List UInt8} {L : List Rs} {q j : Nat} {T : TypeId} (hj : L[j]? = some (.blk q #[.pointer (some ⟨b, 0, none⟩)] T)) (h : Rg w0 w b t L) (hq : qData t = none) : Calls Try.prog 30 #[.pointer (some ⟨q, 0, none⟩)] w fun e w' => e = upE ∧ Fr w0.heap.size w0 w' L := by
  unfold qData at hq
  rw [Option.map_eq_none_iff] at hq
  have c0 := h.cell j hj
  have HC := hide (word_no h hq)
  clear h hq hj
  go_enter Try.func30, Try.ntmps30
  go_wp2_with fail
  go_at_call 28
  refine HC.out.mono ?_
  rintro e w1 ⟨rfl, hf⟩
  exact ⟨rfl, rfl, hf⟩
end Go.Proofs.Ytnjcknlfecednaa.T
