/- The contracts of the program's writer: word, number, text, symbol, reloc. -/
import Derived.Test.YtnjcknlfecednaaPt
namespace Go.Proofs.Ytnjcknlfecednaa.T
open Go.RowKit Go.Proofs.Ytnjcknlfecednaa.M
set_option linter.unusedVariables false
set_option linter.unusedSimpArgs false
section
variable {n0 : Nat} {w0 w w' : World} {L : List Rs}
/-- append of several things that were just laid in a block of their own, to a row that may be long. -/
theorem Fr.manyBig {P : Program} {ops : Array Oper} {rest : List Oper} {o : Oper} {a : Act} {Q : Exit → Act → World → Prop} (t : TypeId) {e : TypeId} {zv : Value} {z by' : Nat}
    (hinfo : (P.info? e).map (fun i => (i.zero, i.size, i.bytes)) = some (some zv, z, by')) (ht : P.underlying t = some (.slice e)) (hz : zv.cells.size = z) (hz0 : 0 < z) (hby : by' ≤ 1000)
    {B : Nat} {cs : Array Value} {T : TypeId} (h : Fr n0 w0 w (.blk B cs T :: L)) (i : Nat) {v : Value} {n : Nat} {xs : List Value} (hi : L[i]? = some (.row v e z n xs)) (hn : n ≤ 5000000000)
    (p q : Operand) (hgd : o.guard = none) (ho : o.op = .call { callee := .builtin .append, args := #[p, q], argTypes := #[t, t] }) (hs : a.eval p = v)
    {m c : Nat} (hx : a.eval q = .slice (some ⟨B, 0, none⟩) m c) (hm : 0 < m) (hm2 : m ≤ 16000) (hl : cs.size = m * z) (h1 : cs.toList.all (fun u => u.oneCell') = true)
    (k : ∀ g cap w', Fr n0 w0 w' (L.set i (.row (.slice (some ⟨g, 0, none⟩) (n + m) cap) e z (n + m) (xs ++ cs.toList))) → w.grownBy w' v.ownBlock → wpList P ops Q rest (a.put o.dst (.slice (some ⟨g, 0, none⟩) (n + m) cap)) w') :
    wpList P ops Q (o :: rest) a w := by
  obtain ⟨i0, hi0, hz0', hz1, hz2⟩ := fr_info hinfo
  have hb : (n + m) * by' ≤ 140737488355328 := Nat.le_trans (Nat.mul_le_mul (show n + m ≤ 5000016000 by omega) hby) (by decide)
  refine wpList_append_lies w hgd p q t ho n0 e i0 zv z by' ht hi0 hz0' hz1 hz2 hz hz0 v n xs hs (h.tail.get hi) ⟨B, 0, none⟩ m c cs.toList hx (by simp [hl]) (World.news_of_block (h.get (i := 0) rfl).2) (fun u hu => List.all_eq_true.1 h1 u hu) hm (by unfold maxLen; omega) hb h.le w.heap.size rfl ?_
  intro g cap w' h2 h3 h4 h5
  refine k g cap w' (h.tail.app i hi h3 h2 fun q hq => ?_) h3
  have e : g = q := Option.some.inj hq
  subst e
  rcases h4 with e | e
  · exact Or.inl e
  · exact Or.inr (Nat.le_of_eq e.symm)
theorem Fr.perm {K : List Rs} (h : Fr n0 w0 w L) (hp : L.Perm K) : Fr n0 w0 w K := ⟨h.below, h.le, fun r hr => h.ok r (hp.mem_iff.2 hr), (hp.pairwise_iff (fun h => Rs.off_symm h)).1 h.off⟩
/-- A writer at a block: the bytes that it has written so far. -/
def Wt (n0 : Nat) (w0 w : World) (b : Nat) (l : List UInt8) (L : List Rs) : Prop := ∃ a c, Fr n0 w0 w (.blk b #[.slice a l.length c] 39 :: .row (.slice a l.length c) 5 1 l.length (bc l) :: L)
variable {b : Nat} {l : List UInt8}
theorem Wt.below (h : Wt n0 w0 w b l L) : Below n0 w0 w := by obtain ⟨a, c, h⟩ := h; exact h.below
theorem Wt.below' (h : Wt n0 w0 w b l L) (hn : n0 = w0.heap.size) : Below w0.heap.size w0 w := hn ▸ h.below
theorem Wt.call (h : Wt n0 w0 w b l L) (hb : Below w.heap.size w w') : Wt n0 w0 w' b l L := by obtain ⟨a, c, h⟩ := h; exact ⟨a, c, h.call hb⟩
theorem Wt.cell (h : Wt n0 w0 w b l L) (j : Nat) {q : Nat} {cs : Array Value} {T : TypeId} (hj : L[j]? = some (.blk q cs T)) : ∀ o, w.cell? ⟨q, o, none⟩ = cs[o]? := by
  obtain ⟨a, c, h⟩ := h
  exact h.cell (j + 2) (by simpa using hj)
theorem Wt.alloc (h : Wt n0 w0 w b l L) (cs : Array Value) (T : TypeId) : Wt n0 w0 (w.alloc (.cells cs T)) b l (.blk w.heap.size cs T :: L) := by
  obtain ⟨a, c, h⟩ := h
  refine ⟨a, c, (h.alloc rfl cs T).perm ?_⟩
  exact (List.Perm.swap _ _ _).trans ((List.Perm.swap _ _ _).cons _)
theorem Wt.tail {r : Rs} (h : Wt n0 w0 w b l (r :: L)) : Wt n0 w0 w b l L := by
  obtain ⟨a, c, h⟩ := h
  exact ⟨a, c, h.sub ((List.Sublist.cons_cons _ (List.Sublist.cons_cons _ (List.sublist_cons_self _ _))))⟩
theorem Wt.bys (h : Wt n0 w0 w b l L) : ∃ a c, w.heap[b]? = some (.cells #[.slice a l.length c] 39 (0, 0)) ∧ Bys w (.slice a l.length c) l := by
  obtain ⟨a, c, h⟩ := h
  exact ⟨a, c, (h.get (i := 0) rfl).2, Bys.of_row (h.get (i := 1) rfl)⟩
theorem Wt.start (h : Fr n0 w0 w L) (hq : w.heap.size = b) : Wt n0 w0 (w.alloc (.cells #[.slice none 0 0] 39)) b [] L := by
  refine ⟨none, 0, ?_⟩
  refine ((h.alloc hq #[.slice none 0 0] 39).nil 5 1).perm (List.Perm.swap _ _ _)
end
theorem b8_v (n : Int) : ((b8 n).toNat : Int) = n % 256 := b8_toNat n
set_option maxRecDepth 100000 in
set_option maxHeartbeats 4000000 in
theorem wword_any {n0 : Nat} {w0 w : World} {b : Nat} {l : List UInt8} {L : List Rs} (n : Int) (hn : N4 n) (hl : l.length ≤ 4000000000) (h : Wt n0 w0 w b l L) :
    Calls Try.prog 14 #[.pointer (some ⟨b, 0, none⟩), .int .u32 n] w fun e w' => e = .returned (.tuple #[]) ∧ Wt n0 w0 w' b (l ++ four n) L := by
  obtain ⟨a, c, hf⟩ := h
  have HF := hide hf
  clear hf
  obtain ⟨h0, h1⟩ := hn
  have c0 := HF.out.cell 0 rfl
  have f0 := HF.out.frz 0 rfl
  have HE : Hid (∀ g cap w', Fr n0 w0 w' (.blk b #[.slice (some ⟨g, 0, none⟩) (l.length + 4) cap] 39 :: .row (.slice (some ⟨g, 0, none⟩) (l.length + 4) cap) 5 1 (l.length + 4) (bc l ++ [.int .u8 (n / 16777216), .int .u8 (n / 65536 % 256), .int .u8 (n / 256 % 256), .int .u8 (n % 256)]) :: L) → Wt n0 w0 w' b (l ++ four n) L) := fun g cap w' h => by
    refine ⟨some ⟨g, 0, none⟩, cap, ?_⟩
    rw [List.length_append, four_length, bc_app]
    have : bc (four n) = [.int .u8 (n / 16777216 % 256), .int .u8 (n / 65536 % 256), .int .u8 (n / 256 % 256), .int .u8 (n % 256)] := by
      unfold bc four
      simp only [List.map_cons, List.map_nil, b8_toNat]
    rw [this, show n / 16777216 % 256 = n / 16777216 by omega]
    exact h
  generalize bc l = xs at *
  generalize l.length = nl at *
  go_enter Try.func14, Try.ntmps14
  go_wp2_with (at_builtin; have HA := HF.out.alloc (q := w.heap.size) rfl #[.int .u8 (n / 16777216), .int .u8 (n / 65536 % 256), .int .u8 (n / 256 % 256), .int .u8 (n % 256)] 5; refine Fr.manyBig 28 info5 Try.underlying28 rfl (by decide) (by decide) HA 1 (v := .slice a nl c) (n := nl) rfl (by omega) (.tmp 8) (.tmp 20) rfl rfl rfl (m := 4) (c := 4) rfl (by decide) (by decide) rfl rfl ?_; intro g cap w' h9 _; replace HF := hide h9; clear h9 HA; have c1 := HF.out.cell 0 rfl; have f1 := HF.out.frz 0 rfl)
  go_end0
  exact ⟨rfl, HE.out g cap _ (HF.out.set 0 rfl 0 (.slice (some ⟨g, 0, none⟩) (nl + 4) cap))⟩
set_option maxRecDepth 100000 in
theorem wnum_any {n0 : Nat} {w0 w : World} {b : Nat} {l : List UInt8} {L : List Rs} (n : Int) (hn : N4 n) (hl : l.length ≤ 4000000000) (h : Wt n0 w0 w b l L) :
    Calls Try.prog 13 #[.pointer (some ⟨b, 0, none⟩), .int .i64 n] w fun e w' => e = .returned (.tuple #[]) ∧ Wt n0 w0 w' b (l ++ four n) L := by
  have HC := hide (wword_any n hn hl h)
  clear h
  obtain ⟨h0, h1⟩ := hn
  go_enter Try.func13, Try.ntmps13
  go_wp2_with fail
  go_at_call 14
  refine HC.out.mono ?_
  rintro e w1 ⟨rfl, hw⟩
  have HW := hide hw
  clear hw
  go_wp2_with fail
  go_end0
  exact ⟨rfl, HW.out⟩
set_option maxRecDepth 100000 in
set_option maxHeartbeats 4000000 in
theorem wtxt_any {n0 : Nat} {w0 w : World} {b : Nat} {l : List UInt8} {L : List Rs} (s : ByteArray) (hs : s.size ≤ 4000) (hl : l.length ≤ 2000000000) (h : Wt n0 w0 w b l L) :
    Calls Try.prog 40 #[.pointer (some ⟨b, 0, none⟩), .string s] w fun e w' => e = .returned (.tuple #[]) ∧ Wt n0 w0 w' b (l ++ txt s) L := by
  have HC := hide (wnum_any (s.size : Int) ⟨by omega, by omega⟩ (by omega) h)
  clear h
  go_enter Try.func40, Try.ntmps40
  go_wp2_with fail
  go_at_call 13
  refine HC.out.mono ?_
  rintro e w1 ⟨rfl, hw⟩
  clear HC
  obtain ⟨a, c, hf⟩ := hw
  have HF := hide hf
  clear hf
  have hl2 : (l ++ four (s.size : Int)).length ≤ 2000000004 := by rw [List.length_append, four_length]; omega
  have HE : Hid (∀ ad cap w', Fr n0 w0 w' (.blk b #[.slice ad ((l ++ four (s.size : Int)).length + s.size) cap] 39 :: .row (.slice ad ((l ++ four (s.size : Int)).length + s.size) cap) 5 1 ((l ++ four (s.size : Int)).length + s.size) (bc (l ++ four (s.size : Int)) ++ Lib.strCells s) :: L) → Wt n0 w0 w' b (l ++ txt s) L) := fun ad cap w' h => by
    have e1 : l ++ txt s = (l ++ four (s.size : Int)) ++ bytes s := by unfold txt; rw [List.append_assoc]
    rw [e1]
    refine ⟨ad, cap, ?_⟩
    have e2 : ((l ++ four (s.size : Int)) ++ bytes s).length = (l ++ four (s.size : Int)).length + s.size := by rw [List.length_append]; rfl
    rw [e2, bc_app]
    exact h
  generalize l ++ four (s.size : Int) = m at *
  have c0 := HF.out.cell 0 rfl
  have f0 := HF.out.frz 0 rfl
  generalize bc m = xs at *
  generalize m.length = nl at *
  go_wp2_with (at_builtin; refine Fr.str 28 9 info5 Try.underlying28 Try.underlying9 HF.out 1 (v := .slice a nl c) (n := nl) rfl (by omega) (.tmp 12) (.tmp 13) rfl rfl rfl s rfl (by omega) ?_; intro g cap w' h9 _; replace HF := hide h9; clear h9; have c1 := HF.out.cell 0 rfl; have f1 := HF.out.frz 0 rfl)
  go_end0
  exact ⟨rfl, HE.out g cap _ (HF.out.set 0 rfl 0 (.slice g (nl + s.size) cap))⟩
set_option maxRecDepth 100000 in
set_option maxHeartbeats 4000000 in
theorem wrel_any {n0 : Nat} {w0 w : World} {b : Nat} {l : List UInt8} {L : List Rs} (r : Re) (h1 : N4 r.pl) (h2 : N4 r.sym) (h3 : N4 r.add) (hl : l.length ≤ 1000000000) (h : Wt n0 w0 w b l L) :
    Calls Try.prog 16 #[.pointer (some ⟨b, 0, none⟩), .agg #[.int .i64 r.pl, .int .i64 r.sym, .int .i64 r.add]] w fun e w' => e = .returned (.tuple #[]) ∧ Wt n0 w0 w' b (l ++ relP r) L := by
  have HW := hide (h.alloc #[.int .i64 r.pl, .int .i64 r.sym, .int .i64 r.add] 47)
  have HE : Hid (l ++ relP r = l ++ four r.pl ++ four r.sym ++ four r.add) := by show _ = _; unfold relP; simp only [List.append_assoc]
  rw [HE.out]
  clear h HE
  have c0 := HW.out.cell 0 rfl
  go_enter Try.func16, Try.ntmps16
  go_wp2_with fail
  go_at_call 13
  refine (wnum_any _ h1 (by (try simp only [List.length_append, four_length]); omega) HW.out).mono ?_
  rintro e w1 ⟨rfl, hw⟩
  clear c0
  replace HW := hide hw
  clear hw
  have c0 := HW.out.cell 0 rfl
  go_wp2_with fail
  go_at_call 13
  refine (wnum_any _ h2 (by (try simp only [List.length_append, four_length]); omega) HW.out).mono ?_
  rintro e w1 ⟨rfl, hw⟩
  clear c0
  replace HW := hide hw
  clear hw
  have c0 := HW.out.cell 0 rfl
  go_wp2_with fail
  go_at_call 13
  refine (wnum_any _ h3 (by (try simp only [List.length_append, four_length]); omega) HW.out).mono ?_
  rintro e w1 ⟨rfl, hw⟩
  clear c0
  replace HW := hide hw
  clear hw
  have c0 := HW.out.cell 0 rfl
  go_wp2_with fail
  go_end0
  exact ⟨rfl, HW.out.tail⟩
set_option maxRecDepth 100000 in
set_option maxHeartbeats 4000000 in
theorem wsym_any {n0 : Nat} {w0 w : World} {b : Nat} {l : List UInt8} {L : List Rs} (s : Sy) (h1 : N4 s.kind) (h2 : N4 s.pl) (h3 : N4 s.size) (h4 : N4 s.frame) (h5 : s.name.size ≤ 16) (h6 : s.sign.size ≤ 2000) (hl : l.length ≤ 1000000000) (h : Wt n0 w0 w b l L) :
    Calls Try.prog 15 #[.pointer (some ⟨b, 0, none⟩), .agg #[.string s.name, .int .i64 s.kind, .bool s.stat, .int .i64 s.pl, .int .i64 s.size, .string s.sign, .int .i64 s.frame]] w fun e w' => e = .returned (.tuple #[]) ∧ Wt n0 w0 w' b (l ++ symP s) L := by
  have HW := hide (h.alloc #[.string s.name, .int .i64 s.kind, .bool s.stat, .int .i64 s.pl, .int .i64 s.size, .string s.sign, .int .i64 s.frame] 44)
  have HE : Hid (l ++ symP s = l ++ txt s.name ++ four s.kind ++ four (if s.stat then 1 else 0) ++ four s.pl ++ four s.size ++ txt s.sign ++ four s.frame) := by show _ = _; unfold symP; simp only [List.append_assoc]
  rw [HE.out]
  clear h HE
  have t1 : (txt s.name).length = 4 + s.name.size := by unfold txt; rw [List.length_append, four_length]; rfl
  have t2 : (txt s.sign).length = 4 + s.sign.size := by unfold txt; rw [List.length_append, four_length]; rfl
  have T1 := hide t1
  have T2 := hide t2
  clear t1 t2
  obtain ⟨nm, kd, st, pl, sz, sg, fr⟩ := s
  simp only at *
  have c0 := HW.out.cell 0 rfl
  cases st
  all_goals
    go_enter Try.func15, Try.ntmps15
    go_wp2_with fail
    go_at_call 40
    refine (wtxt_any nm (by omega) (by (try simp only [List.length_append, four_length, T1.out, T2.out]); omega) HW.out).mono ?_
    rintro e w1 ⟨rfl, hw⟩
    clear c0
    replace HW := hide hw
    clear hw
    have c0 := HW.out.cell 0 rfl
    go_wp2_with fail
    go_at_call 13
    refine (wnum_any kd h1 (by (try simp only [List.length_append, four_length, T1.out, T2.out]); omega) HW.out).mono ?_
    rintro e w1 ⟨rfl, hw⟩
    clear c0
    replace HW := hide hw
    clear hw
    have c0 := HW.out.cell 0 rfl
    go_wp2_with fail
    go_at_call 13
    refine (wnum_any _ (by unfold N4; omega) (by (try simp only [List.length_append, four_length, T1.out, T2.out]); omega) HW.out).mono ?_
    rintro e w1 ⟨rfl, hw⟩
    clear c0
    replace HW := hide hw
    clear hw
    have c0 := HW.out.cell 0 rfl
    go_wp2_with fail
    go_at_call 13
    refine (wnum_any pl h2 (by (try simp only [List.length_append, four_length, T1.out, T2.out]); omega) HW.out).mono ?_
    rintro e w1 ⟨rfl, hw⟩
    clear c0
    replace HW := hide hw
    clear hw
    have c0 := HW.out.cell 0 rfl
    go_wp2_with fail
    go_at_call 13
    refine (wnum_any sz h3 (by (try simp only [List.length_append, four_length, T1.out, T2.out]); omega) HW.out).mono ?_
    rintro e w1 ⟨rfl, hw⟩
    clear c0
    replace HW := hide hw
    clear hw
    have c0 := HW.out.cell 0 rfl
    go_wp2_with fail
    go_at_call 40
    refine (wtxt_any sg (by omega) (by (try simp only [List.length_append, four_length, T1.out, T2.out]); omega) HW.out).mono ?_
    rintro e w1 ⟨rfl, hw⟩
    clear c0
    replace HW := hide hw
    clear hw
    have c0 := HW.out.cell 0 rfl
    go_wp2_with fail
    go_at_call 13
    refine (wnum_any fr h4 (by (try simp only [List.length_append, four_length, T1.out, T2.out]); omega) HW.out).mono ?_
    rintro e w1 ⟨rfl, hw⟩
    clear c0
    replace HW := hide hw
    clear hw
    have c0 := HW.out.cell 0 rfl
    go_wp2_with fail
    go_end0
    exact ⟨rfl, by simpa only [List.append_assoc] using HW.out.tail⟩
end Go.Proofs.Ytnjcknlfecednaa.T
