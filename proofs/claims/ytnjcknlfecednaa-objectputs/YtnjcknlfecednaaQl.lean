/- The contracts of the program's list, at each kind of part. -/
import Derived.Test.YtnjcknlfecednaaQk
import Derived.Test.YtnjcknlfecednaaGt
namespace Go.Proofs.Ytnjcknlfecednaa.T
open Go.RowKit Go.Proofs.Ytnjcknlfecednaa.M
set_option linter.unusedVariables false
set_option linter.unusedSimpArgs false
/-- What list leaves. -/
def PL {α : Type} (T : TypeId) (z : Nat) (cells : α → List Value) (w0 : World) (b : Nat) (L : List Rs) (r : Rq (List α)) (e : Ending) (w' : World) : Prop := (∃ l t v, r = some (l, t) ∧ e = .returned v ∧ Rg w0 w' b t (.row v T z l.length (l.flatMap cells) :: L)) ∨ (r = none ∧ e = upE ∧ Fr w0.heap.size w0 w' L)
theorem qMany_none {α : Type} {f : List UInt8 → Rq α} {t : List UInt8} {k : Nat} (h : qMany f t k = none) : ∀ n, k ≤ n → qMany f t n = none := by
  intro n hn
  induction n with
  | zero => rw [show k = 0 by omega] at h; exact h
  | succ n ih =>
    by_cases e : k = n + 1
    · rw [← e]; exact h
    · unfold qMany; rw [ih (by omega)]; rfl
theorem qMany_next {α : Type} {f : List UInt8 → Rq α} {t t1 t2 : List UInt8} {k : Nat} {l : List α} {x : α} (h : qMany f t k = some (l, t1)) (h2 : f t1 = some (x, t2)) : qMany f t (k + 1) = some (l ++ [x], t2) := by
  unfold qMany
  rw [h]
  simp [h2]
theorem qMany_stop {α : Type} {f : List UInt8 → Rq α} {t t1 : List UInt8} {k : Nat} {l : List α} (h : qMany f t k = some (l, t1)) (h2 : f t1 = none) : qMany f t (k + 1) = none := by
  unfold qMany
  rw [h]
  simp [h2]
theorem qList_of {α : Type} {f : List UInt8 → Rq α} {t t1 : List UInt8} {m : Int} {n : Nat} (h : qUp m t = some ((n : Int), t1)) : qList f m t = qMany f t1 n := by
  unfold qList
  rw [h]
  rfl
theorem qList_none {α : Type} {f : List UInt8 → Rq α} {t : List UInt8} {m : Int} (h : qUp m t = none) : qList f m t = none := by
  unfold qList
  rw [h]
  rfl
def wC (x : Int) : List Value := [.int .u32 x]
def dC' (x : Int) : List Value := [.int .i32 x]
def sC (s : Sy) : List Value := [.string s.name, .int .i64 s.kind, .bool s.stat, .int .i64 s.pl, .int .i64 s.size, .string s.sign, .int .i64 s.frame]
def rC (r : Re) : List Value := [.int .i64 r.pl, .int .i64 r.sym, .int .i64 r.add]
theorem flat_more {α : Type} (f : α → List Value) (l : List α) (x : α) : (l ++ [x]).flatMap f = l.flatMap f ++ f x := by simp
set_option maxRecDepth 100000 in
set_option maxHeartbeats 4000000 in
theorem lword_any {w0 w : World} {b : Nat} {t : List UInt8} {L : List Rs} (m : Int) (m0 : 0 ≤ m) (m1 : m ≤ 100000) (h : Rg w0 w b t L) : Calls Try.prog 27 #[.pointer (some ⟨b, 0, none⟩), .int .i64 m, .func (.func 28) #[.pointer (some ⟨b, 0, none⟩)] #[]] w (PL 41 1 wC w0 b L (qList qWord m t)) := by


  cases hu : qUp m t with
  | none =>
    have HC := hide (up_no m m0 (by omega) h hu)
    have HQ := hide (qList_none (f := qWord) hu)
    clear h hu
    go_enter Try.func27, Try.ntmps27
    go_wp2_with fail
    go_at_call 50
    refine HC.out.mono ?_
    rintro e w1 ⟨rfl, hf⟩
    exact ⟨rfl, Or.inr ⟨HQ.out, rfl, hf⟩⟩
  | some p =>
  obtain ⟨x, t1⟩ := p
  obtain ⟨⟨n0, n1⟩, n2, -⟩ := qUp_sound hu
  obtain ⟨n, rfl⟩ := Int.eq_ofNat_of_zero_le n0
  have HC := hide (up_yes m m0 (by omega) h hu)
  obtain ⟨Z, HQ⟩ : ∃ Z, Hid (qList qWord m t = Z) := ⟨_, rfl⟩
  have HZ : Hid (qMany qWord t1 n = Z) := (qList_of hu).symm.trans HQ.out
  rw [HQ.out]
  clear h hu HQ
  go_enter Try.func27, Try.ntmps27
  go_wp2_with fail
  go_at_call 50
  refine HC.out.mono ?_
  rintro e w1 ⟨rfl, hg⟩
  have HG := hide hg
  clear hg HC
  go_wp2_with fail
  go_loopw [7, 12] (fun v i wr => ∃ (k : Nat) (l : List Int) (t2 : List UInt8) (va : Option Addr) (vc : Nat), k ≤ n ∧ v = .slice va k vc ∧ i = .int .i64 k ∧ Hid (qMany qWord t1 k = some (l, t2)) ∧ Hid (l.length = k) ∧ Hid (Rg w0 wr b t2 (.row (.slice va k vc) 41 1 k (l.flatMap wC) :: L))) (fun _ i _ => n - (intOf i).toNat)
  case atStart =>
    refine ⟨0, [], t1, none, 0, Nat.zero_le _, rfl, rfl, rfl, rfl, ?_⟩
    obtain ⟨a, c, hF, hB⟩ := HG.out
    exact ⟨a, c, (hF.nil 41 1).perm (List.Perm.swap _ _ _), hB⟩
  case round =>
    clear HG
    obtain ⟨k, l, t2, va, vc, hk, rfl, rfl, HQ, HL, HG⟩ := hrel
    by_cases hlt : k < n
    · have hlt' : (k : Int) < n := by omega
      cases hq : qWord t2 with
      | none =>
        have HN := hide (HZ.out.symm.trans (qMany_none (qMany_stop HQ.out hq) n (by omega)))
        go_wp2_with fail
        go_at_call 28
        refine (word_no HG.out hq).mono ?_
        rintro e w1 ⟨rfl, hf⟩
        exact ⟨rfl, Or.inr ⟨HN.out, rfl, hf.tail⟩⟩
      | some p =>
        obtain ⟨x, t3⟩ := p
        have HN := hide (qMany_next HQ.out hq)
        have HL2 : Hid ((l ++ [x]).length = k + 1) := by show _ = _; rw [List.length_append, HL.out]; rfl
        have HFM := hide (flat_more wC l x)
        go_wp2_with fail
        go_at_call 28
        refine (word_yes HG.out hq).mono ?_
        rintro e w1 ⟨rfl, hg⟩
        obtain ⟨a, c, hF, hB⟩ := hg
        have HF := hide hF
        have HB := hide hB
        clear hF hB HG
        go_wp2_with (at_builtin; have HA := HF.out.alloc (q := w1.heap.size) rfl #[.int .u32 x] 41; refine Fr.oneBig 22 info41 Try.underlying22 rfl (by decide) (by decide) HA 1 (v := .slice va k vc) (n := k) rfl (by omega) (.tmp 16) (.tmp 18) rfl rfl rfl rfl rfl rfl ?_; intro g cap w2 h9 _; replace HF := hide h9; clear h9 HA)
        go_roundw
        case rel => exact ⟨k + 1, l ++ [x], t3, some ⟨g, 0, none⟩, cap, by omega, rfl, by go_num, HN, HL2, ⟨a, c, by rw [HFM.out]; exact HF.out, HB.out⟩⟩
        case measure => simp [intOf]; omega
    · obtain rfl : k = n := by omega
      have hlt' : ¬ (k : Int) < k := by omega
      go_wp2_with fail
      go_ret
      exact Or.inl ⟨l, t2, .slice va k vc, HZ.out.symm.trans HQ.out, rfl, by rw [HL.out]; exact HG.out⟩
set_option maxRecDepth 100000 in
set_option maxHeartbeats 4000000 in
theorem ldata_any {w0 w : World} {b : Nat} {t : List UInt8} {L : List Rs} (m : Int) (m0 : 0 ≤ m) (m1 : m ≤ 100000) {q j : Nat} {TT : TypeId} (hj : L[j]? = some (.blk q #[.pointer (some ⟨b, 0, none⟩)] TT)) (h : Rg w0 w b t L) : Calls Try.prog 29 #[.pointer (some ⟨b, 0, none⟩), .int .i64 m, .func (.func 30) #[] #[.pointer (some ⟨q, 0, none⟩)]] w (PL 21 1 dC' w0 b L (qList qData m t)) := by
  have HJ := hide hj
  clear hj
  cases hu : qUp m t with
  | none =>
    have HC := hide (up_no m m0 (by omega) h hu)
    have HQ := hide (qList_none (f := qData) hu)
    clear h hu
    go_enter Try.func29, Try.ntmps29
    go_wp2_with fail
    go_at_call 50
    refine HC.out.mono ?_
    rintro e w1 ⟨rfl, hf⟩
    exact ⟨rfl, Or.inr ⟨HQ.out, rfl, hf⟩⟩
  | some p =>
  obtain ⟨x, t1⟩ := p
  obtain ⟨⟨n0, n1⟩, n2, -⟩ := qUp_sound hu
  obtain ⟨n, rfl⟩ := Int.eq_ofNat_of_zero_le n0
  have HC := hide (up_yes m m0 (by omega) h hu)
  obtain ⟨Z, HQ⟩ : ∃ Z, Hid (qList qData m t = Z) := ⟨_, rfl⟩
  have HZ : Hid (qMany qData t1 n = Z) := (qList_of hu).symm.trans HQ.out
  rw [HQ.out]
  clear h hu HQ
  go_enter Try.func29, Try.ntmps29
  go_wp2_with fail
  go_at_call 50
  refine HC.out.mono ?_
  rintro e w1 ⟨rfl, hg⟩
  have HG := hide hg
  clear hg HC
  go_wp2_with fail
  go_loopw [7, 12] (fun v i wr => ∃ (k : Nat) (l : List Int) (t2 : List UInt8) (va : Option Addr) (vc : Nat), k ≤ n ∧ v = .slice va k vc ∧ i = .int .i64 k ∧ Hid (qMany qData t1 k = some (l, t2)) ∧ Hid (l.length = k) ∧ Hid (Rg w0 wr b t2 (.row (.slice va k vc) 21 1 k (l.flatMap dC') :: L))) (fun _ i _ => n - (intOf i).toNat)
  case atStart =>
    refine ⟨0, [], t1, none, 0, Nat.zero_le _, rfl, rfl, rfl, rfl, ?_⟩
    obtain ⟨a, c, hF, hB⟩ := HG.out
    exact ⟨a, c, (hF.nil 21 1).perm (List.Perm.swap _ _ _), hB⟩
  case round =>
    clear HG
    obtain ⟨k, l, t2, va, vc, hk, rfl, rfl, HQ, HL, HG⟩ := hrel
    by_cases hlt : k < n
    · have hlt' : (k : Int) < n := by omega
      cases hq : qData t2 with
      | none =>
        have HN := hide (HZ.out.symm.trans (qMany_none (qMany_stop HQ.out hq) n (by omega)))
        go_wp2_with fail
        go_at_call 30
        refine (data_no (j := j + 1) (by simpa using HJ.out) HG.out hq).mono ?_
        rintro e w1 ⟨rfl, hf⟩
        exact ⟨rfl, Or.inr ⟨HN.out, rfl, hf.tail⟩⟩
      | some p =>
        obtain ⟨x, t3⟩ := p
        have HN := hide (qMany_next HQ.out hq)
        have HL2 : Hid ((l ++ [x]).length = k + 1) := by show _ = _; rw [List.length_append, HL.out]; rfl
        have HFM := hide (flat_more dC' l x)
        go_wp2_with fail
        go_at_call 30
        refine (data_yes (j := j + 1) (by simpa using HJ.out) HG.out hq).mono ?_
        rintro e w1 ⟨rfl, hg⟩
        obtain ⟨a, c, hF, hB⟩ := hg
        have HF := hide hF
        have HB := hide hB
        clear hF hB HG
        go_wp2_with (at_builtin; have HA := HF.out.alloc (q := w1.heap.size) rfl #[.int .i32 x] 21; refine Fr.oneBig 23 info21 Try.underlying23 rfl (by decide) (by decide) HA 1 (v := .slice va k vc) (n := k) rfl (by omega) (.tmp 16) (.tmp 18) rfl rfl rfl rfl rfl rfl ?_; intro g cap w2 h9 _; replace HF := hide h9; clear h9 HA)
        go_roundw
        case rel => exact ⟨k + 1, l ++ [x], t3, some ⟨g, 0, none⟩, cap, by omega, rfl, by go_num, HN, HL2, ⟨a, c, by rw [HFM.out]; exact HF.out, HB.out⟩⟩
        case measure => simp [intOf]; omega
    · obtain rfl : k = n := by omega
      have hlt' : ¬ (k : Int) < k := by omega
      go_wp2_with fail
      go_ret
      exact Or.inl ⟨l, t2, .slice va k vc, HZ.out.symm.trans HQ.out, rfl, by rw [HL.out]; exact HG.out⟩
set_option maxRecDepth 100000 in
set_option maxHeartbeats 4000000 in
theorem lsym_any {w0 w : World} {b : Nat} {t : List UInt8} {L : List Rs} (m : Int) (m0 : 0 ≤ m) (m1 : m ≤ 100000) (h : Rg w0 w b t L) : Calls Try.prog 31 #[.pointer (some ⟨b, 0, none⟩), .int .i64 m, .func (.func 32) #[.pointer (some ⟨b, 0, none⟩)] #[]] w (PL 44 7 sC w0 b L (qList qSym m t)) := by


  cases hu : qUp m t with
  | none =>
    have HC := hide (up_no m m0 (by omega) h hu)
    have HQ := hide (qList_none (f := qSym) hu)
    clear h hu
    go_enter Try.func31, Try.ntmps31
    go_wp2_with fail
    go_at_call 50
    refine HC.out.mono ?_
    rintro e w1 ⟨rfl, hf⟩
    exact ⟨rfl, Or.inr ⟨HQ.out, rfl, hf⟩⟩
  | some p =>
  obtain ⟨x, t1⟩ := p
  obtain ⟨⟨n0, n1⟩, n2, -⟩ := qUp_sound hu
  obtain ⟨n, rfl⟩ := Int.eq_ofNat_of_zero_le n0
  have HC := hide (up_yes m m0 (by omega) h hu)
  obtain ⟨Z, HQ⟩ : ∃ Z, Hid (qList qSym m t = Z) := ⟨_, rfl⟩
  have HZ : Hid (qMany qSym t1 n = Z) := (qList_of hu).symm.trans HQ.out
  rw [HQ.out]
  clear h hu HQ
  go_enter Try.func31, Try.ntmps31
  go_wp2_with fail
  go_at_call 50
  refine HC.out.mono ?_
  rintro e w1 ⟨rfl, hg⟩
  have HG := hide hg
  clear hg HC
  go_wp2_with fail
  go_loopw [7, 12] (fun v i wr => ∃ (k : Nat) (l : List Sy) (t2 : List UInt8) (va : Option Addr) (vc : Nat), k ≤ n ∧ v = .slice va k vc ∧ i = .int .i64 k ∧ Hid (qMany qSym t1 k = some (l, t2)) ∧ Hid (l.length = k) ∧ Hid (Rg w0 wr b t2 (.row (.slice va k vc) 44 7 k (l.flatMap sC) :: L))) (fun _ i _ => n - (intOf i).toNat)
  case atStart =>
    refine ⟨0, [], t1, none, 0, Nat.zero_le _, rfl, rfl, rfl, rfl, ?_⟩
    obtain ⟨a, c, hF, hB⟩ := HG.out
    exact ⟨a, c, (hF.nil 44 7).perm (List.Perm.swap _ _ _), hB⟩
  case round =>
    clear HG
    obtain ⟨k, l, t2, va, vc, hk, rfl, rfl, HQ, HL, HG⟩ := hrel
    by_cases hlt : k < n
    · have hlt' : (k : Int) < n := by omega
      cases hq : qSym t2 with
      | none =>
        have HN := hide (HZ.out.symm.trans (qMany_none (qMany_stop HQ.out hq) n (by omega)))
        go_wp2_with fail
        go_at_call 32
        refine (sym_any HG.out).mono ?_
        intro e w1 hpr
        obtain ⟨rfl, hf⟩ := hpr.no hq
        exact ⟨rfl, Or.inr ⟨HN.out, rfl, hf.tail⟩⟩
      | some p =>
        obtain ⟨x, t3⟩ := p
        have HN := hide (qMany_next HQ.out hq)
        have HL2 : Hid ((l ++ [x]).length = k + 1) := by show _ = _; rw [List.length_append, HL.out]; rfl
        have HFM := hide (flat_more sC l x)
        go_wp2_with fail
        go_at_call 32
        refine (sym_any HG.out).mono ?_
        intro e w1 hpr
        obtain ⟨he, hg⟩ := hpr.yes hq
        obtain rfl : e = .returned (.agg #[.string x.name, .int .i64 x.kind, .bool x.stat, .int .i64 x.pl, .int .i64 x.size, .string x.sign, .int .i64 x.frame]) := he
        obtain ⟨a, c, hF, hB⟩ := hg
        have HF := hide (hF.alloc (q := w1.heap.size) rfl #[.string x.name, .int .i64 x.kind, .bool x.stat, .int .i64 x.pl, .int .i64 x.size, .string x.sign, .int .i64 x.frame] 44)
        have HB := hide hB
        have c1 := HF.out.cell 0 rfl
        clear hF hB HG
        go_wp2_with (at_builtin; have HA := HF.out.alloc (q := w1.heap.size + 1) (by simp) #[.string x.name, .int .i64 x.kind, .bool x.stat, .int .i64 x.pl, .int .i64 x.size, .string x.sign, .int .i64 x.frame] 44; refine Fr.oneBig 24 info44 Try.underlying24 rfl (by decide) (by decide) HA 2 (v := .slice va k vc) (n := k) rfl (by omega) (.tmp 16) (.tmp 18) rfl rfl rfl rfl rfl rfl ?_; intro g cap w2 h9 _; replace HF := hide h9; clear h9 HA)
        go_roundw
        case rel => exact ⟨k + 1, l ++ [x], t3, some ⟨g, 0, none⟩, cap, by omega, rfl, by go_num, HN, HL2, ⟨a, c, by rw [HFM.out]; exact HF.out.tail, HB.out⟩⟩
        case measure => simp [intOf]; omega
    · obtain rfl : k = n := by omega
      have hlt' : ¬ (k : Int) < k := by omega
      go_wp2_with fail
      go_ret
      exact Or.inl ⟨l, t2, .slice va k vc, HZ.out.symm.trans HQ.out, rfl, by rw [HL.out]; exact HG.out⟩
set_option maxRecDepth 100000 in
set_option maxHeartbeats 4000000 in
theorem lrel_any {w0 w : World} {b : Nat} {t : List UInt8} {L : List Rs} (m : Int) (m0 : 0 ≤ m) (m1 : m ≤ 100000) (h : Rg w0 w b t L) : Calls Try.prog 33 #[.pointer (some ⟨b, 0, none⟩), .int .i64 m, .func (.func 34) #[.pointer (some ⟨b, 0, none⟩)] #[]] w (PL 47 3 rC w0 b L (qList qRel m t)) := by


  cases hu : qUp m t with
  | none =>
    have HC := hide (up_no m m0 (by omega) h hu)
    have HQ := hide (qList_none (f := qRel) hu)
    clear h hu
    go_enter Try.func33, Try.ntmps33
    go_wp2_with fail
    go_at_call 50
    refine HC.out.mono ?_
    rintro e w1 ⟨rfl, hf⟩
    exact ⟨rfl, Or.inr ⟨HQ.out, rfl, hf⟩⟩
  | some p =>
  obtain ⟨x, t1⟩ := p
  obtain ⟨⟨n0, n1⟩, n2, -⟩ := qUp_sound hu
  obtain ⟨n, rfl⟩ := Int.eq_ofNat_of_zero_le n0
  have HC := hide (up_yes m m0 (by omega) h hu)
  obtain ⟨Z, HQ⟩ : ∃ Z, Hid (qList qRel m t = Z) := ⟨_, rfl⟩
  have HZ : Hid (qMany qRel t1 n = Z) := (qList_of hu).symm.trans HQ.out
  rw [HQ.out]
  clear h hu HQ
  go_enter Try.func33, Try.ntmps33
  go_wp2_with fail
  go_at_call 50
  refine HC.out.mono ?_
  rintro e w1 ⟨rfl, hg⟩
  have HG := hide hg
  clear hg HC
  go_wp2_with fail
  go_loopw [7, 12] (fun v i wr => ∃ (k : Nat) (l : List Re) (t2 : List UInt8) (va : Option Addr) (vc : Nat), k ≤ n ∧ v = .slice va k vc ∧ i = .int .i64 k ∧ Hid (qMany qRel t1 k = some (l, t2)) ∧ Hid (l.length = k) ∧ Hid (Rg w0 wr b t2 (.row (.slice va k vc) 47 3 k (l.flatMap rC) :: L))) (fun _ i _ => n - (intOf i).toNat)
  case atStart =>
    refine ⟨0, [], t1, none, 0, Nat.zero_le _, rfl, rfl, rfl, rfl, ?_⟩
    obtain ⟨a, c, hF, hB⟩ := HG.out
    exact ⟨a, c, (hF.nil 47 3).perm (List.Perm.swap _ _ _), hB⟩
  case round =>
    clear HG
    obtain ⟨k, l, t2, va, vc, hk, rfl, rfl, HQ, HL, HG⟩ := hrel
    by_cases hlt : k < n
    · have hlt' : (k : Int) < n := by omega
      cases hq : qRel t2 with
      | none =>
        have HN := hide (HZ.out.symm.trans (qMany_none (qMany_stop HQ.out hq) n (by omega)))
        go_wp2_with fail
        go_at_call 34
        refine (rel_any HG.out).mono ?_
        intro e w1 hpr
        obtain ⟨rfl, hf⟩ := hpr.no hq
        exact ⟨rfl, Or.inr ⟨HN.out, rfl, hf.tail⟩⟩
      | some p =>
        obtain ⟨x, t3⟩ := p
        have HN := hide (qMany_next HQ.out hq)
        have HL2 : Hid ((l ++ [x]).length = k + 1) := by show _ = _; rw [List.length_append, HL.out]; rfl
        have HFM := hide (flat_more rC l x)
        go_wp2_with fail
        go_at_call 34
        refine (rel_any HG.out).mono ?_
        intro e w1 hpr
        obtain ⟨he, hg⟩ := hpr.yes hq
        obtain rfl : e = .returned (.agg #[.int .i64 x.pl, .int .i64 x.sym, .int .i64 x.add]) := he
        obtain ⟨a, c, hF, hB⟩ := hg
        have HF := hide (hF.alloc (q := w1.heap.size) rfl #[.int .i64 x.pl, .int .i64 x.sym, .int .i64 x.add] 47)
        have HB := hide hB
        have c1 := HF.out.cell 0 rfl
        clear hF hB HG
        go_wp2_with (at_builtin; have HA := HF.out.alloc (q := w1.heap.size + 1) (by simp) #[.int .i64 x.pl, .int .i64 x.sym, .int .i64 x.add] 47; refine Fr.oneBig 25 info47 Try.underlying25 rfl (by decide) (by decide) HA 2 (v := .slice va k vc) (n := k) rfl (by omega) (.tmp 16) (.tmp 18) rfl rfl rfl rfl rfl rfl ?_; intro g cap w2 h9 _; replace HF := hide h9; clear h9 HA)
        go_roundw
        case rel => exact ⟨k + 1, l ++ [x], t3, some ⟨g, 0, none⟩, cap, by omega, rfl, by go_num, HN, HL2, ⟨a, c, by rw [HFM.out]; exact HF.out.tail, HB.out⟩⟩
        case measure => simp [intOf]; omega
    · obtain rfl : k = n := by omega
      have hlt' : ¬ (k : Int) < k := by omega
      go_wp2_with fail
      go_ret
      exact Or.inl ⟨l, t2, .slice va k vc, HZ.out.symm.trans HQ.out, rfl, by rw [HL.out]; exact HG.out⟩
end Go.Proofs.Ytnjcknlfecednaa.T
