/- What the program's own Get reads, as a plain thing; that is R3. No program. -/
import Derived.Test.YtnjcknlfecednaaGp
namespace Go.Proofs.Ytnjcknlfecednaa.T
open Go.RowKit Go.Proofs.Ytnjcknlfecednaa.M
set_option linter.unusedVariables false
/-- What is read: a thing and the bytes that are left; none: the program gives up. -/
abbrev Rq (α : Type) := Option (α × List UInt8)
def qWord : List UInt8 → Rq Int
  | a :: b :: c :: d :: r => some ((((a.toNat : Int) * 256 + b.toNat) * 256 + c.toNat) * 256 + d.toNat, r)
  | _ => none
def qTake (n : Nat) (t : List UInt8) : Rq (List UInt8) := if n ≤ t.length then some (t.take n, t.drop n) else none
def qUp (m : Int) (t : List UInt8) : Rq Int := (qWord t).bind fun p => if p.1 ≤ m then some p else none
def qTxt (m : Int) (t : List UInt8) : Rq ByteArray := (qUp m t).bind fun p => (qTake p.1.toNat p.2).map fun q => (strOf q.1, q.2)
def qData (t : List UInt8) : Rq Int := (qWord t).map fun p => (wordOf p.1, p.2)
def qSym (t : List UInt8) : Rq Sy :=
  (qTxt 16 t).bind fun a => (qUp 2147483647 a.2).bind fun b => (qUp 1 b.2).bind fun c => (qUp 2147483647 c.2).bind fun d => (qUp 2147483647 d.2).bind fun e =>
  (qTxt 2000 e.2).bind fun f => (qUp 2147483647 f.2).map fun g => (⟨a.1, b.1, decide (c.1 = 1), d.1, e.1, f.1, g.1⟩, g.2)
def qRel (t : List UInt8) : Rq Re :=
  (qUp 2147483647 t).bind fun a => (qUp 2147483647 a.2).bind fun b => (qUp 2147483647 b.2).map fun c => (⟨a.1, b.1, c.1⟩, c.2)
def qMany {α : Type} (f : List UInt8 → Rq α) (t : List UInt8) : Nat → Rq (List α)
  | 0 => some ([], t)
  | k + 1 => (qMany f t k).bind fun p => (f p.2).map fun q => (p.1 ++ [q.1], q.2)
def qList {α : Type} (f : List UInt8 → Rq α) (m : Int) (t : List UInt8) : Rq (List α) := (qUp m t).bind fun p => qMany f p.2 p.1.toNat
def qAll (t : List UInt8) : Rq Ob :=
  (qList qWord 6000 t).bind fun a => (qList qData 16000 a.2).bind fun b => (qList qSym 400 b.2).bind fun c => (qList qRel 6000 c.2).map fun d => (⟨a.1, b.1, c.1, d.1⟩, d.2)
def qObj (raw : List UInt8) : Option Ob := (qAll raw).bind fun p => if p.2 = [] ∧ mayO p.1 = true then some p.1 else none
theorem qWord_none {t : List UInt8} (h : t.length < 4) : qWord t = none := by
  match t, h with
  | [], _ => rfl
  | [a], _ => rfl
  | [a, b], _ => rfl
  | [a, b, c], _ => rfl
  | a :: b :: c :: d :: r, h => simp at h; omega
theorem qWord_some {t : List UInt8} (h : ¬ t.length < 4) : ∃ a b c d, t = a :: b :: c :: d :: t.drop 4 ∧ qWord t = some ((((a.toNat : Int) * 256 + b.toNat) * 256 + c.toNat) * 256 + d.toNat, t.drop 4) := by
  match t, h with
  | [], h => simp at h
  | [a], h => simp at h
  | [a, b], h => simp at h
  | [a, b, c], h => simp at h
  | a :: b :: c :: d :: r, _ => exact ⟨a, b, c, d, rfl, rfl⟩
theorem qWord_n4 {t r : List UInt8} {x : Int} (h : qWord t = some (x, r)) : N4 x ∧ t = four x ++ r := by
  match t, h with
  | a :: b :: c :: d :: r', h =>
    have ha := a.toNat_lt
    have hb := b.toNat_lt
    have hc := c.toNat_lt
    have hd := d.toNat_lt
    simp only [qWord, Option.some.injEq, Prod.mk.injEq] at h
    obtain ⟨rfl, rfl⟩ := h
    refine ⟨by unfold N4; omega, ?_⟩
    have e : ∀ (u : UInt8) (n : Int), n % 256 = u.toNat → b8 n = u := fun u n hn => by
      unfold b8
      rw [hn]
      simp
    unfold four
    rw [e a _ (by omega), e b _ (by omega), e c _ (by omega), e d _ (by omega)]
    rfl
theorem qWord_four {x : Int} (h : N4 x) (r : List UInt8) : qWord (four x ++ r) = some (x, r) := by
  unfold four
  simp only [List.cons_append, List.nil_append, qWord, b8_toNat]
  unfold N4 at h
  congr 2
  omega
theorem qUp_sound {m x : Int} {t r : List UInt8} (h : qUp m t = some (x, r)) : N4 x ∧ x ≤ m ∧ t = four x ++ r := by
  unfold qUp at h
  rw [Option.bind_eq_some_iff] at h
  obtain ⟨⟨y, s⟩, h1, h2⟩ := h
  split at h2
  · cases h2
    obtain ⟨a, b⟩ := qWord_n4 h1
    exact ⟨a, by assumption, b⟩
  · cases h2
theorem qUp_four {m x : Int} (h : N4 x) (hm : x ≤ m) (r : List UInt8) : qUp m (four x ++ r) = some (x, r) := by
  unfold qUp
  rw [qWord_four h]
  simp [hm]
theorem qTxt_sound {m : Int} {s : ByteArray} {t r : List UInt8} (h : qTxt m t = some (s, r)) : (s.size : Int) ≤ m ∧ s.size < 4294967296 ∧ t = txt s ++ r := by
  unfold qTxt at h
  rw [Option.bind_eq_some_iff] at h
  obtain ⟨⟨x, t1⟩, h1, h2⟩ := h
  obtain ⟨⟨a1, a2⟩, a3, rfl⟩ := qUp_sound h1
  unfold qTake at h2
  split at h2
  · rename_i hle
    simp only at hle
    simp only [Option.map_some, Option.some.injEq, Prod.mk.injEq] at h2
    obtain ⟨rfl, rfl⟩ := h2
    have hl : (strOf (t1.take x.toNat)).size = x.toNat := by rw [strOf_size, List.length_take]; omega
    refine ⟨by rw [hl]; omega, by rw [hl]; omega, ?_⟩
    unfold txt
    rw [hl, bytes_strOf, show ((x.toNat : Nat) : Int) = x by omega, List.append_assoc, List.take_append_drop]
  · simp at h2
theorem qTxt_txt {m : Int} {s : ByteArray} (h : s.size < 4294967296) (hm : (s.size : Int) ≤ m) (r : List UInt8) : qTxt m (txt s ++ r) = some (s, r) := by
  have hl : (bytes s).length = s.size := Array.length_toList
  unfold qTxt txt
  rw [List.append_assoc, qUp_four ⟨by omega, by omega⟩ hm]
  simp only [Option.bind_some]
  unfold qTake
  rw [if_pos (by rw [List.length_append]; omega)]
  simp [← hl]
  rfl
theorem qMany_flat {α : Type} (f : List UInt8 → Rq α) (g : α → List UInt8) (L : List α) (h : ∀ x, x ∈ L → ∀ r, f (g x ++ r) = some (x, r)) (r : List UInt8) : ∀ k, k ≤ L.length → qMany f (L.flatMap g ++ r) k = some (L.take k, (L.drop k).flatMap g ++ r)
  | 0, _ => by simp [qMany]
  | k + 1, hk => by
    have hk' : k < L.length := by omega
    unfold qMany
    rw [qMany_flat f g L h r k (by omega)]
    simp only [Option.bind_some]
    rw [List.drop_eq_getElem_cons hk', List.flatMap_cons, List.append_assoc, h _ (List.getElem_mem hk')]
    rw [List.take_succ_eq_append_getElem hk']
    rfl
theorem qMany_sound {α : Type} (f : List UInt8 → Rq α) (g : α → List UInt8) (P : α → Prop) (h : ∀ t x r, f t = some (x, r) → t = g x ++ r ∧ P x) (t : List UInt8) : ∀ k l r, qMany f t k = some (l, r) → t = l.flatMap g ++ r ∧ l.length = k ∧ ∀ x, x ∈ l → P x
  | 0, l, r, e => by cases e; exact ⟨rfl, rfl, by simp⟩
  | k + 1, l, r, e => by
    unfold qMany at e
    rw [Option.bind_eq_some_iff] at e
    obtain ⟨⟨l1, t1⟩, e1, e2⟩ := e
    obtain ⟨a1, a2, a3⟩ := qMany_sound f g P h t k l1 t1 e1
    rw [Option.map_eq_some_iff] at e2
    obtain ⟨⟨x, t2⟩, e3, e4⟩ := e2
    cases e4
    obtain ⟨rfl, hp⟩ := h _ _ _ e3
    refine ⟨?_, by simp [a2], fun y hy => ?_⟩
    · rw [a1]
      simp
    · rw [List.mem_append] at hy
      rcases hy with hy | hy
      · exact a3 y hy
      · simp at hy; rw [hy]; exact hp
theorem qList_flat {α : Type} (f : List UInt8 → Rq α) (g : α → List UInt8) (L : List α) {m : Int} (hn : L.length < 4294967296) (hm : (L.length : Int) ≤ m) (h : ∀ x, x ∈ L → ∀ r, f (g x ++ r) = some (x, r)) (r : List UInt8) : qList f m ((four L.length ++ L.flatMap g) ++ r) = some (L, r) := by
  unfold qList
  rw [List.append_assoc, qUp_four ⟨by omega, by omega⟩ hm]
  simp only [Option.bind_some, Int.toNat_natCast]
  rw [qMany_flat f g L h r _ (Nat.le_refl _)]
  simp
theorem qList_sound {α : Type} (f : List UInt8 → Rq α) (g : α → List UInt8) (P : α → Prop) (h : ∀ t x r, f t = some (x, r) → t = g x ++ r ∧ P x) {m : Int} {t r : List UInt8} {l : List α} (e : qList f m t = some (l, r)) : t = four l.length ++ l.flatMap g ++ r ∧ ∀ x, x ∈ l → P x := by
  unfold qList at e
  rw [Option.bind_eq_some_iff] at e
  obtain ⟨⟨x, t1⟩, e1, e2⟩ := e
  obtain ⟨⟨a1, a2⟩, a3, rfl⟩ := qUp_sound e1
  obtain ⟨rfl, b2, b3⟩ := qMany_sound f g P h t1 _ _ _ e2
  refine ⟨?_, b3⟩
  rw [b2, show ((x.toNat : Nat) : Int) = x by omega, List.append_assoc]
theorem qData_sound {t r : List UInt8} {x : Int} (h : qData t = some (x, r)) : t = four (free x) ++ r ∧ -2147483648 ≤ x ∧ x ≤ 2147483647 := by
  unfold qData at h
  rw [Option.map_eq_some_iff] at h
  obtain ⟨⟨y, s⟩, h1, h2⟩ := h
  cases h2
  obtain ⟨⟨a, b⟩, rfl⟩ := qWord_n4 h1
  have : free (wordOf y) = y := by unfold free wordOf; split <;> split <;> omega
  exact ⟨by rw [this], by unfold wordOf; split <;> omega⟩
theorem qData_four {x : Int} (h0 : -2147483648 ≤ x) (h1 : x ≤ 2147483647) (r : List UInt8) : qData (four (free x) ++ r) = some (x, r) := by
  unfold qData
  rw [qWord_four (by unfold N4 free; split <;> omega)]
  have : wordOf (free x) = x := by unfold free wordOf; split <;> split <;> omega
  simp [this]
theorem qSym_sound {t r : List UInt8} {s : Sy} (h : qSym t = some (s, r)) : t = symP s ++ r := by
  unfold qSym at h
  simp only [Option.bind_eq_some_iff, Option.map_eq_some_iff] at h
  obtain ⟨⟨a, t1⟩, h1, ⟨b, t2⟩, h2, ⟨c, t3⟩, h3, ⟨d, t4⟩, h4, ⟨e, t5⟩, h5, ⟨f, t6⟩, h6, ⟨g, t7⟩, h7, h8⟩ := h
  cases h8
  obtain ⟨-, -, rfl⟩ := qTxt_sound h1
  obtain ⟨-, -, rfl⟩ := qUp_sound h2
  obtain ⟨⟨c0, -⟩, c1, rfl⟩ := qUp_sound h3
  obtain ⟨-, -, rfl⟩ := qUp_sound h4
  obtain ⟨-, -, rfl⟩ := qUp_sound h5
  obtain ⟨-, -, rfl⟩ := qTxt_sound h6
  obtain ⟨-, -, rfl⟩ := qUp_sound h7
  unfold symP
  simp only [List.append_assoc]
  have : (if decide (c = 1) = true then (1 : Int) else 0) = c := by
    by_cases hc : c = 1
    · simp [hc]
    · simp only [hc, decide_false, Bool.false_eq_true, if_false]; omega
  rw [this]
theorem qRel_sound {t r : List UInt8} {s : Re} (h : qRel t = some (s, r)) : t = relP s ++ r := by
  unfold qRel at h
  simp only [Option.bind_eq_some_iff, Option.map_eq_some_iff] at h
  obtain ⟨⟨a, t1⟩, h1, ⟨b, t2⟩, h2, ⟨c, t3⟩, h3, h4⟩ := h
  cases h4
  obtain ⟨-, -, rfl⟩ := qUp_sound h1
  obtain ⟨-, -, rfl⟩ := qUp_sound h2
  obtain ⟨-, -, rfl⟩ := qUp_sound h3
  unfold relP
  simp only [List.append_assoc]
theorem qAll_sound {t r : List UInt8} {o : Ob} (h : qAll t = some (o, r)) : t = putO o ++ r ∧ WfO o := by
  unfold qAll at h
  simp only [Option.bind_eq_some_iff, Option.map_eq_some_iff] at h
  obtain ⟨⟨a, t1⟩, h1, ⟨b, t2⟩, h2, ⟨c, t3⟩, h3, ⟨d, t4⟩, h4, h5⟩ := h
  cases h5
  obtain ⟨rfl, p1⟩ := qList_sound qWord four N4 (fun t x r e => ⟨(qWord_n4 e).2, (qWord_n4 e).1⟩) h1
  obtain ⟨rfl, p2⟩ := qList_sound qData (fun x => four (free x)) (fun x => -2147483648 ≤ x ∧ x ≤ 2147483647) (fun t x r e => qData_sound e) h2
  obtain ⟨rfl, -⟩ := qList_sound qSym symP (fun _ => True) (fun t x r e => ⟨qSym_sound e, trivial⟩) h3
  obtain ⟨rfl, -⟩ := qList_sound qRel relP (fun _ => True) (fun t x r e => ⟨qRel_sound e, trivial⟩) h4
  refine ⟨?_, p1, p2⟩
  unfold putO
  simp only [List.append_assoc]
theorem mayO_i31 {o : Ob} (h : mayO o = true) (k : Nat) (hk : k < o.syms.length) : o.syms[k].kind ≤ 2147483647 ∧ o.syms[k].pl ≤ 2147483647 ∧ o.syms[k].size ≤ 2147483647 ∧ o.syms[k].frame ≤ 2147483647 := by
  obtain ⟨c, d, h0, h1, h2, h3, c', d', h4⟩ := mayO_sym h k hk
  obtain ⟨a1, a2, a3, a4⟩ := symSt_nonneg h0
  have hl : k < 400 := by unfold mayO at h; simp at h; omega
  unfold symStep at h4
  split at h4
  · rename_i q1
    split at h4
    · rcases q1 with q | q <;> omega
    · cases h4
  · split at h4
    · cases h4
    · split at h4
      · split at h4
        · omega
        · cases h4
      · split at h4
        · omega
        · cases h4
theorem qAll_put {o : Ob} (hw : WfO o) (h : mayO o = true) : qAll (putO o) = some (o, []) := by
  have hl : o.code.length ≤ 6000 ∧ o.data.length ≤ 16000 ∧ o.syms.length ≤ 400 ∧ o.rels.length ≤ 6000 := by unfold mayO at h; simp at h; omega
  unfold qAll putO
  simp only [List.append_assoc]
  have e1 := qList_flat qWord four o.code (m := 6000) (by omega) (by omega) (fun x hx r => qWord_four (hw.1 x hx) r)
  have e2 := qList_flat qData (fun x => four (free x)) o.data (m := 16000) (by omega) (by omega) (fun x hx r => qData_four (hw.2 x hx).1 (hw.2 x hx).2 r)
  have e3 := qList_flat qSym symP o.syms (m := 400) (by omega) (by omega) (fun x hx r => by
    obtain ⟨k, hk, rfl⟩ := List.getElem_of_mem hx
    obtain ⟨a1, a2, a3, a4, a5, a6⟩ := mayO_n4 h k hk
    obtain ⟨b1, b2, b3, b4⟩ := mayO_i31 h k hk
    have hs : N4 (if o.syms[k].stat then 1 else 0) := by unfold N4; split <;> omega
    have hs1 : (if o.syms[k].stat then (1 : Int) else 0) ≤ 1 := by split <;> omega
    unfold qSym symP
    simp only [List.append_assoc]
    rw [qTxt_txt (by omega) (by omega)]
    simp only [Option.bind_some]
    rw [qUp_four a1 b1]
    simp only [Option.bind_some]
    rw [qUp_four hs hs1]
    simp only [Option.bind_some]
    rw [qUp_four a2 b2]
    simp only [Option.bind_some]
    rw [qUp_four a3 b3]
    simp only [Option.bind_some]
    rw [qTxt_txt (by omega) (by omega)]
    simp only [Option.bind_some]
    rw [qUp_four a4 b4]
    generalize o.syms[k] = s
    obtain ⟨a, b, c, d, e, f, g⟩ := s
    cases c <;> simp)
  have e4 := qList_flat qRel relP o.rels (m := 6000) (by omega) (by omega) (fun x hx r => by
    obtain ⟨k, hk, rfl⟩ := List.getElem_of_mem hx
    obtain ⟨a1, a2, a3⟩ := mayO_r4 h k hk
    have h1 := mayO_rel h k hk
    rw [relB_at hk] at h1
    simp only [Bool.and_eq_true, decide_eq_true_eq] at h1
    unfold qRel relP
    simp only [List.append_assoc]
    rw [qUp_four a1 (by omega)]
    simp only [Option.bind_some]
    rw [qUp_four a2 (by omega)]
    simp only [Option.bind_some]
    rw [qUp_four a3 (by omega)]
    simp)
  simp only [List.append_assoc] at e1 e2 e3 e4
  rw [e1]
  simp only [Option.bind_some]
  rw [e2]
  simp only [Option.bind_some]
  rw [e3]
  simp only [Option.bind_some]
  have := e4 []
  simp only [List.append_nil] at this
  rw [this]
  rfl
theorem rData_all (s : Rd) : -2147483648 ≤ (rData s).1 ∧ (rData s).1 ≤ 2147483647 := by
  have h := rNum_n4 s
  unfold N4 at h
  unfold rData wordOf
  simp only
  split <;> omega
theorem getO_wf {raw : List UInt8} {o : Ob} (h : getO raw = some o) : WfO o := by
  unfold getO at h
  split at h
  · cases h
    exact ⟨rList_all (P := N4) (fun s => rNum_n4 s) _, rList_all (P := fun x => -2147483648 ≤ x ∧ x ≤ 2147483647) (fun s => rData_all s) _⟩
  · cases h
theorem qObj_eq (raw : List UInt8) : qObj raw = getO raw := by
  cases hg : getO raw with
  | some o =>
    obtain ⟨hm, rfl⟩ := getO_some hg
    unfold qObj
    rw [qAll_put (getO_wf hg) hm]
    simp [hm]
  | none =>
    cases hq : qObj raw with
    | none => rfl
    | some o =>
      exfalso
      unfold qObj at hq
      rw [Option.bind_eq_some_iff] at hq
      obtain ⟨⟨p, r⟩, h1, h2⟩ := hq
      split at h2
      · rename_i h3
        cases h2
        obtain ⟨e, hw⟩ := qAll_sound h1
        obtain ⟨rfl, hm⟩ := h3
        rw [e, List.append_nil, getO_put hw hm] at hg
        cases hg
      · cases h2
end Go.Proofs.Ytnjcknlfecednaa.T
