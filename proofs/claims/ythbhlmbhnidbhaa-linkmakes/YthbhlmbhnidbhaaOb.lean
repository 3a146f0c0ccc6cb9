/- Objects as plain things; which may be; their bytes, and back. No program. -/
import Derived.Test.YthbhlmbhnidbhaaLeaf
import Derived.Test.YthbhlmbhnidbhaaRdec
import Derived.Test.YthbhlmbhnidbhaaFr
namespace Go.Proofs.Ythbhlmbhnidbhaa.T
open Go.RowKit Go.Proofs.Ythbhlmbhnidbhaa.M
set_option linter.unusedVariables false
structure Sy where
  name : ByteArray
  kind : Int
  stat : Bool
  pl : Int
  size : Int
  sign : ByteArray
  frame : Int
structure Re where
  pl : Int
  sym : Int
  add : Int
structure Ob where
  code : List Int
  data : List Int
  syms : List Sy
  rels : List Re
def chB (s : ByteArray) (i : Nat) : Bool := decide (32 ≤ ((bytes s).getD i 0).toNat) && decide (((bytes s).getD i 0).toNat ≤ 126)
def sgnB (s : ByteArray) : Bool := decide (1 ≤ s.size) && decide (s.size ≤ 2000) && (List.range s.size).all (chB s)
/-- One symbol, where so many instructions and words are laid already: how many are then. -/
def symStep (c d : Int) (s : Sy) : Option (Int × Int) :=
  if s.kind = 3 ∨ s.kind = 4 then (if s.pl = 0 ∧ s.size = 0 ∧ s.frame = 0 ∧ s.stat = false then some (c, d) else none)
  else if s.size < 1 ∨ 16000 < s.size then none
  else if s.kind = 1 then (if s.pl = c ∧ 0 ≤ s.frame ∧ s.frame ≤ 16000 then some (c + s.size, d) else none)
  else if s.kind = 2 ∧ s.pl = d ∧ s.frame = 0 then some (c, d + s.size) else none
def newB (L : List Sy) (k : Nat) (s : Sy) : Bool := !((List.range k).any fun j => match L[j]? with | some x => decide (x.name = s.name) | none => false)
/-- The first k symbols: how many instructions and words they lay; none: they may not be. -/
def symSt (L : List Sy) : Nat → Option (Int × Int)
  | 0 => some (0, 0)
  | k + 1 => match symSt L k, L[k]? with
    | some (c, d), some s => if nameB (bytes s.name) && sgnB s.sign && newB L k s then symStep c d s else none
    | _, _ => none
/-- An instruction that speaks of an address, and has none yet. -/
def insB (v : Int) : Bool := decide (dck v = 0) && (decide (v / 16777216 = 2) || decide (v / 16777216 = 19) || decide (v / 16777216 = 20) || decide (v / 16777216 = 21)) && decide (dM (kind (v / 16777216)) (v % 65536) = 0)
/-- It lies behind the one ahead. -/
def prevB (o : Ob) (x : Int) : Nat → Bool
  | 0 => true
  | j + 1 => match o.rels[j]? with | some q => decide (q.pl < x) | none => false
def relB (o : Ob) (k : Nat) : Bool := match o.rels[k]? with
  | none => false
  | some r => decide (0 ≤ r.pl) && decide (r.pl < o.code.length) && prevB o r.pl k && insB (o.code.getD r.pl.toNat 0) && decide (0 ≤ r.sym) && decide (r.sym < o.syms.length) && decide (0 ≤ r.add) && decide (r.add ≤ 6000)
def mayO (o : Ob) : Bool :=
  decide (o.code.length ≤ 6000) && decide (o.data.length ≤ 16000) && decide (o.syms.length ≤ 400) && decide (o.rels.length ≤ 6000)
  && decide (symSt o.syms o.syms.length = some ((o.code.length : Int), (o.data.length : Int))) && (List.range o.rels.length).all (relB o)
theorem symSt_none {L : List Sy} {k : Nat} (h : symSt L k = none) : ∀ n, k ≤ n → symSt L n = none := by
  intro n hn
  induction n with
  | zero => rw [show k = 0 by omega] at h; exact h
  | succ n ih =>
    by_cases e : k = n + 1
    · rw [← e]; exact h
    · unfold symSt; rw [ih (by omega)]
theorem symSt_nonneg {L : List Sy} : ∀ {k : Nat} {c d : Int}, symSt L k = some (c, d) → 0 ≤ c ∧ c ≤ 16000 * k ∧ 0 ≤ d ∧ d ≤ 16000 * k
  | 0, c, d, h => by simp [symSt] at h; omega
  | k + 1, c, d, h => by
    unfold symSt at h
    split at h
    · rename_i c0 d0 s h0 h1
      obtain ⟨a1, a2, a3, a4⟩ := symSt_nonneg h0
      split at h
      · unfold symStep at h
        split at h
        · split at h
          · simp at h; omega
          · cases h
        · split at h
          · cases h
          · split at h
            · split at h
              · simp at h; omega
              · cases h
            · split at h
              · simp at h; omega
              · cases h
      · cases h
    · cases h
theorem mayO_sym {o : Ob} (h : mayO o = true) (k : Nat) (hk : k < o.syms.length) : ∃ c d, symSt o.syms k = some (c, d) ∧ nameB (bytes o.syms[k].name) = true ∧ sgnB o.syms[k].sign = true ∧ newB o.syms k o.syms[k] = true ∧ ∃ c' d', symStep c d o.syms[k] = some (c', d') := by
  unfold mayO at h
  simp only [Bool.and_eq_true, decide_eq_true_eq] at h
  have he := h.1.2
  cases hs : symSt o.syms (k + 1) with
  | none => rw [symSt_none hs _ (by omega)] at he; cases he
  | some p =>
    unfold symSt at hs
    split at hs
    · rename_i c d s h0 h1
      rw [List.getElem?_eq_getElem hk] at h1
      cases h1
      split at hs
      · rename_i h2
        simp only [Bool.and_eq_true] at h2
        exact ⟨c, d, h0, h2.1.1, h2.1.2, h2.2, p.1, p.2, hs⟩
      · cases hs
    · cases hs
/-- Numbers that four bytes bear. -/
def N4 (x : Int) : Prop := 0 ≤ x ∧ x < 4294967296
theorem mayO_n4 {o : Ob} (h : mayO o = true) (k : Nat) (hk : k < o.syms.length) : N4 o.syms[k].kind ∧ N4 o.syms[k].pl ∧ N4 o.syms[k].size ∧ N4 o.syms[k].frame ∧ o.syms[k].name.size ≤ 16 ∧ o.syms[k].sign.size ≤ 2000 := by
  obtain ⟨c, d, h0, h1, h2, h3, c', d', h4⟩ := mayO_sym h k hk
  obtain ⟨a1, a2, a3, a4⟩ := symSt_nonneg h0
  have hl : k < 400 := by unfold mayO at h; simp at h; omega
  have hn : o.syms[k].name.size ≤ 16 := by
    unfold nameB at h1
    simp only [Bool.and_eq_true, decide_eq_true_eq] at h1
    exact h1.1.1.2
  have hg : o.syms[k].sign.size ≤ 2000 := by
    unfold sgnB at h2
    simp only [Bool.and_eq_true, decide_eq_true_eq] at h2
    exact h2.1.2
  unfold symStep at h4
  unfold N4
  split at h4
  · split at h4
    · rename_i q1 q2
      refine ⟨?_, by omega, by omega, by omega, hn, hg⟩
      rcases q1 with q | q <;> omega
    · cases h4
  · split at h4
    · cases h4
    · split at h4
      · split at h4
        · exact ⟨by omega, by omega, by omega, by omega, hn, hg⟩
        · cases h4
      · split at h4
        · exact ⟨by omega, by omega, by omega, by omega, hn, hg⟩
        · cases h4
theorem mayO_rel {o : Ob} (h : mayO o = true) (k : Nat) (hk : k < o.rels.length) : relB o k = true := by
  unfold mayO at h
  simp only [Bool.and_eq_true, decide_eq_true_eq, List.all_eq_true, List.mem_range] at h
  exact h.2 k hk
theorem mayO_r4 {o : Ob} (h : mayO o = true) (k : Nat) (hk : k < o.rels.length) : N4 o.rels[k].pl ∧ N4 o.rels[k].sym ∧ N4 o.rels[k].add := by
  have h1 := mayO_rel h k hk
  have hl : o.code.length ≤ 6000 ∧ o.syms.length ≤ 400 := by unfold mayO at h; simp at h; omega
  unfold relB at h1
  rw [List.getElem?_eq_getElem hk] at h1
  simp only [Bool.and_eq_true, decide_eq_true_eq] at h1
  unfold N4
  omega
theorem relB_at {o : Ob} {k : Nat} (hk : k < o.rels.length) : relB o k = (decide (0 ≤ o.rels[k].pl) && decide (o.rels[k].pl < o.code.length) && prevB o o.rels[k].pl k && insB (o.code.getD o.rels[k].pl.toNat 0) && decide (0 ≤ o.rels[k].sym) && decide (o.rels[k].sym < o.syms.length) && decide (0 ≤ o.rels[k].add) && decide (o.rels[k].add ≤ 6000)) := by
  unfold relB
  rw [List.getElem?_eq_getElem hk]
theorem prevB_at {o : Ob} {x : Int} {j : Nat} (hj : j < o.rels.length) : prevB o x (j + 1) = decide (o.rels[j].pl < x) := by
  show (match o.rels[j]? with | some q => decide (q.pl < x) | none => false) = _
  rw [List.getElem?_eq_getElem hj]
theorem insB_at {o : Ob} {p : Nat} (hp : p < o.code.length) : insB (o.code.getD (p : Int).toNat 0) = (decide (dck o.code[p] = 0) && (decide (o.code[p] / 16777216 = 2) || decide (o.code[p] / 16777216 = 19) || decide (o.code[p] / 16777216 = 20) || decide (o.code[p] / 16777216 = 21)) && decide (dM (kind (o.code[p] / 16777216)) (o.code[p] % 65536) = 0)) := by
  rw [show o.code.getD (p : Int).toNat 0 = o.code[p] by rw [Int.toNat_natCast, List.getD_eq_getElem?_getD, List.getElem?_eq_getElem hp]; rfl]
  rfl
/-- Four bytes. -/
def b8 (n : Int) : UInt8 := UInt8.ofNat (n % 256).toNat
def four (n : Int) : List UInt8 := [b8 (n / 16777216), b8 (n / 65536), b8 (n / 256), b8 n]
def free (x : Int) : Int := if x < 0 then x + 4294967296 else x
def wordOf (x : Int) : Int := if 2147483648 ≤ x then x - 4294967296 else x
def txt (s : ByteArray) : List UInt8 := four s.size ++ bytes s
def symP (s : Sy) : List UInt8 := txt s.name ++ four s.kind ++ four (if s.stat then 1 else 0) ++ four s.pl ++ four s.size ++ txt s.sign ++ four s.frame
def relP (r : Re) : List UInt8 := four r.pl ++ four r.sym ++ four r.add
def putO (o : Ob) : List UInt8 :=
  four o.code.length ++ o.code.flatMap four ++ (four o.data.length ++ o.data.flatMap (fun x => four (free x))) ++ (four o.syms.length ++ o.syms.flatMap symP) ++ (four o.rels.length ++ o.rels.flatMap relP)
/-- What is read: the bytes that are left, and whether there were too few. -/
abbrev Rd := List UInt8 × Bool
def rNum : Rd → Int × Rd
  | (a :: b :: c :: d :: r, z) => ((((a.toNat : Int) * 256 + b.toNat) * 256 + c.toNat) * 256 + d.toNat, (r, z))
  | (_, _) => (0, ([], true))
def rTxt (s : Rd) : ByteArray × Rd :=
  if ((rNum s).2.1.length : Int) < (rNum s).1 then (⟨#[]⟩, ((rNum s).2.1, true))
  else (⟨((rNum s).2.1.take (rNum s).1.toNat).toArray⟩, ((rNum s).2.1.drop (rNum s).1.toNat, (rNum s).2.2))
/-- So many rounds. -/
def rMany {α : Type} (f : Rd → α × Rd) (s : Rd) : Nat → List α × Rd
  | 0 => ([], s)
  | k + 1 => if (rMany f s k).2.2 then rMany f s k else ((rMany f s k).1 ++ [(f (rMany f s k).2).1], (f (rMany f s k).2).2)
def rSym (s : Rd) : Sy × Rd :=
  let a := rTxt s; let b := rNum a.2; let c := rNum b.2; let d := rNum c.2; let e := rNum d.2; let f := rTxt e.2; let g := rNum f.2
  (⟨a.1, b.1, decide (c.1 = 1), d.1, e.1, f.1, g.1⟩, g.2)
def rRel (s : Rd) : Re × Rd :=
  let a := rNum s; let b := rNum a.2; let c := rNum b.2
  (⟨a.1, b.1, c.1⟩, c.2)
def rData (s : Rd) : Int × Rd := (wordOf (rNum s).1, (rNum s).2)
def rList {α : Type} (f : Rd → α × Rd) (s : Rd) : List α × Rd := rMany f (rNum s).2 (rNum s).1.toNat
def rObj (raw : List UInt8) : Ob × Rd :=
  let a := rList rNum (raw, false); let b := rList rData a.2; let c := rList rSym b.2; let d := rList rRel c.2
  (⟨a.1, b.1, c.1, d.1⟩, d.2)
/-- The object whose bytes these are. -/
def getO (raw : List UInt8) : Option Ob := if (rObj raw).2.2 = false ∧ mayO (rObj raw).1 = true ∧ putO (rObj raw).1 = raw then some (rObj raw).1 else none
theorem b8_toNat (n : Int) : ((b8 n).toNat : Int) = n % 256 := by
  unfold b8
  rw [UInt8.toNat_ofNat']
  omega
theorem rNum_four {n : Int} (h : N4 n) (r : List UInt8) (z : Bool) : rNum (four n ++ r, z) = (n, (r, z)) := by
  unfold four rNum
  simp only [List.cons_append, List.nil_append, b8_toNat]
  unfold N4 at h
  congr 1
  omega
theorem rTxt_txt {s : ByteArray} (h : s.size < 4294967296) (r : List UInt8) (z : Bool) : rTxt (txt s ++ r, z) = (s, (r, z)) := by
  have h4 : N4 (s.size : Int) := ⟨by omega, by omega⟩
  have hl : (bytes s).length = s.size := Array.length_toList
  unfold rTxt txt
  rw [List.append_assoc, rNum_four h4]
  simp only [List.length_append]
  rw [if_neg (by omega)]
  simp [← hl]
  rfl
theorem rMany_flat {α : Type} (f : Rd → α × Rd) (g : α → List UInt8) (L : List α) (h : ∀ x, x ∈ L → ∀ r, f (g x ++ r, false) = (x, (r, false))) (r : List UInt8) : ∀ k, k ≤ L.length → rMany f (L.flatMap g ++ r, false) k = (L.take k, ((L.drop k).flatMap g ++ r, false))
  | 0, _ => by simp [rMany]
  | k + 1, hk => by
    have hk' : k < L.length := by omega
    unfold rMany
    rw [rMany_flat f g L h r k (by omega)]
    simp only
    rw [if_neg (by simp), List.drop_eq_getElem_cons hk', List.flatMap_cons, List.append_assoc, h _ (List.getElem_mem hk')]
    rw [List.take_succ_eq_append_getElem hk']
theorem rList_flat {α : Type} (f : Rd → α × Rd) (g : α → List UInt8) (L : List α) (hn : L.length < 4294967296) (h : ∀ x, x ∈ L → ∀ r, f (g x ++ r, false) = (x, (r, false))) (r : List UInt8) : rList f ((four L.length ++ L.flatMap g) ++ r, false) = (L, (r, false)) := by
  unfold rList
  rw [List.append_assoc, rNum_four ⟨by omega, by omega⟩]
  simp only [Int.toNat_natCast]
  rw [rMany_flat f g L h r _ (Nat.le_refl _)]
  simp
theorem rSym_symP {s : Sy} (h1 : N4 s.kind) (h2 : N4 s.pl) (h3 : N4 s.size) (h4 : N4 s.frame) (h5 : s.name.size ≤ 16) (h6 : s.sign.size ≤ 2000) (r : List UInt8) : rSym (symP s ++ r, false) = (s, (r, false)) := by
  have hs : N4 (if s.stat then 1 else 0) := by unfold N4; split <;> omega
  unfold rSym symP
  simp only [List.append_assoc]
  rw [rTxt_txt (by omega)]
  simp only
  rw [rNum_four h1]
  simp only
  rw [rNum_four hs]
  simp only
  rw [rNum_four h2]
  simp only
  rw [rNum_four h3]
  simp only
  rw [rTxt_txt (by omega)]
  simp only
  rw [rNum_four h4]
  obtain ⟨a, b, c, d, e, f, g⟩ := s
  cases c <;> simp
theorem rRel_relP {s : Re} (h1 : N4 s.pl) (h2 : N4 s.sym) (h3 : N4 s.add) (r : List UInt8) : rRel (relP s ++ r, false) = (s, (r, false)) := by
  unfold rRel relP
  simp only [List.append_assoc]
  rw [rNum_four h1]
  simp only
  rw [rNum_four h2]
  simp only
  rw [rNum_four h3]
/-- An object that can be read in memory. -/
def WfO (o : Ob) : Prop := (∀ x, x ∈ o.code → N4 x) ∧ (∀ x, x ∈ o.data → -2147483648 ≤ x ∧ x ≤ 2147483647)
theorem rObj_putO {o : Ob} (hw : WfO o) (h : mayO o = true) : rObj (putO o) = (o, ([], false)) := by
  have hl : o.code.length ≤ 6000 ∧ o.data.length ≤ 16000 ∧ o.syms.length ≤ 400 ∧ o.rels.length ≤ 6000 := by unfold mayO at h; simp at h; omega
  unfold rObj putO
  simp only [List.append_assoc]
  have e1 := rList_flat rNum four o.code (by omega) (fun x hx r => rNum_four (hw.1 x hx) r false)
  have e2 := rList_flat rData (fun x => four (free x)) o.data (by omega) (fun x hx r => by
    have := hw.2 x hx
    unfold rData
    rw [rNum_four (by unfold N4 free; split <;> omega)]
    unfold wordOf free
    simp only
    congr 1
    split <;> split <;> omega)
  have e3 := rList_flat rSym symP o.syms (by omega) (fun x hx r => by
    obtain ⟨k, hk, rfl⟩ := List.getElem_of_mem hx
    obtain ⟨a1, a2, a3, a4, a5, a6⟩ := mayO_n4 h k hk
    exact rSym_symP a1 a2 a3 a4 a5 a6 r)
  have e4 := rList_flat rRel relP o.rels (by omega) (fun x hx r => by
    obtain ⟨k, hk, rfl⟩ := List.getElem_of_mem hx
    obtain ⟨a1, a2, a3⟩ := mayO_r4 h k hk
    exact rRel_relP a1 a2 a3 r)
  simp only [List.append_assoc] at e1 e2 e3 e4
  rw [e1]
  simp only
  rw [e2]
  simp only
  rw [e3]
  simp only
  have := e4 []
  simp only [List.append_nil] at this
  rw [this]
theorem getO_put {o : Ob} (hw : WfO o) (h : mayO o = true) : getO (putO o) = some o := by
  unfold getO
  rw [rObj_putO hw h]
  simp [h]
theorem getO_some {raw : List UInt8} {o : Ob} (h : getO raw = some o) : mayO o = true ∧ putO o = raw := by
  unfold getO at h
  split at h
  · rename_i h1
    cases h
    exact h1.2
  · cases h
end Go.Proofs.Ythbhlmbhnidbhaa.T
