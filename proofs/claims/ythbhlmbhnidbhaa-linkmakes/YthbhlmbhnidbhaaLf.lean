/- Objects in memory; the contracts of four, counted, Free, Word, sign. -/
import Derived.Test.YthbhlmbhnidbhaaOb
import Derived.BigQuiet
import Derived.Outline
import Derived.Laws.BytesArg
import Derived.Laws.IdiomStrings
namespace Go.Proofs.Ythbhlmbhnidbhaa.T
open Go.RowKit Go.Proofs.Ythbhlmbhnidbhaa.M
set_option linter.unusedVariables false
set_option linter.unusedSimpArgs false
theorem Fr.drewN {n0 : Nat} {w0 w : World} {L : List Rs} (h : Fr n0 w0 w L) (n : Nat) : Fr n0 w0 (w.drewN n) L := h.call ⟨rfl, rfl, rfl, Nat.le_refl _, fun _ _ => rfl⟩
def strOf (l : List UInt8) : ByteArray := ⟨l.toArray⟩
theorem strOf_size (l : List UInt8) : (strOf l).size = l.length := List.size_toArray
theorem strOf_app (l m : List UInt8) : strOf l ++ strOf m = strOf (l ++ m) := by
  show ByteArray.append _ _ = _
  apply ByteArray.ext
  simp [strOf]
theorem strOf_bytes (s : ByteArray) : strOf (bytes s) = s := rfl
theorem bytes_strOf (l : List UInt8) : bytes (strOf l) = l := rfl
theorem four_length (n : Int) : (four n).length = 4 := rfl
/-- A slice of things of k cells each. -/
def RowV {α : Type} (P : World → α → List Value → Prop) (k : Nat) (w : World) (v : Value) (L : List α) : Prop :=
  ∃ a c, v = .slice a L.length c ∧ L.length ≤ c ∧ c ≤ 9223372036854775807 ∧ (0 < L.length → ∃ b o, a = some ⟨b, o, none⟩ ∧ b < w.heap.size ∧ ∀ j (h : j < L.length), ∃ cs, P w L[j] cs ∧ ∀ i u, cs[i]? = some u → w.cell? ⟨b, o + j * k + i, none⟩ = some u)
theorem RowV.below {α : Type} {P : World → α → List Value → Prop} {k : Nat} {w w' : World} {v : Value} {L : List α} (hP : ∀ x cs, P w x cs → P w' x cs) (h : RowV P k w v L) (hb : Below w.heap.size w w') : RowV P k w' v L := by
  obtain ⟨a, c, e, h1, h2, H⟩ := h
  refine ⟨a, c, e, h1, h2, fun h0 => ?_⟩
  obtain ⟨b, o, e1, e2, E⟩ := H h0
  refine ⟨b, o, e1, Nat.lt_of_lt_of_le e2 hb.size, fun j hj => ?_⟩
  obtain ⟨cs, p, q⟩ := E j hj
  exact ⟨cs, hP _ _ p, fun i u hu => (hb.cell (p := ⟨b, o + j * k + i, none⟩) e2).trans (q i u hu)⟩
def In64 (x : Int) : Prop := -9223372036854775808 ≤ x ∧ x ≤ 9223372036854775807
def u32C (w : World) (x : Int) (cs : List Value) : Prop := cs = [.int .u32 x] ∧ N4 x
def i32C (w : World) (x : Int) (cs : List Value) : Prop := cs = [.int .i32 x] ∧ -2147483648 ≤ x ∧ x ≤ 2147483647
def u8C (w : World) (x : UInt8) (cs : List Value) : Prop := cs = [.int .u8 x.toNat]
def syC (w : World) (s : Sy) (cs : List Value) : Prop := cs = [.string s.name, .int .i64 s.kind, .bool s.stat, .int .i64 s.pl, .int .i64 s.size, .string s.sign, .int .i64 s.frame] ∧ In64 s.kind ∧ In64 s.pl ∧ In64 s.size ∧ In64 s.frame ∧ s.name.size ≤ maxLen ∧ s.sign.size ≤ maxLen
def reC (w : World) (r : Re) (cs : List Value) : Prop := cs = [.int .i64 r.pl, .int .i64 r.sym, .int .i64 r.add] ∧ In64 r.pl ∧ In64 r.sym ∧ In64 r.add
/-- A value that is an object. -/
def ObV (w : World) (o : Ob) (v : Value) : Prop := ∃ cv dv sv rv, v = .agg #[cv, dv, sv, rv] ∧ RowV u32C 1 w cv o.code ∧ RowV i32C 1 w dv o.data ∧ RowV syC 7 w sv o.syms ∧ RowV reC 3 w rv o.rels
theorem ObV.below {w w' : World} {o : Ob} {v : Value} (h : ObV w o v) (hb : Below w.heap.size w w') : ObV w' o v := by
  obtain ⟨cv, dv, sv, rv, e, h1, h2, h3, h4⟩ := h
  exact ⟨cv, dv, sv, rv, e, RowV.below (w := w) (w' := w') (fun _ _ h => h) h1 hb, RowV.below (w := w) (w' := w') (fun _ _ h => h) h2 hb, RowV.below (w := w) (w' := w') (fun _ _ h => h) h3 hb, RowV.below (w := w) (w' := w') (fun _ _ h => h) h4 hb⟩
theorem ObV.wf {w : World} {o : Ob} {v : Value} (h : ObV w o v) : WfO o := by
  obtain ⟨cv, dv, sv, rv, e, ⟨a, c, -, -, -, h1⟩, ⟨a2, c2, -, -, -, h2⟩, -⟩ := h
  refine ⟨fun x hx => ?_, fun x hx => ?_⟩
  · obtain ⟨k, hk, rfl⟩ := List.getElem_of_mem hx
    obtain ⟨b, o', -, -, E⟩ := h1 (by omega)
    obtain ⟨cs, p, -⟩ := E k hk
    exact p.2
  · obtain ⟨k, hk, rfl⟩ := List.getElem_of_mem hx
    obtain ⟨b, o', -, -, E⟩ := h2 (by omega)
    obtain ⟨cs, p, -⟩ := E k hk
    exact p.2
/-- Bytes that lie somewhere. -/
abbrev Bys (w : World) (v : Value) (l : List UInt8) : Prop := RowV u8C 1 w v l
theorem Bys.conv {w : World} {a : Option Addr} {n c : Nat} {l : List UInt8} (h : Bys w (.slice a n c) l) : n = l.length ∧ (convert 113 9 (.slice a n c)).run Try.prog w = .ok (.string (strOf l)) w := by
  obtain ⟨a', c', e, h1, h2, H⟩ := h
  cases e
  refine ⟨rfl, ?_⟩
  by_cases h0 : 0 < l.length
  · obtain ⟨b, o, rfl, hb, E⟩ := H h0
    refine run_convert_bytes_back w 113 9 5 ⟨b, o, none⟩ c l Try.underlying113 Try.underlying5 Try.underlying9 fun j hj => ?_
    obtain ⟨cs, p, q⟩ := E j hj
    unfold u8C at p
    subst p
    have := q 0 _ rfl
    rw [show (⟨b, o, none⟩ : Addr).add j = ⟨b, o + j * 1 + 0, none⟩ by rw [Addr.add_lit]; simp]
    exact this
  · obtain rfl : l = [] := List.eq_nil_of_length_eq_zero (by omega)
    cases a with
    | none => exact run_convert_bytes_nil w 113 5 Try.underlying113 Try.underlying5 _ _ 9 Try.underlying9
    | some ad => exact run_convert_bytes_back w 113 9 5 ad c [] Try.underlying113 Try.underlying5 Try.underlying9 fun j hj => absurd hj (by simp)
theorem sign_any (s : ByteArray) (w : World) (hs : s.size ≤ maxLen) : Calls Try.prog 39 #[.string s] w fun e w' => e = .returned (.bool (sgnB s)) ∧ w' = w := by
  unfold maxLen at hs
  have HR : Hid (sgnB s = (decide (1 ≤ s.size) && decide (s.size ≤ 2000) && (List.range s.size).all (chB s))) := rfl
  rw [HR.out]
  have HT : Hid ((∀ j, j < s.size → chB s j = true) → (List.range s.size).all (chB s) = true) := fun h => List.all_eq_true.2 fun j hj => h j (List.mem_range.1 hj)
  have HX : Hid (∀ k, k < s.size → chB s k = false → (List.range s.size).all (chB s) = false) := fun k hk h => by
    cases e : (List.range s.size).all (chB s) with
    | false => rfl
    | true =>
      have := List.all_eq_true.1 e k (List.mem_range.2 hk)
      rw [this] at h
      cases h
  have HG : Hid (∀ k (hlt : k < s.size), chB s k = (decide (32 ≤ (s[k]'hlt).toNat) && decide ((s[k]'hlt).toNat ≤ 126))) := fun k hlt => by
    have : (bytes s).getD k 0 = s[k]'hlt := by
      unfold bytes
      rw [List.getD_eq_getElem?_getD, Array.getElem?_toList, Array.getElem?_eq_getElem (show k < s.data.size from hlt)]
      rfl
    unfold chB
    rw [this]
  clear HR
  generalize (List.range s.size).all (chB s) = R at *
  by_cases h1 : 1 ≤ s.size
  case neg =>
    have h1' : (s.size : Int) < 1 := by omega
    go_enter Try.func39, Try.ntmps39
    go_wp2_with fail
    go_ret
    exact ⟨by simp [h1], rfl⟩
  have h1' : ¬ (s.size : Int) < 1 := by omega
  by_cases h2 : s.size ≤ 2000
  case neg =>
    have h2' : (2000 : Int) < s.size := by omega
    go_enter Try.func39, Try.ntmps39
    go_wp2_with fail
    go_ret
    exact ⟨by simp [h2], rfl⟩
  have h2' : ¬ (2000 : Int) < s.size := by omega
  rw [show (decide (1 ≤ s.size) && decide (s.size ≤ 2000) && R) = R by simp [h1, h2]]
  go_enter Try.func39, Try.ntmps39
  go_wp2_with fail
  clear h1' h2'
  go_loopw [3] (fun i wr => ∃ k : Nat, k ≤ s.size ∧ i = .int .i64 k ∧ wr = w ∧ Hid (∀ j, j < k → chB s j = true)) (fun i _ => s.size - (intOf i).toNat)
  case atStart => exact ⟨0, Nat.zero_le _, rfl, rfl, fun j hj => absurd hj (by omega)⟩
  case round =>
    obtain ⟨k, hk, rfl, rfl, HA⟩ := hrel
    by_cases hlt : k < s.size
    · have hlt' : (k : Int) < s.size := by omega
      have hidx : (0 : Int) ≤ k ∧ (k : Int) < s.size := by omega
      have HN : Hid (chB s k = true → ∀ j, j < k + 1 → chB s j = true) := fun h j hj => by
        by_cases q : j = k
        · subst q; exact h
        · exact HA.out j (by omega)
      have HXk := hide (HX.out k hlt)
      have HGk := hide (HG.out k hlt)
      clear HA HX HG HT
      generalize hc : (s[k]'hlt).toNat = c at *
      by_cases h32 : 32 ≤ c
      · have h32' : ¬ (c : Int) < 32 := by omega
        by_cases h126 : c ≤ 126
        · have h126' : ¬ (126 : Int) < c := by omega
          go_wp2_with fail
          go_roundw
          case rel => exact ⟨k + 1, by omega, by go_num, by simp, HN.out (HGk.out.trans (by simp [h32, h126]))⟩
          case measure => simp [intOf]; omega
        · have h126' : (126 : Int) < c := by omega
          go_wp2_with fail
          go_ret
          obtain rfl := HXk.out (HGk.out.trans (by simp [h126]))
          exact ⟨rfl, rfl⟩
      · have h32' : (c : Int) < 32 := by omega
        go_wp2_with fail
        go_ret
        obtain rfl := HXk.out (HGk.out.trans (by simp [h32]))
        exact ⟨rfl, rfl⟩
    · obtain rfl : k = s.size := by omega
      have hlt' : ¬ ((s.size : Nat) : Int) < (s.size : Nat) := by omega
      go_wp2_with fail
      go_ret
      obtain rfl := HT.out HA.out
      exact ⟨rfl, rfl⟩
end Go.Proofs.Ythbhlmbhnidbhaa.T
