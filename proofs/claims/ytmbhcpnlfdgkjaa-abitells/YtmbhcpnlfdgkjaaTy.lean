/- Types as plain trees: which may be, how they lie, their texts. No program. -/
import Derived.WalkKit
namespace Go.Proofs.Ytmbhcpnlfdgkjaa.T
open Go.RowKit

/-- A type: kind, name, so many names, so many parts, many. (leaf: none; parts beyond the last are that.) -/
inductive Ty where
  | leaf
  | mk (kind : Int) (name : ByteArray) (nn : Nat) (names : Nat → ByteArray) (pn : Nat) (parts : Nat → Ty) (many : Bool)
def evenT : Ty → Bool
  | .leaf => false
  | .mk kind _ _ _ pn parts _ => (decide (kind = 3) && (List.range pn).any fun i => evenT (parts i)) || decide (kind = 2)
/-- The next place for what is even, or not. -/
def rnd (e : Bool) (n : Nat) : Nat := if e = true ∧ n % 2 = 1 then n + 1 else n
/-- Where the k-th field lies, by the sizes and by which are even. -/
def placeN (sz : Nat → Nat) (ev : Nat → Bool) : Nat → Nat
  | 0 => 0
  | k + 1 => rnd (ev (k + 1)) (placeN sz ev k + sz k)
def sizeT : Ty → Nat
  | .leaf => 0
  | .mk kind name nn names pn parts many => if kind = 2 then 2 else if kind = 3 then placeN (fun i => sizeT (parts i)) (fun i => if i < pn then evenT (parts i) else evenT (.mk kind name nn names pn parts many)) pn else 1
def letB (c : Nat) : Bool := (decide (97 ≤ c) && decide (c ≤ 122)) || (decide (65 ≤ c) && decide (c ≤ 90))
def digB (c : Nat) : Bool := decide (48 ≤ c) && decide (c ≤ 57)
/-- May a byte stand at a name's place? -/
def signB (s : List UInt8) (i : Nat) : Bool := match s[i]? with | some c => letB c.toNat || (decide (i ≠ 0) && (digB c.toNat || decide (c.toNat = 95))) | none => false
def reserved : List (List UInt8) := [[98, 114, 101, 97, 107], [99, 111, 117, 110, 116], [101, 108, 115, 101], [101, 120, 116, 101, 114, 110], [101, 120, 116, 114, 97], [102, 110], [105, 102], [105, 110, 116], [108, 111, 110, 103], [112, 117, 116], [114, 101, 116, 117, 114, 110], [115, 116, 97, 116, 105, 99], [115, 116, 114, 117, 99, 116], [119, 104, 105, 108, 101]]
def nameB (s : List UInt8) : Bool := decide (1 ≤ s.length) && decide (s.length ≤ 16) && ((List.range s.length).all fun i => signB s i) && !(reserved.contains s)
def bytes (s : ByteArray) : List UInt8 := s.data.toList
/-- Which types may be, so deep at most. -/
def mayN : Nat → Ty → Bool
  | 0, _ => false
  | _ + 1, .leaf => false
  | d + 1, .mk kind name nn names pn parts many =>
    decide (pn ≤ 7) && decide (nn ≤ 6) && ((List.range pn).all fun i => mayN d (parts i)) &&
    (if kind = 3 then !many && nameB (bytes name) && decide (1 ≤ pn) && decide (pn ≤ 6) && decide (nn = pn) && ((List.range pn).all fun i => nameB (bytes (names i)) && !((List.range i).any fun j => decide (names j = names i)))
        && decide (sizeT (.mk kind name nn names pn parts many) ≤ 12)
      else decide (name.size = 0) && decide (nn = 0) && (if kind = 4 then decide (1 ≤ pn) else (decide (kind = 1) || decide (kind = 2)) && decide (pn = 0) && !many))
/-- The text of a type: int 105 110 116; long 108 111 110 103; struct 115 116 114 117 99 116 32; fn( 102 110 40. -/
def textT : Ty → List UInt8
  | .leaf => []
  | .mk kind name _ names pn parts many =>
    if kind = 1 then [105, 110, 116] else if kind = 2 then [108, 111, 110, 103] else if kind = 3 then
      [115, 116, 114, 117, 99, 116, 32] ++ bytes name ++ [123] ++ ((List.range pn).flatMap fun i => textT (parts i) ++ [32] ++ bytes (names i) ++ [59]) ++ [125]
    else [102, 110, 40] ++ ((List.range (pn - 1)).flatMap fun i => textT (parts i) ++ (if i + 1 < pn - 1 ∨ many = true then [44] else [])) ++ (if many = true then [46, 46, 46] else []) ++ [41] ++ textT (parts (pn - 1))
def alikeT : Ty → Ty → Bool
  | .leaf, _ => false
  | .mk .., .leaf => false
  | .mk kind name nn names pn parts many, .mk kind' name' nn' names' pn' parts' many' =>
    decide (kind = kind') && decide (name = name') && decide (many = many') && decide (pn = pn') && decide (nn = nn') && ((List.range nn).all fun i => decide (names i = names' i)) && ((List.range pn).all fun i => alikeT (parts i) (parts' i))

/-- A value that is a type, in the world. -/
def TyV (w : World) : Ty → Value → Prop
  | .leaf, _ => False
  | .mk kind name nn names pn parts many, v => ∃ na nc pa pc, v = .agg #[.int .i64 kind, .string name, .slice na nn nc, .slice pa pn pc, .bool many]
    ∧ (0 < nn → ∃ b o, na = some ⟨b, o, none⟩ ∧ b < w.heap.size ∧ ∀ j, j < nn → w.cell? ⟨b, o + j, none⟩ = some (.string (names j)))
    ∧ (0 < pn → ∃ b o, pa = some ⟨b, o, none⟩ ∧ b < w.heap.size ∧ ∀ j, j < pn → ∃ k0 k1 k2 k3 k4, w.cell? ⟨b, o + j * 5, none⟩ = some k0 ∧ w.cell? ⟨b, o + j * 5 + 1, none⟩ = some k1 ∧ w.cell? ⟨b, o + j * 5 + 2, none⟩ = some k2 ∧ w.cell? ⟨b, o + j * 5 + 3, none⟩ = some k3 ∧ w.cell? ⟨b, o + j * 5 + 4, none⟩ = some k4
      ∧ TyV w (parts j) (.agg #[k0, k1, k2, k3, k4]))
    ∧ -9223372036854775808 ≤ kind ∧ kind ≤ 9223372036854775807 ∧ nn ≤ 9223372036854775807 ∧ pn ≤ 9223372036854775807 ∧ name.size ≤ 9223372036854775807 ∧ (∀ j, j < nn → (names j).size ≤ 9223372036854775807) ∧ nn ≤ nc ∧ nc ≤ 9223372036854775807 ∧ pn ≤ pc ∧ pc ≤ 9223372036854775807
theorem mayN_leaf (d : Nat) : mayN d .leaf = false := by cases d <;> rfl
theorem TyV_leaf {w : World} {v : Value} (h : TyV w .leaf v) : False := by unfold TyV at h; exact h
theorem TyV.below {w w' : World} : ∀ {T : Ty} {v : Value}, TyV w T v → Below w.heap.size w w' → TyV w' T v
  | .leaf, v, h, _ => (TyV_leaf h).elim
  | .mk kind name nn names pn parts many, v, h, hb => by
    unfold TyV at h ⊢
    obtain ⟨na, nc, pa, pc, rfl, h1, h2, h3⟩ := h
    refine ⟨na, nc, pa, pc, rfl, fun hp => ?_, fun hp => ?_, h3⟩
    · obtain ⟨b, o, e1, e2, e3⟩ := h1 hp
      exact ⟨b, o, e1, Nat.lt_of_lt_of_le e2 hb.size, fun j hj => (hb.cell (p := ⟨b, o + j, none⟩) e2).trans (e3 j hj)⟩
    · obtain ⟨b, o, e1, e2, e3⟩ := h2 hp
      refine ⟨b, o, e1, Nat.lt_of_lt_of_le e2 hb.size, fun j hj => ?_⟩
      obtain ⟨k0, k1, k2, k3, k4, g0, g1, g2, g3, g4, g5⟩ := e3 j hj
      exact ⟨k0, k1, k2, k3, k4, (hb.cell (p := ⟨b, o + j * 5, none⟩) e2).trans g0, (hb.cell (p := ⟨b, o + j * 5 + 1, none⟩) e2).trans g1, (hb.cell (p := ⟨b, o + j * 5 + 2, none⟩) e2).trans g2, (hb.cell (p := ⟨b, o + j * 5 + 3, none⟩) e2).trans g3, (hb.cell (p := ⟨b, o + j * 5 + 4, none⟩) e2).trans g4, TyV.below g5 hb⟩
end Go.Proofs.Ytmbhcpnlfdgkjaa.T
