/- The linker: its map, its cells; the contracts of isOwn, meets, symbol. -/
import Derived.Test.YthbhlmbhnidbhaaXp
import Derived.Test.YthbhlmbhnidbhaaFb
import Derived.Maps.Own
import Derived.Maps.Views
import Derived.Maps.OwnSet
import Derived.StringKeys
import Derived.Deep.RegionLaw
import Derived.Deep.RegionHeldLaw
namespace Go.Proofs.Ythbhlmbhnidbhaa.T
open Go.RowKit Go.Proofs.Ythbhlmbhnidbhaa.M
set_option linter.unusedVariables false
set_option linter.unusedSimpArgs false
def rdV (v : Value) : Option (DataW Value × List MemPlace) := some (.held v, [])
def plV : Option (Nat × Nat) → Value
  | none => .agg #[.int .i64 0, .int .i64 0]
  | some p => .agg #[.int .i64 p.1, .int .i64 p.2]
/-- The map of open names. -/
structure Mo (mb k : Nat) (f : ByteArray → Option (Nat × Nat)) (D : DataW Value) (w : World) : Prop where
  own : w.ownsMap Try.prog 9 rdV mb k D
  map : Maps.IsMap D
  has : ∀ s : ByteArray, Maps.has D (.string s.data.toList) = (f s).isSome
  val : ∀ s : ByteArray, D.atKey (.string s.data.toList) (.held (plV none)) = .held (plV (f s))
theorem zero75 (w : World) : (zeroValue 75).run Try.prog w = .ok (plV none) w := Try.zeroValue75 w
theorem Mo.made (w : World) : Mo w.heap.size 0 (fun _ => none) (.map []) (w.alloc (.map #[] 0)) :=
  ⟨World.ownsMap_made w _ _ _, Maps.isMap_empty, fun s => rfl, fun s => rfl⟩
theorem Mo.look {mb k : Nat} {f : ByteArray → Option (Nat × Nat)} {D : DataW Value} {w : World} (h : Mo mb k f D w) (s : ByteArray) (hs : s.size ≤ maxLen) :
    (Instr.lookup 39 (.map (some mb)) (.string s) true).run Try.prog w = .ok (.tuple #[plV (f s), .bool (f s).isSome]) w := by
  obtain ⟨v, ps, hrun, hv⟩ := h.own.look_ok (t := 39) (e := 75) (Maps.string_keyed Try.underlying9) Try.underlying39 (zero75 w) (zd := .held (plV none)) (zp := []) rfl (WideMaps.keyOf_string_mk Try.underlying9 hs)
  rw [h.has s] at hrun
  rw [h.val s] at hv
  unfold rdV at hv
  simp at hv
  rw [hrun, hv.1]
theorem Mo.look1 {mb k : Nat} {f : ByteArray → Option (Nat × Nat)} {D : DataW Value} {w : World} (h : Mo mb k f D w) (s : ByteArray) (hs : s.size ≤ maxLen) :
    (Instr.lookup 39 (.map (some mb)) (.string s) false).run Try.prog w = .ok (plV (f s)) w := by
  obtain ⟨v, ps, hrun, hv⟩ := h.own.lookup (t := 39) (e := 75) (Maps.string_keyed Try.underlying9) Try.underlying39 (zero75 w) (zd := .held (plV none)) (zp := []) rfl (WideMaps.keyOf_string_mk Try.underlying9 hs)
  rw [h.val s] at hv
  unfold rdV at hv
  simp at hv
  rw [hrun, hv.1]
theorem Mo.put {mb k : Nat} {f : ByteArray → Option (Nat × Nat)} {D : DataW Value} {w : World} (h : Mo mb k f D w) (s : ByteArray) (u i : Nat) (hs : s.size ≤ maxLen) (hk : k < maxLen) :
    ∃ w' D', (Instr.mapUpdate 39 (.map (some mb)) (.string s) (.agg #[.int .i64 u, .int .i64 i])).run Try.prog w = .ok () w' ∧ Mo mb (k + 1) (fun t => if t = s then some (u, i) else f t) D' w' ∧ w.grownBy w' (some mb) := by
  obtain ⟨w', h1, h2, h3⟩ := h.own.update (t := 39) (e := 75) (Maps.string_keyed Try.underlying9) Try.underlying39 hk (WideMaps.keyOf_string_mk Try.underlying9 hs) (val := .agg #[.int .i64 u, .int .i64 i]) (d := .held (plV (some (u, i)))) (ps := []) rfl
  refine ⟨w', _, h1, ⟨h2, h.map.put _ _, fun t => ?_, fun t => ?_⟩, h3⟩
  · by_cases e : t = s
    · subst e
      rw [Maps.has_put_same h.map (show WideAt.IsKeyLit (.string t.data.toList) from trivial)]
      simp
    · have hne : Lit.string t.data.toList ≠ Lit.string s.data.toList := fun x => by
        injection x with y
        exact e (ByteArray.ext (Array.toList_inj.1 y))
      rw [Maps.has_put_other hne, h.has t, if_neg e]
  · by_cases e : t = s
    · subst e
      rw [Maps.atKey_put_same h.map (show WideAt.IsKeyLit (.string t.data.toList) from trivial), if_pos rfl]
    · have hne : Lit.string t.data.toList ≠ Lit.string s.data.toList := fun x => by
        injection x with y
        exact e (ByteArray.ext (Array.toList_inj.1 y))
      rw [Maps.atKey_put_other hne, h.val t, if_neg e]
/-- .. as a block that is owned. -/
def pm (mb k : Nat) (f : ByteArray → Option (Nat × Nat)) (x : Option Obj) : Prop := ∃ w D, w.heap[mb]? = x ∧ Mo mb k f D w
theorem pm_get {mb k : Nat} {f : ByteArray → Option (Nat × Nat)} {w : World} (h : pm mb k f w.heap[mb]?) : ∃ D, Mo mb k f D w := by
  obtain ⟨w', D, e, h⟩ := h
  obtain ⟨es, clock, hb, r⟩ := h.own
  exact ⟨D, ⟨es, clock, e ▸ hb, r⟩, h.map, h.has, h.val⟩
section
variable {n0 : Nat} {w0 w w' : World} {L : List Rs}
theorem Fr.mo (h : Fr n0 w0 w L) (i : Nat) {mb k : Nat} {f : ByteArray → Option (Nat × Nat)} (hi : L[i]? = some (.ob mb (pm mb k f))) : ∃ D, Mo mb k f D w := pm_get (h.get hi).2.2
theorem Fr.moPut (h : Fr n0 w0 w L) (i : Nat) {mb k k' : Nat} {f f' : ByteArray → Option (Nat × Nat)} {D' : DataW Value} (hi : L[i]? = some (.ob mb (pm mb k f))) (hg : w.grownBy w' (some mb)) (hm : Mo mb k' f' D' w') : Fr n0 w0 w' (L.set i (.ob mb (pm mb k' f'))) := by
  have h1 := h.get hi
  refine h.mapd i hi rfl hg ⟨h1.1, Nat.lt_of_lt_of_le h1.2.1 hg.size, w', D', rfl, hm⟩ rfl
theorem Fr.moMade (h : Fr n0 w0 w L) {q : Nat} (hq : w.heap.size = q) : Fr n0 w0 (w.alloc (.map #[] 0)) (.ob q (pm q 0 (fun _ => none)) :: L) := by
  subst hq
  refine (h.call ((Below.refl _ _).alloc (Nat.le_refl _) _)).add (r := .ob w.heap.size (pm w.heap.size 0 (fun _ => none))) ⟨h.le, by simp, _, _, rfl, Mo.made w⟩ fun x hx q hq he => ?_
  have := ((h.ok x hx).lt he).2
  have e : w.heap.size = q := Option.some.inj hq
  omega
theorem Fr.perm {K : List Rs} (h : Fr n0 w0 w L) (hp : L.Perm K) : Fr n0 w0 w K := ⟨h.below, h.le, fun r hr => h.ok r (hp.mem_iff.2 hr), (hp.pairwise_iff (fun h => Rs.off_symm h)).1 h.off⟩
end
/-- What the linker holds: the image's words so far, where objects begin, the ranges; its map; and what else is owned. -/
def LS (n0 : Nat) (W w : World) (b mb : Nat) (a : Option Addr) (n c : Nat) (mem : Int) (CO DA : List Int) (ST : List (Int × Int)) (RG : List Rg) (k : Nat) (f : ByteArray → Option (Nat × Nat)) (L : List Rs) : Prop :=
  ∃ ca cc da dc sa sc ra rc, Fr n0 W w (.blk b #[.slice ca CO.length cc, .slice da DA.length dc, .int .i64 mem, .slice a n c, .map (some mb), .slice sa ST.length sc, .slice ra RG.length rc] 42
    :: .row (.slice ca CO.length cc) 34 1 CO.length (CO.map (Value.int .u32)) :: .row (.slice da DA.length dc) 21 1 DA.length (DA.map (Value.int .i32)) :: .row (.slice sa ST.length sc) 85 2 ST.length (ST.flatMap stV) :: .row (.slice ra RG.length rc) 36 5 RG.length (RG.flatMap rgV) :: .ob mb (pm mb k f) :: L)
section
variable {n0 : Nat} {W w w' : World} {b mb : Nat} {a : Option Addr} {n c : Nat} {mem : Int} {CO DA : List Int} {ST : List (Int × Int)} {RG : List Rg} {k : Nat} {f : ByteArray → Option (Nat × Nat)} {L : List Rs}
theorem LS.call (h : LS n0 W w b mb a n c mem CO DA ST RG k f L) (hb : Below w.heap.size w w') : LS n0 W w' b mb a n c mem CO DA ST RG k f L := by
  obtain ⟨ca, cc, da, dc, sa, sc, ra, rc, h⟩ := h
  exact ⟨ca, cc, da, dc, sa, sc, ra, rc, h.call hb⟩
theorem LS.fr (h : LS n0 W w b mb a n c mem CO DA ST RG k f L) : Fr n0 W w L := by
  obtain ⟨ca, cc, da, dc, sa, sc, ra, rc, h⟩ := h
  exact h.tail.tail.tail.tail.tail.tail
theorem LS.mo (h : LS n0 W w b mb a n c mem CO DA ST RG k f L) : ∃ D, Mo mb k f D w := by
  obtain ⟨ca, cc, da, dc, sa, sc, ra, rc, h⟩ := h
  exact h.mo 5 rfl
theorem LS.cells (h : LS n0 W w b mb a n c mem CO DA ST RG k f L) : ∃ ca cc da dc sa sc ra rc, ∀ o, w.cell? ⟨b, o, none⟩ = (#[.slice ca CO.length cc, .slice da DA.length dc, .int .i64 mem, .slice a n c, .map (some mb), .slice sa ST.length sc, .slice ra RG.length rc] : Array Value)[o]? := by
  obtain ⟨ca, cc, da, dc, sa, sc, ra, rc, h⟩ := h
  exact ⟨ca, cc, da, dc, sa, sc, ra, rc, h.cell 0 rfl⟩
theorem LS.moved {K : List Rs} (h : LS n0 W w b mb a n c mem CO DA ST RG k f L) (hp : L.Perm K) : LS n0 W w b mb a n c mem CO DA ST RG k f K := by
  obtain ⟨ca, cc, da, dc, sa, sc, ra, rc, h⟩ := h
  exact ⟨ca, cc, da, dc, sa, sc, ra, rc, h.perm ((((((hp.cons _).cons _).cons _).cons _).cons _).cons _)⟩
theorem LS.alloc (h : LS n0 W w b mb a n c mem CO DA ST RG k f L) (cs : Array Value) (T : TypeId) : LS n0 W (w.alloc (.cells cs T)) b mb a n c mem CO DA ST RG k f (.blk w.heap.size cs T :: L) := by
  obtain ⟨ca, cc, da, dc, sa, sc, ra, rc, h⟩ := h
  refine ⟨ca, cc, da, dc, sa, sc, ra, rc, (h.alloc rfl cs T).perm ?_⟩
  exact (List.perm_middle (l₁ := [_, _, _, _, _, _])).symm
theorem LS.tail {r : Rs} (h : LS n0 W w b mb a n c mem CO DA ST RG k f (r :: L)) : LS n0 W w b mb a n c mem CO DA ST RG k f L := by
  obtain ⟨ca, cc, da, dc, sa, sc, ra, rc, h⟩ := h
  exact ⟨ca, cc, da, dc, sa, sc, ra, rc, h.sub (by repeat (first | exact List.sublist_cons_self _ _ | apply List.Sublist.cons_cons))⟩
theorem LS.below (h : LS n0 W w b mb a n c mem CO DA ST RG k f L) : Below n0 W w := h.fr.below
theorem LS.put {k' : Nat} {f' : ByteArray → Option (Nat × Nat)} {D' : DataW Value} (h : LS n0 W w b mb a n c mem CO DA ST RG k f L) (hg : w.grownBy w' (some mb)) (hm : Mo mb k' f' D' w') : LS n0 W w' b mb a n c mem CO DA ST RG k' f' L := by
  obtain ⟨ca, cc, da, dc, sa, sc, ra, rc, h⟩ := h
  exact ⟨ca, cc, da, dc, sa, sc, ra, rc, h.moPut 5 rfl hg hm⟩
/-- The linker as it begins. -/
theorem LS.start (h : Fr n0 W w (.ob mb (pm mb k f) :: L)) : LS n0 W (w.alloc (.cells #[.slice none 0 0, .slice none 0 0, .int .i64 mem, .slice a n c, .map (some mb), .slice none 0 0, .slice none 0 0] 42)) w.heap.size mb a n c mem [] [] [] [] k f L :=
  ⟨none, 0, none, 0, none, 0, none, 0, (((((h.nil 36 5).nil 85 2).nil 21 1).nil 34 1).alloc rfl _ 42)⟩
end
end Go.Proofs.Ythbhlmbhnidbhaa.T
