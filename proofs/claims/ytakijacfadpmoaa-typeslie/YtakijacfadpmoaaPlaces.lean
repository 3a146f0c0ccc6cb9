/- The contracts of the reference's Places, and of the law's ints. -/
import Derived.Test.YtakijacfadpmoaaAlike
import Derived.Deep.AppendLies
namespace Go.Proofs.Ytakijacfadpmoaa.T
open Go.RowKit
set_option linter.unusedVariables false
set_option linter.unusedSimpArgs false

theorem own_below {w w' : World} {ob : Nat} {e : TypeId} {z : Nat} {v : Value} {n : Nat} {xs : List Value} (h : w.ownsRow ob e z v n xs) (hb : Below w.heap.size w w') : w'.ownsRow ob e z v n xs := by
  refine ⟨h.1, ?_⟩
  rcases h.2 with h2 | ⟨g, cap, cur, hv, hg, hh, r⟩
  · exact Or.inl h2
  · exact Or.inr ⟨g, cap, cur, hv, hg, (hb.block g (Array.getElem?_eq_some_iff.1 hh).1).trans hh, r⟩
theorem own_ge {w : World} {ob : Nat} {e : TypeId} {z : Nat} {v : Value} {n : Nat} {xs : List Value} (h : w.ownsRow ob e z v n xs) (k : Nat) (hk : v.ownBlock = some k) : ob ≤ k ∧ k < w.heap.size := h.lt k hk
theorem own_base {w : World} {ob ob' : Nat} {e : TypeId} {z : Nat} {v : Value} {n : Nat} {xs : List Value} (h : w.ownsRow ob e z v n xs) (hb : ob' ≤ ob) : w.ownsRow ob' e z v n xs := by
  refine ⟨h.1, ?_⟩
  rcases h.2 with h2 | ⟨g, cap, cur, hv, hg, r⟩
  · exact Or.inl h2
  · exact Or.inr ⟨g, cap, cur, hv, Nat.le_trans hb hg, r⟩
/-- What a row's value looks like, and its cells. -/
theorem own_cells {w : World} {ob : Nat} {e : TypeId} {v : Value} {n : Nat} {xs : List Value} (h : w.ownsRow ob e 1 v n xs) : ∃ a c, v = .slice a n c ∧ (0 < n → ∃ g, a = some ⟨g, 0, none⟩ ∧ g < w.heap.size ∧ ∀ j, j < n → w.cell? ⟨g, 0 + j, none⟩ = xs[j]?) := by
  rcases h.2 with ⟨rfl, rfl⟩ | ⟨g, cap, cur, rfl, hg, hh, _, _, hs, ht⟩
  · exact ⟨none, 0, rfl, fun h => by omega⟩
  · refine ⟨_, cap, rfl, fun _ => ⟨g, rfl, (Array.getElem?_eq_some_iff.1 hh).1, fun j hj => ?_⟩⟩
    rw [← ht, List.getElem?_take_of_lt (by omega), Array.getElem?_toList]
    simp [World.cell?, hh]
theorem info_parts {P : Program} {e : TypeId} {z : Value} {n m : Nat} (h : (P.info? e).map (fun i => (i.zero, i.size, i.bytes)) = some (some z, n, m)) : ∃ i, P.info? e = some i ∧ i.zero = some z ∧ i.size = n ∧ i.bytes = m := by
  cases hi : P.info? e with
  | none => rw [hi] at h; cases h
  | some i =>
    rw [hi] at h
    simp at h
    exact ⟨i, rfl, h.1, h.2.1, h.2.2⟩
theorem info3 : (Try.prog.info? 3).map (fun i => (i.zero, i.size, i.bytes)) = some (some (.int .i64 0), 1, 8) := by kernel_rfl
theorem list_int {w : World} {ops : Array Oper} {rest : List Oper} {o : Oper} {a : Act} {Q : Exit → Act → World → Prop} (p q : Operand) (hgd : o.guard = none)
    (ho : o.op = .call { callee := .builtin .append, args := #[p, q], argTypes := #[28, 28] })
    (ob : Nat) (v : Value) (n : Nat) (L : List Value) (hs : a.eval p = v) (hown : w.ownsRow ob 3 1 v n L)
    (B : Nat) (x : Int) (hx : a.eval q = .slice (some ⟨B, 0, none⟩) 1 1) (hB : w.heap[B]? = some (.cells #[.int .i64 x] 3 (0, 0)))
    (hn : n ≤ 16000) (hob : ob ≤ w.heap.size)
    (h : ∀ g cap w', w'.ownsRow ob 3 1 (.slice (some ⟨g, 0, none⟩) (n + 1) cap) (n + 1) (L ++ [.int .i64 x]) → w.grownBy w' v.ownBlock → wpList Try.prog ops Q rest (a.put o.dst (.slice (some ⟨g, 0, none⟩) (n + 1) cap)) w') :
    wpList Try.prog ops Q (o :: rest) a w := by
  obtain ⟨i0, hi, hz0, hz1, hz2⟩ := info_parts info3
  refine wpList_append_lies w hgd p q 28 ho ob 3 i0 (.int .i64 0) 1 8 Try.underlying28 hi hz0 hz1 hz2 rfl (by decide) v n L hs hown ⟨B, 0, none⟩ 1 1 [.int .i64 x] hx rfl (World.news_of_block hB) ?_ (by decide) (by unfold maxLen; omega) (by omega) hob w.heap.size rfl ?_
  · intro u hu; simp at hu; subst hu; rfl
  · intro g cap w' h1 h2 _ _
    exact h g cap w' h1 h2
/-- Where the fields lie. -/
def placesT : Ty → List Nat
  | .leaf => []
  | .mk kind name nn names pn parts many => if kind = 3 then (List.range pn).map (placeN (fun i => sizeT (parts i)) (evs (.mk kind name nn names pn parts many) pn parts)) else []
theorem placesT_mk (kind : Int) (name : ByteArray) (nn : Nat) (names : Nat → ByteArray) (pn : Nat) (parts : Nat → Ty) (many : Bool) : placesT (.mk kind name nn names pn parts many) = if kind = 3 then (List.range pn).map (placeN (fun i => sizeT (parts i)) (evs (.mk kind name nn names pn parts many) pn parts)) else [] := rfl
def ints (l : List Nat) : List Value := l.map fun (n : Nat) => Value.int .i64 n
set_option maxRecDepth 100000 in
set_option maxHeartbeats 2000000 in
theorem places_any (T : Ty) (hF : Few T) (v : Value) (w : World) (hv : TyV w T v) : Calls Try.prog 16 #[v] w fun e w' => ∃ l, e = .returned l ∧ w'.ownsRow w.heap.size 3 1 l (placesT T).length (ints (placesT T)) ∧ Below w.heap.size w w' := by
  rcases T with _ | ⟨kind, name, nn, names, pn, parts, many⟩
  · exact (TyV_leaf hv).elim
  have hF' := hF
  unfold Few at hF'
  have hpl := place_all (kind := kind) (name := name) (nn := nn) (names := names) (many := many) hF'.1 (fun i hi => (hF'.2 i hi).2) (fun i hi v w hv => size_any (parts i) (hF'.2 i hi).1 v w hv)
  have hp7 := hF'.1
  obtain ⟨na, nc, pa, pc, rfl, hS, q1, q2, q3, q4, q5, q6, q7, HP⟩ := hv.part
  have hB0 : Below w.heap.size w (w.alloc (.cells #[.int .i64 kind, .string name, .slice na nn nc, .slice pa pn pc, .bool many] 25)) := (Below.refl _ _).alloc (Nat.le_refl _) _
  have HT := hide hv
  have HPl := hide hpl
  clear hv hS hF hF' hpl
  by_cases k3 : kind = 3
  case neg =>
    have k3' : (kind == 3) = false := by simpa using k3
    have HE : Hid (placesT (.mk kind name nn names pn parts many) = []) := by show _ = _; rw [placesT_mk, if_neg k3]
    go_enter Try.func16, Try.ntmps16
    go_wp2_with fail
    go_loopw [3, 4] (fun l i wr => l = .slice none 0 0 ∧ i = .int .i64 0 ∧ wr = w.alloc (.cells #[.int .i64 kind, .string name, .slice na nn nc, .slice pa pn pc, .bool many] 25)) (fun _ _ _ => 0)
    case atStart => exact ⟨rfl, rfl, rfl⟩
    case round =>
      obtain ⟨rfl, rfl, rfl⟩ := hrel
      go_wp2_with fail
      go_ret
      rw [HE.out]
      exact ⟨_, rfl, ⟨rfl, Or.inl ⟨rfl, rfl⟩⟩, hB0⟩
  subst k3
  have HE : Hid (placesT (.mk 3 name nn names pn parts many) = (List.range pn).map (placeN (fun i => sizeT (parts i)) (evs (.mk 3 name nn names pn parts many) pn parts))) := by show _ = _; rw [placesT_mk, if_pos rfl]
  have hcal := fun k (hk : k ≤ pn) w' (hw : Below w.heap.size w w') => HPl.out k hk _ w' (HT.out.below hw)
  generalize placeN (fun i => sizeT (parts i)) (evs (.mk 3 name nn names pn parts many) pn parts) = pl at *
  have HC := hide hcal
  clear hcal HPl
  go_enter Try.func16, Try.ntmps16
  go_wp2_with fail
  have hx0 : ∀ o, (w.alloc (.cells #[.int .i64 3, .string name, .slice na nn nc, .slice pa pn pc, .bool many] 25)).cell? ⟨w.heap.size, o, none⟩ = (#[Value.int .i64 3, .string name, .slice na nn nc, .slice pa pn pc, .bool many])[o]? := fun o => World.cell?_alloc_at _ _ _ _ rfl
  have hz0 : (w.alloc (.cells #[.int .i64 3, .string name, .slice na nn nc, .slice pa pn pc, .bool many] 25)).heap.size = w.heap.size + 1 := by simp
  generalize w.alloc (.cells #[.int .i64 3, .string name, .slice na nn nc, .slice pa pn pc, .bool many] 25) = W at *
  have HW : Hid (∀ w', Below W.heap.size W w' → Below w.heap.size w w') := fun w' hw => hB0.trans (hw.mono (by omega))
  have HXc : Hid (∀ w', Below W.heap.size W w' → ∀ o, w'.cell? ⟨w.heap.size, o, none⟩ = (#[Value.int .i64 3, .string name, .slice na nn nc, .slice pa pn pc, .bool many])[o]?) := fun w' hw o => (hw.cell (p := ⟨w.heap.size, o, none⟩) (by show w.heap.size < _; omega)).trans (hx0 o)
  have HZ := hide hz0
  clear hx0 hz0 hB0
  go_loopw [3, 4] (fun l i wr => ∃ k : Nat, k ≤ pn ∧ i = .int .i64 k ∧ Hid (Below W.heap.size W wr) ∧ Hid (wr.ownsRow W.heap.size 3 1 l k (ints ((List.range k).map pl)))) (fun _ i _ => pn - (intOf i).toNat)
  case atStart => exact ⟨0, Nat.zero_le _, rfl, Below.refl _ _, rfl, Or.inl ⟨rfl, rfl⟩⟩
  case round =>
    obtain ⟨k, hk, rfl, HB, HO⟩ := hrel
    have hx1 := HXc.out wr HB.out
    by_cases hlt : k < pn
    · have hlt' : (k : Int) < pn := by omega
      have hcal := HC.out k (by omega) wr (HW.out _ HB.out)
      go_wp2_with fail
      go_at_call 25
      refine hcal.mono ?_
      rintro e w1 ⟨rfl, hb1⟩
      have HB1 : Hid (Below W.heap.size W w1) := HB.out.trans (hb1.mono HB.out.size)
      have HO1 := own_below HO.out hb1
      have hBa : Below w1.heap.size w1 (w1.alloc (.cells #[.int .i64 (pl k)] 3)) := (Below.refl _ _).alloc (Nat.le_refl _) _
      have HN := hide (And.intro (own_below HO1 hBa) (And.intro (heap_alloc_new w1 (.cells #[.int .i64 (pl k)] 3)) (And.intro (show W.heap.size ≤ (w1.alloc (.cells #[.int .i64 (pl k)] 3)).heap.size from Nat.le_trans HB1.out.size hBa.size) (HB1.out.trans (hBa.mono HB1.out.size)))))
      clear hb1 HO1 hBa
      go_wp2_with (at_builtin; refine list_int _ _ rfl rfl W.heap.size u3 k (ints ((List.range k).map pl)) ?e1 ?e2 w1.heap.size (pl k) ?e3 ?e4 (by omega) ?e5 ?_; (case e1 => rfl); (case e2 => exact HN.out.1); (case e3 => rfl); (case e4 => exact HN.out.2.1); (case e5 => exact HN.out.2.2.1); intro g cap w2 hown hgr; have HB2 : Hid (Below W.heap.size W w2) := HN.out.2.2.2.grown hgr HN.out.2.2.1 (fun i hi => (own_ge HN.out.1 i hi).1); have O1 := hide hown; clear hown hgr)
      go_roundw
      case rel =>
        refine ⟨k + 1, by omega, by go_num, HB2, ?_⟩
        have e : ints ((List.range (k + 1)).map pl) = ints ((List.range k).map pl) ++ [.int .i64 (pl k)] := by unfold ints; rw [List.range_succ, List.map_append, List.map_append]; rfl
        show World.ownsRow _ _ _ _ _ _ _
        rw [e]
        exact O1.out
      case measure => simp [intOf]; omega
    · obtain rfl : pn = k := by omega
      have hlt' : ¬ (pn : Int) < pn := by omega
      go_wp2_with fail
      go_ret
      refine ⟨_, rfl, ?_, HW.out _ HB.out⟩
      rw [HE.out, List.length_map, List.length_range]
      exact own_base HO.out (by rw [HZ.out]; omega)
set_option maxRecDepth 100000 in
set_option maxHeartbeats 1000000 in
theorem ints_same (v1 v2 : Value) (l : List Nat) (w : World) (hl : l.length ≤ 1000000) (h1 : w.ownsRow 0 3 1 v1 l.length (ints l)) (h2 : w.ownsRow 0 3 1 v2 l.length (ints l)) :
    Calls Try.prog 17 #[v1, v2] w fun e w' => e = .returned (.bool true) ∧ Below w.heap.size w w' := by
  obtain ⟨a1, c1, rfl, H1⟩ := own_cells h1
  obtain ⟨a2, c2, rfl, H2⟩ := own_cells h2
  have G1 := hide H1
  have G2 := hide H2
  clear H1 H2 h1 h2
  go_enter Try.func17, Try.ntmps17
  go_wp2_with fail
  go_loopw [5] (fun i wr => ∃ k : Nat, k ≤ l.length ∧ i = .int .i64 k ∧ Hid (Below w.heap.size w wr)) (fun i _ => l.length - (intOf i).toNat)
  case atStart => exact ⟨0, Nat.zero_le _, rfl, Below.refl _ _⟩
  case round =>
    obtain ⟨k, hk, rfl, HB⟩ := hrel
    by_cases hlt : k < l.length
    · have hlt' : (k : Int) < l.length := by omega
      have hidx : (0 : Int) ≤ k ∧ (k : Int) < l.length := by omega
      obtain ⟨g1, rfl, b1, e1⟩ := G1.out (by omega)
      obtain ⟨g2, rfl, b2, e2⟩ := G2.out (by omega)
      have hx : (ints l)[k]? = some (.int .i64 (l[k] : Nat)) := by unfold ints; rw [List.getElem?_map, List.getElem?_eq_getElem hlt]; rfl
      have r1 : wr.cell? ⟨g1, 0 + k, none⟩ = some (.int .i64 (l[k] : Nat)) := (HB.out.cell (p := ⟨g1, 0 + k, none⟩) b1).trans ((e1 k hlt).trans hx)
      have r2 : wr.cell? ⟨g2, 0 + k, none⟩ = some (.int .i64 (l[k] : Nat)) := (HB.out.cell (p := ⟨g2, 0 + k, none⟩) b2).trans ((e2 k hlt).trans hx)
      rw [Nat.zero_add] at r1 r2
      generalize l[k] = x at *
      clear e1 e2 hx
      go_wp2_with fail
      go_quiet (fail)
      generalize nq = q
      go_wp2_with fail
      go_roundw
      case rel => exact ⟨k + 1, by omega, by go_num, below_drewN HB.out q⟩
      case measure => simp [intOf]; omega
    · obtain hkl : k = l.length := by omega
      have hlt' : ¬ (k : Int) < l.length := by omega
      go_wp2_with fail
      go_ret
      exact ⟨rfl, HB.out⟩
end Go.Proofs.Ytakijacfadpmoaa.T
