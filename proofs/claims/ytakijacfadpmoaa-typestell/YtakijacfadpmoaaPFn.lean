/- The contract of the program's functionText. -/
import Derived.Test.YtakijacfadpmoaaPSt
import Derived.Test.YtakijacfadpmoaaShelf
import Derived.Test.YtakijacfadpmoaaPlaces
namespace Go.Proofs.Ytakijacfadpmoaa.T
open Go.RowKit
set_option linter.unusedVariables false
set_option linter.unusedSimpArgs false
theorem join_snoc (s : List UInt8) (x : List UInt8) : ∀ L : List (List UInt8), s.intercalate (L ++ [x]) = (L.flatMap fun y => y ++ s) ++ x
  | [] => by simp
  | [a] => by simp [List.intercalate]
  | a :: b :: r => by
    have h := join_snoc s x (b :: r)
    simp only [List.intercalate, List.cons_append, List.intersperse_cons_cons, List.flatten_cons, List.flatMap_cons] at h ⊢
    rw [h]
    simp
theorem join_text (t : Nat → List UInt8) (l : Nat) (many : Bool) : Lib.join ((List.range l).map t ++ (if many = true then [[46, 46, 46]] else [])) [44] = ((List.range l).flatMap fun i => t i ++ (if i + 1 < l ∨ many = true then [44] else [])) ++ (if many = true then [46, 46, 46] else []) := by
  unfold Lib.join
  cases many with
  | true => simp [join_snoc, List.flatMap_map]
  | false =>
    cases l with
    | zero => rfl
    | succ m =>
      have e : ((List.range m).flatMap fun i => t i ++ (if i + 1 < m + 1 ∨ false = true then [44] else [])) = (List.range m).flatMap fun i => t i ++ [44] := by
        have : ∀ n, n ≤ m → ((List.range n).flatMap fun i => t i ++ (if i + 1 < m + 1 ∨ false = true then [44] else [])) = (List.range n).flatMap fun i => t i ++ [44] := by
          intro n
          induction n with
          | zero => intro _; rfl
          | succ n ih =>
            intro hn
            rw [List.range_succ, List.flatMap_append, List.flatMap_append, ih (by omega), List.flatMap_singleton, List.flatMap_singleton, if_pos (Or.inl (by omega))]
        exact this m (Nat.le_refl _)
      rw [List.range_succ, List.map_append, List.map_singleton, if_neg (by decide), if_neg (by decide), List.append_nil, List.append_nil, join_snoc, List.flatMap_append, List.flatMap_singleton, e, if_neg (by simp), List.append_nil, List.flatMap_map]
/-- Texts as a row of values. -/
def strs (L : List (List UInt8)) : List Value := L.map fun x => Value.string (strOf x)
theorem info9 : (Try.prog.info? 9).map (fun i => (i.zero, i.size, i.bytes)) = some (some (.string ⟨#[]⟩), 1, 16) := by kernel_rfl
theorem list_str {w : World} {ops : Array Oper} {rest : List Oper} {o : Oper} {a : Act} {Q : Exit → Act → World → Prop} (p q : Operand) (hgd : o.guard = none)
    (ho : o.op = .call { callee := .builtin .append, args := #[p, q], argTypes := #[22, 22] })
    (ob : Nat) (v : Value) (n : Nat) (L : List Value) (hs : a.eval p = v) (hown : w.ownsRow ob 9 1 v n L)
    (B : Nat) (x : ByteArray) (hx : a.eval q = .slice (some ⟨B, 0, none⟩) 1 1) (hB : w.heap[B]? = some (.cells #[.string x] 9 (0, 0)))
    (hn : n ≤ 16000) (hob : ob ≤ w.heap.size)
    (h : ∀ g cap w', w'.ownsRow ob 9 1 (.slice (some ⟨g, 0, none⟩) (n + 1) cap) (n + 1) (L ++ [.string x]) → w.grownBy w' v.ownBlock → wpList Try.prog ops Q rest (a.put o.dst (.slice (some ⟨g, 0, none⟩) (n + 1) cap)) w') :
    wpList Try.prog ops Q (o :: rest) a w := by
  obtain ⟨i0, hi, hz0, hz1, hz2⟩ := info_parts info9
  refine wpList_append_lies w hgd p q 22 ho ob 9 i0 (.string ⟨#[]⟩) 1 16 Try.underlying22 hi hz0 hz1 hz2 rfl (by decide) v n L hs hown ⟨B, 0, none⟩ 1 1 [.string x] hx rfl (World.news_of_block hB) ?_ (by decide) (by unfold maxLen; omega) (by omega) hob w.heap.size rfl ?_
  · intro u hu; simp at hu; subst hu; rfl
  · intro g cap w' h1 h2 _ _
    exact h g cap w' h1 h2
theorem join_row (xs : List (List UInt8)) (ob : Nat) (v : Value) (w : World) (h : w.ownsRow ob 9 1 v xs.length (strs xs)) (hn : xs.length ≤ 1000) (hl : (Lib.join xs [44]).length ≤ 1000000) :
    Calls Try.prog 40 #[v, .string ⟨#[44]⟩] w fun e w' => e = .returned (.string (strOf (Lib.join xs [44]))) ∧ Below w.heap.size w w' := by
  rcases h with ⟨h1, ⟨rfl, h3⟩ | ⟨g, cap, cur, rfl, h4, h5, h6, h7, h8, h9⟩⟩
  · obtain rfl : xs = [] := List.length_eq_zero_iff.1 h3
    exact (Try.strings_Join_none none 0 ⟨#[44]⟩ w).mono fun e w' ⟨h1, h2⟩ => ⟨h1, h2 ▸ Below.refl _ _⟩
  · have e : (xs.map strOf).map (·.data.toList) = xs := by rw [List.map_map]; exact List.map_id'' (fun _ => rfl) xs
    have hj := Try.strings_Join g 0 cap (xs.map strOf) ⟨#[44]⟩ w (fun j x hx => ?_) (Array.getElem?_eq_some_iff.1 h5).1 (by rw [List.length_map]; omega) (by rw [List.length_map]; exact h6) (by rw [e]; show (Lib.join xs [44]).length ≤ _; omega)
    · rw [e, List.length_map] at hj
      exact hj
    · have hx2 : (strs xs)[j]? = some (.string x) := by
        unfold strs
        rw [List.getElem?_map] at hx ⊢
        cases hq : xs[j]? with
        | none => rw [hq] at hx; cases hx
        | some y => rw [hq] at hx; cases hx; rfl
      have hj' : j < xs.length := by
        have := (List.getElem?_eq_some_iff.1 hx).1
        rwa [List.length_map] at this
      rw [← h9, List.getElem?_take] at hx2
      rw [if_pos (by omega)] at hx2
      rw [cells_at h5]
      rw [Nat.zero_add]
      simpa using hx2
variable {kind : Int} {name : ByteArray} {nn : Nat} {names : Nat → ByteArray} {pn : Nat} {parts : Nat → Ty} {many : Bool}
set_option maxRecDepth 100000 in
set_option maxHeartbeats 1600000 in
theorem ptext_fn (d : Nat) (hd3 : d ≤ 3) (ih : Hid (∀ i, i < pn → ∀ v w, TyV w (parts i) v → Calls Try.prog 24 #[v] w fun e w' => e = .returned (.string (strOf (textT (parts i)))) ∧ Below w.heap.size w w')) (hm : mayN (d + 1) (.mk 4 name nn names pn parts many) = true) (v : Value) (w : World)
    (hv : TyV w (.mk 4 name nn names pn parts many) v) : Calls Try.prog 33 #[v] w fun e w' => e = .returned (.string (strOf (textT (.mk 4 name nn names pn parts many)))) ∧ Below w.heap.size w w' := by
  have F := may_facts hm
  obtain ⟨na, nc, pa, pc, rfl, hS, q1, q2, q3, q4, q5, q6, q7, HP⟩ := hv.part
  have hB0 : Below w.heap.size w (w.alloc (.cells #[.int .i64 4, .string name, .slice na nn nc, .slice pa pn pc, .bool many] 25)) := (Below.refl _ _).alloc (Nat.le_refl _) _
  have HT := hide hv
  have HS := hide hS
  clear hv hS hm
  have HLn : Hid (∀ i, i < pn → (textT (parts i)).length ≤ 22800) := fun i hi => Nat.le_trans (text_len (F.2.2.1 i hi)) (lenB_le hd3)
  obtain ⟨l, rfl, hl⟩ : ∃ l, pn = l + 1 ∧ l ≤ 6 := by
    rcases F.2.2.2 with ⟨e, _⟩ | ⟨_, _, _, e⟩ | ⟨e, _⟩ | ⟨e, _⟩
    · omega
    · have := F.1
      exact ⟨pn - 1, by omega, by omega⟩
    all_goals omega
  clear F
  have HE : Hid (textT (.mk 4 name nn names (l + 1) parts many) = [102, 110, 40] ++ (((List.range l).flatMap fun i => textT (parts i) ++ (if i + 1 < l ∨ many = true then [44] else [])) ++ (if many = true then [46, 46, 46] else [])) ++ [41] ++ textT (parts l)) := by
    show _ = _
    rw [textT_mk, if_neg (by decide), if_neg (by decide), if_neg (by decide)]
    simp only [List.append_assoc]
    rfl
  have HJT : Hid (Lib.join ((List.range l).map (fun i => textT (parts i)) ++ (if many = true then [[46, 46, 46]] else [])) [44] = ((List.range l).flatMap fun i => textT (parts i) ++ (if i + 1 < l ∨ many = true then [44] else [])) ++ (if many = true then [46, 46, 46] else [])) := join_text (fun i => textT (parts i)) l many
  have hjl : (Lib.join ((List.range l).map (fun i => textT (parts i)) ++ (if many = true then [[46, 46, 46]] else [])) [44]).length ≤ 200000 := by
    rw [HJT.out, List.length_append]
    have h1 := flat_len (f := fun i => textT (parts i) ++ (if i + 1 < l ∨ many = true then [44] else [])) (c := 22801) l (fun i hi => by
      have := HLn.out i (by omega)
      rw [List.length_append]
      split <;> simp <;> omega)
    have h2 : l * 22801 ≤ 6 * 22801 := Nat.mul_le_mul_right _ hl
    have h3 : (if many = true then [46, 46, 46] else ([] : List UInt8)).length ≤ 3 := by split <;> simp
    omega
  obtain ⟨jt, hjt⟩ : ∃ jt, jt = Lib.join ((List.range l).map (fun i => textT (parts i)) ++ (if many = true then [[46, 46, 46]] else [])) [44] := ⟨_, rfl⟩
  have HJ := hide hjt
  rw [← HJ.out] at HJT hjl
  clear hjt
  have hjs : (strOf jt).size ≤ 200000 := hjl
  have hlw : IntKind.i64.wrap (((l + 1 : Nat) : Int) - 1) = (l : Int) := by rw [IntKind.wrap_i64]; omega
  have hs1 : (0 : Int) ≤ l ∧ (l : Int) ≤ pc := by omega
  have hts := HLn.out l (by omega)
  have hcl0 := fun v w => ih.out l (by omega) v w
  generalize hte : textT (parts l) = tl at *
  have hts2 : (strOf tl).size ≤ 22800 := hts
  obtain ⟨b, o, rfl, hb, hc⟩ := HP.out (by omega)
  have HC := hide hc
  obtain ⟨c0, c1, c2, c3, c4, g0, g1, g2, g3, g4, g5⟩ := hc l (by omega)
  have HG := hide (And.intro g0 (And.intro g1 (And.intro g2 (And.intro g3 g4))))
  have H5 := hide g5
  clear g0 g1 g2 g3 g4 g5 hc hte
  go_enter Try.func33, Try.ntmps33
  go_wp2_with fail
  have hx0 : ∀ oo, (w.alloc (.cells #[Value.int .i64 4, .string name, .slice na nn nc, .slice (some ⟨b, o, none⟩) (l + 1) pc, .bool many] 25)).cell? ⟨w.heap.size, oo, none⟩ = (#[Value.int .i64 4, .string name, .slice na nn nc, .slice (some ⟨b, o, none⟩) (l + 1) pc, .bool many])[oo]? := fun o => World.cell?_alloc_at _ _ _ _ rfl
  have hz0 : (w.alloc (.cells #[Value.int .i64 4, .string name, .slice na nn nc, .slice (some ⟨b, o, none⟩) (l + 1) pc, .bool many] 25)).heap.size = w.heap.size + 1 := by simp
  generalize w.alloc (.cells #[Value.int .i64 4, .string name, .slice na nn nc, .slice (some ⟨b, o, none⟩) (l + 1) pc, .bool many] 25) = W at *
  have HW : Hid (∀ w', Below W.heap.size W w' → Below w.heap.size w w') := fun w' hw => hB0.trans (hw.mono (by omega))
  have HXc : Hid (∀ w', Below W.heap.size W w' → ∀ oo, w'.cell? ⟨w.heap.size, oo, none⟩ = (#[Value.int .i64 4, .string name, .slice na nn nc, .slice (some ⟨b, o, none⟩) (l + 1) pc, .bool many])[oo]?) := fun w' hw oo => (hw.cell (p := ⟨w.heap.size, oo, none⟩) (by show w.heap.size < _; omega)).trans (hx0 oo)
  clear hx0 hz0 hB0
  have hcl := fun w' (hw : Below W.heap.size W w') => hcl0 _ w' (H5.out.below (HW.out w' hw))
  clear hcl0
  have HCL := hide hcl
  clear hcl
  go_loopw [4, 16] (fun s i wr => ∃ k : Nat, k ≤ l ∧ i = .int .i64 k ∧ Hid (Below W.heap.size W wr) ∧ Hid (wr.ownsRow W.heap.size 9 1 s k (strs ((List.range k).map fun i => textT (parts i))))) (fun _ i _ => l - (intOf i).toNat)
  case atStart => exact ⟨0, Nat.zero_le _, rfl, Below.refl _ _, World.ownsRow_nil _ _ _ _⟩
  case round =>
    obtain ⟨k, hk, rfl, HB, HO⟩ := hrel
    have hx1 := HXc.out wr HB.out
    by_cases hlt : k < l
    · have hlt' : (k : Int) < l := by omega
      have hidx : (0 : Int) ≤ k ∧ (k : Int) < l := by omega
      obtain ⟨c0', c1', c2', c3', c4', g0, g1, g2, g3, g4, g5⟩ := HC.out k (by omega)
      obtain ⟨kd, nm, xa, xn, xc, ya, yn, yc, my, rfl, rfl, rfl, rfl, rfl⟩ := g5.shape
      have hcal := fun w' (hw : Below W.heap.size W w') => ih.out k (by omega) _ w' (g5.below (HW.out w' hw))
      have e0 : wr.cell? ⟨b, o + k * 5, none⟩ = some (.int .i64 kd) := ((HW.out _ HB.out).cell (p := ⟨b, o + k * 5, none⟩) hb).trans g0
      have e1 : wr.cell? ⟨b, o + k * 5 + 1, none⟩ = some (.string nm) := ((HW.out _ HB.out).cell (p := ⟨b, o + k * 5 + 1, none⟩) hb).trans g1
      have e2 : wr.cell? ⟨b, o + k * 5 + 2, none⟩ = some (.slice xa xn xc) := ((HW.out _ HB.out).cell (p := ⟨b, o + k * 5 + 2, none⟩) hb).trans g2
      have e3 : wr.cell? ⟨b, o + k * 5 + 3, none⟩ = some (.slice ya yn yc) := ((HW.out _ HB.out).cell (p := ⟨b, o + k * 5 + 3, none⟩) hb).trans g3
      have e4 : wr.cell? ⟨b, o + k * 5 + 4, none⟩ = some (.bool my) := ((HW.out _ HB.out).cell (p := ⟨b, o + k * 5 + 4, none⟩) hb).trans g4
      clear g0 g1 g2 g3 g4 g5
      generalize hte : textT (parts k) = te at *
      have HTe := hide hte
      clear hte
      go_wp2_with fail
      go_at_call 24
      refine (hcal _ (HB.out.alloc HB.out.size _)).mono ?_
      rintro e w1 ⟨rfl, hb1⟩
      have hbw : Below wr.heap.size wr w1 := ((Below.refl _ wr).alloc (Nat.le_refl _) _).trans (hb1.mono (by simp))
      have HB1 : Hid (Below W.heap.size W w1) := HB.out.trans (hbw.mono HB.out.size)
      have HO1 := own_below HO.out hbw
      have hBa : Below w1.heap.size w1 (w1.alloc (.cells #[.string (strOf te)] 9)) := (Below.refl _ _).alloc (Nat.le_refl _) _
      have HN := hide (And.intro (own_below HO1 hBa) (And.intro (heap_alloc_new w1 (.cells #[.string (strOf te)] 9)) (And.intro (show W.heap.size ≤ (w1.alloc (.cells #[.string (strOf te)] 9)).heap.size from Nat.le_trans HB1.out.size hBa.size) (HB1.out.trans (hBa.mono HB1.out.size)))))
      clear hb1 HO1 hBa hbw hcal e0 e1 e2 e3 e4
      go_wp2_with (at_builtin; refine list_str _ _ rfl rfl W.heap.size u4 k (strs ((List.range k).map fun i => textT (parts i))) ?e1 ?e2 w1.heap.size (strOf te) ?e3 ?e4 (by omega) ?e5 ?_; (case e1 => rfl); (case e2 => exact HN.out.1); (case e3 => rfl); (case e4 => exact HN.out.2.1); (case e5 => exact HN.out.2.2.1); intro g cap w2 hown hgr; have HB2 : Hid (Below W.heap.size W w2) := HN.out.2.2.2.grown hgr HN.out.2.2.1 (fun i hi => (own_ge HN.out.1 i hi).1); have O1 := hide hown; clear hown hgr)
      go_roundw
      case rel =>
        refine ⟨k + 1, by omega, by go_num, HB2, ?_⟩
        have e : strs ((List.range (k + 1)).map fun i => textT (parts i)) = strs ((List.range k).map fun i => textT (parts i)) ++ [.string (strOf te)] := by unfold strs; rw [List.range_succ, List.map_append, List.map_append, ← HTe.out]; rfl
        show World.ownsRow _ _ _ _ _ _ _
        rw [e]
        exact O1.out
      case measure => simp [intOf]; omega
    · obtain rfl : k = l := by omega
      have hlt' : ¬ (k : Int) < k := by omega
      have hkk : (k : Int) < (k : Int) + 1 := by omega
      cases many with
      | false =>
        have hjn := fun w' (hw : Below W.heap.size W w') (ho : w'.ownsRow W.heap.size 9 1 u4 k (strs ((List.range k).map fun i => textT (parts i)))) => join_row ((List.range k).map fun i => textT (parts i)) W.heap.size u4 w' (by rw [List.length_map, List.length_range]; exact ho) (by rw [List.length_map, List.length_range]; omega) (by have := hjl; rw [HJ.out, if_neg (by decide), List.append_nil] at this; omega)
        have HJN := hide (hjn _ HB.out.drew HO.out)
        clear hjn
        have e : Lib.join ((List.range k).map fun i => textT (parts i)) [44] = jt := by rw [HJ.out, if_neg (by decide), List.append_nil]
        rw [e] at HJN
        have HBF := HB
        clear e
        go_wp2_with fail
        have hjn := HJN.out
        have hcl := HCL.out
        have HSb : Hid (∀ w', Below W.heap.size W w' → (fun w' => (∀ oo, w'.cell? ⟨w.heap.size, oo, none⟩ = (#[Value.int .i64 4, .string name, .slice na nn nc, .slice (some ⟨b, o, none⟩) (k + 1) pc, .bool false])[oo]?) ∧ w'.cell? ⟨b, o + k * 5, none⟩ = some c0 ∧ w'.cell? ⟨b, o + k * 5 + 1, none⟩ = some c1 ∧ w'.cell? ⟨b, o + k * 5 + 2, none⟩ = some c2 ∧ w'.cell? ⟨b, o + k * 5 + 3, none⟩ = some c3 ∧ w'.cell? ⟨b, o + k * 5 + 4, none⟩ = some c4) w') := fun w' hw => ⟨HXc.out w' hw, ((HW.out w' hw).cell (p := ⟨b, o + k * 5, none⟩) hb).trans HG.out.1, ((HW.out w' hw).cell (p := ⟨b, o + k * 5 + 1, none⟩) hb).trans HG.out.2.1, ((HW.out w' hw).cell (p := ⟨b, o + k * 5 + 2, none⟩) hb).trans HG.out.2.2.1, ((HW.out w' hw).cell (p := ⟨b, o + k * 5 + 3, none⟩) hb).trans HG.out.2.2.2.1, ((HW.out w' hw).cell (p := ⟨b, o + k * 5 + 4, none⟩) hb).trans HG.out.2.2.2.2⟩
        refine wp_region_held_drew (S := (fun w' => (∀ oo, w'.cell? ⟨w.heap.size, oo, none⟩ = (#[Value.int .i64 4, .string name, .slice na nn nc, .slice (some ⟨b, o, none⟩) (k + 1) pc, .bool false])[oo]?) ∧ w'.cell? ⟨b, o + k * 5, none⟩ = some c0 ∧ w'.cell? ⟨b, o + k * 5 + 1, none⟩ = some c1 ∧ w'.cell? ⟨b, o + k * 5 + 2, none⟩ = some c2 ∧ w'.cell? ⟨b, o + k * 5 + 3, none⟩ = some c3 ∧ w'.cell? ⟨b, o + k * 5 + 4, none⟩ = some c4)) (by kernel_rfl) (HSb.out _ HBF.out.drew) (fun hHeld => ?_)
        refine wpAnyH_take (i := 0) (v := ?_) rfl (by kernel_rfl) (by kernel_rfl) (by kernel_rfl) (fun _ _ _ h => h) (Or.inl ⟨by rfl, ?_⟩) (by assumption) ?_
        rotate_left
        · (intro w hSw; (try dsimp only at hSw); go_simp) <;> with_reducible rfl
        (simp only [Act.put, List.getElem_toArray, List.getElem_cons_zero, List.getElem_cons_succ, List.setIfInBounds_toArray, List.set_cons_zero, List.set_cons_succ])
        refine wpAnyH_take (i := 4) (v := ?_) rfl (by kernel_rfl) (by kernel_rfl) (by kernel_rfl) (fun _ _ _ h => h) (Or.inl ⟨by rfl, ?_⟩) (by assumption) ?_
        rotate_left
        · (intro w hSw; (try dsimp only at hSw); go_simp) <;> with_reducible rfl
        (simp only [Act.put, List.getElem_toArray, List.getElem_cons_zero, List.getElem_cons_succ, List.setIfInBounds_toArray, List.set_cons_zero, List.set_cons_succ])
        refine wpAnyH_take (i := 5) (v := ?_) rfl (by kernel_rfl) (by kernel_rfl) (by kernel_rfl) (fun _ _ _ h => h) (Or.inl ⟨by rfl, ?_⟩) (by assumption) ?_
        rotate_left
        · (intro w hSw; (try dsimp only at hSw); go_simp) <;> with_reducible rfl
        (simp only [Act.put, List.getElem_toArray, List.getElem_cons_zero, List.getElem_cons_succ, List.setIfInBounds_toArray, List.set_cons_zero, List.set_cons_succ])
        refine wpAnyH_take (i := 6) (v := ?_) rfl (by kernel_rfl) (by kernel_rfl) (by kernel_rfl) (fun _ _ _ h => h) (Or.inl ⟨by rfl, ?_⟩) (by assumption) ?_
        rotate_left
        · (intro w hSw; (try dsimp only at hSw); go_simp) <;> with_reducible rfl
        (simp only [Act.put, List.getElem_toArray, List.getElem_cons_zero, List.getElem_cons_succ, List.setIfInBounds_toArray, List.set_cons_zero, List.set_cons_succ])
        refine wpAnyH_take (i := 7) (v := ?_) rfl (by kernel_rfl) (by kernel_rfl) (by kernel_rfl) (fun _ _ _ h => h) (Or.inl ⟨by rfl, ?_⟩) (by assumption) ?_
        rotate_left
        · (intro w hSw; (try dsimp only at hSw); go_simp) <;> with_reducible rfl
        (simp only [Act.put, List.getElem_toArray, List.getElem_cons_zero, List.getElem_cons_succ, List.setIfInBounds_toArray, List.set_cons_zero, List.set_cons_succ])
        refine wpAnyH_take (i := 8) (v := ?_) rfl (by kernel_rfl) (by kernel_rfl) (by kernel_rfl) (fun _ _ _ h => h) (Or.inl ⟨by rfl, ?_⟩) (by assumption) ?_
        rotate_left
        · (intro w hSw; (try dsimp only at hSw); go_simp) <;> with_reducible rfl
        (simp only [Act.put, List.getElem_toArray, List.getElem_cons_zero, List.getElem_cons_succ, List.setIfInBounds_toArray, List.set_cons_zero, List.set_cons_succ])
        refine wpAnyH_ready (rs := [1]) (by kernel_rfl) (by simp) ?_
        refine AllReadyH.cons rfl (fun K hK => ?_) AllReadyH.nil
        go_simp
        refine hjn.mono ?_
        rintro e w5 ⟨rfl, hb5⟩
        have HB5 : Hid (Below W.heap.size W w5) := HBF.out.drew.trans (hb5.mono HBF.out.drew.size)
        refine hK.out _ _ (HSb.out _ HB5.out) (fun hHeld1 => ?_)
        clear hK K hb5
        (try (simp only [Act.put, List.getElem_toArray, List.getElem_cons_zero, List.getElem_cons_succ, List.setIfInBounds_toArray, List.set_cons_zero, List.set_cons_succ]))
        refine wpAnyH_take (i := 2) (v := ?_) rfl (by kernel_rfl) (by kernel_rfl) (by kernel_rfl) (fun _ _ _ h => h) (Or.inl ⟨by rfl, ?_⟩) (by assumption) ?_
        rotate_left
        · (intro w hSw; (try dsimp only at hSw); go_simp; rw [if_neg (by omega)]) <;> with_reducible rfl
        (simp only [Act.put, List.getElem_toArray, List.getElem_cons_zero, List.getElem_cons_succ, List.setIfInBounds_toArray, List.set_cons_zero, List.set_cons_succ])
        refine wpAnyH_take (i := 3) (v := ?_) rfl (by kernel_rfl) (by kernel_rfl) (by kernel_rfl) (fun _ _ _ h => h) (Or.inl ⟨by rfl, ?_⟩) (by assumption) ?_
        rotate_left
        · (intro w hSw; (try dsimp only at hSw); go_simp; rw [if_neg (by omega)]) <;> with_reducible rfl
        (simp only [Act.put, List.getElem_toArray, List.getElem_cons_zero, List.getElem_cons_succ, List.setIfInBounds_toArray, List.set_cons_zero, List.set_cons_succ])
        refine wpAnyH_ready (rs := [9]) (by kernel_rfl) (by simp) ?_
        refine AllReadyH.cons rfl (fun K hK => ?_) AllReadyH.nil
        go_simp
        refine (hcl _ HB5.out).mono ?_
        rintro e w6 ⟨rfl, hb6⟩
        have HB6 : Hid (Below W.heap.size W w6) := HB5.out.trans (hb6.mono HB5.out.size)
        refine hK.out _ _ (HSb.out _ HB6.out) (fun hHeld2 => ?_)
        clear hK K hb6
        (try (simp only [Act.put, List.getElem_toArray, List.getElem_cons_zero, List.getElem_cons_succ, List.setIfInBounds_toArray, List.set_cons_zero, List.set_cons_succ]))
        refine wpAnyH_take (i := 10) (v := ?_) rfl (by kernel_rfl) (by kernel_rfl) (by kernel_rfl) (fun _ _ _ h => h) (Or.inl ⟨by rfl, ?_⟩) (by assumption) ?_
        rotate_left
        · (intro w hSw; (try dsimp only at hSw); go_simp; rw [if_neg (by omega)]) <;> with_reducible rfl
        (simp only [Act.put, List.getElem_toArray, List.getElem_cons_zero, List.getElem_cons_succ, List.setIfInBounds_toArray, List.set_cons_zero, List.set_cons_succ])
        refine wpAnyH_take (i := 11) (v := ?_) rfl (by kernel_rfl) (by kernel_rfl) (by kernel_rfl) (fun _ _ _ h => h) (Or.inl ⟨by rfl, ?_⟩) (by assumption) ?_
        rotate_left
        · (intro w hSw; (try dsimp only at hSw); go_simp) <;> with_reducible rfl
        (simp only [Act.put, List.getElem_toArray, List.getElem_cons_zero, List.getElem_cons_succ, List.setIfInBounds_toArray, List.set_cons_zero, List.set_cons_succ])
        refine wpAnyH_done (by kernel_rfl) ?_ _
        go_wp2_with fail
        go_ret
        refine ⟨?_, HW.out _ HB6.out⟩
        rw [HE.out]
        exact congrArg (fun x => Ending.returned (Value.string x)) (bytes_inj (by rw [bytes_append, bytes_append, bytes_append, bytes_strOf, bytes_strOf, bytes_strOf, HJT.out]; simp only [List.append_assoc]; rfl))
      | true =>
        have hBa : Below wr.heap.size wr (wr.alloc (.cells #[.string ⟨#[46, 46, 46]⟩] 9)) := (Below.refl _ _).alloc (Nat.le_refl _) _
        have HN := hide (And.intro (own_below HO.out hBa) (And.intro (heap_alloc_new wr (.cells #[.string ⟨#[46, 46, 46]⟩] 9)) (And.intro (show W.heap.size ≤ (wr.alloc (.cells #[.string ⟨#[46, 46, 46]⟩] 9)).heap.size from Nat.le_trans HB.out.size hBa.size) (HB.out.trans (hBa.mono HB.out.size)))))
        clear hBa
        go_wp2_with (at_builtin; refine list_str _ _ rfl rfl W.heap.size u4 k (strs ((List.range k).map fun i => textT (parts i))) ?e1 ?e2 wr.heap.size ⟨#[46, 46, 46]⟩ ?e3 ?e4 (by omega) ?e5 ?_; (case e1 => rfl); (case e2 => exact HN.out.1); (case e3 => rfl); (case e4 => exact HN.out.2.1); (case e5 => exact HN.out.2.2.1); intro g cap w2 hown hgr; have HBF : Hid (Below W.heap.size W w2) := HN.out.2.2.2.grown hgr HN.out.2.2.1 (fun i hi => (own_ge HN.out.1 i hi).1); have O1 := hide hown; clear hown hgr)
        have hcl := HCL.out
        have e : Lib.join ((List.range k).map (fun i => textT (parts i)) ++ [[46, 46, 46]]) [44] = jt := by rw [HJ.out]; simp
        have hjn := join_row ((List.range k).map (fun i => textT (parts i)) ++ [[46, 46, 46]]) W.heap.size (.slice (some ⟨g, 0, none⟩) (k + 1) cap) w2.drew (by
          rw [List.length_append, List.length_map, List.length_range]
          have e2 : strs ((List.range k).map (fun i => textT (parts i)) ++ [[46, 46, 46]]) = strs ((List.range k).map fun i => textT (parts i)) ++ [.string ⟨#[46, 46, 46]⟩] := by unfold strs; rw [List.map_append]; rfl
          rw [e2]
          exact O1.out) (by rw [List.length_append, List.length_map, List.length_range]; show k + 1 ≤ 1000; omega) (by rw [e]; omega)
        rw [e] at hjn
        clear e
        have HSb : Hid (∀ w', Below W.heap.size W w' → (fun w' => (∀ oo, w'.cell? ⟨w.heap.size, oo, none⟩ = (#[Value.int .i64 4, .string name, .slice na nn nc, .slice (some ⟨b, o, none⟩) (k + 1) pc, .bool true])[oo]?) ∧ w'.cell? ⟨b, o + k * 5, none⟩ = some c0 ∧ w'.cell? ⟨b, o + k * 5 + 1, none⟩ = some c1 ∧ w'.cell? ⟨b, o + k * 5 + 2, none⟩ = some c2 ∧ w'.cell? ⟨b, o + k * 5 + 3, none⟩ = some c3 ∧ w'.cell? ⟨b, o + k * 5 + 4, none⟩ = some c4) w') := fun w' hw => ⟨HXc.out w' hw, ((HW.out w' hw).cell (p := ⟨b, o + k * 5, none⟩) hb).trans HG.out.1, ((HW.out w' hw).cell (p := ⟨b, o + k * 5 + 1, none⟩) hb).trans HG.out.2.1, ((HW.out w' hw).cell (p := ⟨b, o + k * 5 + 2, none⟩) hb).trans HG.out.2.2.1, ((HW.out w' hw).cell (p := ⟨b, o + k * 5 + 3, none⟩) hb).trans HG.out.2.2.2.1, ((HW.out w' hw).cell (p := ⟨b, o + k * 5 + 4, none⟩) hb).trans HG.out.2.2.2.2⟩
        refine wp_region_held_drew (S := (fun w' => (∀ oo, w'.cell? ⟨w.heap.size, oo, none⟩ = (#[Value.int .i64 4, .string name, .slice na nn nc, .slice (some ⟨b, o, none⟩) (k + 1) pc, .bool true])[oo]?) ∧ w'.cell? ⟨b, o + k * 5, none⟩ = some c0 ∧ w'.cell? ⟨b, o + k * 5 + 1, none⟩ = some c1 ∧ w'.cell? ⟨b, o + k * 5 + 2, none⟩ = some c2 ∧ w'.cell? ⟨b, o + k * 5 + 3, none⟩ = some c3 ∧ w'.cell? ⟨b, o + k * 5 + 4, none⟩ = some c4)) (by kernel_rfl) (HSb.out _ HBF.out.drew) (fun hHeld => ?_)
        refine wpAnyH_take (i := 0) (v := ?_) rfl (by kernel_rfl) (by kernel_rfl) (by kernel_rfl) (fun _ _ _ h => h) (Or.inl ⟨by rfl, ?_⟩) (by assumption) ?_
        rotate_left
        · (intro w hSw; (try dsimp only at hSw); go_simp) <;> with_reducible rfl
        (simp only [Act.put, List.getElem_toArray, List.getElem_cons_zero, List.getElem_cons_succ, List.setIfInBounds_toArray, List.set_cons_zero, List.set_cons_succ])
        refine wpAnyH_take (i := 4) (v := ?_) rfl (by kernel_rfl) (by kernel_rfl) (by kernel_rfl) (fun _ _ _ h => h) (Or.inl ⟨by rfl, ?_⟩) (by assumption) ?_
        rotate_left
        · (intro w hSw; (try dsimp only at hSw); go_simp) <;> with_reducible rfl
        (simp only [Act.put, List.getElem_toArray, List.getElem_cons_zero, List.getElem_cons_succ, List.setIfInBounds_toArray, List.set_cons_zero, List.set_cons_succ])
        refine wpAnyH_take (i := 5) (v := ?_) rfl (by kernel_rfl) (by kernel_rfl) (by kernel_rfl) (fun _ _ _ h => h) (Or.inl ⟨by rfl, ?_⟩) (by assumption) ?_
        rotate_left
        · (intro w hSw; (try dsimp only at hSw); go_simp) <;> with_reducible rfl
        (simp only [Act.put, List.getElem_toArray, List.getElem_cons_zero, List.getElem_cons_succ, List.setIfInBounds_toArray, List.set_cons_zero, List.set_cons_succ])
        refine wpAnyH_take (i := 6) (v := ?_) rfl (by kernel_rfl) (by kernel_rfl) (by kernel_rfl) (fun _ _ _ h => h) (Or.inl ⟨by rfl, ?_⟩) (by assumption) ?_
        rotate_left
        · (intro w hSw; (try dsimp only at hSw); go_simp) <;> with_reducible rfl
        (simp only [Act.put, List.getElem_toArray, List.getElem_cons_zero, List.getElem_cons_succ, List.setIfInBounds_toArray, List.set_cons_zero, List.set_cons_succ])
        refine wpAnyH_take (i := 7) (v := ?_) rfl (by kernel_rfl) (by kernel_rfl) (by kernel_rfl) (fun _ _ _ h => h) (Or.inl ⟨by rfl, ?_⟩) (by assumption) ?_
        rotate_left
        · (intro w hSw; (try dsimp only at hSw); go_simp) <;> with_reducible rfl
        (simp only [Act.put, List.getElem_toArray, List.getElem_cons_zero, List.getElem_cons_succ, List.setIfInBounds_toArray, List.set_cons_zero, List.set_cons_succ])
        refine wpAnyH_take (i := 8) (v := ?_) rfl (by kernel_rfl) (by kernel_rfl) (by kernel_rfl) (fun _ _ _ h => h) (Or.inl ⟨by rfl, ?_⟩) (by assumption) ?_
        rotate_left
        · (intro w hSw; (try dsimp only at hSw); go_simp) <;> with_reducible rfl
        (simp only [Act.put, List.getElem_toArray, List.getElem_cons_zero, List.getElem_cons_succ, List.setIfInBounds_toArray, List.set_cons_zero, List.set_cons_succ])
        refine wpAnyH_ready (rs := [1]) (by kernel_rfl) (by simp) ?_
        refine AllReadyH.cons rfl (fun K hK => ?_) AllReadyH.nil
        go_simp
        refine hjn.mono ?_
        rintro e w5 ⟨rfl, hb5⟩
        have HB5 : Hid (Below W.heap.size W w5) := HBF.out.drew.trans (hb5.mono HBF.out.drew.size)
        refine hK.out _ _ (HSb.out _ HB5.out) (fun hHeld1 => ?_)
        clear hK K hb5
        (try (simp only [Act.put, List.getElem_toArray, List.getElem_cons_zero, List.getElem_cons_succ, List.setIfInBounds_toArray, List.set_cons_zero, List.set_cons_succ]))
        refine wpAnyH_take (i := 2) (v := ?_) rfl (by kernel_rfl) (by kernel_rfl) (by kernel_rfl) (fun _ _ _ h => h) (Or.inl ⟨by rfl, ?_⟩) (by assumption) ?_
        rotate_left
        · (intro w hSw; (try dsimp only at hSw); go_simp; rw [if_neg (by omega)]) <;> with_reducible rfl
        (simp only [Act.put, List.getElem_toArray, List.getElem_cons_zero, List.getElem_cons_succ, List.setIfInBounds_toArray, List.set_cons_zero, List.set_cons_succ])
        refine wpAnyH_take (i := 3) (v := ?_) rfl (by kernel_rfl) (by kernel_rfl) (by kernel_rfl) (fun _ _ _ h => h) (Or.inl ⟨by rfl, ?_⟩) (by assumption) ?_
        rotate_left
        · (intro w hSw; (try dsimp only at hSw); go_simp; rw [if_neg (by omega)]) <;> with_reducible rfl
        (simp only [Act.put, List.getElem_toArray, List.getElem_cons_zero, List.getElem_cons_succ, List.setIfInBounds_toArray, List.set_cons_zero, List.set_cons_succ])
        refine wpAnyH_ready (rs := [9]) (by kernel_rfl) (by simp) ?_
        refine AllReadyH.cons rfl (fun K hK => ?_) AllReadyH.nil
        go_simp
        refine (hcl _ HB5.out).mono ?_
        rintro e w6 ⟨rfl, hb6⟩
        have HB6 : Hid (Below W.heap.size W w6) := HB5.out.trans (hb6.mono HB5.out.size)
        refine hK.out _ _ (HSb.out _ HB6.out) (fun hHeld2 => ?_)
        clear hK K hb6
        (try (simp only [Act.put, List.getElem_toArray, List.getElem_cons_zero, List.getElem_cons_succ, List.setIfInBounds_toArray, List.set_cons_zero, List.set_cons_succ]))
        refine wpAnyH_take (i := 10) (v := ?_) rfl (by kernel_rfl) (by kernel_rfl) (by kernel_rfl) (fun _ _ _ h => h) (Or.inl ⟨by rfl, ?_⟩) (by assumption) ?_
        rotate_left
        · (intro w hSw; (try dsimp only at hSw); go_simp; rw [if_neg (by omega)]) <;> with_reducible rfl
        (simp only [Act.put, List.getElem_toArray, List.getElem_cons_zero, List.getElem_cons_succ, List.setIfInBounds_toArray, List.set_cons_zero, List.set_cons_succ])
        refine wpAnyH_take (i := 11) (v := ?_) rfl (by kernel_rfl) (by kernel_rfl) (by kernel_rfl) (fun _ _ _ h => h) (Or.inl ⟨by rfl, ?_⟩) (by assumption) ?_
        rotate_left
        · (intro w hSw; (try dsimp only at hSw); go_simp) <;> with_reducible rfl
        (simp only [Act.put, List.getElem_toArray, List.getElem_cons_zero, List.getElem_cons_succ, List.setIfInBounds_toArray, List.set_cons_zero, List.set_cons_succ])
        refine wpAnyH_done (by kernel_rfl) ?_ _
        go_wp2_with fail
        go_ret
        refine ⟨?_, HW.out _ HB6.out⟩
        rw [HE.out]
        exact congrArg (fun x => Ending.returned (Value.string x)) (bytes_inj (by rw [bytes_append, bytes_append, bytes_append, bytes_strOf, bytes_strOf, bytes_strOf, HJT.out]; simp only [List.append_assoc]; rfl))
end Go.Proofs.Ytakijacfadpmoaa.T
