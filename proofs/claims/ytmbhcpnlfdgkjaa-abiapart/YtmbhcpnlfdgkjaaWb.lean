/- The contract of the reference's words. -/
import Derived.Test.YtmbhcpnlfdgkjaaMay
import Derived.Test.YtmbhcpnlfdgkjaaWa
import Derived.Deep.AppendLies
namespace Go.Proofs.Ytmbhcpnlfdgkjaa.T
open Go.RowKit
set_option linter.unusedVariables false
set_option linter.unusedSimpArgs false
theorem own_below {w w' : World} {ob : Nat} {e : TypeId} {z : Nat} {v : Value} {n : Nat} {xs : List Value} (h : w.ownsRow ob e z v n xs) (hb : Below w.heap.size w w') : w'.ownsRow ob e z v n xs := by
  refine ⟨h.1, ?_⟩
  rcases h.2 with h2 | ⟨g, cap, cur, hv, hg, hh, r⟩
  · exact Or.inl h2
  · exact Or.inr ⟨g, cap, cur, hv, hg, (hb.block g (Array.getElem?_eq_some_iff.1 hh).1).trans hh, r⟩
theorem own_ge {w : World} {ob : Nat} {e : TypeId} {z : Nat} {v : Value} {n : Nat} {xs : List Value} (h : w.ownsRow ob e z v n xs) (k : Nat) (hk : v.ownBlock = some k) : ob ≤ k ∧ k < w.heap.size := h.lt k hk
theorem own_base {w : World} {ob ob' : Nat} {e : TypeId} {z : Nat} {v : Value} {n : Nat} {xs : List Value} (h : w.ownsRow ob e z v n xs) (hb : ob' ≤ ob) : w.ownsRow ob' e z v n xs := by
  refine ⟨h.1, ?_⟩
  rcases h.2 with h2 | ⟨g, cap, cur, hv, hg, r⟩
  · exact Or.inl h2
  · exact Or.inr ⟨g, cap, cur, hv, Nat.le_trans hb hg, r⟩
theorem info_parts {P : Program} {e : TypeId} {z : Value} {n m : Nat} (h : (P.info? e).map (fun i => (i.zero, i.size, i.bytes)) = some (some z, n, m)) : ∃ i, P.info? e = some i ∧ i.zero = some z ∧ i.size = n ∧ i.bytes = m := by
  cases hi : P.info? e with
  | none => rw [hi] at h; cases h
  | some i =>
    rw [hi] at h
    simp at h
    exact ⟨i, rfl, h.1, h.2.1, h.2.2⟩
def locV (L : List Lo) : List Value := L.flatMap fun l => [.bool l.1, .int .i64 l.2]
theorem locV_snoc (L : List Lo) (l : Lo) : locV (L ++ [l]) = locV L ++ [.bool l.1, .int .i64 l.2] := by simp [locV]
theorem locV_append (L K : List Lo) : locV (L ++ K) = locV L ++ locV K := by simp [locV]
theorem locV_len : ∀ L : List Lo, (locV L).length = L.length * 2
  | [] => rfl
  | l :: L => by have := locV_len L; simp only [locV, List.flatMap_cons, List.length_append, List.length_cons, List.length_nil] at *; omega
theorem locV_at : ∀ (L : List Lo) (j : Nat) (h : j < L.length), (locV L)[j * 2]? = some (.bool L[j].1) ∧ (locV L)[j * 2 + 1]? = some (.int .i64 L[j].2)
  | l :: L, 0, _ => ⟨rfl, rfl⟩
  | l :: L, j + 1, h => by
    have := locV_at L j (by simpa using h)
    have e : locV (l :: L) = .bool l.1 :: .int .i64 l.2 :: locV L := rfl
    rw [e, show (j + 1) * 2 = j * 2 + 2 by omega, show j * 2 + 2 + 1 = (j * 2 + 1) + 2 by omega]
    simpa using this
theorem info39 : (Try.prog.info? 39).map (fun i => (i.zero, i.size, i.bytes)) = some (some (.agg #[.bool false, .int .i64 0]), 2, 16) := by kernel_rfl
/-- What is owned as a row of places is read as one. -/
theorem locs_of_own {w : World} {ob : Nat} {v : Value} {L : List Lo} (h : w.ownsRow ob 39 2 v L.length (locV L)) : Locs w v L := by
  rcases h.2 with ⟨hv, h0⟩ | ⟨g, cap, cur, rfl, hg, hh, _, _, hs, ht⟩
  · have h1 := h0
    subst hv
    have : L.length = 0 := by first | exact h0 | (rw [h0] at h; simp at h; omega) | omega
    exact ⟨none, 0, by rw [this], fun h => by omega⟩
  · refine ⟨_, cap, rfl, fun _ => ⟨g, 0, rfl, (Array.getElem?_eq_some_iff.1 hh).1, fun j hj => ?_⟩⟩
    have hz := locV_len L
    have key : ∀ i, i < L.length * 2 → w.cell? ⟨g, 0 + i, none⟩ = (locV L)[i]? := fun i hi => by
      rw [← ht, List.getElem?_take_of_lt (by omega), Array.getElem?_toList]
      simp [World.cell?, hh]
    have := locV_at L j hj
    exact ⟨(key _ (by omega)).trans this.1, (key (j * 2 + 1) (by omega)).trans this.2⟩
theorem list_loc {w : World} {ops : Array Oper} {rest : List Oper} {o : Oper} {a : Act} {Q : Exit → Act → World → Prop} (p q : Operand) (hgd : o.guard = none)
    (ho : o.op = .call { callee := .builtin .append, args := #[p, q], argTypes := #[36, 36] })
    (ob : Nat) (v : Value) (n : Nat) (L : List Lo) (hs : a.eval p = v) (hown : w.ownsRow ob 39 2 v n (locV L))
    (B : Nat) (s : Bool) (x : Nat) (hx : a.eval q = .slice (some ⟨B, 0, none⟩) 1 1) (hB : w.heap[B]? = some (.cells #[.bool s, .int .i64 x] 39 (0, 0)))
    (hn : n ≤ 16000) (hob : ob ≤ w.heap.size)
    (h : ∀ g cap w', w'.ownsRow ob 39 2 (.slice (some ⟨g, 0, none⟩) (n + 1) cap) (n + 1) (locV (L ++ [(s, x)])) → w.grownBy w' v.ownBlock → wpList Try.prog ops Q rest (a.put o.dst (.slice (some ⟨g, 0, none⟩) (n + 1) cap)) w') :
    wpList Try.prog ops Q (o :: rest) a w := by
  obtain ⟨i0, hi, hz0, hz1, hz2⟩ := info_parts info39
  refine wpList_append_lies w hgd p q 36 ho ob 39 i0 _ 2 16 Try.underlying36 hi hz0 hz1 hz2 rfl (by decide) v n (locV L) hs hown ⟨B, 0, none⟩ 1 1 [.bool s, .int .i64 x] hx rfl (World.news_of_block hB) ?_ (by decide) (by unfold maxLen; omega) (by omega) hob w.heap.size rfl ?_
  · intro u hu; simp at hu; rcases hu with rfl | rfl <;> rfl
  · intro g cap w' h1 h2 _ _
    exact h g cap w' (by rw [locV_snoc]; exact h1) h2
theorem Had.free {L : List Lo} {r p a : Nat} (h : Had L r p) (ha : r ≤ a) (h4 : a < 4) : freeB L a = true := by
  unfold freeB
  rw [Bool.and_eq_true, Bool.not_eq_true', List.any_eq_false]
  refine ⟨fun l hl => ?_, by simpa using h4⟩
  cases e : l.1
  · have := h.regs l hl e; simp; omega
  · have := (h.stk l hl e).2; omega
set_option maxRecDepth 100000 in
set_option maxHeartbeats 2000000 in
/-- The loop of words, from what r and p are then. -/
theorem words_at (v : Value) (had : List Lo) (n : Nat) (even long : Bool) (r p : Nat) (w : World) (hL : Locs w v had) (hH : Had had r p) (hl : had.length ≤ 200) (hp : p ≤ 500) (hn : n ≤ 100) (hel : long = true → even = true) :
    Calls Try.prog 20 #[v, .int .i64 n, .bool even, .bool long] w fun e w' => ∃ l, e = .returned l ∧ w'.ownsRow w.heap.size 39 2 l n (locV (wordsL had n even long)) ∧ Below w.heap.size w w' := by
  have HS : ∀ l, l ∈ had → l.2 ≤ 1000 := fun l hl => by have := hH.small l hl; omega
  have C1 := hide (reg_from v had w hL (by omega) HS)
  have C2 := hide (place_from v had w hL (by omega) HS)
  have CF : Hid (∀ a w', Below w.heap.size w w' → r ≤ a → a < 4 → Calls Try.prog 30 #[v, .int .i64 a] w' fun e w2 => e = .returned (.bool true) ∧ w2 = w') := fun a w' hb ha h4 => free_any v had a w' (by obtain ⟨x, c, rfl, H⟩ := hL; exact ⟨x, c, rfl, fun h0 => by obtain ⟨g, o, e1, e2, e3⟩ := H h0; exact ⟨g, o, e1, Nat.lt_of_lt_of_le e2 hb.size, fun j hj => ⟨(hb.cell (p := ⟨g, o + j * 2, none⟩) e2).trans (e3 j hj).1, (hb.cell (p := ⟨g, o + j * 2 + 1, none⟩) e2).trans (e3 j hj).2⟩⟩⟩) (by omega) (by omega) (hH.free ha h4) HS
  rw [hH.reg] at C1
  rw [hH.pl] at C2
  have h4 := hH.le
  obtain ⟨W, HWW⟩ : ∃ W, Hid (W = wordsL had n even long) := ⟨_, rfl⟩
  obtain ⟨A, hA⟩ : ∃ A, r2N r even long = A := ⟨_, rfl⟩
  obtain ⟨B, hB⟩ : ∃ B, p3N r p even long = B := ⟨_, rfl⟩
  have HW2 : Hid (W = lay A B n) := by rw [HWW.out]; unfold wordsL; rw [hH.reg, hH.pl, hA, hB]; rfl
  have hrA : r ≤ A := hA ▸ r2_ge h4 _ _
  have hA4 : A ≤ 4 := hA ▸ r2_le h4 _ _
  have hBs : B ≤ 503 := by have := p3_le r p even long; omega
  rw [← HWW.out]
  obtain ⟨va, vc, rfl, -⟩ := hL
  clear HWW hH HS
  cases even
  · cases long
    rotate_left
    · exact absurd (hel rfl) (by simp)
    have hA' : A = r := by rw [← hA]; simp [r2N, r1N]
    have hB' : B = p := by rw [← hB]; simp [p3N, p2N, p1N]
    subst hA' hB'
    clear hA hB
    go_enter Try.func20, Try.ntmps20
    go_wp2_with fail
    go_at_call 29
    refine C1.out.mono ?_
    rintro e w1 ⟨rfl, rfl⟩
    go_wp2_with fail
    go_at_call 21
    refine C2.out.mono ?_
    rintro e w2 ⟨rfl, rfl⟩
    go_wp2_with fail
    go_loopw [9, 10, 11, 12] (fun l rr pp i wr => ∃ k : Nat, k ≤ n ∧ ((k = 0 ∧ l = .slice none 0 0) ∨ (0 < k ∧ ∃ g c, l = .slice (some ⟨g, 0, none⟩) k c)) ∧ rr = .int .i64 (adv A B k).1 ∧ pp = .int .i64 (adv A B k).2 ∧ i = .int .i64 k ∧ Hid (Below w2.heap.size w2 wr) ∧ Hid (wr.ownsRow w2.heap.size 39 2 l k (locV (lay A B k)))) (fun _ _ _ i _ => n - (intOf i).toNat)
    case atStart => exact ⟨0, Nat.zero_le _, Or.inl ⟨rfl, rfl⟩, rfl, rfl, rfl, Below.refl _ _, rfl, Or.inl ⟨rfl, rfl⟩⟩
    case round =>
      obtain ⟨k, hk, hsh, rfl, rfl, rfl, HB, HO⟩ := hrel
      by_cases hlt : k < n
      · have hlt' : (k : Int) < n := by omega
        have HE : Hid (lay A B (k + 1) = lay A B k ++ [if (adv A B k).1 < 4 then (false, (adv A B k).1) else (true, (adv A B k).2)]) := rfl
        have HF : Hid (adv A B (k + 1) = if (adv A B k).1 < 4 then ((adv A B k).1 + 1, (adv A B k).2) else ((adv A B k).1, (adv A B k).2 + 1)) := rfl
        obtain ⟨b1, b2, b3, b4, b5⟩ := adv_bounds A B k
        generalize lay A B k = L at *
        generalize adv A B k = S at *
        obtain ⟨x, y⟩ := S
        simp only at b1 b2 b3 b4 b5 HE HF
        by_cases hx : x < 4
        · have hx' : (x : Int) < 4 := by omega
          replace HE : Hid (lay A B (k + 1) = L ++ [(false, x)]) := HE.out.trans (by simp [hx])
          replace HF : Hid (adv A B (k + 1) = (x + 1, y)) := HF.out.trans (by simp [hx])
          have HN := hide (And.intro (own_below HO.out ((Below.refl _ _).alloc (Nat.le_refl _) (.cells #[.bool false, .int .i64 x] 39))) (And.intro (heap_alloc_new wr (.cells #[.bool false, .int .i64 x] 39)) (And.intro (show w2.heap.size ≤ (wr.alloc (.cells #[.bool false, .int .i64 x] 39)).heap.size from Nat.le_trans HB.out.size ((Below.refl wr.heap.size wr).alloc (Nat.le_refl _) (.cells #[.bool false, .int .i64 x] 39)).size) (HB.out.trans (((Below.refl wr.heap.size wr).alloc (Nat.le_refl _) (.cells #[.bool false, .int .i64 x] 39)).mono HB.out.size)))))
          rcases hsh with ⟨rfl, rfl⟩ | ⟨hk0, lg, lc, rfl⟩
          · skip
            have CF' := CF.out x wr HB.out (by omega) hx
            go_wp2_with fail
            go_at_call 30
            refine CF'.mono ?_
            rintro e w3 ⟨rfl, rfl⟩
            go_wp2_with (at_builtin; refine list_loc _ _ rfl rfl w2.heap.size (.slice none 0 0) 0 L ?e1 ?e2 w3.heap.size false x ?e3 ?e4 (by omega) ?e5 ?_; (case e1 => rfl); (case e2 => exact HN.out.1); (case e3 => rfl); (case e4 => exact HN.out.2.1); (case e5 => exact HN.out.2.2.1); intro g cap w5 hown hgr; have HB2 : Hid (Below w2.heap.size w2 w5) := HN.out.2.2.2.grown hgr HN.out.2.2.1 (fun i hi => (own_ge HN.out.1 i hi).1); have O1 := hide hown; clear hown hgr)
            go_roundw
            case rel => exact ⟨0 + 1, by omega, Or.inr ⟨by omega, _, _, rfl⟩, by rw [HF.out]; (try go_num), by rw [HF.out]; (try go_num), by go_num, HB2, by rw [HE.out]; exact O1⟩
            case measure => simp [intOf]; omega
          · have hk' : (0 : Int) < k := by omega
            go_wp2_with (at_builtin; refine list_loc _ _ rfl rfl w2.heap.size (.slice (some ⟨lg, 0, none⟩) k lc) k L ?e1 ?e2 wr.heap.size false x ?e3 ?e4 (by omega) ?e5 ?_; (case e1 => rfl); (case e2 => exact HN.out.1); (case e3 => rfl); (case e4 => exact HN.out.2.1); (case e5 => exact HN.out.2.2.1); intro g cap w5 hown hgr; have HB2 : Hid (Below w2.heap.size w2 w5) := HN.out.2.2.2.grown hgr HN.out.2.2.1 (fun i hi => (own_ge HN.out.1 i hi).1); have O1 := hide hown; clear hown hgr)
            go_roundw
            case rel => exact ⟨k + 1, by omega, Or.inr ⟨by omega, _, _, rfl⟩, by rw [HF.out]; (try go_num), by rw [HF.out]; (try go_num), by go_num, HB2, by rw [HE.out]; exact O1⟩
            case measure => simp [intOf]; omega
        · have hx' : ¬ (x : Int) < 4 := by omega
          replace HE : Hid (lay A B (k + 1) = L ++ [(true, y)]) := HE.out.trans (by simp [hx])
          replace HF : Hid (adv A B (k + 1) = (x, y + 1)) := HF.out.trans (by simp [hx])
          have HN := hide (And.intro (own_below HO.out ((Below.refl _ _).alloc (Nat.le_refl _) (.cells #[.bool true, .int .i64 y] 39))) (And.intro (heap_alloc_new wr (.cells #[.bool true, .int .i64 y] 39)) (And.intro (show w2.heap.size ≤ (wr.alloc (.cells #[.bool true, .int .i64 y] 39)).heap.size from Nat.le_trans HB.out.size ((Below.refl wr.heap.size wr).alloc (Nat.le_refl _) (.cells #[.bool true, .int .i64 y] 39)).size) (HB.out.trans (((Below.refl wr.heap.size wr).alloc (Nat.le_refl _) (.cells #[.bool true, .int .i64 y] 39)).mono HB.out.size)))))
          go_wp2_with (at_builtin; refine list_loc _ _ rfl rfl w2.heap.size u9 k L ?e1 ?e2 wr.heap.size true y ?e3 ?e4 (by omega) ?e5 ?_; (case e1 => rfl); (case e2 => exact HN.out.1); (case e3 => rfl); (case e4 => exact HN.out.2.1); (case e5 => exact HN.out.2.2.1); intro g cap w5 hown hgr; have HB2 : Hid (Below w2.heap.size w2 w5) := HN.out.2.2.2.grown hgr HN.out.2.2.1 (fun i hi => (own_ge HN.out.1 i hi).1); have O1 := hide hown; clear hown hgr)
          go_roundw
          case rel => exact ⟨k + 1, by omega, Or.inr ⟨by omega, _, _, rfl⟩, by rw [HF.out]; (try go_num), by rw [HF.out]; (try go_num), by go_num, HB2, by rw [HE.out]; exact O1⟩
          case measure => simp [intOf]; omega
      · obtain rfl : n = k := by omega
        have hlt' : ¬ (n : Int) < n := by omega
        go_wp2_with fail
        go_ret
        exact ⟨_, rfl, by rw [HW2.out]; exact HO.out, HB.out⟩
  have h5 : r = 0 ∨ r = 1 ∨ r = 2 ∨ r = 3 ∨ r = 4 := by omega
  have U0 : Hid (Calls Try.prog 22 #[.int .i64 ((0 : Nat) : Int)] w fun e w' => e = .returned (.int .i64 ((0 : Nat) : Int)) ∧ w = w') := (up_any 0 w (by omega)).mono fun _ _ h => ⟨h.1, h.2.symm⟩
  have U1 : Hid (Calls Try.prog 22 #[.int .i64 ((1 : Nat) : Int)] w fun e w' => e = .returned (.int .i64 ((2 : Nat) : Int)) ∧ w = w') := (up_any 1 w (by omega)).mono fun _ _ h => ⟨h.1, h.2.symm⟩
  have U2 : Hid (Calls Try.prog 22 #[.int .i64 ((2 : Nat) : Int)] w fun e w' => e = .returned (.int .i64 ((2 : Nat) : Int)) ∧ w = w') := (up_any 2 w (by omega)).mono fun _ _ h => ⟨h.1, h.2.symm⟩
  have U3 : Hid (Calls Try.prog 22 #[.int .i64 ((3 : Nat) : Int)] w fun e w' => e = .returned (.int .i64 ((4 : Nat) : Int)) ∧ w = w') := (up_any 3 w (by omega)).mono fun _ _ h => ⟨h.1, h.2.symm⟩
  have P1 : Hid (Calls Try.prog 22 #[.int .i64 p] w fun e w' => e = .returned (.int .i64 (upN p)) ∧ w = w') := (up_any p w (by omega)).mono fun _ _ h => ⟨h.1, h.2.symm⟩
  have P2 : Hid (Calls Try.prog 22 #[.int .i64 (upN p)] w fun e w' => e = .returned (.int .i64 (upN (upN p))) ∧ w = w') := (up_any (upN p) w (by have := up_le p; omega)).mono fun _ _ h => ⟨h.1, h.2.symm⟩
  replace C1 : Hid (Calls Try.prog 29 #[.slice va had.length vc] w fun e w' => e = .returned (.int .i64 r) ∧ w = w') := C1.out.mono fun _ _ h => ⟨h.1, h.2.symm⟩
  replace C2 : Hid (Calls Try.prog 21 #[.slice va had.length vc] w fun e w' => e = .returned (.int .i64 p) ∧ w = w') := C2.out.mono fun _ _ h => ⟨h.1, h.2.symm⟩
  clear hel
  cases long <;> rcases h5 with rfl | rfl | rfl | rfl | rfl
  focus
    have HAe : Hid (A = 0) := by rw [← hA]; rfl
    have HBe : Hid (B = p) := by rw [← hB]; rfl
    clear hA hB
    go_enter Try.func20, Try.ntmps20
    go_wp2_with fail
    go_at_call 29
    refine C1.out.mono ?_
    rintro e w0 ⟨rfl, hw0⟩
    obtain rfl := hw0
    go_wp2_with fail
    go_at_call 21
    refine C2.out.mono ?_
    rintro e w0 ⟨rfl, hw0⟩
    obtain rfl := hw0
    go_wp2_with fail
    go_at_call 22
    refine U0.out.mono ?_
    rintro e w0 ⟨rfl, hw0⟩
    obtain rfl := hw0
    go_wp2_with fail
  rotate_left
  focus
    have HAe : Hid (A = 2) := by rw [← hA]; rfl
    have HBe : Hid (B = p) := by rw [← hB]; rfl
    clear hA hB
    go_enter Try.func20, Try.ntmps20
    go_wp2_with fail
    go_at_call 29
    refine C1.out.mono ?_
    rintro e w0 ⟨rfl, hw0⟩
    obtain rfl := hw0
    go_wp2_with fail
    go_at_call 21
    refine C2.out.mono ?_
    rintro e w0 ⟨rfl, hw0⟩
    obtain rfl := hw0
    go_wp2_with fail
    go_at_call 22
    refine U1.out.mono ?_
    rintro e w0 ⟨rfl, hw0⟩
    obtain rfl := hw0
    go_wp2_with fail
  rotate_left
  focus
    have HAe : Hid (A = 2) := by rw [← hA]; rfl
    have HBe : Hid (B = p) := by rw [← hB]; rfl
    clear hA hB
    go_enter Try.func20, Try.ntmps20
    go_wp2_with fail
    go_at_call 29
    refine C1.out.mono ?_
    rintro e w0 ⟨rfl, hw0⟩
    obtain rfl := hw0
    go_wp2_with fail
    go_at_call 21
    refine C2.out.mono ?_
    rintro e w0 ⟨rfl, hw0⟩
    obtain rfl := hw0
    go_wp2_with fail
    go_at_call 22
    refine U2.out.mono ?_
    rintro e w0 ⟨rfl, hw0⟩
    obtain rfl := hw0
    go_wp2_with fail
  rotate_left
  focus
    have HAe : Hid (A = 4) := by rw [← hA]; rfl
    have HBe : Hid (B = upN p) := by rw [← hB]; rfl
    clear hA hB
    go_enter Try.func20, Try.ntmps20
    go_wp2_with fail
    go_at_call 29
    refine C1.out.mono ?_
    rintro e w0 ⟨rfl, hw0⟩
    obtain rfl := hw0
    go_wp2_with fail
    go_at_call 21
    refine C2.out.mono ?_
    rintro e w0 ⟨rfl, hw0⟩
    obtain rfl := hw0
    go_wp2_with fail
    go_at_call 22
    refine U3.out.mono ?_
    rintro e w0 ⟨rfl, hw0⟩
    obtain rfl := hw0
    go_wp2_with fail
    go_at_call 22
    refine P1.out.mono ?_
    rintro e w0 ⟨rfl, hw0⟩
    obtain rfl := hw0
    go_wp2_with fail
  rotate_left
  focus
    have HAe : Hid (A = 4) := by rw [← hA]; rfl
    have HBe : Hid (B = upN (upN p)) := by rw [← hB]; rfl
    clear hA hB
    go_enter Try.func20, Try.ntmps20
    go_wp2_with fail
    go_at_call 29
    refine C1.out.mono ?_
    rintro e w0 ⟨rfl, hw0⟩
    obtain rfl := hw0
    go_wp2_with fail
    go_at_call 21
    refine C2.out.mono ?_
    rintro e w0 ⟨rfl, hw0⟩
    obtain rfl := hw0
    go_wp2_with fail
    go_at_call 22
    refine P1.out.mono ?_
    rintro e w0 ⟨rfl, hw0⟩
    obtain rfl := hw0
    go_wp2_with fail
    go_at_call 22
    refine P2.out.mono ?_
    rintro e w0 ⟨rfl, hw0⟩
    obtain rfl := hw0
    go_wp2_with fail
  rotate_left
  focus
    have HAe : Hid (A = 0) := by rw [← hA]; rfl
    have HBe : Hid (B = p) := by rw [← hB]; rfl
    clear hA hB
    go_enter Try.func20, Try.ntmps20
    go_wp2_with fail
    go_at_call 29
    refine C1.out.mono ?_
    rintro e w0 ⟨rfl, hw0⟩
    obtain rfl := hw0
    go_wp2_with fail
    go_at_call 21
    refine C2.out.mono ?_
    rintro e w0 ⟨rfl, hw0⟩
    obtain rfl := hw0
    go_wp2_with fail
    go_at_call 22
    refine U0.out.mono ?_
    rintro e w0 ⟨rfl, hw0⟩
    obtain rfl := hw0
    go_wp2_with fail
  rotate_left
  focus
    have HAe : Hid (A = 2) := by rw [← hA]; rfl
    have HBe : Hid (B = p) := by rw [← hB]; rfl
    clear hA hB
    go_enter Try.func20, Try.ntmps20
    go_wp2_with fail
    go_at_call 29
    refine C1.out.mono ?_
    rintro e w0 ⟨rfl, hw0⟩
    obtain rfl := hw0
    go_wp2_with fail
    go_at_call 21
    refine C2.out.mono ?_
    rintro e w0 ⟨rfl, hw0⟩
    obtain rfl := hw0
    go_wp2_with fail
    go_at_call 22
    refine U1.out.mono ?_
    rintro e w0 ⟨rfl, hw0⟩
    obtain rfl := hw0
    go_wp2_with fail
  rotate_left
  focus
    have HAe : Hid (A = 2) := by rw [← hA]; rfl
    have HBe : Hid (B = p) := by rw [← hB]; rfl
    clear hA hB
    go_enter Try.func20, Try.ntmps20
    go_wp2_with fail
    go_at_call 29
    refine C1.out.mono ?_
    rintro e w0 ⟨rfl, hw0⟩
    obtain rfl := hw0
    go_wp2_with fail
    go_at_call 21
    refine C2.out.mono ?_
    rintro e w0 ⟨rfl, hw0⟩
    obtain rfl := hw0
    go_wp2_with fail
    go_at_call 22
    refine U2.out.mono ?_
    rintro e w0 ⟨rfl, hw0⟩
    obtain rfl := hw0
    go_wp2_with fail
  rotate_left
  focus
    have HAe : Hid (A = 4) := by rw [← hA]; rfl
    have HBe : Hid (B = upN p) := by rw [← hB]; rfl
    clear hA hB
    go_enter Try.func20, Try.ntmps20
    go_wp2_with fail
    go_at_call 29
    refine C1.out.mono ?_
    rintro e w0 ⟨rfl, hw0⟩
    obtain rfl := hw0
    go_wp2_with fail
    go_at_call 21
    refine C2.out.mono ?_
    rintro e w0 ⟨rfl, hw0⟩
    obtain rfl := hw0
    go_wp2_with fail
    go_at_call 22
    refine U3.out.mono ?_
    rintro e w0 ⟨rfl, hw0⟩
    obtain rfl := hw0
    go_wp2_with fail
    go_at_call 22
    refine P1.out.mono ?_
    rintro e w0 ⟨rfl, hw0⟩
    obtain rfl := hw0
    go_wp2_with fail
  rotate_left
  focus
    have HAe : Hid (A = 4) := by rw [← hA]; rfl
    have HBe : Hid (B = upN (upN p)) := by rw [← hB]; rfl
    clear hA hB
    go_enter Try.func20, Try.ntmps20
    go_wp2_with fail
    go_at_call 29
    refine C1.out.mono ?_
    rintro e w0 ⟨rfl, hw0⟩
    obtain rfl := hw0
    go_wp2_with fail
    go_at_call 21
    refine C2.out.mono ?_
    rintro e w0 ⟨rfl, hw0⟩
    obtain rfl := hw0
    go_wp2_with fail
    go_at_call 22
    refine P1.out.mono ?_
    rintro e w0 ⟨rfl, hw0⟩
    obtain rfl := hw0
    go_wp2_with fail
    go_at_call 22
    refine P2.out.mono ?_
    rintro e w0 ⟨rfl, hw0⟩
    obtain rfl := hw0
    go_wp2_with fail
  rotate_left
  all_goals clear C1 C2 U0 U1 U2 U3 P1 P2
  all_goals
    go_loopw [9, 10, 11, 12] (fun l rr pp i wr => ∃ k : Nat, k ≤ n ∧ ((k = 0 ∧ l = .slice none 0 0) ∨ (0 < k ∧ ∃ g c, l = .slice (some ⟨g, 0, none⟩) k c)) ∧ rr = .int .i64 (adv A B k).1 ∧ pp = .int .i64 (adv A B k).2 ∧ i = .int .i64 k ∧ Hid (Below w.heap.size w wr) ∧ Hid (wr.ownsRow w.heap.size 39 2 l k (locV (lay A B k)))) (fun _ _ _ i _ => n - (intOf i).toNat)
    case atStart => exact ⟨0, Nat.zero_le _, Or.inl ⟨rfl, rfl⟩, by rw [HAe.out]; rfl, by rw [HBe.out]; rfl, rfl, Below.refl _ _, rfl, Or.inl ⟨rfl, rfl⟩⟩
    case round =>
      obtain ⟨k, hk, hsh, rfl, rfl, rfl, HB, HO⟩ := hrel
      by_cases hlt : k < n
      · have hlt' : (k : Int) < n := by omega
        have HE : Hid (lay A B (k + 1) = lay A B k ++ [if (adv A B k).1 < 4 then (false, (adv A B k).1) else (true, (adv A B k).2)]) := rfl
        have HF : Hid (adv A B (k + 1) = if (adv A B k).1 < 4 then ((adv A B k).1 + 1, (adv A B k).2) else ((adv A B k).1, (adv A B k).2 + 1)) := rfl
        obtain ⟨b1, b2, b3, b4, b5⟩ := adv_bounds A B k
        generalize lay A B k = L at *
        generalize adv A B k = S at *
        obtain ⟨x, y⟩ := S
        simp only at b1 b2 b3 b4 b5 HE HF
        by_cases hx : x < 4
        · (try (exfalso; omega))
          all_goals
            have hx' : (x : Int) < 4 := by omega
            replace HE : Hid (lay A B (k + 1) = L ++ [(false, x)]) := HE.out.trans (by simp [hx])
            replace HF : Hid (adv A B (k + 1) = (x + 1, y)) := HF.out.trans (by simp [hx])
            have HN := hide (And.intro (own_below HO.out ((Below.refl _ _).alloc (Nat.le_refl _) (.cells #[.bool false, .int .i64 x] 39))) (And.intro (heap_alloc_new wr (.cells #[.bool false, .int .i64 x] 39)) (And.intro (show w.heap.size ≤ (wr.alloc (.cells #[.bool false, .int .i64 x] 39)).heap.size from Nat.le_trans HB.out.size ((Below.refl wr.heap.size wr).alloc (Nat.le_refl _) (.cells #[.bool false, .int .i64 x] 39)).size) (HB.out.trans (((Below.refl wr.heap.size wr).alloc (Nat.le_refl _) (.cells #[.bool false, .int .i64 x] 39)).mono HB.out.size)))))
            rcases hsh with ⟨rfl, rfl⟩ | ⟨hk0, lg, lc, rfl⟩
            · skip
              have CF' := CF.out x wr HB.out (by omega) hx
              go_wp2_with fail
              go_at_call 30
              refine CF'.mono ?_
              rintro e w3 ⟨rfl, rfl⟩
              go_wp2_with (at_builtin; refine list_loc _ _ rfl rfl w.heap.size (.slice none 0 0) 0 L ?e1 ?e2 w3.heap.size false x ?e3 ?e4 (by omega) ?e5 ?_; (case e1 => rfl); (case e2 => exact HN.out.1); (case e3 => rfl); (case e4 => exact HN.out.2.1); (case e5 => exact HN.out.2.2.1); intro g cap w5 hown hgr; have HB2 : Hid (Below w.heap.size w w5) := HN.out.2.2.2.grown hgr HN.out.2.2.1 (fun i hi => (own_ge HN.out.1 i hi).1); have O1 := hide hown; clear hown hgr)
              go_roundw
              case rel => exact ⟨0 + 1, by omega, Or.inr ⟨by omega, _, _, rfl⟩, by rw [HF.out]; (try go_num), by rw [HF.out]; (try go_num), by go_num, HB2, by rw [HE.out]; exact O1⟩
              case measure => simp [intOf]; omega
            · have hk' : (0 : Int) < k := by omega
              go_wp2_with (at_builtin; refine list_loc _ _ rfl rfl w.heap.size (.slice (some ⟨lg, 0, none⟩) k lc) k L ?e1 ?e2 wr.heap.size false x ?e3 ?e4 (by omega) ?e5 ?_; (case e1 => rfl); (case e2 => exact HN.out.1); (case e3 => rfl); (case e4 => exact HN.out.2.1); (case e5 => exact HN.out.2.2.1); intro g cap w5 hown hgr; have HB2 : Hid (Below w.heap.size w w5) := HN.out.2.2.2.grown hgr HN.out.2.2.1 (fun i hi => (own_ge HN.out.1 i hi).1); have O1 := hide hown; clear hown hgr)
              go_roundw
              case rel => exact ⟨k + 1, by omega, Or.inr ⟨by omega, _, _, rfl⟩, by rw [HF.out]; (try go_num), by rw [HF.out]; (try go_num), by go_num, HB2, by rw [HE.out]; exact O1⟩
              case measure => simp [intOf]; omega
        · have hx' : ¬ (x : Int) < 4 := by omega
          replace HE : Hid (lay A B (k + 1) = L ++ [(true, y)]) := HE.out.trans (by simp [hx])
          replace HF : Hid (adv A B (k + 1) = (x, y + 1)) := HF.out.trans (by simp [hx])
          have HN := hide (And.intro (own_below HO.out ((Below.refl _ _).alloc (Nat.le_refl _) (.cells #[.bool true, .int .i64 y] 39))) (And.intro (heap_alloc_new wr (.cells #[.bool true, .int .i64 y] 39)) (And.intro (show w.heap.size ≤ (wr.alloc (.cells #[.bool true, .int .i64 y] 39)).heap.size from Nat.le_trans HB.out.size ((Below.refl wr.heap.size wr).alloc (Nat.le_refl _) (.cells #[.bool true, .int .i64 y] 39)).size) (HB.out.trans (((Below.refl wr.heap.size wr).alloc (Nat.le_refl _) (.cells #[.bool true, .int .i64 y] 39)).mono HB.out.size)))))
          go_wp2_with (at_builtin; refine list_loc _ _ rfl rfl w.heap.size u9 k L ?e1 ?e2 wr.heap.size true y ?e3 ?e4 (by omega) ?e5 ?_; (case e1 => rfl); (case e2 => exact HN.out.1); (case e3 => rfl); (case e4 => exact HN.out.2.1); (case e5 => exact HN.out.2.2.1); intro g cap w5 hown hgr; have HB2 : Hid (Below w.heap.size w w5) := HN.out.2.2.2.grown hgr HN.out.2.2.1 (fun i hi => (own_ge HN.out.1 i hi).1); have O1 := hide hown; clear hown hgr)
          go_roundw
          case rel => exact ⟨k + 1, by omega, Or.inr ⟨by omega, _, _, rfl⟩, by rw [HF.out]; (try go_num), by rw [HF.out]; (try go_num), by go_num, HB2, by rw [HE.out]; exact O1⟩
          case measure => simp [intOf]; omega
      · obtain rfl : n = k := by omega
        have hlt' : ¬ (n : Int) < n := by omega
        go_wp2_with fail
        go_ret
        exact ⟨_, rfl, by rw [HW2.out]; exact HO.out, HB.out⟩
end Go.Proofs.Ytmbhcpnlfdgkjaa.T
