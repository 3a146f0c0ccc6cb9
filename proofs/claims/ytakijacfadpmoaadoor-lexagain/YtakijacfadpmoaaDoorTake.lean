/- The program's take: a token laid behind the others. -/
import Derived.Test.YtakijacfadpmoaaDoorSc
import Derived.Test.YtakijacfadpmoaaDoorShelf
import Derived.Deep.RegionHeldLaw
namespace Go.Proofs.YtakijacfadpmoaaDoor.T
open Go.RowKit
set_option linter.unusedVariables false
set_option linter.unusedSimpArgs false
variable {w0 w : World} {b : Nat} {t : ByteArray} {c p : Int} {i : Nat} {L : List Tok}
set_option maxRecDepth 100000 in
theorem clone_any (x : ByteArray) (w : World) (hx : x.size ≤ 4000) : Calls Tryd.prog 31 #[.string x] w fun e w' => e = .returned (.string x) ∧ Below w.heap.size w w' := by
  have h := fun w' => Tryd.stringslite_Clone x w' (by omega)
  go_enter Tryd.func31, Tryd.ntmps31
  go_wp2_with fail
  go_at_call 37
  refine (h _).mono ?_
  rintro e w1 ⟨rfl, hb1⟩
  go_wp2_with fail
  go_ret
  exact ⟨rfl, hb1⟩
theorem own_block {w : World} {ob : Nat} {v : Value} {n : Nat} {xs : List Value} (h : w.ownsRow ob 29 3 v n xs) : ∀ k, v.ownBlock = some k → ob ≤ k ∧ ∃ cur, w.heap[k]? = some (.cells cur 29 (0, 0)) := by
  intro k hk
  rcases h.2 with ⟨rfl, _⟩ | ⟨g, cap, cu, rfl, hg, hh, r⟩
  · simp [Value.ownBlock] at hk
  · obtain rfl : g = k := by simpa [Value.ownBlock] using hk
    exact ⟨hg, cu, hh⟩
/-- What take leaves. -/
theorem take_end {w1 w3 : World} {v : Value} {k : Int} {x : ByteArray} {n g cap : Nat} (h : Sc w0 w1 b t c p i L) (hin : i + n ≤ t.size) (hn : 1 ≤ n) (h1 : w1.heap[b]? = some (.cells #[.int .i64 c, .int .i64 p, .string t, .int .i64 i, v] 32 (0, 0))) (hv : w1.ownsRow w0.heap.size 29 3 v L.length (toks L))
    (hown : w3.ownsRow w0.heap.size 29 3 (.slice (some ⟨g, 0, none⟩) (L.length + 1) cap) (L.length + 1) (toks L ++ (⟨k, x, i⟩ : Tok).cells)) (hg : (w1.alloc (.cells #[.int .i64 k, .string x, .int .i64 i] 29)).grownBy w3 v.ownBlock) :
    w3.heap[b]? = some (.cells #[.int .i64 c, .int .i64 p, .string t, .int .i64 i, v] 32 (0, 0)) ∧ (w3.setCell ⟨b, 4, none⟩ (.slice (some ⟨g, 0, none⟩) (L.length + 1) cap)).heap[b]? = some (.cells #[.int .i64 c, .int .i64 p, .string t, .int .i64 i, .slice (some ⟨g, 0, none⟩) (L.length + 1) cap] 32 (0, 0)) ∧
      Sc w0 ((w3.setCell ⟨b, 4, none⟩ (.slice (some ⟨g, 0, none⟩) (L.length + 1) cap)).setCell ⟨b, 3, none⟩ (.int .i64 ((i : Int) + n))) b t c p (i + n) (L ++ [⟨k, x, i⟩]) := by
  have hlt := h.lt
  have hne : v.ownBlock ≠ some b := fun e => by
    obtain ⟨_, cur, hc⟩ := own_block hv b e
    rw [h1] at hc
    simp at hc
  have k0 : (w1.alloc (.cells #[.int .i64 k, .string x, .int .i64 i] 29)).heap[b]? = some (.cells #[.int .i64 c, .int .i64 p, .string t, .int .i64 i, v] 32 (0, 0)) := (Below.heap_alloc _ _ _ hlt).trans h1
  have k3 : w3.heap[b]? = some (.cells #[.int .i64 c, .int .i64 p, .string t, .int .i64 i, v] 32 (0, 0)) := (hg.block b (by simp; omega) (fun e => hne e.symm)).trans k0
  have k4 : (w3.setCell ⟨b, 4, none⟩ (.slice (some ⟨g, 0, none⟩) (L.length + 1) cap)).heap[b]? = some (.cells #[.int .i64 c, .int .i64 p, .string t, .int .i64 i, .slice (some ⟨g, 0, none⟩) (L.length + 1) cap] 32 (0, 0)) := (heap_setCell_same w3 b 4 _ 32 _ k3).trans rfl
  have b3 : Below w0.heap.size w0 w3 := (h.below.alloc h.below.size _).grown hg (by have := h.below.size; simp; omega) (fun q hq => (own_block hv q hq).1)
  have hm := h.many
  refine ⟨k3, k4, h.len, hin, by simp; omega, h.base, ⟨_, (heap_setCell_same _ b 3 _ 32 _ k4).trans rfl, ?_⟩, (b3.setCell h.base _).setCell h.base _⟩
  rw [toks_app, show (L ++ [(⟨k, x, i⟩ : Tok)]).length = L.length + 1 by simp]
  exact own_set (own_set hown k3) k4
set_option maxRecDepth 100000 in
set_option maxHeartbeats 4000000 in
theorem take_any (h : Sc w0 w b t c p i L) (k : Int) (x : ByteArray) (n : Nat) (hn : 1 ≤ n) (hin : i + n ≤ t.size) (hx : x.size ≤ 4000) : Calls Tryd.prog 25 #[.pointer (some ⟨b, 0, none⟩), .int .i64 k, .string x, .int .i64 n] w fun e w' => (∃ v, e = .returned v) ∧ Sc w0 w' b t c p (i + n) (L ++ [⟨k, x, i⟩]) := by
  have hcl := fun w' => clone_any x w' hx
  have HS := hide h
  have hlen := h.len
  clear h
  go_enter Tryd.func25, Tryd.ntmps25
  go_wp2_with fail
  have hd : Sc w0 w.drew b t c p i L := HS.out.kept (Below.refl _ _).drew
  have HD := hide hd
  obtain ⟨v, h1, h2⟩ := hd.blk
  have hc := cells_at h1
  have H1 := hide h1
  have H2 := hide h2
  have hfr := frozen_at h1
  have hmany := hd.many
  clear h1 h2 hd
  obtain ⟨i0, hi, hz0, hz1, hz2⟩ := info_parts info29
  have hwn : IntKind.i64.wrap ((i : Int) + n) = (i : Int) + n := by rw [IntKind.wrap_i64]; omega
  refine wp_region_held_drew (S := fun w' => w'.cell? ⟨b, 3, none⟩ = some (.int .i64 i)) (by kernel_rfl) (hc 3) (fun hHeld => ?_)
  refine wpAnyH_take (i := 0) (v := ?_) rfl (by kernel_rfl) (by kernel_rfl) (by kernel_rfl) (fun _ _ _ h => h) (Or.inl ⟨by rfl, ?_⟩) (by assumption) ?_
  rotate_left
  · (intro w hSw; (try dsimp only at hSw); go_simp) <;> with_reducible rfl
  (simp only [Act.put, List.getElem_toArray, List.getElem_cons_zero, List.getElem_cons_succ, List.setIfInBounds_toArray, List.set_cons_zero, List.set_cons_succ])
  refine wpAnyH_take (i := 1) (v := ?_) rfl (by kernel_rfl) (by kernel_rfl) (by kernel_rfl) (fun _ _ _ h => h) (Or.inl ⟨by rfl, ?_⟩) (by assumption) ?_
  rotate_left
  · (intro w hSw; (try dsimp only at hSw); go_simp) <;> with_reducible rfl
  (simp only [Act.put, List.getElem_toArray, List.getElem_cons_zero, List.getElem_cons_succ, List.setIfInBounds_toArray, List.set_cons_zero, List.set_cons_succ])
  refine wpAnyH_take (i := 2) (v := ?_) rfl (by kernel_rfl) (by kernel_rfl) (by kernel_rfl) (fun _ _ _ h => h) (Or.inl ⟨by rfl, ?_⟩) (by assumption) ?_
  rotate_left
  · (intro w hSw; (try dsimp only at hSw); go_simp) <;> with_reducible rfl
  (simp only [Act.put, List.getElem_toArray, List.getElem_cons_zero, List.getElem_cons_succ, List.setIfInBounds_toArray, List.set_cons_zero, List.set_cons_succ])
  refine wpAnyH_take (i := 3) (v := ?_) rfl (by kernel_rfl) (by kernel_rfl) (by kernel_rfl) (fun _ _ _ h => h) (Or.inl ⟨by rfl, ?_⟩) (by assumption) ?_
  rotate_left
  · (intro w hSw; (try dsimp only at hSw); go_simp) <;> with_reducible rfl
  (simp only [Act.put, List.getElem_toArray, List.getElem_cons_zero, List.getElem_cons_succ, List.setIfInBounds_toArray, List.set_cons_zero, List.set_cons_succ])
  refine wpAnyH_take (i := 5) (v := ?_) rfl (by kernel_rfl) (by kernel_rfl) (by kernel_rfl) (fun _ _ _ h => h) (Or.inl ⟨by rfl, ?_⟩) (by assumption) ?_
  rotate_left
  · (intro w hSw; (try dsimp only at hSw); go_simp) <;> with_reducible rfl
  (simp only [Act.put, List.getElem_toArray, List.getElem_cons_zero, List.getElem_cons_succ, List.setIfInBounds_toArray, List.set_cons_zero, List.set_cons_succ])
  refine wpAnyH_take (i := 6) (v := ?_) rfl (by kernel_rfl) (by kernel_rfl) (by kernel_rfl) (fun _ _ _ h => h) (Or.inl ⟨by rfl, ?_⟩) (by assumption) ?_
  rotate_left
  · (intro w hSw; (try dsimp only at hSw); go_simp) <;> with_reducible rfl
  (simp only [Act.put, List.getElem_toArray, List.getElem_cons_zero, List.getElem_cons_succ, List.setIfInBounds_toArray, List.set_cons_zero, List.set_cons_succ])
  refine wpAnyH_take (i := 8) (v := ?_) rfl (by kernel_rfl) (by kernel_rfl) (by kernel_rfl) (fun _ _ _ h => h) (Or.inl ⟨by rfl, ?_⟩) (by assumption) ?_
  rotate_left
  · (intro w hSw; (try dsimp only at hSw); go_simp) <;> with_reducible rfl
  (simp only [Act.put, List.getElem_toArray, List.getElem_cons_zero, List.getElem_cons_succ, List.setIfInBounds_toArray, List.set_cons_zero, List.set_cons_succ])
  refine wpAnyH_take (i := 9) (v := ?_) rfl (by kernel_rfl) (by kernel_rfl) (by kernel_rfl) (fun _ _ _ h => h) (Or.inl ⟨by rfl, ?_⟩) (by assumption) ?_
  rotate_left
  · (intro w hSw; (try dsimp only at hSw); go_simp) <;> with_reducible rfl
  (simp only [Act.put, List.getElem_toArray, List.getElem_cons_zero, List.getElem_cons_succ, List.setIfInBounds_toArray, List.set_cons_zero, List.set_cons_succ])
  refine wpAnyH_take (i := 10) (v := ?_) rfl (by kernel_rfl) (by kernel_rfl) (by kernel_rfl) (fun _ _ _ h => h) (Or.inl ⟨by rfl, ?_⟩) (by assumption) ?_
  rotate_left
  · (intro w hSw; (try dsimp only at hSw); go_simp) <;> with_reducible rfl
  (simp only [Act.put, List.getElem_toArray, List.getElem_cons_zero, List.getElem_cons_succ, List.setIfInBounds_toArray, List.set_cons_zero, List.set_cons_succ])
  refine wpAnyH_take (i := 11) (v := ?_) rfl (by kernel_rfl) (by kernel_rfl) (by kernel_rfl) (fun _ _ _ h => h) (Or.inl ⟨by rfl, ?_⟩) (by assumption) ?_
  rotate_left
  · (intro w hSw; (try dsimp only at hSw); go_simp) <;> with_reducible rfl
  (simp only [Act.put, List.getElem_toArray, List.getElem_cons_zero, List.getElem_cons_succ, List.setIfInBounds_toArray, List.set_cons_zero, List.set_cons_succ])
  refine wpAnyH_ready (rs := [4, 7]) (by kernel_rfl) (by simp) ?_
  refine AllReadyH.cons rfl (fun K hK => ?_) (AllReadyH.cons rfl (fun K hK => ?_) AllReadyH.nil)
  · have hcw := hc
    go_simp
    refine hK.out _ _ (hc 3) (fun hHeld1 => ?_)
    clear hK K hcw
    (try (simp only [Act.put, List.getElem_toArray, List.getElem_cons_zero, List.getElem_cons_succ, List.setIfInBounds_toArray, List.set_cons_zero, List.set_cons_succ]))
    refine wpAnyH_ready (rs := [7]) (by kernel_rfl) (by simp) ?_
    refine AllReadyH.cons rfl (fun K hK => ?_) AllReadyH.nil
    go_simp
    refine (hcl _).mono ?_
    rintro e w1 ⟨rfl, hb1⟩
    have HS1 := hide (HD.out.kept hb1)
    have hbk1 : w1.heap[b]? = some (.cells #[.int .i64 c, .int .i64 p, .string t, .int .i64 i, v] 32 (0, 0)) := (hb1.block b HD.out.lt).trans H1.out
    have HOw1 := hide (own_below H2.out hb1)
    have hc1 := cells_at hbk1
    have HBk1 := hide hbk1
    clear hbk1 hb1
    refine hK.out _ _ (hc1 3) (fun hHeld2 => ?_)
    clear hK K
    (try (simp only [Act.put, List.getElem_toArray, List.getElem_cons_zero, List.getElem_cons_succ, List.setIfInBounds_toArray, List.set_cons_zero, List.set_cons_succ]))
    refine wpAnyH_take (i := 12) (v := ?_) rfl (by kernel_rfl) (by kernel_rfl) (by kernel_rfl) (fun _ _ _ h => h) (Or.inl ⟨by rfl, ?_⟩) (by assumption) ?_
    rotate_left
    · (intro w hSw; (try dsimp only at hSw); go_simp) <;> with_reducible rfl
    (simp only [Act.put, List.getElem_toArray, List.getElem_cons_zero, List.getElem_cons_succ, List.setIfInBounds_toArray, List.set_cons_zero, List.set_cons_succ])
    refine wpAnyH_ready (rs := [13]) (by kernel_rfl) (by simp) ?_
    refine AllReadyH.cons rfl (fun K hK => ?_) AllReadyH.nil
    go_simp
    have hB : (w1.alloc (.cells #[.int .i64 k, .string x, .int .i64 i] 29)).heap[w1.heap.size]? = some (.cells #[.int .i64 k, .string x, .int .i64 i] 29 (0, 0)) := heap_alloc_new w1 _
    have hc2 : ∀ o, (w1.alloc (.cells #[.int .i64 k, .string x, .int .i64 i] 29)).cell? ⟨b, o, none⟩ = (#[Value.int .i64 c, .int .i64 p, .string t, .int .i64 i, v])[o]? := fun o => (World.cell?_alloc_past _ _ _ HS1.out.lt).trans (hc1 o)
    have HO2 := hide (own_below HOw1.out ((Below.refl w1.heap.size w1).alloc (Nat.le_refl _) (.cells #[.int .i64 k, .string x, .int .i64 i] 29)))
    refine hK.out _ _ (hc2 3) (fun hHeld3 => ?_)
    clear hK K
    (try (simp only [Act.put, List.getElem_toArray, List.getElem_cons_zero, List.getElem_cons_succ, List.setIfInBounds_toArray, List.set_cons_zero, List.set_cons_succ]))
    refine wpAnyH_ready (rs := [14]) (by kernel_rfl) (by simp) ?_
    refine AllReadyH.cons rfl (fun K hK => ?_) AllReadyH.nil
    refine step_append_lies _ rfl (.tmp 12) (.tmp 21) 22 rfl w0.heap.size 29 i0 _ 3 32 Tryd.underlying22 hi hz0 hz1 hz2 rfl (by decide) v L.length (toks L) rfl HO2.out ⟨w1.heap.size, 0, none⟩ 1 1 [.int .i64 k, .string x, .int .i64 i] rfl rfl (World.news_of_block hB) ?_ (by decide) (by unfold maxLen; omega) (by omega) (by have := HS1.out.below.size; simp; omega) _ rfl ?_
    · intro u hu; simp at hu; rcases hu with rfl | rfl | rfl <;> rfl
    intro g cap w3 hown3 hgr _ _
    obtain ⟨k3, k4, kS⟩ := take_end HS1.out hin hn HBk1.out HOw1.out hown3 hgr
    have HE := hide kS
    have hc3 := cells_at k3
    have hf3 := frozen_at k3
    have hc4 := cells_at k4
    have hf4 := frozen_at k4
    clear kS hown3 hgr hB hc2 hc1 hc
    refine hK.out _ _ (hc3 3) (fun hHeld4 => ?_)
    clear hK K
    (try (simp only [Act.put, List.getElem_toArray, List.getElem_cons_zero, List.getElem_cons_succ, List.setIfInBounds_toArray, List.set_cons_zero, List.set_cons_succ]))
    refine wpAnyH_take (i := 15) (v := ?_) rfl (by kernel_rfl) (by kernel_rfl) (by kernel_rfl) (fun _ _ _ h => h) (Or.inl ⟨by rfl, ?_⟩) (by assumption) ?_
    rotate_left
    · (intro w hSw; (try dsimp only at hSw); go_simp) <;> with_reducible rfl
    (simp only [Act.put, List.getElem_toArray, List.getElem_cons_zero, List.getElem_cons_succ, List.setIfInBounds_toArray, List.set_cons_zero, List.set_cons_succ])
    refine wpAnyH_take (i := 16) (v := ?_) rfl (by kernel_rfl) (by kernel_rfl) (by kernel_rfl) (fun _ _ _ h => h) (Or.inl ⟨by rfl, ?_⟩) (by assumption) ?_
    rotate_left
    · (intro w hSw; (try dsimp only at hSw); go_simp) <;> with_reducible rfl
    (simp only [Act.put, List.getElem_toArray, List.getElem_cons_zero, List.getElem_cons_succ, List.setIfInBounds_toArray, List.set_cons_zero, List.set_cons_succ])
    refine wpAnyH_ready (rs := [17]) (by kernel_rfl) (by simp) ?_
    refine AllReadyH.cons rfl (fun K hK => ?_) AllReadyH.nil
    go_simp
    refine hK.out _ _ (hc4 3) (fun hHeld5 => ?_)
    clear hK K
    refine wpAnyH_done (by kernel_rfl) ?_ _
    clear hHeld1 hHeld2 hHeld3 hHeld4 hHeld5
    generalize hw4 : w3.setCell ⟨b, 4, none⟩ (.slice (some ⟨g, 0, none⟩) (L.length + 1) cap) = w4 at *
    clear hc3 hf3 k3 k4 hw4
    go_wp2_with fail
    go_end0
    exact ⟨⟨_, rfl⟩, HE.out⟩
  · go_simp
    refine (hcl _).mono ?_
    rintro e w1 ⟨rfl, hb1⟩
    have HS1 := hide (HD.out.kept hb1)
    have hbk1 : w1.heap[b]? = some (.cells #[.int .i64 c, .int .i64 p, .string t, .int .i64 i, v] 32 (0, 0)) := (hb1.block b HD.out.lt).trans H1.out
    have HOw1 := hide (own_below H2.out hb1)
    have hc1 := cells_at hbk1
    have HBk1 := hide hbk1
    clear hbk1 hb1
    refine hK.out _ _ (hc1 3) (fun hHeld1 => ?_)
    clear hK K
    (try (simp only [Act.put, List.getElem_toArray, List.getElem_cons_zero, List.getElem_cons_succ, List.setIfInBounds_toArray, List.set_cons_zero, List.set_cons_succ]))
    refine wpAnyH_take (i := 12) (v := ?_) rfl (by kernel_rfl) (by kernel_rfl) (by kernel_rfl) (fun _ _ _ h => h) (Or.inl ⟨by rfl, ?_⟩) (by assumption) ?_
    rotate_left
    · (intro w hSw; (try dsimp only at hSw); go_simp) <;> with_reducible rfl
    (simp only [Act.put, List.getElem_toArray, List.getElem_cons_zero, List.getElem_cons_succ, List.setIfInBounds_toArray, List.set_cons_zero, List.set_cons_succ])
    refine wpAnyH_ready (rs := [4, 13]) (by kernel_rfl) (by simp) ?_
    refine AllReadyH.cons rfl (fun K hK => ?_) (AllReadyH.cons rfl (fun K hK => ?_) AllReadyH.nil)
    · have hcw := hc1
      go_simp
      refine hK.out _ _ (hc1 3) (fun hHeld2 => ?_)
      clear hK K hcw
      (try (simp only [Act.put, List.getElem_toArray, List.getElem_cons_zero, List.getElem_cons_succ, List.setIfInBounds_toArray, List.set_cons_zero, List.set_cons_succ]))
      refine wpAnyH_ready (rs := [13]) (by kernel_rfl) (by simp) ?_
      refine AllReadyH.cons rfl (fun K hK => ?_) AllReadyH.nil
      go_simp
      have hB : (w1.alloc (.cells #[.int .i64 k, .string x, .int .i64 i] 29)).heap[w1.heap.size]? = some (.cells #[.int .i64 k, .string x, .int .i64 i] 29 (0, 0)) := heap_alloc_new w1 _
      have hc2 : ∀ o, (w1.alloc (.cells #[.int .i64 k, .string x, .int .i64 i] 29)).cell? ⟨b, o, none⟩ = (#[Value.int .i64 c, .int .i64 p, .string t, .int .i64 i, v])[o]? := fun o => (World.cell?_alloc_past _ _ _ HS1.out.lt).trans (hc1 o)
      have HO2 := hide (own_below HOw1.out ((Below.refl w1.heap.size w1).alloc (Nat.le_refl _) (.cells #[.int .i64 k, .string x, .int .i64 i] 29)))
      refine hK.out _ _ (hc2 3) (fun hHeld3 => ?_)
      clear hK K
      (try (simp only [Act.put, List.getElem_toArray, List.getElem_cons_zero, List.getElem_cons_succ, List.setIfInBounds_toArray, List.set_cons_zero, List.set_cons_succ]))
      refine wpAnyH_ready (rs := [14]) (by kernel_rfl) (by simp) ?_
      refine AllReadyH.cons rfl (fun K hK => ?_) AllReadyH.nil
      refine step_append_lies _ rfl (.tmp 12) (.tmp 21) 22 rfl w0.heap.size 29 i0 _ 3 32 Tryd.underlying22 hi hz0 hz1 hz2 rfl (by decide) v L.length (toks L) rfl HO2.out ⟨w1.heap.size, 0, none⟩ 1 1 [.int .i64 k, .string x, .int .i64 i] rfl rfl (World.news_of_block hB) ?_ (by decide) (by unfold maxLen; omega) (by omega) (by have := HS1.out.below.size; simp; omega) _ rfl ?_
      · intro u hu; simp at hu; rcases hu with rfl | rfl | rfl <;> rfl
      intro g cap w3 hown3 hgr _ _
      obtain ⟨k3, k4, kS⟩ := take_end HS1.out hin hn HBk1.out HOw1.out hown3 hgr
      have HE := hide kS
      have hc3 := cells_at k3
      have hf3 := frozen_at k3
      have hc4 := cells_at k4
      have hf4 := frozen_at k4
      clear kS hown3 hgr hB hc2 hc1 hc
      refine hK.out _ _ (hc3 3) (fun hHeld4 => ?_)
      clear hK K
      (try (simp only [Act.put, List.getElem_toArray, List.getElem_cons_zero, List.getElem_cons_succ, List.setIfInBounds_toArray, List.set_cons_zero, List.set_cons_succ]))
      refine wpAnyH_take (i := 15) (v := ?_) rfl (by kernel_rfl) (by kernel_rfl) (by kernel_rfl) (fun _ _ _ h => h) (Or.inl ⟨by rfl, ?_⟩) (by assumption) ?_
      rotate_left
      · (intro w hSw; (try dsimp only at hSw); go_simp) <;> with_reducible rfl
      (simp only [Act.put, List.getElem_toArray, List.getElem_cons_zero, List.getElem_cons_succ, List.setIfInBounds_toArray, List.set_cons_zero, List.set_cons_succ])
      refine wpAnyH_take (i := 16) (v := ?_) rfl (by kernel_rfl) (by kernel_rfl) (by kernel_rfl) (fun _ _ _ h => h) (Or.inl ⟨by rfl, ?_⟩) (by assumption) ?_
      rotate_left
      · (intro w hSw; (try dsimp only at hSw); go_simp) <;> with_reducible rfl
      (simp only [Act.put, List.getElem_toArray, List.getElem_cons_zero, List.getElem_cons_succ, List.setIfInBounds_toArray, List.set_cons_zero, List.set_cons_succ])
      refine wpAnyH_ready (rs := [17]) (by kernel_rfl) (by simp) ?_
      refine AllReadyH.cons rfl (fun K hK => ?_) AllReadyH.nil
      go_simp
      refine hK.out _ _ (hc4 3) (fun hHeld5 => ?_)
      clear hK K
      refine wpAnyH_done (by kernel_rfl) ?_ _
      clear hHeld1 hHeld2 hHeld3 hHeld4 hHeld5
      generalize hw4 : w3.setCell ⟨b, 4, none⟩ (.slice (some ⟨g, 0, none⟩) (L.length + 1) cap) = w4 at *
      clear hc3 hf3 k3 k4 hw4
      go_wp2_with fail
      go_end0
      exact ⟨⟨_, rfl⟩, HE.out⟩
    · go_simp
      have hB : (w1.alloc (.cells #[.int .i64 k, .string x, .int .i64 i] 29)).heap[w1.heap.size]? = some (.cells #[.int .i64 k, .string x, .int .i64 i] 29 (0, 0)) := heap_alloc_new w1 _
      have hc2 : ∀ o, (w1.alloc (.cells #[.int .i64 k, .string x, .int .i64 i] 29)).cell? ⟨b, o, none⟩ = (#[Value.int .i64 c, .int .i64 p, .string t, .int .i64 i, v])[o]? := fun o => (World.cell?_alloc_past _ _ _ HS1.out.lt).trans (hc1 o)
      have HO2 := hide (own_below HOw1.out ((Below.refl w1.heap.size w1).alloc (Nat.le_refl _) (.cells #[.int .i64 k, .string x, .int .i64 i] 29)))
      refine hK.out _ _ (hc2 3) (fun hHeld2 => ?_)
      clear hK K
      (try (simp only [Act.put, List.getElem_toArray, List.getElem_cons_zero, List.getElem_cons_succ, List.setIfInBounds_toArray, List.set_cons_zero, List.set_cons_succ]))
      refine wpAnyH_ready (rs := [4]) (by kernel_rfl) (by simp) ?_
      refine AllReadyH.cons rfl (fun K hK => ?_) AllReadyH.nil
      have hcw := hc2
      go_simp
      refine hK.out _ _ (hc2 3) (fun hHeld3 => ?_)
      clear hK K hcw
      (try (simp only [Act.put, List.getElem_toArray, List.getElem_cons_zero, List.getElem_cons_succ, List.setIfInBounds_toArray, List.set_cons_zero, List.set_cons_succ]))
      refine wpAnyH_ready (rs := [14]) (by kernel_rfl) (by simp) ?_
      refine AllReadyH.cons rfl (fun K hK => ?_) AllReadyH.nil
      refine step_append_lies _ rfl (.tmp 12) (.tmp 21) 22 rfl w0.heap.size 29 i0 _ 3 32 Tryd.underlying22 hi hz0 hz1 hz2 rfl (by decide) v L.length (toks L) rfl HO2.out ⟨w1.heap.size, 0, none⟩ 1 1 [.int .i64 k, .string x, .int .i64 i] rfl rfl (World.news_of_block hB) ?_ (by decide) (by unfold maxLen; omega) (by omega) (by have := HS1.out.below.size; simp; omega) _ rfl ?_
      · intro u hu; simp at hu; rcases hu with rfl | rfl | rfl <;> rfl
      intro g cap w3 hown3 hgr _ _
      obtain ⟨k3, k4, kS⟩ := take_end HS1.out hin hn HBk1.out HOw1.out hown3 hgr
      have HE := hide kS
      have hc3 := cells_at k3
      have hf3 := frozen_at k3
      have hc4 := cells_at k4
      have hf4 := frozen_at k4
      clear kS hown3 hgr hB hc2 hc1 hc
      refine hK.out _ _ (hc3 3) (fun hHeld4 => ?_)
      clear hK K
      (try (simp only [Act.put, List.getElem_toArray, List.getElem_cons_zero, List.getElem_cons_succ, List.setIfInBounds_toArray, List.set_cons_zero, List.set_cons_succ]))
      refine wpAnyH_take (i := 15) (v := ?_) rfl (by kernel_rfl) (by kernel_rfl) (by kernel_rfl) (fun _ _ _ h => h) (Or.inl ⟨by rfl, ?_⟩) (by assumption) ?_
      rotate_left
      · (intro w hSw; (try dsimp only at hSw); go_simp) <;> with_reducible rfl
      (simp only [Act.put, List.getElem_toArray, List.getElem_cons_zero, List.getElem_cons_succ, List.setIfInBounds_toArray, List.set_cons_zero, List.set_cons_succ])
      refine wpAnyH_take (i := 16) (v := ?_) rfl (by kernel_rfl) (by kernel_rfl) (by kernel_rfl) (fun _ _ _ h => h) (Or.inl ⟨by rfl, ?_⟩) (by assumption) ?_
      rotate_left
      · (intro w hSw; (try dsimp only at hSw); go_simp) <;> with_reducible rfl
      (simp only [Act.put, List.getElem_toArray, List.getElem_cons_zero, List.getElem_cons_succ, List.setIfInBounds_toArray, List.set_cons_zero, List.set_cons_succ])
      refine wpAnyH_ready (rs := [17]) (by kernel_rfl) (by simp) ?_
      refine AllReadyH.cons rfl (fun K hK => ?_) AllReadyH.nil
      go_simp
      refine hK.out _ _ (hc4 3) (fun hHeld5 => ?_)
      clear hK K
      refine wpAnyH_done (by kernel_rfl) ?_ _
      clear hHeld1 hHeld2 hHeld3 hHeld4 hHeld5
      generalize hw4 : w3.setCell ⟨b, 4, none⟩ (.slice (some ⟨g, 0, none⟩) (L.length + 1) cap) = w4 at *
      clear hc3 hf3 k3 k4 hw4
      go_wp2_with fail
      go_end0
      exact ⟨⟨_, rfl⟩, HE.out⟩
end Go.Proofs.YtakijacfadpmoaaDoor.T
