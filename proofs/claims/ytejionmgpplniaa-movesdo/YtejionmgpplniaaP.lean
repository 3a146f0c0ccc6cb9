/- The program's inRow. -/
import Derived.Test.YtejionmgpplniaaM
import Derived.Test.YtejionmgpplniaaO
import Derived.Deep.RegionHeldLaw
namespace Go.Proofs.Ytejionmgpplniaa.T
open Go.RowKit
set_option linter.unusedVariables false
set_option linter.unusedSimpArgs false
theorem asks_zero : asks [] = fun _ => 0 := by funext p; simp [asks]
theorem asks_succ {L : List Mv} {k : Nat} (h : k < L.length) : asks (L.take (k + 1)) = upd (asks (L.take k)) L[k].1 (asks (L.take k) L[k].1 + 1) := by
  funext p
  rw [(List.take_append_getElem h).symm, asks_append]
  unfold upd
  by_cases hp : p = L[k].1
  · subst hp; rw [if_pos rfl]; simp [asks]
  · rw [if_neg hp]; simp [asks, Ne.symm hp]
theorem asks_le (L : List Mv) (p : Lc) : asks L p ≤ L.length := by
  unfold asks
  have := List.countP_le_length (p := fun m : Mv => decide (m.1 = p)) (l := L)
  omega
def lenV : Value → Nat
  | .slice _ n _ => n
  | _ => 0
/-- What inRow leaves. -/
def PRow (n0 : Nat) (w0 : World) (n : Nat) (fin : Lc → Lc) (t : Lc) (e : Ending) (w' : World) : Prop := ∃ u R, e = .returned u ∧ Inv n fin t [] R ∧ Fr n0 w0 w' [.row u 33 4 R.length (prV R)]
theorem row_shape {n0 : Nat} {w : World} {u : Value} {L : List Mv} (h : Rs.ok n0 w (.row u 33 4 L.length (prV L))) : ∃ a c, u = .slice a L.length c := by
  obtain ⟨a, c, e, -⟩ := Prs.of h
  exact ⟨a, c, e⟩
/-- The cells of a row. -/
theorem row_cells {n0 : Nat} {w : World} {a : Option Addr} {c : Nat} {L : List Mv} (h : Rs.ok n0 w (.row (.slice a L.length c) 33 4 L.length (prV L))) (hl : 0 < L.length) : ∃ g, a = some ⟨g, 0, none⟩ ∧ g < w.heap.size ∧ ∀ j (h : j < L.length), w.cell? ⟨g, j * 4, none⟩ = some (.bool L[j].1.1) ∧ w.cell? ⟨g, j * 4 + 1, none⟩ = some (.int .i64 L[j].1.2) ∧ w.cell? ⟨g, j * 4 + 2, none⟩ = some (.bool L[j].2.1) ∧ w.cell? ⟨g, j * 4 + 3, none⟩ = some (.int .i64 L[j].2.2) := by
  rcases h.2 with ⟨_, h0⟩ | ⟨g, cap, cur, e, hg, hh, _, _, hs, ht⟩
  · omega
  · cases e
    refine ⟨g, rfl, (Array.getElem?_eq_some_iff.1 hh).1, fun j hj => ?_⟩
    have key : ∀ i, i < L.length * 4 → w.cell? ⟨g, i, none⟩ = (prV L)[i]? := fun i hi => by
      rw [← ht, List.getElem?_take_of_lt (by omega), Array.getElem?_toList]
      simp [World.cell?, hh]
    have := prV_at L j hj
    exact ⟨(key _ (by omega)).trans this.1, (key (j * 4 + 1) (by omega)).trans this.2.1, (key (j * 4 + 2) (by omega)).trans this.2.2.1, (key (j * 4 + 3) (by omega)).trans this.2.2.2⟩
theorem row_cells2 {n0 : Nat} {w : World} {g c : Nat} {L : List Mv} (h : Rs.ok n0 w (.row (.slice (some ⟨g, 0, none⟩) L.length c) 33 4 L.length (prV L))) (j : Nat) (hj : j < L.length) : w.cell? ⟨g, j * 4, none⟩ = some (.bool L[j].1.1) ∧ w.cell? ⟨g, j * 4 + 1, none⟩ = some (.int .i64 L[j].1.2) ∧ w.cell? ⟨g, j * 4 + 2, none⟩ = some (.bool L[j].2.1) ∧ w.cell? ⟨g, j * 4 + 3, none⟩ = some (.int .i64 L[j].2.2) := by
  obtain ⟨g', e, -, E⟩ := row_cells h (by omega)
  cases e
  exact E j hj
theorem Inv.bound {n : Nat} {fin : Lc → Lc} {t : Lc} {left R : List Mv} (h : Inv n fin t left R) (hn : n ≤ 100) : R.length ≤ 200 := by
  obtain ⟨c, d, h1, h2, h3⟩ := h.len
  rcases h3 with h3 | ⟨r, _, _, h3 | ⟨h3, _⟩⟩ <;> omega
theorem set_cells {cur : Array Value} {Q : List Mv} {j c : Nat} {tmp : Int} (hj : j < Q.length) (k1 : Q.length ≤ c) (k3 : cur.size = c * 4) (k4 : cur.toList.take (Q.length * 4) = prV Q) :
    ((cur.setIfInBounds (j * 4) (.bool false)).setIfInBounds (j * 4 + 1) (.int .i64 tmp)).toList.take (Q.length * 4) = prV (Q.set j ((false, tmp), Q[j].2)) := by
  have hset : prV (Q.set j ((false, tmp), Q[j].2)) = ((prV Q).set (j * 4) (.bool false)).set (j * 4 + 1) (.int .i64 tmp) := by
    obtain ⟨a, b, e1, -, hal, e3⟩ := split_at hj
    rw [e3]
    generalize Q[j] = x at *
    rw [e1, prV_append, prV_append]
    have hl : (prV a).length = j * 4 := by rw [prV_len, hal]
    have e4 : ∀ y : Mv, prV (y :: b) = .bool y.1.1 :: .int .i64 y.1.2 :: .bool y.2.1 :: .int .i64 y.2.2 :: prV b := fun _ => rfl
    rw [e4, e4, List.set_append_right _ _ (by omega), List.set_append_right _ _ (by omega), hl]
    simp
  rw [hset, ← k4]
  simp [List.take_set]
set_option maxRecDepth 100000 in
set_option maxHeartbeats 8000000 in
theorem inrow_any (n0 : Nat) (w0 w : World) (v : Value) (M : List Mv) (tmp : Int) (n : Nat) (fin : Lc → Lc) (hF : Fr n0 w0 w [.row v 33 4 M.length (prV M)]) (hM : M.length ≤ 100) (hn : n ≤ 100) (hok : ∀ m, m ∈ M → Wf m.1 ∧ Wf m.2) (ht : Wf (false, tmp)) (hI : Inv n fin (false, tmp) M []) :
    Calls Try.prog 10 #[v, .agg #[.bool false, .int .i64 tmp]] w (PRow n0 w0 n fin (false, tmp)) := by
  have HOK := hide hok
  have HT := hide ht
  have HI := hide hI
  have HF := hide (((hF.alloc (q := w.heap.size) rfl #[.bool false, .int .i64 tmp] 31).allocMap (q := w.heap.size + 1) (by simp)).alloc (q := w.heap.size + 1 + 1) (by simp) #[.map (some (w.heap.size + 1))] 45)
  obtain ⟨a, c, rfl⟩ := row_shape (hF.get (i := 0) rfl)
  clear hF hok ht hI
  have hmm := @run_makeMap Try.prog
  go_enter Try.func10, Try.ntmps10
  go_wp2_with fail
  go_step3
  go_wp2_with fail
  clear hmm
  have HSZ : Hid (n0 ≤ w.heap.size) := (HF.out.get (i := 2) rfl).1
  generalize hb3 : w.heap.size = b3 at *
  generalize hbm : b3 + 1 = bm at *
  generalize hb5 : bm + 1 = b5 at *
  clear hb3 hbm hb5 HSZ
  go_loopw [17] (fun i wr => ∃ k : Nat, k ≤ M.length ∧ i = .int .i64 k ∧ Hid (Fr n0 w0 wr [.blk b5 #[.map (some bm)] 45, .mp bm (asks (M.take k)), .blk b3 #[.bool false, .int .i64 tmp] 31, .row (.slice a M.length c) 33 4 M.length (prV (M))])) (fun i _ => M.length - (intOf i).toNat)
  case atStart => exact ⟨0, Nat.zero_le _, rfl, by rw [List.take_zero, asks_zero]; exact HF⟩
  case round =>
    clear HF
    obtain ⟨k, hk, rfl, HF⟩ := hrel
    by_cases hlt : k < M.length
    · have hlt' : (k : Int) < M.length := by omega
      have hidx : (0 : Int) ≤ k ∧ (k : Int) < M.length := by omega
      obtain ⟨g, rfl, -, E⟩ := row_cells (HF.out.get (i := 3) rfl) (by omega)
      obtain ⟨d0, d1, d2, d3⟩ := E k hlt
      clear E
      have hcb := asks_le (M.take k) M[k].1
      have hcb0 := asks_nonneg (M.take k) M[k].1
      have hcb1 : (M.take k).length ≤ 100 := by simp; omega
      have HW : Hid (Wf M[k].1) := (HOK.out _ (List.getElem_mem hlt)).1
      have HS : Hid (asks (M.take (k + 1)) = upd (asks (M.take k)) M[k].1 (asks (M.take k) M[k].1 + 1)) := asks_succ hlt
      generalize M[k] = y at *
      obtain ⟨⟨s1, x1⟩, ⟨s2, x2⟩⟩ := y
      simp only at d0 d1 d2 d3 hcb hcb0 HW HS
      obtain ⟨cn, HFC⟩ : ∃ cn, Hid (asks (M.take k) (s1, x1) = cn) := ⟨_, rfl⟩
      rw [HFC.out] at hcb hcb0 HS
      have hwr : IntKind.i64.wrap (cn + 1) = cn + 1 := by rw [IntKind.wrap_i64]; omega
      have HA := hide ((HF.out.alloc (q := wr.heap.size) rfl #[.bool s1, .int .i64 x1, .bool s2, .int .i64 x2] 33).drew)
      go_wp2_with fail
      generalize hbq : wr.heap.size = bq at *
      clear hbq hcb hcb1
      refine wp_region_held_drew (S := fun w' => (∀ o, w'.cell? ⟨b5, o, none⟩ = (#[Value.map (some bm)])[o]?) ∧ (∀ o, w'.cell? ⟨bq, o, none⟩ = (#[Value.bool s1, .int .i64 x1, .bool s2, .int .i64 x2])[o]?)) (by kernel_rfl) ⟨(HA.out.cell 1 rfl), (HA.out.cell 0 rfl)⟩ (fun hHeld => ?_)
      refine wpAnyH_take (i := 0) (v := ?_) rfl (by kernel_rfl) (by kernel_rfl) (by kernel_rfl) (fun _ _ _ h => h) (Or.inl ⟨by rfl, ?_⟩) (by assumption) ?_
      rotate_left
      · (intro w hSw; (try dsimp only at hSw); obtain ⟨hSw0, hSw1⟩ := hSw; go_simp) <;> with_reducible rfl
      (simp only [Act.put, List.getElem_toArray, List.getElem_cons_zero, List.getElem_cons_succ, List.setIfInBounds_toArray, List.set_cons_zero, List.set_cons_succ])
      refine wpAnyH_take (i := 1) (v := ?_) rfl (by kernel_rfl) (by kernel_rfl) (by kernel_rfl) (fun _ _ _ h => h) (Or.inl ⟨by rfl, ?_⟩) (by assumption) ?_
      rotate_left
      · (intro w hSw; (try dsimp only at hSw); obtain ⟨hSw0, hSw1⟩ := hSw; go_simp) <;> with_reducible rfl
      (simp only [Act.put, List.getElem_toArray, List.getElem_cons_zero, List.getElem_cons_succ, List.setIfInBounds_toArray, List.set_cons_zero, List.set_cons_succ])
      refine wpAnyH_take (i := 2) (v := ?_) rfl (by kernel_rfl) (by kernel_rfl) (by kernel_rfl) (fun _ _ _ h => h) (Or.inl ⟨by rfl, ?_⟩) (by assumption) ?_
      rotate_left
      · (intro w hSw; (try dsimp only at hSw); obtain ⟨hSw0, hSw1⟩ := hSw; go_simp) <;> with_reducible rfl
      (simp only [Act.put, List.getElem_toArray, List.getElem_cons_zero, List.getElem_cons_succ, List.setIfInBounds_toArray, List.set_cons_zero, List.set_cons_succ])
      refine wpAnyH_ready (rs := [3, 5]) (by kernel_rfl) (by simp) ?_
      refine AllReadyH.cons rfl (fun K hK => ?_) (AllReadyH.cons rfl (fun K hK => ?_) AllReadyH.nil)
      · have hlk := ((HA.out.get (i := 2) rfl).2).look (p := (s1, x1)) HW.out
        unfold kV at hlk
        (try simp only [HFC.out] at hlk)
        go_simp
        clear hlk
        refine hK.out _ _ ⟨(HA.out.cell 1 rfl), (HA.out.cell 0 rfl)⟩ (fun hHeld1 => ?_)
        clear hK K
        (try (simp only [Act.put, List.getElem_toArray, List.getElem_cons_zero, List.getElem_cons_succ, List.setIfInBounds_toArray, List.set_cons_zero, List.set_cons_succ]))
        refine wpAnyH_take (i := 4) (v := ?_) rfl (by kernel_rfl) (by kernel_rfl) (by kernel_rfl) (fun _ _ _ h => h) (Or.inl ⟨by rfl, ?_⟩) (by assumption) ?_
        rotate_left
        · (intro w hSw; (try dsimp only at hSw); obtain ⟨hSw0, hSw1⟩ := hSw; go_simp) <;> with_reducible rfl
        (simp only [Act.put, List.getElem_toArray, List.getElem_cons_zero, List.getElem_cons_succ, List.setIfInBounds_toArray, List.set_cons_zero, List.set_cons_succ])
        refine wpAnyH_ready (rs := [5]) (by kernel_rfl) (by simp) ?_
        refine AllReadyH.cons rfl (fun K hK => ?_) AllReadyH.nil
        obtain ⟨w5, st, hent, hEn, hg⟩ := (HA.out.get (i := 2) rfl).2.entry (p := (s1, x1)) HW.out
        unfold kV at hent
        (try simp only [HFC.out] at hent)
        have HEa := hide (HA.out.mapd 2 rfl rfl hg (r' := .en bm (asks (M.take k)) (s1, x1) st) ⟨(HA.out.get (i := 2) rfl).1, hEn⟩ rfl)
        go_simp
        clear hent hEn hg
        refine hK.out _ _ ⟨(HEa.out.cell 1 rfl), (HEa.out.cell 0 rfl)⟩ (fun hHeld2 => ?_)
        clear hK K
        (try (simp only [Act.put, List.getElem_toArray, List.getElem_cons_zero, List.getElem_cons_succ, List.setIfInBounds_toArray, List.set_cons_zero, List.set_cons_succ]))
        refine wpAnyH_take (i := 6) (v := ?_) rfl (by kernel_rfl) (by kernel_rfl) (by kernel_rfl) (fun _ _ _ h => h) (Or.inl ⟨by rfl, ?_⟩) (by assumption) ?_
        rotate_left
        · (intro w hSw; (try dsimp only at hSw); obtain ⟨hSw0, hSw1⟩ := hSw; go_simp) <;> with_reducible rfl
        (simp only [Act.put, List.getElem_toArray, List.getElem_cons_zero, List.getElem_cons_succ, List.setIfInBounds_toArray, List.set_cons_zero, List.set_cons_succ])
        refine wpAnyH_ready (rs := [7]) (by kernel_rfl) (by simp) ?_
        refine AllReadyH.cons rfl (fun K hK => ?_) AllReadyH.nil
        obtain ⟨w7, hst, hMp, hg⟩ := (HEa.out.get (i := 2) rfl).2.store (cn + 1)
        have HEb := hide (HEa.out.mapd 2 rfl rfl hg (r' := .mp bm (upd (asks (M.take k)) (s1, x1) (cn + 1))) ⟨(HEa.out.get (i := 2) rfl).1, hMp⟩ rfl)
        go_simp
        clear hst hMp hg
        refine hK.out _ _ ⟨(HEb.out.cell 1 rfl), (HEb.out.cell 0 rfl)⟩ (fun hHeld3 => ?_)
        clear hK K
        (try (simp only [Act.put, List.getElem_toArray, List.getElem_cons_zero, List.getElem_cons_succ, List.setIfInBounds_toArray, List.set_cons_zero, List.set_cons_succ]))
        refine wpAnyH_done (by kernel_rfl) ?_ _
        go_wp2_with fail
        go_roundw
        case rel => exact ⟨k + 1, by omega, by go_num, by rw [HS.out]; exact HEb.out.tail⟩
        case measure => simp [intOf]; omega
      · obtain ⟨w5, st, hent, hEn, hg⟩ := (HA.out.get (i := 2) rfl).2.entry (p := (s1, x1)) HW.out
        unfold kV at hent
        (try simp only [HFC.out] at hent)
        have HEa := hide (HA.out.mapd 2 rfl rfl hg (r' := .en bm (asks (M.take k)) (s1, x1) st) ⟨(HA.out.get (i := 2) rfl).1, hEn⟩ rfl)
        go_simp
        clear hent hEn hg
        refine hK.out _ _ ⟨(HEa.out.cell 1 rfl), (HEa.out.cell 0 rfl)⟩ (fun hHeld4 => ?_)
        clear hK K
        (try (simp only [Act.put, List.getElem_toArray, List.getElem_cons_zero, List.getElem_cons_succ, List.setIfInBounds_toArray, List.set_cons_zero, List.set_cons_succ]))
        refine wpAnyH_take (i := 6) (v := ?_) rfl (by kernel_rfl) (by kernel_rfl) (by kernel_rfl) (fun _ _ _ h => h) (Or.inl ⟨by rfl, ?_⟩) (by assumption) ?_
        rotate_left
        · (intro w hSw; (try dsimp only at hSw); obtain ⟨hSw0, hSw1⟩ := hSw; go_simp) <;> with_reducible rfl
        (simp only [Act.put, List.getElem_toArray, List.getElem_cons_zero, List.getElem_cons_succ, List.setIfInBounds_toArray, List.set_cons_zero, List.set_cons_succ])
        refine wpAnyH_ready (rs := [3]) (by kernel_rfl) (by simp) ?_
        refine AllReadyH.cons rfl (fun K hK => ?_) AllReadyH.nil
        have hlk := ((HEa.out.get (i := 2) rfl).2.mp).look (p := (s1, x1)) HW.out
        unfold kV at hlk
        (try simp only [HFC.out] at hlk)
        go_simp
        clear hlk
        refine hK.out _ _ ⟨(HEa.out.cell 1 rfl), (HEa.out.cell 0 rfl)⟩ (fun hHeld5 => ?_)
        clear hK K
        (try (simp only [Act.put, List.getElem_toArray, List.getElem_cons_zero, List.getElem_cons_succ, List.setIfInBounds_toArray, List.set_cons_zero, List.set_cons_succ]))
        refine wpAnyH_take (i := 4) (v := ?_) rfl (by kernel_rfl) (by kernel_rfl) (by kernel_rfl) (fun _ _ _ h => h) (Or.inl ⟨by rfl, ?_⟩) (by assumption) ?_
        rotate_left
        · (intro w hSw; (try dsimp only at hSw); obtain ⟨hSw0, hSw1⟩ := hSw; go_simp) <;> with_reducible rfl
        (simp only [Act.put, List.getElem_toArray, List.getElem_cons_zero, List.getElem_cons_succ, List.setIfInBounds_toArray, List.set_cons_zero, List.set_cons_succ])
        refine wpAnyH_ready (rs := [7]) (by kernel_rfl) (by simp) ?_
        refine AllReadyH.cons rfl (fun K hK => ?_) AllReadyH.nil
        obtain ⟨w7, hst, hMp, hg⟩ := (HEa.out.get (i := 2) rfl).2.store (cn + 1)
        have HEb := hide (HEa.out.mapd 2 rfl rfl hg (r' := .mp bm (upd (asks (M.take k)) (s1, x1) (cn + 1))) ⟨(HEa.out.get (i := 2) rfl).1, hMp⟩ rfl)
        go_simp
        clear hst hMp hg
        refine hK.out _ _ ⟨(HEb.out.cell 1 rfl), (HEb.out.cell 0 rfl)⟩ (fun hHeld6 => ?_)
        clear hK K
        (try (simp only [Act.put, List.getElem_toArray, List.getElem_cons_zero, List.getElem_cons_succ, List.setIfInBounds_toArray, List.set_cons_zero, List.set_cons_succ]))
        refine wpAnyH_done (by kernel_rfl) ?_ _
        go_wp2_with fail
        go_roundw
        case rel => exact ⟨k + 1, by omega, by go_num, by rw [HS.out]; exact HEb.out.tail⟩
        case measure => simp [intOf]; omega
    · obtain rfl : k = M.length := by omega
      have hlt' : ¬ (M.length : Int) < M.length := by omega
      rw [List.take_length] at HF
      go_wp2_with fail
      clear hlt' hk hlt
      go_step3
      go_wp2_with fail
      have HZ := hide (HF.out.nil 33 4)
      clear HF
      go_loopw [0, 9] (fun u0 u9 wr => ∃ Q R, Hid (Inv n fin (false, tmp) Q R) ∧ Hid (∀ m, m ∈ Q → Wf m.1 ∧ Wf m.2) ∧ Q.length ≤ 100 ∧ Hid (Fr n0 w0 wr [.row u9 33 4 R.length (prV (R)), .blk b5 #[.map (some bm)] 45, .mp bm (asks (Q)), .blk b3 #[.bool false, .int .i64 tmp] 31, .row u0 33 4 Q.length (prV (Q))])) (fun _ u9 _ => 300 - lenV u9)
      case atStart => exact ⟨M, [], HI, HOK, hM, HZ⟩
      case round =>
        clear HZ HI HOK hM
        obtain ⟨Q, R, HI, HOK, hQ, HF⟩ := hrel
        have hR := HI.out.bound hn
        obtain ⟨a0, c0, rfl⟩ := row_shape (HF.out.get (i := 4) rfl)
        obtain ⟨a9, c9, rfl⟩ := row_shape (HF.out.get (i := 0) rfl)
        by_cases hz : 0 < Q.length
        · have hz' : (0 : Int) < Q.length := by omega
          obtain ⟨g, rfl, -, -⟩ := row_cells (HF.out.get (i := 4) rfl) hz
          go_wp2_with fail
          go_loopw [0, 9, 35] (fun z0 z9 i wr => z0 = .slice (some ⟨g, 0, none⟩) Q.length c0 ∧ z9 = .slice a9 R.length c9 ∧ ∃ k : Nat, k ≤ Q.length ∧ i = .int .i64 k ∧ Hid (Fr n0 w0 wr [.row (.slice a9 R.length c9) 33 4 R.length (prV (R)), .blk b5 #[.map (some bm)] 45, .mp bm (asks (Q)), .blk b3 #[.bool false, .int .i64 tmp] 31, .row (.slice (some ⟨g, 0, none⟩) Q.length c0) 33 4 Q.length (prV (Q))]) ∧ Hid (∀ j (h : j < Q.length), j < k → 0 < asks Q Q[j].2)) (fun _ _ i _ => Q.length - (intOf i).toNat)
          case atStart => exact ⟨rfl, rfl, 0, Nat.zero_le _, rfl, HF, fun j h hj => absurd hj (by omega)⟩
          case round =>
            clear HF
            obtain ⟨rfl, rfl, k, hk, rfl, HF, HAS⟩ := hrel
            by_cases hlt : k < Q.length
            · have hlt' : (k : Int) < Q.length := by omega
              have hidx : (0 : Int) ≤ k ∧ (k : Int) < Q.length := by omega
              obtain ⟨d0, d1, d2, d3⟩ := row_cells2 (HF.out.get (i := 4) rfl) k hlt
              have hcb := asks_le Q Q[k].1
              have hcb0 : 0 < asks Q Q[k].1 := asks_pos.2 ⟨Q[k], List.getElem_mem hlt, rfl⟩
              have HW1 : Hid (Wf Q[k].1) := (HOK.out _ (List.getElem_mem hlt)).1
              have HW2 : Hid (Wf Q[k].2) := (HOK.out _ (List.getElem_mem hlt)).2
              have HS : Hid (asks (Q.eraseIdx k) = upd (asks Q) Q[k].1 (asks Q Q[k].1 - 1)) := asks_erase hlt
              have HE : Hid (¬ 0 < asks Q Q[k].2 → Inv n fin (false, tmp) (Q.eraseIdx k) (R ++ [Q[k]])) := fun h => HI.out.emit hlt h
              have HN : Hid (0 < asks Q Q[k].2 → ∀ j (h : j < Q.length), j < k + 1 → 0 < asks Q Q[j].2) := fun h j hj hjk => by
                by_cases q : j = k
                · subst q; exact h
                · exact HAS.out j hj (by omega)
              generalize hy : Q[k] = y at *
              have HY : Hid (Q[k] = y) := hy
              clear hy
              obtain ⟨⟨s1, x1⟩, ⟨s2, x2⟩⟩ := y
              simp only at d0 d1 d2 d3 hcb hcb0 HW1 HW2 HS HE HN
              have HA := hide (HF.out.alloc (q := wr.heap.size) rfl #[.bool s1, .int .i64 x1, .bool s2, .int .i64 x2] 33)
              have HC := hide (c18_any b5 bm (asks Q) s2 x2 _ (HA.out.get (i := 2) rfl).2 (HA.out.get (i := 3) rfl).2 HW2.out)
              by_cases hpos : 0 < asks Q (s2, x2)
              · rw [decide_eq_true hpos] at HC
                have HN2 := hide (HN.out hpos)
                clear hpos hcb hcb0 HE HN HS HW1 HW2
                go_wp2_with fail
                go_at_call 18
                refine HC.out.mono ?_
                rintro e w1 ⟨rfl, hb⟩
                replace HA := hide (HA.out.call hb)
                clear hb HC
                go_wp2_with fail
                go_roundw
                case rel => exact ⟨rfl, rfl, k + 1, by omega, by go_num, HA.out.tail, HN2⟩
                case measure => simp [intOf]; omega
              · rw [decide_eq_false hpos] at HC
                have HE2 := hide (HE.out (by omega))
                clear hpos HE HN HW2
                obtain ⟨cn, HFC⟩ : ∃ cn, Hid (asks Q (s1, x1) = cn) := ⟨_, rfl⟩
                rw [HFC.out] at hcb hcb0 HS
                have hwr : IntKind.i64.wrap (cn - 1) = cn - 1 := by rw [IntKind.wrap_i64]; omega
                have hcn : cn ≤ 100 := by omega
                clear hcb
                go_wp2_with fail
                go_at_call 18
                refine HC.out.mono ?_
                rintro e w1 ⟨rfl, hb⟩
                replace HA := hide (HA.out.call hb)
                clear hb HC
                generalize hbq : wr.heap.size = bq at *
                clear hbq
                have cm := HA.out.cell 0 rfl
                have HA2 := hide (HA.out.alloc (q := w1.heap.size) rfl #[.bool s1, .int .i64 x1, .bool s2, .int .i64 x2] 33)
                go_wp2_with (at_builtin; first | (have HAl := HA2.out; refine Fr.one 22 info33 Try.underlying22 rfl (by decide) (by decide) HAl 1 (v := .slice a9 R.length c9) (n := R.length) rfl (by omega) _ _ rfl rfl rfl rfl rfl rfl ?_; intro g7 cap7 w7 h7 _; have HF7 := hide h7.drew; clear h7))
                clear cm HA HA2 HF
                refine wp_region_held_drew (S := fun w' => (∀ o, w'.cell? ⟨b5, o, none⟩ = (#[Value.map (some bm)])[o]?) ∧ (∀ o, w'.cell? ⟨bq, o, none⟩ = (#[Value.bool s1, .int .i64 x1, .bool s2, .int .i64 x2])[o]?)) (by kernel_rfl) ⟨(HF7.out.cell 2 rfl), (HF7.out.cell 0 rfl)⟩ (fun hHeld => ?_)
                refine wpAnyH_take (i := 0) (v := ?_) rfl (by kernel_rfl) (by kernel_rfl) (by kernel_rfl) (fun _ _ _ h => h) (Or.inl ⟨by rfl, ?_⟩) (by assumption) ?_
                rotate_left
                · (intro w hSw; (try dsimp only at hSw); obtain ⟨hSw0, hSw1⟩ := hSw; go_simp) <;> with_reducible rfl
                (simp only [Act.put, List.getElem_toArray, List.getElem_cons_zero, List.getElem_cons_succ, List.setIfInBounds_toArray, List.set_cons_zero, List.set_cons_succ])
                refine wpAnyH_take (i := 1) (v := ?_) rfl (by kernel_rfl) (by kernel_rfl) (by kernel_rfl) (fun _ _ _ h => h) (Or.inl ⟨by rfl, ?_⟩) (by assumption) ?_
                rotate_left
                · (intro w hSw; (try dsimp only at hSw); obtain ⟨hSw0, hSw1⟩ := hSw; go_simp) <;> with_reducible rfl
                (simp only [Act.put, List.getElem_toArray, List.getElem_cons_zero, List.getElem_cons_succ, List.setIfInBounds_toArray, List.set_cons_zero, List.set_cons_succ])
                refine wpAnyH_take (i := 2) (v := ?_) rfl (by kernel_rfl) (by kernel_rfl) (by kernel_rfl) (fun _ _ _ h => h) (Or.inl ⟨by rfl, ?_⟩) (by assumption) ?_
                rotate_left
                · (intro w hSw; (try dsimp only at hSw); obtain ⟨hSw0, hSw1⟩ := hSw; go_simp) <;> with_reducible rfl
                (simp only [Act.put, List.getElem_toArray, List.getElem_cons_zero, List.getElem_cons_succ, List.setIfInBounds_toArray, List.set_cons_zero, List.set_cons_succ])
                refine wpAnyH_ready (rs := [3, 5]) (by kernel_rfl) (by simp) ?_
                refine AllReadyH.cons rfl (fun K hK => ?_) (AllReadyH.cons rfl (fun K hK => ?_) AllReadyH.nil)
                · have hlk := ((HF7.out.get (i := 3) rfl).2).look (p := (s1, x1)) HW1.out
                  unfold kV at hlk
                  (try simp only [HFC.out] at hlk)
                  go_simp
                  clear hlk
                  refine hK.out _ _ ⟨(HF7.out.cell 2 rfl), (HF7.out.cell 0 rfl)⟩ (fun hHeld7 => ?_)
                  clear hK K
                  (try (simp only [Act.put, List.getElem_toArray, List.getElem_cons_zero, List.getElem_cons_succ, List.setIfInBounds_toArray, List.set_cons_zero, List.set_cons_succ]))
                  refine wpAnyH_take (i := 4) (v := ?_) rfl (by kernel_rfl) (by kernel_rfl) (by kernel_rfl) (fun _ _ _ h => h) (Or.inl ⟨by rfl, ?_⟩) (by assumption) ?_
                  rotate_left
                  · (intro w hSw; (try dsimp only at hSw); obtain ⟨hSw0, hSw1⟩ := hSw; go_simp) <;> with_reducible rfl
                  (simp only [Act.put, List.getElem_toArray, List.getElem_cons_zero, List.getElem_cons_succ, List.setIfInBounds_toArray, List.set_cons_zero, List.set_cons_succ])
                  refine wpAnyH_ready (rs := [5]) (by kernel_rfl) (by simp) ?_
                  refine AllReadyH.cons rfl (fun K hK => ?_) AllReadyH.nil
                  obtain ⟨w5, st, hent, hEn, hg⟩ := (HF7.out.get (i := 3) rfl).2.entry (p := (s1, x1)) HW1.out
                  unfold kV at hent
                  (try simp only [HFC.out] at hent)
                  have HEa := hide (HF7.out.mapd 3 rfl rfl hg (r' := .en bm (asks Q) (s1, x1) st) ⟨(HF7.out.get (i := 3) rfl).1, hEn⟩ rfl)
                  go_simp
                  clear hent hEn hg
                  refine hK.out _ _ ⟨(HEa.out.cell 2 rfl), (HEa.out.cell 0 rfl)⟩ (fun hHeld8 => ?_)
                  clear hK K
                  (try (simp only [Act.put, List.getElem_toArray, List.getElem_cons_zero, List.getElem_cons_succ, List.setIfInBounds_toArray, List.set_cons_zero, List.set_cons_succ]))
                  refine wpAnyH_take (i := 6) (v := ?_) rfl (by kernel_rfl) (by kernel_rfl) (by kernel_rfl) (fun _ _ _ h => h) (Or.inl ⟨by rfl, ?_⟩) (by assumption) ?_
                  rotate_left
                  · (intro w hSw; (try dsimp only at hSw); obtain ⟨hSw0, hSw1⟩ := hSw; go_simp) <;> with_reducible rfl
                  (simp only [Act.put, List.getElem_toArray, List.getElem_cons_zero, List.getElem_cons_succ, List.setIfInBounds_toArray, List.set_cons_zero, List.set_cons_succ])
                  refine wpAnyH_ready (rs := [7]) (by kernel_rfl) (by simp) ?_
                  refine AllReadyH.cons rfl (fun K hK => ?_) AllReadyH.nil
                  obtain ⟨wz, hst, hMp, hg⟩ := (HEa.out.get (i := 3) rfl).2.store (cn - 1)
                  have HEb := hide (HEa.out.mapd 3 rfl rfl hg (r' := .mp bm (upd (asks Q) (s1, x1) (cn - 1))) ⟨(HEa.out.get (i := 3) rfl).1, hMp⟩ rfl)
                  go_simp
                  clear hst hMp hg
                  refine hK.out _ _ ⟨(HEb.out.cell 2 rfl), (HEb.out.cell 0 rfl)⟩ (fun hHeld9 => ?_)
                  clear hK K
                  (try (simp only [Act.put, List.getElem_toArray, List.getElem_cons_zero, List.getElem_cons_succ, List.setIfInBounds_toArray, List.set_cons_zero, List.set_cons_succ]))
                  refine wpAnyH_done (by kernel_rfl) ?_ _
                  obtain ⟨gq, capq, cur, ev, k1, k2, k3, k4, -, hFo⟩ := HEb.out.opened 5 rfl (by omega)
                  cases ev
                  have HO := hide hFo
                  have HDC := hide (del_cells (i := k) rfl hlt k1 k3 k4)
                  have HKS : Hid ((setAll (setAll cur (k * 4) (prV (Q.drop (k + 1)))) ((Q.length - 1) * 4) zero4).size = c0 * 4) := by show _ = _; rw [setAll_size, setAll_size]; exact k3
                  have HK1 := hide k1
                  have HK2 := hide k2
                  have HDL := hide (del_any g Q.length c0 k cur Q wz (HO.out.get (i := 5) rfl).2 rfl hlt k1 (by unfold maxLen at k2; exact k2) hQ k3 k4)
                  clear hFo k1 k2 k3 k4 HEb HEa
                  have hwk : IntKind.i64.wrap ((k : Int) + 1) = (k : Int) + 1 := by rw [IntKind.wrap_i64]; omega
                  go_wp2_with fail
                  go_at_call 19
                  refine HDL.out.mono ?_
                  rintro e w8 ⟨rfl, hblk, hgr⟩
                  have HV := hide (((HO.out.via 5 rfl hgr hblk).shut 5 (n := Q.length - 1) (z := 4) (cap := c0) rfl (by have := HK1.out; omega) HK2.out HKS.out HDC.out (by rw [prV_len, List.length_eraseIdx_of_lt hlt])))
                  clear hblk hgr HDL HO
                  go_wp2_with fail
                  go_roundw
                  case rel =>
                    refine ⟨Q.eraseIdx k, R ++ [((s1, x1), (s2, x2))], HE2, fun m hm => HOK.out m (List.mem_of_mem_eraseIdx hm), by rw [List.length_eraseIdx_of_lt hlt]; omega, ?_⟩
                    have hx := HV.out.tail
                    show Fr _ _ _ _
                    rw [prV_snoc, List.length_append, HS.out, List.length_eraseIdx_of_lt hlt]
                    exact hx
                  case measure => simp [lenV]; omega
                · obtain ⟨w5, st, hent, hEn, hg⟩ := (HF7.out.get (i := 3) rfl).2.entry (p := (s1, x1)) HW1.out
                  unfold kV at hent
                  (try simp only [HFC.out] at hent)
                  have HEa := hide (HF7.out.mapd 3 rfl rfl hg (r' := .en bm (asks Q) (s1, x1) st) ⟨(HF7.out.get (i := 3) rfl).1, hEn⟩ rfl)
                  go_simp
                  clear hent hEn hg
                  refine hK.out _ _ ⟨(HEa.out.cell 2 rfl), (HEa.out.cell 0 rfl)⟩ (fun hHeld10 => ?_)
                  clear hK K
                  (try (simp only [Act.put, List.getElem_toArray, List.getElem_cons_zero, List.getElem_cons_succ, List.setIfInBounds_toArray, List.set_cons_zero, List.set_cons_succ]))
                  refine wpAnyH_take (i := 6) (v := ?_) rfl (by kernel_rfl) (by kernel_rfl) (by kernel_rfl) (fun _ _ _ h => h) (Or.inl ⟨by rfl, ?_⟩) (by assumption) ?_
                  rotate_left
                  · (intro w hSw; (try dsimp only at hSw); obtain ⟨hSw0, hSw1⟩ := hSw; go_simp) <;> with_reducible rfl
                  (simp only [Act.put, List.getElem_toArray, List.getElem_cons_zero, List.getElem_cons_succ, List.setIfInBounds_toArray, List.set_cons_zero, List.set_cons_succ])
                  refine wpAnyH_ready (rs := [3]) (by kernel_rfl) (by simp) ?_
                  refine AllReadyH.cons rfl (fun K hK => ?_) AllReadyH.nil
                  have hlk := ((HEa.out.get (i := 3) rfl).2.mp).look (p := (s1, x1)) HW1.out
                  unfold kV at hlk
                  (try simp only [HFC.out] at hlk)
                  go_simp
                  clear hlk
                  refine hK.out _ _ ⟨(HEa.out.cell 2 rfl), (HEa.out.cell 0 rfl)⟩ (fun hHeld11 => ?_)
                  clear hK K
                  (try (simp only [Act.put, List.getElem_toArray, List.getElem_cons_zero, List.getElem_cons_succ, List.setIfInBounds_toArray, List.set_cons_zero, List.set_cons_succ]))
                  refine wpAnyH_take (i := 4) (v := ?_) rfl (by kernel_rfl) (by kernel_rfl) (by kernel_rfl) (fun _ _ _ h => h) (Or.inl ⟨by rfl, ?_⟩) (by assumption) ?_
                  rotate_left
                  · (intro w hSw; (try dsimp only at hSw); obtain ⟨hSw0, hSw1⟩ := hSw; go_simp) <;> with_reducible rfl
                  (simp only [Act.put, List.getElem_toArray, List.getElem_cons_zero, List.getElem_cons_succ, List.setIfInBounds_toArray, List.set_cons_zero, List.set_cons_succ])
                  refine wpAnyH_ready (rs := [7]) (by kernel_rfl) (by simp) ?_
                  refine AllReadyH.cons rfl (fun K hK => ?_) AllReadyH.nil
                  obtain ⟨wz, hst, hMp, hg⟩ := (HEa.out.get (i := 3) rfl).2.store (cn - 1)
                  have HEb := hide (HEa.out.mapd 3 rfl rfl hg (r' := .mp bm (upd (asks Q) (s1, x1) (cn - 1))) ⟨(HEa.out.get (i := 3) rfl).1, hMp⟩ rfl)
                  go_simp
                  clear hst hMp hg
                  refine hK.out _ _ ⟨(HEb.out.cell 2 rfl), (HEb.out.cell 0 rfl)⟩ (fun hHeld12 => ?_)
                  clear hK K
                  (try (simp only [Act.put, List.getElem_toArray, List.getElem_cons_zero, List.getElem_cons_succ, List.setIfInBounds_toArray, List.set_cons_zero, List.set_cons_succ]))
                  refine wpAnyH_done (by kernel_rfl) ?_ _
                  obtain ⟨gq, capq, cur, ev, k1, k2, k3, k4, -, hFo⟩ := HEb.out.opened 5 rfl (by omega)
                  cases ev
                  have HO := hide hFo
                  have HDC := hide (del_cells (i := k) rfl hlt k1 k3 k4)
                  have HKS : Hid ((setAll (setAll cur (k * 4) (prV (Q.drop (k + 1)))) ((Q.length - 1) * 4) zero4).size = c0 * 4) := by show _ = _; rw [setAll_size, setAll_size]; exact k3
                  have HK1 := hide k1
                  have HK2 := hide k2
                  have HDL := hide (del_any g Q.length c0 k cur Q wz (HO.out.get (i := 5) rfl).2 rfl hlt k1 (by unfold maxLen at k2; exact k2) hQ k3 k4)
                  clear hFo k1 k2 k3 k4 HEb HEa
                  have hwk : IntKind.i64.wrap ((k : Int) + 1) = (k : Int) + 1 := by rw [IntKind.wrap_i64]; omega
                  go_wp2_with fail
                  go_at_call 19
                  refine HDL.out.mono ?_
                  rintro e w8 ⟨rfl, hblk, hgr⟩
                  have HV := hide (((HO.out.via 5 rfl hgr hblk).shut 5 (n := Q.length - 1) (z := 4) (cap := c0) rfl (by have := HK1.out; omega) HK2.out HKS.out HDC.out (by rw [prV_len, List.length_eraseIdx_of_lt hlt])))
                  clear hblk hgr HDL HO
                  go_wp2_with fail
                  go_roundw
                  case rel =>
                    refine ⟨Q.eraseIdx k, R ++ [((s1, x1), (s2, x2))], HE2, fun m hm => HOK.out m (List.mem_of_mem_eraseIdx hm), by rw [List.length_eraseIdx_of_lt hlt]; omega, ?_⟩
                    have hx := HV.out.tail
                    show Fr _ _ _ _
                    rw [prV_snoc, List.length_append, HS.out, List.length_eraseIdx_of_lt hlt]
                    exact hx
                  case measure => simp [lenV]; omega
            · obtain rfl : k = Q.length := by omega
              have hlt' : ¬ (Q.length : Int) < Q.length := by omega
              have HALL : Hid (∀ m, m ∈ Q → 0 < asks Q m.2) := fun m hm => by
                obtain ⟨j, hj, rfl⟩ := List.getElem_of_mem hm
                exact HAS.out j hj hj
              have hidx0 : (0 : Int) < Q.length := by omega
              obtain ⟨d0, d1, d2, d3⟩ := row_cells2 (HF.out.get (i := 4) rfl) 0 hz
              have HM0 := hide (List.getElem_mem hz)
              have HW0 := hide (HOK.out _ HM0.out).2
              generalize hy : Q[0] = y at *
              obtain ⟨⟨s1, x1⟩, ⟨s2, x2⟩⟩ := y
              simp only [Nat.zero_mul, Nat.zero_add] at d0 d1 d2 d3 HW0
              have HSV : Hid (∃ m, m ∈ Q ∧ m.2 = (s2, x2)) := ⟨_, HM0.out, rfl⟩
              obtain ⟨j, hj, HJ1, HJ2⟩ : ∃ j, ∃ (hj : j < Q.length), Hid (idxP (fun m : Mv => decide (m.1 = (s2, x2))) Q = j) ∧ Hid (Q[j].1 = (s2, x2)) := by
                have h0 : 0 ≤ idxP (fun m : Mv => decide (m.1 = (s2, x2))) Q := idx_any.2 (by
                  obtain ⟨m, hm, e⟩ := asks_pos.1 (HALL.out _ HM0.out)
                  exact ⟨m, hm, by simpa using e⟩)
                unfold idxP at h0 ⊢
                cases hf : Q.findIdx? (fun m : Mv => decide (m.1 = (s2, x2))) with
                | none => rw [hf] at h0; simp at h0
                | some j =>
                  obtain ⟨hj, h1, _⟩ := List.findIdx?_eq_some_iff_getElem.1 hf
                  exact ⟨j, hj, rfl, (by simpa using h1 : Q[j].1 = (s2, x2))⟩
              obtain ⟨o1, o2, o3, o4⟩ := HI.out.opens HALL.out HSV.out hj HJ2.out
              have HO1 := hide o1
              have HO2 := hide o2
              clear o1 o2 o3 o4 hy HAS HALL HSV hlt
              have HA := hide (HF.out.alloc (q := wr.heap.size) rfl #[.bool s2, .int .i64 x2] 31)
              have HA2 := hide (HA.out.alloc (q := wr.heap.size + 1) (by simp) #[.bool s2, .int .i64 x2, .bool false, .int .i64 tmp] 33)
              have cb3 := HA.out.cell 4 rfl
              go_wp2_with (at_builtin; first | (have HAl := HA2.out; refine Fr.one 22 info33 Try.underlying22 rfl (by decide) (by decide) HAl 1 (v := .slice a9 R.length c9) (n := R.length) rfl (by omega) _ _ rfl rfl rfl rfl rfl rfl ?_; intro g7 cap7 w7 h7 _; have HF7 := hide h7; clear h7; have HIX := hide (ix21_any wr.heap.size s2 x2 (.slice (some ⟨g, 0, none⟩) Q.length c0) Q w7 (Prs.of (HF7.out.get (i := 5) rfl)) hQ (HF7.out.get (i := 0) rfl).2); rw [HJ1.out] at HIX; clear cb3 d0 d1 d2 d3))
              go_at_call 20
              refine HIX.out.mono ?_
              rintro e w8 ⟨rfl, hb⟩
              replace HF7 := hide (HF7.out.call hb)
              clear hb HIX HA HA2 HF
              generalize hbq : wr.heap.size = bq at *
              clear hbq
              have hidx : (0 : Int) ≤ j ∧ (j : Int) < Q.length := by omega
              have cb3 := HF7.out.cell 4 rfl
              obtain ⟨d0, d1, d2, d3⟩ := row_cells2 (HF7.out.get (i := 5) rfl) j hj
              obtain ⟨gq, capq, cur, ev, k1, k2, k3, k4, -, hFo⟩ := HF7.out.opened 5 rfl (by omega)
              cases ev
              have fz := hFo.frz 5 rfl
              have HV := hide (((hFo.set 5 rfl (j * 4) (.bool false)).set 5 rfl (j * 4 + 1) (.int .i64 tmp)).shut 5 (n := Q.length) (z := 4) (cap := c0) (xs := prV (Q.set j ((false, tmp), Q[j].2))) rfl k1 k2 (by simp [k3]) (set_cells hj k1 k3 k4) (by rw [prV_len, List.length_set]))
              clear hFo k1 k2 k3 k4 HF7
              go_wp2_with fail
              generalize hW9 : (w8.setCell _ _).setCell _ _ = w9 at *
              clear hW9 fz d0 d1 d2 d3 cb3
              replace HV := hide HV.out.drew
              refine wp_region_held_drew (S := fun w' => (∀ o, w'.cell? ⟨b5, o, none⟩ = (#[Value.map (some bm)])[o]?) ∧ (∀ o, w'.cell? ⟨bq, o, none⟩ = (#[Value.bool s2, .int .i64 x2])[o]?) ∧ (∀ o, w'.cell? ⟨b3, o, none⟩ = (#[Value.bool false, .int .i64 tmp])[o]?)) (by kernel_rfl) ⟨(HV.out.cell 2 rfl), (HV.out.cell 0 rfl), (HV.out.cell 4 rfl)⟩ (fun hHeld => ?_)
              refine wpAnyH_take (i := 0) (v := ?_) rfl (by kernel_rfl) (by kernel_rfl) (by kernel_rfl) (fun _ _ _ h => h) (Or.inl ⟨by rfl, ?_⟩) (by assumption) ?_
              rotate_left
              · (intro w hSw; (try dsimp only at hSw); obtain ⟨hSw0, hSw1, hSw2⟩ := hSw; go_simp) <;> with_reducible rfl
              (simp only [Act.put, List.getElem_toArray, List.getElem_cons_zero, List.getElem_cons_succ, List.setIfInBounds_toArray, List.set_cons_zero, List.set_cons_succ])
              refine wpAnyH_take (i := 1) (v := ?_) rfl (by kernel_rfl) (by kernel_rfl) (by kernel_rfl) (fun _ _ _ h => h) (Or.inl ⟨by rfl, ?_⟩) (by assumption) ?_
              rotate_left
              · (intro w hSw; (try dsimp only at hSw); obtain ⟨hSw0, hSw1, hSw2⟩ := hSw; go_simp) <;> with_reducible rfl
              (simp only [Act.put, List.getElem_toArray, List.getElem_cons_zero, List.getElem_cons_succ, List.setIfInBounds_toArray, List.set_cons_zero, List.set_cons_succ])
              refine wpAnyH_take (i := 2) (v := ?_) rfl (by kernel_rfl) (by kernel_rfl) (by kernel_rfl) (fun _ _ _ h => h) (Or.inl ⟨by rfl, ?_⟩) (by assumption) ?_
              rotate_left
              · (intro w hSw; (try dsimp only at hSw); obtain ⟨hSw0, hSw1, hSw2⟩ := hSw; go_simp) <;> with_reducible rfl
              (simp only [Act.put, List.getElem_toArray, List.getElem_cons_zero, List.getElem_cons_succ, List.setIfInBounds_toArray, List.set_cons_zero, List.set_cons_succ])
              refine wpAnyH_take (i := 3) (v := ?_) rfl (by kernel_rfl) (by kernel_rfl) (by kernel_rfl) (fun _ _ _ h => h) (Or.inl ⟨by rfl, ?_⟩) (by assumption) ?_
              rotate_left
              · (intro w hSw; (try dsimp only at hSw); obtain ⟨hSw0, hSw1, hSw2⟩ := hSw; go_simp) <;> with_reducible rfl
              (simp only [Act.put, List.getElem_toArray, List.getElem_cons_zero, List.getElem_cons_succ, List.setIfInBounds_toArray, List.set_cons_zero, List.set_cons_succ])
              refine wpAnyH_ready (rs := [4]) (by kernel_rfl) (by simp) ?_
              refine AllReadyH.cons rfl (fun K hK => ?_) AllReadyH.nil
              obtain ⟨wx, hst, hMp, hg⟩ := (HV.out.get (i := 3) rfl).2.update (p := (s2, x2)) HW0.out (0)
              have HX := hide (HV.out.mapd 3 rfl rfl hg (r' := .mp bm (upd (asks Q) (s2, x2) (0))) ⟨(HV.out.get (i := 3) rfl).1, hMp⟩ rfl)
              unfold kV at hst
              go_simp
              clear hst hMp hg
              refine hK.out _ _ ⟨(HX.out.cell 2 rfl), (HX.out.cell 0 rfl), (HX.out.cell 4 rfl)⟩ (fun hHeld13 => ?_)
              clear hK K
              (try (simp only [Act.put, List.getElem_toArray, List.getElem_cons_zero, List.getElem_cons_succ, List.setIfInBounds_toArray, List.set_cons_zero, List.set_cons_succ]))
              refine wpAnyH_ready (rs := [5]) (by kernel_rfl) (by simp) ?_
              refine AllReadyH.cons rfl (fun K hK => ?_) AllReadyH.nil
              obtain ⟨wy, hst, hMp, hg⟩ := (HX.out.get (i := 3) rfl).2.update (p := (false, tmp)) HT.out (1)
              have HY := hide (HX.out.mapd 3 rfl rfl hg (r' := .mp bm (upd (upd (asks Q) (s2, x2) 0) (false, tmp) (1))) ⟨(HX.out.get (i := 3) rfl).1, hMp⟩ rfl)
              unfold kV at hst
              go_simp
              clear hst hMp hg
              refine hK.out _ _ ⟨(HY.out.cell 2 rfl), (HY.out.cell 0 rfl), (HY.out.cell 4 rfl)⟩ (fun hHeld14 => ?_)
              clear hK K
              (try (simp only [Act.put, List.getElem_toArray, List.getElem_cons_zero, List.getElem_cons_succ, List.setIfInBounds_toArray, List.set_cons_zero, List.set_cons_succ]))
              refine wpAnyH_done (by kernel_rfl) ?_ _
              go_wp2_with fail
              go_roundw
              case rel =>
                refine ⟨Q.set j ((false, tmp), Q[j].2), R ++ [((s2, x2), (false, tmp))], HO1, fun m hm => ?_, by rw [List.length_set]; exact hQ, ?_⟩
                · rcases List.mem_or_eq_of_mem_set hm with h | rfl
                  · exact HOK.out m h
                  · exact ⟨HT.out, (HOK.out _ (List.getElem_mem hj)).2⟩
                · have hx := HY.out.tail
                  show Fr _ _ _ _
                  rw [prV_snoc, List.length_append, HO2.out, List.length_set]
                  exact hx
              case measure => simp [lenV]; omega
        · have hz' : ¬ (0 : Int) < Q.length := by omega
          obtain rfl : Q = [] := List.length_eq_zero_iff.1 (by omega)
          go_wp2_with fail
          try rw [Exit.noGoto_ret]
          go_ret
          exact ⟨_, R, rfl, HI.out, HF.out.sub (by simp)⟩
end Go.Proofs.Ytejionmgpplniaa.T
