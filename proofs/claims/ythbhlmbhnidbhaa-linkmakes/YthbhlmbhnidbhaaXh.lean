/- Where functions and relocs stand, as plain things. No walk. The contract of the linker's measure. -/
import Derived.Test.YthbhlmbhnidbhaaXp
import Derived.Test.YthbhlmbhnidbhaaLo
import Derived.Test.YthbhlmbhnidbhaaQa
import Derived.Test.YthbhlmbhnidbhaaXd
import Derived.Test.YthbhlmbhnidbhaaGp
namespace Go.Proofs.Ythbhlmbhnidbhaa.T
open Go.RowKit Go.Proofs.Ythbhlmbhnidbhaa.M
set_option linter.unusedVariables false
set_option linter.unusedSimpArgs false
theorem pl_lt {o : Ob} (h : mayO o = true) {k : Nat} (hk : k < o.syms.length) (h1 : o.syms[k].kind = 1) : o.syms[k].pl < o.code.length := by
  rw [← mayP_eq] at h
  unfold mayP at h
  simp only [Bool.and_eq_true, decide_eq_true_eq] at h
  obtain ⟨⟨⟨⟨⟨⟨⟨-, -⟩, -⟩, -⟩, -⟩, hf⟩, -⟩, -⟩ := h
  cases e : fillSt o.syms 1 o.code.length k with
  | none =>
    have := fillSt_none e o.syms.length (by omega)
    unfold fillB at hf
    rw [this] at hf
    simp at hf
  | some nx =>
    have e1 := fillSt_succ hk e
    cases e2 : fillSt o.syms 1 o.code.length (k + 1) with
    | none =>
      have := fillSt_none e2 o.syms.length (by omega)
      unfold fillB at hf
      rw [this] at hf
      simp at hf
    | some n2 =>
      rw [e2] at e1
      unfold fillStep at e1
      rw [if_pos h1] at e1
      split at e1
      · omega
      · cases e1
theorem rel_asc {o : Ob} (h : mayO o = true) : ∀ (d j : Nat) (hk : j + d + 1 < o.rels.length), (o.rels[j]'(by omega)).pl < o.rels[j + d + 1].pl
  | 0, j, hk => by
    have h1 := mayO_rel h (j + 1) hk
    rw [relB_at hk, prevB_at (by omega)] at h1
    simp only [Bool.and_eq_true, decide_eq_true_eq] at h1
    exact h1.1.1.1.1.1.2
  | d + 1, j, hk => by
    have ih := rel_asc h d j (by omega)
    have h1 := mayO_rel h (j + (d + 1) + 1) hk
    rw [relB_at hk, prevB_at (by omega)] at h1
    simp only [Bool.and_eq_true, decide_eq_true_eq] at h1
    have := h1.1.1.1.1.1.2
    exact Int.lt_trans ih this
theorem patU_far (l : List Ob) (u : Nat) (O : Ob) (C : List Int) (i : Nat) : ∀ k, k ≤ O.rels.length → (∀ j (hj : j < O.rels.length), j < k → i ≠ 2 + cS l u + O.rels[j].pl.toNat) → (patU l u O C k)[i]? = C[i]?
  | 0, _, _ => rfl
  | k + 1, hk, h => by
    rw [patU_next (by omega), List.getElem?_set_ne (fun e => h k (by omega) (by omega) e.symm), patU_far l u O C i k (by omega) fun j hj hjk => h j hj (by omega)]
theorem patL_far {l : List Ob} (hK : Oks l) (i : Nat) : ∀ u, u ≤ l.length → 2 + cS l u ≤ i → (patL l u)[i]? = (cdL l l.length)[i]?
  | 0, _, _ => rfl
  | u + 1, hu, hi => by
    rw [cS_next (by omega)] at hi
    rw [patL_next (by omega), patU_far l u _ _ i _ (Nat.le_refl _) fun j hj _ => ?_, patL_far hK i u (by omega) (by omega)]
    obtain ⟨pn, sn, an, hp, hs, ep, -⟩ := rel_facts (hK.2 _ (List.getElem_mem (by omega))) j hj
    rw [ep, Int.toNat_natCast]
    omega
theorem cdL_at {l : List Ob} {u p : Nat} (hu : u < l.length) (hp : p < l[u].code.length) : ∀ d, u + 1 + d ≤ l.length → (cdL l (u + 1 + d))[2 + cS l u + p]? = some l[u].code[p]
  | 0, _ => by
    rw [Nat.add_zero, cdL_next hu, List.getElem?_append_right (by rw [cdL_len]; omega), cdL_len, show 2 + cS l u + p - (2 + cS l u) = p by omega]
    exact List.getElem?_eq_getElem hp
  | d + 1, hd => by
    have ih := cdL_at hu hp d (by omega)
    rw [show u + 1 + (d + 1) = (u + 1 + d) + 1 by omega, cdL_next (by omega), List.getElem?_append_left (List.getElem?_eq_some_iff.1 ih).1]
    exact ih
/-- What stands at a reloc's place when its turn comes. -/
theorem pat_here {l : List Ob} (hK : Oks l) {u : Nat} (hu : u < l.length) {k pn : Nat} (hk : k < l[u].rels.length) (hp : pn < l[u].code.length) (ep : l[u].rels[k].pl = pn) : (patU l u l[u] (patL l u) k)[2 + cS l u + pn]? = some l[u].code[pn] := by
  have hm := hK.2 _ (List.getElem_mem hu)
  rw [patU_far l u _ _ _ k (by omega) fun j hj hjk => ?_, patL_far hK _ u (by omega) (by omega)]
  · have := cdL_at hu hp (l.length - (u + 1)) (by omega)
    rw [show u + 1 + (l.length - (u + 1)) = l.length by omega] at this
    exact this
  · have h1 := rel_asc hm (k - j - 1) j (by omega)
    have e : j + (k - j - 1) + 1 = k := by omega
    simp only [e] at h1
    obtain ⟨pj, sn, an, hpj, hs, ej, -⟩ := rel_facts hm j hj
    rw [ej, ep] at h1
    rw [ej, Int.toNat_natCast]
    omega
end Go.Proofs.Ythbhlmbhnidbhaa.T
namespace Go.Proofs.Ythbhlmbhnidbhaa.T
open Go.RowKit Go.Proofs.Ythbhlmbhnidbhaa.M
set_option linter.unusedVariables false
set_option linter.unusedSimpArgs false
def st1 (l : List Ob) (u : Nat) : List (Int × Int) := (List.range u).map fun v => ((2 : Int) + cS l v, (0 : Int))
def st2 (l : List Ob) : Nat → List (Int × Int)
  | 0 => st1 l l.length
  | u + 1 => (st2 l u).set u (stB l u)
theorem st1_next (l : List Ob) (u : Nat) : st1 l (u + 1) = st1 l u ++ [((2 : Int) + cS l u, (0 : Int))] := by unfold st1; rw [List.range_succ, List.map_append]; rfl
theorem st1_len (l : List Ob) (u : Nat) : (st1 l u).length = u := by unfold st1; simp
theorem st2_len (l : List Ob) : ∀ u, (st2 l u).length = l.length
  | 0 => st1_len l _
  | u + 1 => by rw [st2, List.length_set, st2_len l u]
theorem st2_at (l : List Ob) : ∀ u i, i < l.length → (st2 l u)[i]? = some (if i < u then stB l i else ((2 : Int) + cS l i, (0 : Int)))
  | 0, i, hi => by unfold st2 st1; simp [hi]
  | u + 1, i, hi => by
    rw [st2, List.getElem?_set]
    by_cases e : u = i
    · subst e
      rw [if_pos rfl, st2_len, if_pos hi, if_pos (by omega)]
    · rw [if_neg e, st2_at l u i hi]
      by_cases q : i < u
      · rw [if_pos q, if_pos (by omega)]
      · rw [if_neg q, if_neg (by omega)]
theorem st2_end (l : List Ob) : st2 l l.length = stL l := by
  apply List.ext_getElem?
  intro i
  by_cases hi : i < l.length
  · rw [st2_at l _ i hi, if_pos hi]
    unfold stL
    simp [hi]
  · rw [List.getElem?_eq_none (by rw [st2_len]; omega), List.getElem?_eq_none (by rw [stL_len]; omega)]
theorem flat_set : ∀ (L : List (Int × Int)) (u : Nat) (x y : Int) (v : Int), L[u]? = some (x, y) → (L.flatMap stV).set (u * 2 + 1) (.int .i64 v) = (L.set u (x, v)).flatMap stV
  | [], u, x, y, v, h => by simp at h
  | p :: r, 0, x, y, v, h => by
    simp at h
    subst h
    rfl
  | p :: r, u + 1, x, y, v, h => by
    have ih := flat_set r u x y v (by simpa using h)
    rw [List.flatMap_cons, List.set_cons_succ, List.flatMap_cons, ← ih]
    show (Value.int .i64 p.1 :: Value.int .i64 p.2 :: r.flatMap stV).set ((u + 1) * 2 + 1) _ = _
    rw [show (u + 1) * 2 + 1 = (u * 2 + 1) + 1 + 1 by omega, List.set_cons_succ, List.set_cons_succ]
    rfl
theorem flat_st : ∀ (L : List (Int × Int)) (u : Nat), u < L.length → u * 2 + 1 < (L.flatMap stV).length
  | [], u, h => by simp at h
  | p :: r, 0, h => by rw [List.flatMap_cons, List.length_append]; show 0 * 2 + 1 < 2 + _; omega
  | p :: r, u + 1, h => by
    have ih := flat_st r u (by simpa using h)
    rw [List.flatMap_cons, List.length_append]
    show (u + 1) * 2 + 1 < 2 + _
    omega
theorem info85 : (Try.prog.info? 85).map (fun i => (i.zero, i.size, i.bytes)) = some (some (.agg #[.int .i64 0, .int .i64 0]), 2, 16) := by kernel_rfl
set_option maxRecDepth 100000 in
set_option maxHeartbeats 8000000 in
theorem measure_any {W w : World} {b mb : Nat} {a : Option Addr} {n c : Nat} {mem : Int} {CO DA : List Int} {RG : List Rg} {k : Nat} {f : ByteArray → Option (Nat × Nat)} {L : List Rs} (l : List Ob) (hO : Obs W (.slice a n c) l) (hK : Oks l) (h1 : 1 ≤ l.length) (h : LS W.heap.size W w b mb a n c mem CO DA [] RG k f L) : Calls Try.prog 31 #[.pointer (some ⟨b, 0, none⟩)] w fun e w' => e = .returned (.tuple #[]) ∧ LS W.heap.size W w' b mb a n c mem CO DA (stL l) RG k f L := by
  obtain ⟨hnl, hlc, hc63, -⟩ := hO.at
  obtain ⟨g, oo, rfl, HE⟩ := hO.at2 (by omega)
  have HE := hide HE
  have HN : Hid (l.length = n) := hnl.symm
  have hn4 : n ≤ 4 := by have := hK.1; omega
  have hn1 : 1 ≤ n := by omega
  have HSm : Hid (∀ u, u ≤ n → cS l u ≤ 24000 ∧ dS l u ≤ 64000) := fun u hu => by have := hK.sums u (by omega); omega
  have HCn : Hid (∀ u (hu : u < l.length), cS l (u + 1) = cS l u + l[u].code.length ∧ dS l (u + 1) = dS l u + l[u].data.length) := fun u hu => ⟨cS_next hu, dS_next hu⟩
  have HSz : Hid (∀ u (hu : u < l.length), l[u].code.length ≤ 6000 ∧ l[u].data.length ≤ 16000) := fun u hu => by have := hK.len u hu; exact ⟨this.1, this.2.1⟩
  obtain ⟨ca, cc, da, dc, sa, sc, ra, rc, hF⟩ := h
  have HF := hide hF
  have c0 := HF.out.cell 0 rfl
  clear hO hnl hK hF
  go_enter Try.func31, Try.ntmps31
  go_wp2_with fail
  clear c0
  go_loopw [2, 12] (fun x i wr => ∃ (u : Nat) (sa : Option Addr) (sc : Nat) (xs : List Value), u ≤ n ∧ i = .int .i64 u ∧ x = .int .i64 (2 + cS l u : Nat) ∧ Hid (xs = (st1 l u).flatMap stV) ∧ Hid (Fr W.heap.size W wr (.blk b #[.slice ca CO.length cc, .slice da DA.length dc, .int .i64 mem, .slice (some ⟨g, oo, none⟩) n c, .map (some mb), .slice sa u sc, .slice ra RG.length rc] 42 :: .row (.slice ca CO.length cc) 34 1 CO.length (CO.map (Value.int .u32)) :: .row (.slice da DA.length dc) 21 1 DA.length (DA.map (Value.int .i32)) :: .row (.slice sa u sc) 85 2 u xs :: .row (.slice ra RG.length rc) 36 5 RG.length (RG.flatMap rgV) :: .ob mb (pm mb k f) :: L))) (fun _ i _ => n - (intOf i).toNat)
  case atStart => exact ⟨0, sa, sc, _, Nat.zero_le _, rfl, rfl, rfl, HF⟩
  case round =>
    clear HF
    obtain ⟨u, sa, sc, xs, hu, rfl, rfl, HX, HF⟩ := hrel
    have hsm := HSm.out u hu
    have c0 := HF.out.cell 0 rfl
    have f0 := HF.out.frz 0 rfl
    by_cases hlt : u < n
    · have hlt' : (u : Int) < n := by omega
      have hidx : (0 : Int) ≤ u ∧ (u : Int) < n := by omega
      have hul : u < l.length := by rw [HN.out]; exact hlt
      obtain ⟨oca, occ, oda, odc, osa, osc, ora, orc, HC, -⟩ := HE.out u hul
      obtain ⟨e0, e1, e2, e3⟩ := HC.out _ HF.out.below
      have hsz := HSz.out u hul
      have HCu : Hid (cS l (u + 1) = cS l u + l[u].code.length) := (HCn.out u hul).1
      have HX2 : Hid (xs ++ [.int .i64 ((2 + cS l u : Nat) : Int), .int .i64 0] = (st1 l (u + 1)).flatMap stV) := (by show _ = _; rw [st1_next, List.flatMap_append, HX.out]; rfl)
      clear HX HC
      generalize l[u].code.length = nc at *
      generalize l[u].data.length = nd at *
      generalize l[u].syms.length = ns at *
      generalize l[u].rels.length = nr at *
      generalize cS l u = C1 at *
      have HF2 := hide (HF.out.alloc (q := wr.heap.size) rfl #[.slice oca nc occ, .slice oda nd odc, .slice osa ns osc, .slice ora nr orc] 57)
      have HF3 := hide (HF2.out.alloc (q := wr.heap.size + 1) (by simp) #[.int .i64 ((2 + C1 : Nat) : Int), .int .i64 0] 85)
      have q0 := HF2.out.cell 0 rfl
      have q1 := HF3.out.cell 1 rfl
      have q2 := HF3.out.cell 2 rfl
      have g2 := HF3.out.frz 2 rfl
      have q3 := HF2.out.cell 1 rfl
      go_wp2_with (at_builtin; refine Fr.oneBig 40 info85 Try.underlying40 rfl (by decide) (by decide) HF3.out 4 rfl (by omega) (.tmp 20) (.tmp 23) rfl rfl rfl rfl rfl rfl ?_; intro g7 cap7 w8 h7 _; have HF7 := hide h7; clear h7; have p0 := HF7.out.cell 1 rfl; have p1 := HF7.out.frz 1 rfl; have p2 := HF7.out.cell 0 rfl; have HF8 := hide (HF7.out.set 1 rfl 5 (.slice (some ⟨g7, 0, none⟩) (u + 1) cap7)); have r0 := HF8.out.cell 0 rfl)
      clear c0 f0 e0 e1 e2 e3 q0 q1 q2 q3 g2 p0 p1 p2 r0
      go_roundw
      case rel =>
        refine ⟨u + 1, some ⟨g7, 0, none⟩, cap7, _, by omega, by go_num, ?_, HX2, HF8.out.tail⟩
        rw [HCu.out]
        congr 1
        omega
      case measure => simp [intOf]; omega
    · have hlt' : ¬ (u : Int) < n := by omega
      obtain rfl : n = u := by omega
      obtain ⟨g7, cap, cur, e, hc1, hc2, hc3, hc4, hc5, hFo⟩ := HF.out.opened 3 rfl (by omega)
      obtain ⟨ea, ec⟩ : sa = some ⟨g7, 0, none⟩ ∧ sc = cap := by cases e; exact ⟨rfl, rfl⟩
      subst ea
      subst ec
      clear e
      have HFo := hide hFo
      have HC3 := hide hc3
      have HC4 := hide (hc4.trans HX.out)
      have HC5 : Hid (((st1 l n).flatMap stV).length = n * 2) := (by show _ = _; rw [← HX.out]; exact hc5)
      clear c0 f0 HF hFo hc3 hc4 hc5
      have c0 := HFo.out.cell 0 rfl
      go_wp2_with fail
      clear c0
      have HS0 : Hid (st2 l 0 = st1 l n) := (by show _ = _; rw [st2, HN.out])
      have HSe : Hid (st2 l n = stL l) := (by show _ = _; have := st2_end l; rw [HN.out] at this; exact this)
      have HSn : Hid (∀ v (hv : v < l.length), (st2 l v)[v]? = some ((2 : Int) + cS l v, (0 : Int)) ∧ st2 l (v + 1) = (st2 l v).set v ((2 : Int) + cS l v, (2 : Int) + cS l n + dS l v)) := fun v hv => by
        refine ⟨?_, ?_⟩
        · rw [st2_at l v v hv, if_neg (Nat.lt_irrefl _)]
        · rw [st2]
          unfold stB
          rw [HN.out]
      rw [← HS0.out] at HC4
      clear HX HS0
      generalize hCN : cS l n = CN at *
      clear hCN
      go_loopw [2, 38] (fun x i wr => ∃ (u : Nat) (cur : Array Value), u ≤ n ∧ i = .int .i64 u ∧ x = .int .i64 (2 + CN + dS l u : Nat) ∧ Hid (cur.size = sc * 2) ∧ Hid (cur.toList.take (n * 2) = (st2 l u).flatMap stV) ∧ Hid (Fr W.heap.size W wr (.blk b #[.slice ca CO.length cc, .slice da DA.length dc, .int .i64 mem, .slice (some ⟨g, oo, none⟩) n c, .map (some mb), .slice (some ⟨g7, 0, none⟩) n sc, .slice ra RG.length rc] 42 :: .row (.slice ca CO.length cc) 34 1 CO.length (CO.map (Value.int .u32)) :: .row (.slice da DA.length dc) 21 1 DA.length (DA.map (Value.int .i32)) :: .blk g7 cur 85 :: .row (.slice ra RG.length rc) 36 5 RG.length (RG.flatMap rgV) :: .ob mb (pm mb k f) :: L))) (fun _ i _ => n - (intOf i).toNat)
      case atStart => exact ⟨0, cur, Nat.zero_le _, rfl, by rw [show dS l 0 = 0 from rfl]; rfl, HC3, HC4, HFo⟩
      case round =>
        clear HFo HC3 HC4
        obtain ⟨u, cur, hu, rfl, rfl, HC3, HC4, HF⟩ := hrel
        have hsm := HSm.out u hu
        by_cases hlt : u < n
        · have hlt' : (u : Int) < n := by omega
          have hidx : (0 : Int) ≤ u ∧ (u : Int) < n := by omega
          have hul : u < l.length := by rw [HN.out]; exact hlt
          obtain ⟨oca, occ, oda, odc, osa, osc, ora, orc, HC, -⟩ := HE.out u hul
          obtain ⟨e0, e1, e2, e3⟩ := HC.out _ HF.out.below
          have hsz := HSz.out u hul
          have HDu : Hid (dS l (u + 1) = dS l u + l[u].data.length) := (HCn.out u hul).2
          have HSu := hide (HSn.out u hul)
          obtain ⟨y, hy⟩ : ∃ y, cur[u * 2 + 1]? = some y := ⟨_, Array.getElem?_eq_getElem (by have := HC3.out; omega)⟩
          have HC6 : Hid ((cur.setIfInBounds (u * 2 + 1) (.int .i64 ((2 : Int) + CN + dS l u))).size = sc * 2) := (by show _ = _; rw [Array.size_setIfInBounds]; exact HC3.out)
          have HC7 : Hid ((cur.setIfInBounds (u * 2 + 1) (.int .i64 ((2 : Int) + CN + dS l u))).toList.take (n * 2) = (st2 l (u + 1)).flatMap stV) := (by
            show _ = _
            rw [Array.toList_setIfInBounds, List.take_set, HC4.out, flat_set _ u _ _ _ HSu.out.1, HSu.out.2])
          clear HC HC3 HC4 HSu
          generalize l[u].code.length = nc at *
          generalize l[u].data.length = nd at *
          generalize l[u].syms.length = ns at *
          generalize l[u].rels.length = nr at *
          generalize dS l u = D1 at *
          have HF2 := hide (HF.out.alloc (q := wr.heap.size) rfl #[.slice oca nc occ, .slice oda nd odc, .slice osa ns osc, .slice ora nr orc] 57)
          have q0 := HF2.out.cell 0 rfl
          have q1 := HF2.out.cell 1 rfl
          have q4 := HF2.out.cell 4 rfl
          have f4 := HF2.out.frz 4 rfl
          have HF3 := hide (HF2.out.set 4 rfl (u * 2 + 1) (.int .i64 ((2 : Int) + CN + D1)))
          have p0 := HF3.out.cell 0 rfl
          go_wp2_with fail
          clear q0 q1 q4 f4 p0 e0 e1 e2 e3 hy
          go_roundw
          case rel =>
            refine ⟨u + 1, _, by omega, by go_num, ?_, HC6, HC7, HF3.out.tail⟩
            rw [HDu.out]
            congr 1
            omega
          case measure => simp [intOf]; omega
        · have hlt' : ¬ (u : Int) < n := by omega
          obtain rfl : n = u := by omega
          rw [HSe.out] at HC4
          have HG := hide (HF.out.shut 3 (g := g7) (cap := sc) (n := n) (z := 2) (cur := cur) (e := 85) (xs := (stL l).flatMap stV) rfl hc1 hc2 HC3.out HC4.out (by rw [← HC4.out, List.length_take, Array.length_toList, HC3.out]; omega))
          have HLn : Hid ((stL l).length = n) := (by show _ = _; rw [stL_len]; exact HN.out)
          go_wp2_with fail
          go_end0
          refine ⟨rfl, ca, cc, da, dc, some ⟨g7, 0, none⟩, sc, ra, rc, ?_⟩
          rw [HLn.out]
          exact HG.out
end Go.Proofs.Ythbhlmbhnidbhaa.T
