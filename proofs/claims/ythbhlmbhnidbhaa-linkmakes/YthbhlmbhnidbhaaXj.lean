/- The contract of the linker's tell. -/
import Derived.Test.YthbhlmbhnidbhaaXf
import Derived.Test.YthbhlmbhnidbhaaXi
import Derived.Test.YthbhlmbhnidbhaaLn
namespace Go.Proofs.Ythbhlmbhnidbhaa.T
open Go.RowKit Go.Proofs.Ythbhlmbhnidbhaa.M
set_option linter.unusedVariables false
set_option linter.unusedSimpArgs false
set_option maxRecDepth 100000 in
set_option maxHeartbeats 8000000 in
theorem tell_any {W w : World} {b mb : Nat} {a : Option Addr} {n c : Nat} {mem : Int} {CO DA : List Int} {RG : List Rg} {k : Nat} {L : List Rs} (l : List Ob) (hO : Obs W (.slice a n c) l) (hK : Oks l) (u : Nat) (hul : u < l.length) (hr : RG.length ≤ 2000) (h : LS W.heap.size W w b mb a n c mem CO DA (stL l) RG k (homeQ l) L) : Calls Try.prog 35 #[.pointer (some ⟨b, 0, none⟩), .int .i64 u] w fun e w' => e = .returned (.tuple #[]) ∧ LS W.heap.size W w' b mb a n c mem CO DA (stL l) (RG ++ rgU l u l[u] l[u].syms.length) k (homeQ l) L := by
  have HAd := hide (fun w' RG' L' (h' : LS W.heap.size W w' b mb a n c mem CO DA (stL l) RG' k (homeQ l) L') (j : Nat) (hj : j < l[u].syms.length) ho => padr_own l hO hK h' u j hul hj ho)
  obtain ⟨hnl, hlc, hc63, -⟩ := hO.at
  obtain ⟨g, oo, rfl, HE⟩ := hO.at2 (by omega)
  obtain ⟨oca, occ, oda, odc, osa, osc, ora, orc, HC, HO⟩ := HE u hul
  obtain ⟨e0, e1, e2, e3⟩ := HC.out _ h.below
  obtain ⟨-, hs63, HS⟩ := HO.out.syms
  have HS := hide HS
  have hs400 := (hK.len u hul).2.2.1
  have hidx : (0 : Int) ≤ u ∧ (u : Int) < n := by omega
  have hu4 : u ≤ 4 := by have := hK.1; omega
  have HRy : Hid (∀ k (hk : k < l[u].syms.length), l[u].syms[k].kind = 1 → rgU l u l[u] (k + 1) = rgU l u l[u] k ++ [⟨l[u].syms[k].name, u, adrS l u l[u].syms[k], adrS l u l[u].syms[k] + l[u].syms[k].size, l[u].syms[k].frame⟩]) := fun k hk h => rgU_yes hk h
  have HRo : Hid (∀ k (hk : k < l[u].syms.length), l[u].syms[k].kind ≠ 1 → rgU l u l[u] (k + 1) = rgU l u l[u] k) := fun k hk h => rgU_no hk h
  have HRl : Hid (∀ k, (rgU l u l[u] k).length ≤ k) := fun k => rgU_len _ _ _ _
  have HAl : Hid (∀ k (hk : k < l[u].syms.length), (0 ≤ adrS l u l[u].syms[k] ∧ adrS l u l[u].syms[k] ≤ 4300000000) ∧ N4 l[u].syms[k].size ∧ N4 l[u].syms[k].frame ∧ l[u].syms[k].name.size ≤ 16) := fun k hk => by
    have := mayO_n4 (hK.2 _ (List.getElem_mem hul)) k hk
    exact ⟨adrS_le hK hul hk, this.2.2.1, this.2.2.2.1, this.2.2.2.2.1⟩
  obtain ⟨ns, HNS⟩ : ∃ m, Hid (l[u].syms.length = m) := ⟨_, hide rfl⟩
  have HR0 : Hid (RG = RG ++ rgU l u l[u] 0) := (by show _ = _; rw [rgU_zero, List.append_nil])
  rw [HNS.out] at e2 hs63 hs400
  rw [HNS.out]
  obtain ⟨c3, c4⟩ := h.look
  have HL := hide h
  clear h hO hK HE HC HO e0 e1 e3 hnl
  go_enter Try.func35, Try.ntmps35
  go_wp2_with fail
  clear c3 c4 e2
  go_loopw [16] (fun i wr => ∃ (j : Nat) (RG2 : List Rg), j ≤ ns ∧ i = .int .i64 j ∧ Hid (RG2 = RG ++ rgU l u l[u] j) ∧ Hid (LS W.heap.size W wr b mb (some ⟨g, oo, none⟩) n c mem CO DA (stL l) RG2 k (homeQ l) L)) (fun i _ => ns - (intOf i).toNat)
  case atStart => exact ⟨0, RG, Nat.zero_le _, rfl, HR0, HL⟩
  case round =>
    clear HL HR0
    obtain ⟨j, RG2, hj, rfl, HR2, HL⟩ := hrel
    by_cases hlt : j < ns
    · have hlt' : (j : Int) < ns := by omega
      have hidx2 : (0 : Int) ≤ j ∧ (j : Int) < ns := by omega
      have hjl : j < l[u].syms.length := by rw [HNS.out]; exact hlt
      obtain ⟨gs, os, rfl, HSE⟩ := HS.out (by rw [HNS.out]; omega)
      obtain ⟨r0, r1, r2, r3, r4, r5, r6⟩ := HSE.out _ HL.out.below j hjl
      have HAk := hide (fun w' L' h' ho => HAd.out w' RG2 L' h' j hjl ho)
      obtain ⟨⟨y0, y1⟩, hn4, hn5, hn6⟩ := HAl.out j hjl
      have HRyk := hide (HRy.out j hjl)
      have HRok := hide (HRo.out j hjl)
      have hrl : RG2.length ≤ 2000 + j := by rw [HR2.out, List.length_append]; have := HRl.out j; omega
      generalize adrS l u l[u].syms[j] = AK at *
      have HOw : Hid (l[u].syms[j].kind = 1 → ownB l[u].syms[j] = true) := fun h => by unfold ownB; simp [h]
      generalize l[u].syms[j] = S at *
      obtain ⟨nm, kd, st, pl, sz, sg, fr⟩ := S
      simp only at r0 r1 r2 r3 r4 r5 r6 HRyk HRok hn4 hn5 hn6 HOw
      unfold N4 at hn4 hn5
      obtain ⟨z0, z1⟩ := hn4
      obtain ⟨z2, z3⟩ := hn5
      have HLa := hide (HL.out.alloc #[.string nm, .int .i64 kd, .bool st, .int .i64 pl, .int .i64 sz, .string sg, .int .i64 fr] 59)
      have q0 := HLa.out.cell 0 rfl
      clear HSE HL
      by_cases hkd : kd = 1
      · subst hkd
        have HRn2 : Hid (RG2 ++ [⟨nm, u, AK, AK + sz, fr⟩] = RG ++ rgU l u l[u] (j + 1)) := (by show _ = _; rw [HRyk.out rfl, HR2.out, List.append_assoc])
        have HAk2 := hide (fun w' L' h' => HAk.out w' L' h' (HOw.out rfl))
        clear HR2 HRok HOw HRyk HAk
        go_wp2_with fail
        go_at_call 34
        refine (HAk2.out _ _ HLa.out).mono ?_
        rintro e w1 ⟨rfl, hb⟩
        replace HLa := hide (HLa.out.call hb)
        clear hb HAk2 q0 r0 r1 r2 r3 r4 r5 r6
        generalize wr.heap.size = bs at *
        have HCl := hide (fun w' => clone_any nm w' hn6)
        have hw : IntKind.i64.wrap (AK + sz) = AK + sz := by rw [IntKind.wrap_i64]; omega
        obtain ⟨ca, cc, da, dc, sa, sc, ra, rc, hF⟩ := HLa.out
        have HD := hide hF.drew
        have HEnd : Hid (∀ g7 cap w', Fr W.heap.size W w' (.blk b #[.slice ca CO.length cc, .slice da DA.length dc, .int .i64 mem, .slice (some ⟨g, oo, none⟩) n c, .map (some mb), .slice sa (stL l).length sc, .slice (some ⟨g7, 0, none⟩) (RG2.length + 1) cap] 42 :: .row (.slice ca CO.length cc) 34 1 CO.length (CO.map (Value.int .u32)) :: .row (.slice da DA.length dc) 21 1 DA.length (DA.map (Value.int .i32)) :: .row (.slice sa (stL l).length sc) 85 2 (stL l).length ((stL l).flatMap stV) :: .row (.slice (some ⟨g7, 0, none⟩) (RG2.length + 1) cap) 36 5 (RG2.length + 1) (RG2.flatMap rgV ++ [.string nm, .int .i64 u, .int .i64 AK, .int .i64 (AK + sz), .int .i64 fr]) :: .ob mb (pm mb k (homeQ l)) :: .blk bs #[.string nm, .int .i64 1, .bool st, .int .i64 pl, .int .i64 sz, .string sg, .int .i64 fr] 59 :: L) → LS W.heap.size W w' b mb (some ⟨g, oo, none⟩) n c mem CO DA (stL l) (RG2 ++ [⟨nm, u, AK, AK + sz, fr⟩]) k (homeQ l) L) := fun g7 cap w' h => by
          refine LS.tail (r := .blk bs #[.string nm, .int .i64 1, .bool st, .int .i64 pl, .int .i64 sz, .string sg, .int .i64 fr] 59) ?_
          refine ⟨ca, cc, da, dc, sa, sc, some ⟨g7, 0, none⟩, cap, ?_⟩
          rw [List.length_append, List.flatMap_append, List.flatMap_singleton]
          exact h
        clear hF HLa
        generalize RG2.flatMap rgV = xs at *
        generalize RG2.length = NR at *
        go_wp2_with fail
        refine wp_region_held_drew (S := fun w' => ∀ o, w'.cell? ⟨bs, o, none⟩ = (#[.string nm, .int .i64 1, .bool st, .int .i64 pl, .int .i64 sz, .string sg, .int .i64 fr] : Array Value)[o]?) (by kernel_rfl) (HD.out.cell 6 rfl) (fun hHeld => ?_)
        refine wpAnyH_take (i := 0) (v := ?_) rfl (by kernel_rfl) (by kernel_rfl) (by kernel_rfl) (fun _ _ _ h => h) (Or.inl ⟨by rfl, ?_⟩) (by assumption) ?_
        rotate_left
        · (intro w hSw; (try dsimp only at hSw); skip; go_simp) <;> with_reducible rfl
        (simp only [Act.put, List.getElem_toArray, List.getElem_cons_zero, List.getElem_cons_succ, List.setIfInBounds_toArray, List.set_cons_zero, List.set_cons_succ])
        refine wpAnyH_take (i := 1) (v := ?_) rfl (by kernel_rfl) (by kernel_rfl) (by kernel_rfl) (fun _ _ _ h => h) (Or.inl ⟨by rfl, ?_⟩) (by assumption) ?_
        rotate_left
        · (intro w hSw; (try dsimp only at hSw); skip; go_simp) <;> with_reducible rfl
        (simp only [Act.put, List.getElem_toArray, List.getElem_cons_zero, List.getElem_cons_succ, List.setIfInBounds_toArray, List.set_cons_zero, List.set_cons_succ])
        refine wpAnyH_take (i := 2) (v := ?_) rfl (by kernel_rfl) (by kernel_rfl) (by kernel_rfl) (fun _ _ _ h => h) (Or.inl ⟨by rfl, ?_⟩) (by assumption) ?_
        rotate_left
        · (intro w hSw; (try dsimp only at hSw); skip; go_simp) <;> with_reducible rfl
        (simp only [Act.put, List.getElem_toArray, List.getElem_cons_zero, List.getElem_cons_succ, List.setIfInBounds_toArray, List.set_cons_zero, List.set_cons_succ])
        refine wpAnyH_take (i := 3) (v := ?_) rfl (by kernel_rfl) (by kernel_rfl) (by kernel_rfl) (fun _ _ _ h => h) (Or.inl ⟨by rfl, ?_⟩) (by assumption) ?_
        rotate_left
        · (intro w hSw; (try dsimp only at hSw); skip; go_simp) <;> with_reducible rfl
        (simp only [Act.put, List.getElem_toArray, List.getElem_cons_zero, List.getElem_cons_succ, List.setIfInBounds_toArray, List.set_cons_zero, List.set_cons_succ])
        refine wpAnyH_take (i := 5) (v := ?_) rfl (by kernel_rfl) (by kernel_rfl) (by kernel_rfl) (fun _ _ _ h => h) (Or.inl ⟨by rfl, ?_⟩) (by assumption) ?_
        rotate_left
        · (intro w hSw; (try dsimp only at hSw); skip; go_simp) <;> with_reducible rfl
        (simp only [Act.put, List.getElem_toArray, List.getElem_cons_zero, List.getElem_cons_succ, List.setIfInBounds_toArray, List.set_cons_zero, List.set_cons_succ])
        refine wpAnyH_take (i := 6) (v := ?_) rfl (by kernel_rfl) (by kernel_rfl) (by kernel_rfl) (fun _ _ _ h => h) (Or.inl ⟨by rfl, ?_⟩) (by assumption) ?_
        rotate_left
        · (intro w hSw; (try dsimp only at hSw); skip; go_simp) <;> with_reducible rfl
        (simp only [Act.put, List.getElem_toArray, List.getElem_cons_zero, List.getElem_cons_succ, List.setIfInBounds_toArray, List.set_cons_zero, List.set_cons_succ])
        refine wpAnyH_take (i := 8) (v := ?_) rfl (by kernel_rfl) (by kernel_rfl) (by kernel_rfl) (fun _ _ _ h => h) (Or.inl ⟨by rfl, ?_⟩) (by assumption) ?_
        rotate_left
        · (intro w hSw; (try dsimp only at hSw); skip; go_simp) <;> with_reducible rfl
        (simp only [Act.put, List.getElem_toArray, List.getElem_cons_zero, List.getElem_cons_succ, List.setIfInBounds_toArray, List.set_cons_zero, List.set_cons_succ])
        refine wpAnyH_take (i := 9) (v := ?_) rfl (by kernel_rfl) (by kernel_rfl) (by kernel_rfl) (fun _ _ _ h => h) (Or.inl ⟨by rfl, ?_⟩) (by assumption) ?_
        rotate_left
        · (intro w hSw; (try dsimp only at hSw); skip; go_simp) <;> with_reducible rfl
        (simp only [Act.put, List.getElem_toArray, List.getElem_cons_zero, List.getElem_cons_succ, List.setIfInBounds_toArray, List.set_cons_zero, List.set_cons_succ])
        refine wpAnyH_take (i := 10) (v := ?_) rfl (by kernel_rfl) (by kernel_rfl) (by kernel_rfl) (fun _ _ _ h => h) (Or.inl ⟨by rfl, ?_⟩) (by assumption) ?_
        rotate_left
        · (intro w hSw; (try dsimp only at hSw); skip; go_simp) <;> with_reducible rfl
        (simp only [Act.put, List.getElem_toArray, List.getElem_cons_zero, List.getElem_cons_succ, List.setIfInBounds_toArray, List.set_cons_zero, List.set_cons_succ])
        refine wpAnyH_take (i := 11) (v := ?_) rfl (by kernel_rfl) (by kernel_rfl) (by kernel_rfl) (fun _ _ _ h => h) (Or.inl ⟨by rfl, ?_⟩) (by assumption) ?_
        rotate_left
        · (intro w hSw; (try dsimp only at hSw); skip; go_simp) <;> with_reducible rfl
        (simp only [Act.put, List.getElem_toArray, List.getElem_cons_zero, List.getElem_cons_succ, List.setIfInBounds_toArray, List.set_cons_zero, List.set_cons_succ])
        refine wpAnyH_take (i := 12) (v := ?_) rfl (by kernel_rfl) (by kernel_rfl) (by kernel_rfl) (fun _ _ _ h => h) (Or.inl ⟨by rfl, ?_⟩) (by assumption) ?_
        rotate_left
        · (intro w hSw; (try dsimp only at hSw); skip; go_simp) <;> with_reducible rfl
        (simp only [Act.put, List.getElem_toArray, List.getElem_cons_zero, List.getElem_cons_succ, List.setIfInBounds_toArray, List.set_cons_zero, List.set_cons_succ])
        refine wpAnyH_take (i := 13) (v := ?_) rfl (by kernel_rfl) (by kernel_rfl) (by kernel_rfl) (fun _ _ _ h => h) (Or.inl ⟨by rfl, ?_⟩) (by assumption) ?_
        rotate_left
        · (intro w hSw; (try dsimp only at hSw); skip; go_simp) <;> with_reducible rfl
        (simp only [Act.put, List.getElem_toArray, List.getElem_cons_zero, List.getElem_cons_succ, List.setIfInBounds_toArray, List.set_cons_zero, List.set_cons_succ])
        refine wpAnyH_take (i := 14) (v := ?_) rfl (by kernel_rfl) (by kernel_rfl) (by kernel_rfl) (fun _ _ _ h => h) (Or.inl ⟨by rfl, ?_⟩) (by assumption) ?_
        rotate_left
        · (intro w hSw; (try dsimp only at hSw); skip; go_simp) <;> with_reducible rfl
        (simp only [Act.put, List.getElem_toArray, List.getElem_cons_zero, List.getElem_cons_succ, List.setIfInBounds_toArray, List.set_cons_zero, List.set_cons_succ])
        refine wpAnyH_take (i := 15) (v := ?_) rfl (by kernel_rfl) (by kernel_rfl) (by kernel_rfl) (fun _ _ _ h => h) (Or.inl ⟨by rfl, ?_⟩) (by assumption) ?_
        rotate_left
        · (intro w hSw; (try dsimp only at hSw); skip; go_simp) <;> with_reducible rfl
        (simp only [Act.put, List.getElem_toArray, List.getElem_cons_zero, List.getElem_cons_succ, List.setIfInBounds_toArray, List.set_cons_zero, List.set_cons_succ])
        refine wpAnyH_ready (rs := [4, 7]) (by kernel_rfl) (by simp) ?_
        refine AllReadyH.cons rfl (fun K hK => ?_) (AllReadyH.cons rfl (fun K hK => ?_) AllReadyH.nil)
        · have hcw := HD.out.cell 0 rfl
          go_simp
          clear hcw
          refine hK.out _ _ (HD.out.cell 6 rfl) (fun hHeld1 => ?_)
          clear hK K
          (try (simp only [Act.put, List.getElem_toArray, List.getElem_cons_zero, List.getElem_cons_succ, List.setIfInBounds_toArray, List.set_cons_zero, List.set_cons_succ]))
          refine wpAnyH_ready (rs := [7]) (by kernel_rfl) (by simp) ?_
          refine AllReadyH.cons rfl (fun K hK => ?_) AllReadyH.nil
          go_simp
          refine (HCl.out _).mono ?_
          rintro e wHD7 ⟨rfl, hbX⟩
          have HD7 := hide (HD.out.call hbX)
          clear hbX
          refine hK.out _ _ (HD7.out.cell 6 rfl) (fun hHeld2 => ?_)
          clear hK K
          (try (simp only [Act.put, List.getElem_toArray, List.getElem_cons_zero, List.getElem_cons_succ, List.setIfInBounds_toArray, List.set_cons_zero, List.set_cons_succ]))
          refine wpAnyH_take (i := 16) (v := ?_) rfl (by kernel_rfl) (by kernel_rfl) (by kernel_rfl) (fun _ _ _ h => h) (Or.inl ⟨by rfl, ?_⟩) (by assumption) ?_
          rotate_left
          · (intro w hSw; (try dsimp only at hSw); skip; go_simp) <;> with_reducible rfl
          (simp only [Act.put, List.getElem_toArray, List.getElem_cons_zero, List.getElem_cons_succ, List.setIfInBounds_toArray, List.set_cons_zero, List.set_cons_succ])
          refine wpAnyH_ready (rs := [17]) (by kernel_rfl) (by simp) ?_
          refine AllReadyH.cons rfl (fun K hK => ?_) AllReadyH.nil
          go_simp
          have HD717 := hide (HD7.out.alloc (q := wHD7.heap.size) rfl #[.string nm, .int .i64 u, .int .i64 AK, .int .i64 (AK + sz), .int .i64 fr] 36)
          refine hK.out _ _ (HD717.out.cell 7 rfl) (fun hHeld3 => ?_)
          clear hK K
          (try (simp only [Act.put, List.getElem_toArray, List.getElem_cons_zero, List.getElem_cons_succ, List.setIfInBounds_toArray, List.set_cons_zero, List.set_cons_succ]))
          refine wpAnyH_ready (rs := [18]) (by kernel_rfl) (by simp) ?_
          refine AllReadyH.cons rfl (fun K hK => ?_) AllReadyH.nil
          have hX := HD717.out
          refine Fr.stepOne 27 info36 Try.underlying27 rfl (by decide) (by decide) hX 4 (v := .slice ra NR rc) (n := NR) rfl (by omega) (.tmp 33) (.tmp 46) rfl rfl rfl rfl rfl rfl ?_
          intro g7 cap7 wHD71718 h7 _
          have HD71718 := hide h7
          clear h7
          refine hK.out _ _ (HD71718.out.cell 6 rfl) (fun hHeld4 => ?_)
          clear hK K
          (try (simp only [Act.put, List.getElem_toArray, List.getElem_cons_zero, List.getElem_cons_succ, List.setIfInBounds_toArray, List.set_cons_zero, List.set_cons_succ]))
          refine wpAnyH_take (i := 19) (v := ?_) rfl (by kernel_rfl) (by kernel_rfl) (by kernel_rfl) (fun _ _ _ h => h) (Or.inl ⟨by rfl, ?_⟩) (by assumption) ?_
          rotate_left
          · (intro w hSw; (try dsimp only at hSw); skip; go_simp) <;> with_reducible rfl
          (simp only [Act.put, List.getElem_toArray, List.getElem_cons_zero, List.getElem_cons_succ, List.setIfInBounds_toArray, List.set_cons_zero, List.set_cons_succ])
          refine wpAnyH_take (i := 20) (v := ?_) rfl (by kernel_rfl) (by kernel_rfl) (by kernel_rfl) (fun _ _ _ h => h) (Or.inl ⟨by rfl, ?_⟩) (by assumption) ?_
          rotate_left
          · (intro w hSw; (try dsimp only at hSw); skip; go_simp) <;> with_reducible rfl
          (simp only [Act.put, List.getElem_toArray, List.getElem_cons_zero, List.getElem_cons_succ, List.setIfInBounds_toArray, List.set_cons_zero, List.set_cons_succ])
          refine wpAnyH_ready (rs := [21]) (by kernel_rfl) (by simp) ?_
          refine AllReadyH.cons rfl (fun K hK => ?_) AllReadyH.nil
          have hcw := HD71718.out.cell 0 rfl
          have hfw := HD71718.out.frz 0 rfl
          go_simp
          clear hcw hfw
          have HD7171821 := hide (HD71718.out.set 0 rfl 6 (.slice (some ⟨g7, 0, none⟩) (NR + 1) cap7))
          refine hK.out _ _ (HD7171821.out.cell 6 rfl) (fun hHeld5 => ?_)
          clear hK K
          (try (simp only [Act.put, List.getElem_toArray, List.getElem_cons_zero, List.getElem_cons_succ, List.setIfInBounds_toArray, List.set_cons_zero, List.set_cons_succ]))
          refine wpAnyH_done (by kernel_rfl) ?_ _
          go_wp2_with fail
          go_roundw
          case rel => exact ⟨j + 1, _, by omega, by go_num, HRn2, HEnd.out _ _ _ HD7171821.out⟩
          case measure => simp [intOf]; omega
        · go_simp
          refine (HCl.out _).mono ?_
          rintro e wHD7 ⟨rfl, hbX⟩
          have HD7 := hide (HD.out.call hbX)
          clear hbX
          refine hK.out _ _ (HD7.out.cell 6 rfl) (fun hHeld6 => ?_)
          clear hK K
          (try (simp only [Act.put, List.getElem_toArray, List.getElem_cons_zero, List.getElem_cons_succ, List.setIfInBounds_toArray, List.set_cons_zero, List.set_cons_succ]))
          refine wpAnyH_take (i := 16) (v := ?_) rfl (by kernel_rfl) (by kernel_rfl) (by kernel_rfl) (fun _ _ _ h => h) (Or.inl ⟨by rfl, ?_⟩) (by assumption) ?_
          rotate_left
          · (intro w hSw; (try dsimp only at hSw); skip; go_simp) <;> with_reducible rfl
          (simp only [Act.put, List.getElem_toArray, List.getElem_cons_zero, List.getElem_cons_succ, List.setIfInBounds_toArray, List.set_cons_zero, List.set_cons_succ])
          refine wpAnyH_ready (rs := [4, 17]) (by kernel_rfl) (by simp) ?_
          refine AllReadyH.cons rfl (fun K hK => ?_) (AllReadyH.cons rfl (fun K hK => ?_) AllReadyH.nil)
          · have hcw := HD7.out.cell 0 rfl
            go_simp
            clear hcw
            refine hK.out _ _ (HD7.out.cell 6 rfl) (fun hHeld7 => ?_)
            clear hK K
            (try (simp only [Act.put, List.getElem_toArray, List.getElem_cons_zero, List.getElem_cons_succ, List.setIfInBounds_toArray, List.set_cons_zero, List.set_cons_succ]))
            refine wpAnyH_ready (rs := [17]) (by kernel_rfl) (by simp) ?_
            refine AllReadyH.cons rfl (fun K hK => ?_) AllReadyH.nil
            go_simp
            have HD717 := hide (HD7.out.alloc (q := wHD7.heap.size) rfl #[.string nm, .int .i64 u, .int .i64 AK, .int .i64 (AK + sz), .int .i64 fr] 36)
            refine hK.out _ _ (HD717.out.cell 7 rfl) (fun hHeld8 => ?_)
            clear hK K
            (try (simp only [Act.put, List.getElem_toArray, List.getElem_cons_zero, List.getElem_cons_succ, List.setIfInBounds_toArray, List.set_cons_zero, List.set_cons_succ]))
            refine wpAnyH_ready (rs := [18]) (by kernel_rfl) (by simp) ?_
            refine AllReadyH.cons rfl (fun K hK => ?_) AllReadyH.nil
            have hX := HD717.out
            refine Fr.stepOne 27 info36 Try.underlying27 rfl (by decide) (by decide) hX 4 (v := .slice ra NR rc) (n := NR) rfl (by omega) (.tmp 33) (.tmp 46) rfl rfl rfl rfl rfl rfl ?_
            intro g7 cap7 wHD71718 h7 _
            have HD71718 := hide h7
            clear h7
            refine hK.out _ _ (HD71718.out.cell 6 rfl) (fun hHeld9 => ?_)
            clear hK K
            (try (simp only [Act.put, List.getElem_toArray, List.getElem_cons_zero, List.getElem_cons_succ, List.setIfInBounds_toArray, List.set_cons_zero, List.set_cons_succ]))
            refine wpAnyH_take (i := 19) (v := ?_) rfl (by kernel_rfl) (by kernel_rfl) (by kernel_rfl) (fun _ _ _ h => h) (Or.inl ⟨by rfl, ?_⟩) (by assumption) ?_
            rotate_left
            · (intro w hSw; (try dsimp only at hSw); skip; go_simp) <;> with_reducible rfl
            (simp only [Act.put, List.getElem_toArray, List.getElem_cons_zero, List.getElem_cons_succ, List.setIfInBounds_toArray, List.set_cons_zero, List.set_cons_succ])
            refine wpAnyH_take (i := 20) (v := ?_) rfl (by kernel_rfl) (by kernel_rfl) (by kernel_rfl) (fun _ _ _ h => h) (Or.inl ⟨by rfl, ?_⟩) (by assumption) ?_
            rotate_left
            · (intro w hSw; (try dsimp only at hSw); skip; go_simp) <;> with_reducible rfl
            (simp only [Act.put, List.getElem_toArray, List.getElem_cons_zero, List.getElem_cons_succ, List.setIfInBounds_toArray, List.set_cons_zero, List.set_cons_succ])
            refine wpAnyH_ready (rs := [21]) (by kernel_rfl) (by simp) ?_
            refine AllReadyH.cons rfl (fun K hK => ?_) AllReadyH.nil
            have hcw := HD71718.out.cell 0 rfl
            have hfw := HD71718.out.frz 0 rfl
            go_simp
            clear hcw hfw
            have HD7171821 := hide (HD71718.out.set 0 rfl 6 (.slice (some ⟨g7, 0, none⟩) (NR + 1) cap7))
            refine hK.out _ _ (HD7171821.out.cell 6 rfl) (fun hHeld10 => ?_)
            clear hK K
            (try (simp only [Act.put, List.getElem_toArray, List.getElem_cons_zero, List.getElem_cons_succ, List.setIfInBounds_toArray, List.set_cons_zero, List.set_cons_succ]))
            refine wpAnyH_done (by kernel_rfl) ?_ _
            go_wp2_with fail
            go_roundw
            case rel => exact ⟨j + 1, _, by omega, by go_num, HRn2, HEnd.out _ _ _ HD7171821.out⟩
            case measure => simp [intOf]; omega
          · go_simp
            have HD717 := hide (HD7.out.alloc (q := wHD7.heap.size) rfl #[.string nm, .int .i64 u, .int .i64 AK, .int .i64 (AK + sz), .int .i64 fr] 36)
            refine hK.out _ _ (HD717.out.cell 7 rfl) (fun hHeld11 => ?_)
            clear hK K
            (try (simp only [Act.put, List.getElem_toArray, List.getElem_cons_zero, List.getElem_cons_succ, List.setIfInBounds_toArray, List.set_cons_zero, List.set_cons_succ]))
            refine wpAnyH_ready (rs := [4]) (by kernel_rfl) (by simp) ?_
            refine AllReadyH.cons rfl (fun K hK => ?_) AllReadyH.nil
            have hcw := HD717.out.cell 1 rfl
            go_simp
            clear hcw
            refine hK.out _ _ (HD717.out.cell 7 rfl) (fun hHeld12 => ?_)
            clear hK K
            (try (simp only [Act.put, List.getElem_toArray, List.getElem_cons_zero, List.getElem_cons_succ, List.setIfInBounds_toArray, List.set_cons_zero, List.set_cons_succ]))
            refine wpAnyH_ready (rs := [18]) (by kernel_rfl) (by simp) ?_
            refine AllReadyH.cons rfl (fun K hK => ?_) AllReadyH.nil
            have hX := HD717.out
            refine Fr.stepOne 27 info36 Try.underlying27 rfl (by decide) (by decide) hX 4 (v := .slice ra NR rc) (n := NR) rfl (by omega) (.tmp 33) (.tmp 46) rfl rfl rfl rfl rfl rfl ?_
            intro g7 cap7 wHD71718 h7 _
            have HD71718 := hide h7
            clear h7
            refine hK.out _ _ (HD71718.out.cell 6 rfl) (fun hHeld13 => ?_)
            clear hK K
            (try (simp only [Act.put, List.getElem_toArray, List.getElem_cons_zero, List.getElem_cons_succ, List.setIfInBounds_toArray, List.set_cons_zero, List.set_cons_succ]))
            refine wpAnyH_take (i := 19) (v := ?_) rfl (by kernel_rfl) (by kernel_rfl) (by kernel_rfl) (fun _ _ _ h => h) (Or.inl ⟨by rfl, ?_⟩) (by assumption) ?_
            rotate_left
            · (intro w hSw; (try dsimp only at hSw); skip; go_simp) <;> with_reducible rfl
            (simp only [Act.put, List.getElem_toArray, List.getElem_cons_zero, List.getElem_cons_succ, List.setIfInBounds_toArray, List.set_cons_zero, List.set_cons_succ])
            refine wpAnyH_take (i := 20) (v := ?_) rfl (by kernel_rfl) (by kernel_rfl) (by kernel_rfl) (fun _ _ _ h => h) (Or.inl ⟨by rfl, ?_⟩) (by assumption) ?_
            rotate_left
            · (intro w hSw; (try dsimp only at hSw); skip; go_simp) <;> with_reducible rfl
            (simp only [Act.put, List.getElem_toArray, List.getElem_cons_zero, List.getElem_cons_succ, List.setIfInBounds_toArray, List.set_cons_zero, List.set_cons_succ])
            refine wpAnyH_ready (rs := [21]) (by kernel_rfl) (by simp) ?_
            refine AllReadyH.cons rfl (fun K hK => ?_) AllReadyH.nil
            have hcw := HD71718.out.cell 0 rfl
            have hfw := HD71718.out.frz 0 rfl
            go_simp
            clear hcw hfw
            have HD7171821 := hide (HD71718.out.set 0 rfl 6 (.slice (some ⟨g7, 0, none⟩) (NR + 1) cap7))
            refine hK.out _ _ (HD7171821.out.cell 6 rfl) (fun hHeld14 => ?_)
            clear hK K
            (try (simp only [Act.put, List.getElem_toArray, List.getElem_cons_zero, List.getElem_cons_succ, List.setIfInBounds_toArray, List.set_cons_zero, List.set_cons_succ]))
            refine wpAnyH_done (by kernel_rfl) ?_ _
            go_wp2_with fail
            go_roundw
            case rel => exact ⟨j + 1, _, by omega, by go_num, HRn2, HEnd.out _ _ _ HD7171821.out⟩
            case measure => simp [intOf]; omega
      · have hkd' : (kd == 1) = false := by simpa using hkd
        have HRn : Hid (RG2 = RG ++ rgU l u l[u] (j + 1)) := (by show _ = _; rw [HRok.out hkd, HR2.out])
        clear HAk HRyk HRok HR2 HOw
        go_wp2_with fail
        go_roundw
        case rel => exact ⟨j + 1, RG2, by omega, by go_num, HRn, HLa.out.tail⟩
        case measure => simp [intOf]; omega
    · have hlt' : ¬ (j : Int) < ns := by omega
      obtain rfl : ns = j := by omega
      rw [HR2.out] at HL
      go_wp2_with fail
      go_end0
      exact ⟨rfl, HL.out⟩
end Go.Proofs.Ythbhlmbhnidbhaa.T
