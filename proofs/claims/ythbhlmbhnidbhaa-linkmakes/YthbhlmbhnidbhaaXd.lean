/- The contract of the linker's gather. -/
import Derived.Test.YthbhlmbhnidbhaaXc
import Derived.Test.YthbhlmbhnidbhaaLo
namespace Go.Proofs.Ythbhlmbhnidbhaa.T
open Go.RowKit Go.Proofs.Ythbhlmbhnidbhaa.M
set_option linter.unusedVariables false
set_option linter.unusedSimpArgs false
def gathT (l : List Ob) : Int × Int × Int := match find2 (twiceP l) l 0 with | some (u, i) => ((u : Int), 5, (i : Int)) | none => (0, 0, 0)
theorem LS.cell {n0 : Nat} {W w : World} {b mb : Nat} {a : Option Addr} {n c : Nat} {mem : Int} {CO DA : List Int} {ST : List (Int × Int)} {RG : List Rg} {k : Nat} {f : ByteArray → Option (Nat × Nat)} {L : List Rs} (h : LS n0 W w b mb a n c mem CO DA ST RG k f L) (i : Nat) {q : Nat} {cs : Array Value} {T : TypeId} (hi : L[i]? = some (.blk q cs T)) : ∀ o, w.cell? ⟨q, o, none⟩ = cs[o]? := h.fr.cell i hi
theorem LS.frz {n0 : Nat} {W w : World} {b mb : Nat} {a : Option Addr} {n c : Nat} {mem : Int} {CO DA : List Int} {ST : List (Int × Int)} {RG : List Rg} {k : Nat} {f : ByteArray → Option (Nat × Nat)} {L : List Rs} (h : LS n0 W w b mb a n c mem CO DA ST RG k f L) (i : Nat) {q : Nat} {cs : Array Value} {T : TypeId} (hi : L[i]? = some (.blk q cs T)) : ∀ o, w.frozen? ⟨q, o, none⟩ = false := h.fr.frz i hi
theorem LS.tr {n0 : Nat} {W w : World} {b mb : Nat} {a : Option Addr} {n c : Nat} {mem : Int} {CO DA : List Int} {ST : List (Int × Int)} {RG : List Rg} {k : Nat} {f : ByteArray → Option (Nat × Nat)} {L : List Rs} (h : LS n0 W w b mb a n c mem CO DA ST RG k f L) (i : Nat) {q : Nat} (hi : L[i]? = some (.blk q #[.int .i64 0, .int .i64 0, .int .i64 0] 30)) (t0 t1 t2 : Int) : LS n0 W (((w.setCell ⟨q, 0, none⟩ (.int .i64 t0)).setCell ⟨q, 1, none⟩ (.int .i64 t1)).setCell ⟨q, 2, none⟩ (.int .i64 t2)) b mb a n c mem CO DA ST RG k f (L.set i (.blk q #[.int .i64 t0, .int .i64 t1, .int .i64 t2] 30)) := by
  obtain ⟨ca, cc, da, dc, sa, sc, ra, rc, h⟩ := h
  exact ⟨ca, cc, da, dc, sa, sc, ra, rc, h.tr (i + 6) (by simpa using hi) t0 t1 t2⟩
theorem LS.drew {n0 : Nat} {W w : World} {b mb : Nat} {a : Option Addr} {n c : Nat} {mem : Int} {CO DA : List Int} {ST : List (Int × Int)} {RG : List Rg} {k : Nat} {f : ByteArray → Option (Nat × Nat)} {L : List Rs} (h : LS n0 W w b mb a n c mem CO DA ST RG k f L) : LS n0 W w.drew b mb a n c mem CO DA ST RG k f L := h.call (Below.refl _ _).drew
theorem LS.lt {n0 : Nat} {W w : World} {b mb : Nat} {a : Option Addr} {n c : Nat} {mem : Int} {CO DA : List Int} {ST : List (Int × Int)} {RG : List Rg} {k : Nat} {f : ByteArray → Option (Nat × Nat)} {L : List Rs} (h : LS n0 W w b mb a n c mem CO DA ST RG k f L) : b < w.heap.size ∧ mb < w.heap.size ∧ b ≠ mb := by
  obtain ⟨ca, cc, da, dc, sa, sc, ra, rc, h⟩ := h
  refine ⟨(h.lt 0 rfl rfl).2, (h.lt 5 rfl rfl).2, fun e => ?_⟩
  exact pw_get (fun _ _ => Rs.off_symm) h.off (i := 0) (j := 5) rfl rfl (by decide) b rfl (by rw [e]; rfl)
theorem LS.look2 {n0 : Nat} {W w : World} {b mb : Nat} {a : Option Addr} {n c : Nat} {mem : Int} {CO DA : List Int} {ST : List (Int × Int)} {RG : List Rg} {k : Nat} {f : ByteArray → Option (Nat × Nat)} {L : List Rs} (h : LS n0 W w b mb a n c mem CO DA ST RG k f L) (s : ByteArray) (hs : s.size ≤ maxLen) : (Instr.lookup 39 (.map (some mb)) (.string s) true).run Try.prog w = .ok (.tuple #[plV (f s), .bool (f s).isSome]) w := by
  obtain ⟨D, h⟩ := h.mo
  exact h.look s hs
theorem LS.look1 {n0 : Nat} {W w : World} {b mb : Nat} {a : Option Addr} {n c : Nat} {mem : Int} {CO DA : List Int} {ST : List (Int × Int)} {RG : List Rg} {k : Nat} {f : ByteArray → Option (Nat × Nat)} {L : List Rs} (h : LS n0 W w b mb a n c mem CO DA ST RG k f L) (s : ByteArray) (hs : s.size ≤ maxLen) : (Instr.lookup 39 (.map (some mb)) (.string s) false).run Try.prog w = .ok (plV (f s)) w := by
  obtain ⟨D, h⟩ := h.mo
  exact h.look1 s hs
theorem LS.up {n0 : Nat} {W w : World} {b mb : Nat} {a : Option Addr} {n c : Nat} {mem : Int} {CO DA : List Int} {ST : List (Int × Int)} {RG : List Rg} {k : Nat} {f : ByteArray → Option (Nat × Nat)} {L : List Rs} (h : LS n0 W w b mb a n c mem CO DA ST RG k f L) (s : ByteArray) (u i : Nat) (hs : s.size ≤ maxLen) (hk : k < maxLen) : ∃ w', (Instr.mapUpdate 39 (.map (some mb)) (.string s) (.agg #[.int .i64 u, .int .i64 i])).run Try.prog w = .ok () w' ∧ LS n0 W w' b mb a n c mem CO DA ST RG (k + 1) (fun t => if t = s then some (u, i) else f t) L := by
  obtain ⟨D, hm⟩ := h.mo
  obtain ⟨w', D', h1, h2, h3⟩ := hm.put s u i hs hk
  exact ⟨w', h1, h.put h3 h2⟩
/-- What gather leaves. -/
def PGa (W : World) (b mb : Nat) (a : Option Addr) (n c : Nat) (mem : Int) (CO DA : List Int) (ST : List (Int × Int)) (RG : List Rg) (L : List Rs) (l : List Ob) (t : Int × Int × Int) (e : Ending) (w' : World) : Prop := e = .returned (trV t) ∧ ∃ k f, LS W.heap.size W w' b mb a n c mem CO DA ST RG k f L ∧ (t.2.1 = 0 → f = homeQ l)
set_option maxRecDepth 100000 in
set_option maxHeartbeats 8000000 in
theorem gather_any {W w : World} {b mb : Nat} {a : Option Addr} {n c : Nat} {mem : Int} {CO DA : List Int} {ST : List (Int × Int)} {RG : List Rg} {L : List Rs} (l : List Ob) (hO : Obs W (.slice a n c) l) (hK : Oks l) (h : LS W.heap.size W w b mb a n c mem CO DA ST RG 0 (fun _ => none) L) : Calls Try.prog 17 #[.pointer (some ⟨b, 0, none⟩)] w (PGa W b mb a n c mem CO DA ST RG L l (gathT l)) := by
  obtain ⟨hnl, hlc, hc63, -⟩ := hO.at
  have HA := hide hO.at2
  have HN : Hid (l.length = n) := hnl.symm
  have hn4 : n ≤ 4 := by have := hK.1; omega
  have HK := hide hK
  have HYes : Hid (∀ u i (hu : u < l.length), l[u].syms.findIdx? (twiceP l u) = some i → (∀ v (hv : v < u), (l[v]'(by omega)).syms.findIdx? (twiceP l v) = none) → gathT l = ((u : Int), 5, (i : Int))) := fun u i hu h1 h2 => by
    unfold gathT
    rw [find2_yes0 hu h1 h2]
  have HNo : Hid ((∀ v (hv : v < l.length), l[v].syms.findIdx? (twiceP l v) = none) → gathT l = (0, 0, 0)) := fun h1 => by
    unfold gathT
    rw [find2_no0 h1]
  have HGn : Hid (∀ u (hu : u < l.length), gQ l (u + 1) 0 = gQ l u l[u].syms.length) := fun u hu => gQ_next hu
  have HGe : Hid (gQ l n 0 = homeQ l) := (by show _ = _; rw [hnl]; exact gQ_end l)
  have hL := h.alloc #[.int .i64 0, .int .i64 0, .int .i64 0] 30
  rw [← gQ_zero l] at hL
  have HL := hide hL
  obtain ⟨c3, -⟩ := hL.look
  clear h hO hnl hK hL
  generalize gathT l = T at *
  go_enter Try.func17, Try.ntmps17
  go_wp2_with fail
  clear c3
  generalize w.alloc (.cells #[.int .i64 0, .int .i64 0, .int .i64 0] 30) = wa at *
  generalize hbq : w.heap.size = bq at *
  clear hbq
  go_loopw [14] (fun i wr => ∃ u k : Nat, u ≤ n ∧ i = .int .i64 u ∧ k ≤ 400 * u ∧ Hid (LS W.heap.size W wr b mb a n c mem CO DA ST RG k (gQ l u 0) (.blk bq #[.int .i64 0, .int .i64 0, .int .i64 0] 30 :: L)) ∧ Hid (∀ v (hv : v < l.length), v < u → l[v].syms.findIdx? (twiceP l v) = none)) (fun i _ => n - (intOf i).toNat)
  case atStart => exact ⟨0, 0, Nat.zero_le _, rfl, Nat.zero_le _, HL, fun v _ hv => absurd hv (by omega)⟩
  case round =>
    clear HL
    obtain ⟨u, k, hu, rfl, hk, HL, HQ⟩ := hrel
    by_cases hlt : u < n
    · have hlt' : (u : Int) < n := by omega
      have hidx : (0 : Int) ≤ u ∧ (u : Int) < n := by omega
      have hul : u < l.length := by rw [HN.out]; exact hlt
      obtain ⟨g, oo, rfl, HE⟩ := HA.out (by omega)
      obtain ⟨oca, occ, oda, odc, osa, osc, ora, orc, HC, HO⟩ := HE u hul
      obtain ⟨e0, e1, e2, e3⟩ := HC.out _ HL.out.below
      obtain ⟨-, hs63, HS⟩ := HO.out.syms
      have HS := hide HS
      have hs400 := (HK.out.len u hul).2.2.1
      have HMa : Hid (mayO l[u] = true) := HK.out.2 _ (List.getElem_mem hul)
      have HYu := hide (fun (i : Nat) h => HYes.out u i hul h (fun v hv => HQ.out v (by omega) hv))
      have HQu : Hid (l[u].syms.findIdx? (twiceP l u) = none → ∀ v (hv : v < l.length), v < u + 1 → l[v].syms.findIdx? (twiceP l v) = none) := fun h v hv hvu => by
        by_cases q : v = u
        · subst q; exact h
        · exact HQ.out v hv (by omega)
      have HGu := hide (HGn.out u hul)
      have HGk : Hid (∀ j (hj : j < l[u].syms.length), ((ownB l[u].syms[j] && !l[u].syms[j].stat) = false → gQ l u j = gQ l u (j + 1)) ∧ ((ownB l[u].syms[j] && !l[u].syms[j].stat) = true → gQ l u j l[u].syms[j].name = none → (fun t => if t = l[u].syms[j].name then some (u, j) else gQ l u j t) = gQ l u (j + 1)) ∧ ((ownB l[u].syms[j] && !l[u].syms[j].stat) = true → twiceP l u l[u].syms[j] = (gQ l u j l[u].syms[j].name).isSome) ∧ l[u].syms[j].name.size ≤ 16) := fun j hj => by
        refine ⟨fun h => gQ_pass hul hj h, fun h h2 => gQ_put hul hj h2 (by unfold opens; rw [h]; simp), fun h => ?_, (mayO_n4 HMa.out j hj).2.2.2.2.1⟩
        rw [gQ_twice hul hj HMa.out h]
        unfold twiceP
        rw [h, Bool.true_and]
      obtain ⟨ns, HNS⟩ : ∃ m, Hid (l[u].syms.length = m) := ⟨_, hide rfl⟩
      rw [HNS.out] at e2 hs63 hs400 HGu
      clear HC HO HE HMa HQ HYes HNo
      generalize l[u].code.length = nc at *
      generalize l[u].data.length = nd at *
      generalize l[u].rels.length = nr at *
      replace HL := hide (HL.out.alloc #[.slice oca nc occ, .slice oda nd odc, .slice osa ns osc, .slice ora nr orc] 57)
      have q0 := HL.out.cell 0 rfl
      go_wp2_with fail
      clear q0 e0 e1 e2 e3
      generalize wr.alloc (.cells #[.slice oca nc occ, .slice oda nd odc, .slice osa ns osc, .slice ora nr orc] 57) = wb at *
      generalize hbo : wr.heap.size = bo at *
      clear hbo
      go_loopw [22] (fun i wr => ∃ j k2 : Nat, j ≤ ns ∧ i = .int .i64 j ∧ k2 ≤ k + j ∧ Hid (LS W.heap.size W wr b mb (some ⟨g, oo, none⟩) n c mem CO DA ST RG k2 (gQ l u j) (.blk bo #[.slice oca nc occ, .slice oda nd odc, .slice osa ns osc, .slice ora nr orc] 57 :: .blk bq #[.int .i64 0, .int .i64 0, .int .i64 0] 30 :: L)) ∧ Hid (∀ m (hm : m < l[u].syms.length), m < j → twiceP l u l[u].syms[m] = false)) (fun i _ => ns - (intOf i).toNat)
      case atStart => exact ⟨0, k, Nat.zero_le _, rfl, Nat.le_refl _, HL, fun v _ hv => absurd hv (by omega)⟩
      case round =>
        clear HL
        obtain ⟨j, k2, hj, rfl, hk2, HL, HJ⟩ := hrel
        by_cases hlt2 : j < ns
        · have hlt2' : (j : Int) < ns := by omega
          have hidx2 : (0 : Int) ≤ j ∧ (j : Int) < ns := by omega
          have hjl : j < l[u].syms.length := by rw [HNS.out]; exact hlt2
          obtain ⟨gs, os, rfl, HSE⟩ := HS.out (by rw [HNS.out]; omega)
          obtain ⟨r0, r1, r2, r3, r4, r5, r6⟩ := HSE.out _ HL.out.below j hjl
          obtain ⟨hg1, hg2, hg3, hsz⟩ := HGk.out j hjl
          have HG1 := hide hg1
          have HG2 := hide hg2
          have HG3 := hide hg3
          clear hg1 hg2 hg3
          have HYk : Hid (twiceP l u l[u].syms[j] = true → T = ((u : Int), 5, (j : Int))) := fun h => HYu.out j (find_yes hjl h fun m hm => HJ.out m (by omega) hm)
          have HJk : Hid (twiceP l u l[u].syms[j] = false → ∀ m (hm : m < l[u].syms.length), m < j + 1 → twiceP l u l[u].syms[m] = false) := fun h m hm hjm => by
            by_cases q : m = j
            · subst q; exact h
            · exact HJ.out m hm (by omega)
          have HTo : Hid (twiceP l u l[u].syms[j] = (ownB l[u].syms[j] && !l[u].syms[j].stat && decide ((homeO l l[u].syms[j].name).1 < (u : Int)))) := rfl
          clear HJ HYu HSE
          generalize l[u].syms[j] = S at *
          obtain ⟨nm, kd, st, pl, sz, sg, fr⟩ := S
          have HOB : Hid (ownB ⟨nm, kd, st, pl, sz, sg, fr⟩ = (decide (kd = 1) || decide (kd = 2))) := rfl
          generalize twiceP l u ⟨nm, kd, st, pl, sz, sg, fr⟩ = TW at *
          generalize ownB ⟨nm, kd, st, pl, sz, sg, fr⟩ = OW at *
          simp only at r0 r1 r2 r3 r4 r5 r6 HG1 HG2 HG3 HTo hsz
          have HLa := hide (HL.out.alloc #[.string nm, .int .i64 kd, .bool st, .int .i64 pl, .int .i64 sz, .string sg, .int .i64 fr] 59)
          have HOw := hide (isown_any nm kd st pl sz sg fr (wr.alloc (.cells #[.string nm, .int .i64 kd, .bool st, .int .i64 pl, .int .i64 sz, .string sg, .int .i64 fr] 59)))
          rw [← HOB.out] at HOw
          have q0 := HLa.out.cell 0 rfl
          go_wp2_with fail
          go_at_call 28
          refine HOw.out.mono ?_
          rintro e w1 ⟨rfl, hb⟩
          replace HLa := hide (HLa.out.call hb)
          clear hb HOw q0 r0 r1 r2 r3 r4 r5 r6
          generalize wr.heap.size = bs at *
          have q0 := HLa.out.cell 0 rfl
          cases OW with
          | false =>
            have HGn := hide (HG1.out rfl)
            have HJn := hide (HJk.out (HTo.out.trans (by simp)))
            rw [HGn.out] at HLa
            clear HG1 HG2 HG3 HYk HJk HTo HOB HGn
            go_wp2_with fail
            go_roundw
            case rel => exact ⟨j + 1, k2, by omega, by go_num, by omega, HLa.out.tail, HJn⟩
            case measure => simp [intOf]; omega
          | true =>
          cases st with
          | true =>
            have HGn := hide (HG1.out rfl)
            have HJn := hide (HJk.out (HTo.out.trans (by simp)))
            rw [HGn.out] at HLa
            clear HG1 HG2 HG3 HYk HJk HTo HOB HGn
            go_wp2_with fail
            go_roundw
            case rel => exact ⟨j + 1, k2, by omega, by go_num, by omega, HLa.out.tail, HJn⟩
            case measure => simp [intOf]; omega
          | false =>
            have HT3 := hide (HG3.out rfl)
            have HP := hide (HG2.out rfl)
            clear HG1 HG2 HG3 HTo HOB
            have hm16 : nm.size ≤ maxLen := by unfold maxLen; omega
            have hlk := HLa.out.drew.look2 nm hm16
            obtain ⟨c3, c4⟩ := HLa.out.look
            obtain ⟨hb1, hb2, hb3⟩ := HLa.out.lt
            go_upto_region 8 with fail
            have HLb := hide (HLa.out.alloc #[.int .i64 0, .int .i64 0] 75)
            have hlkb := HLb.out.drew.look2 nm hm16
            obtain ⟨c3b, c4b⟩ := HLb.out.look
            have q0b := HLb.out.cell 1 rfl
            have q1b := HLb.out.cell 0 rfl
            have f1b := HLb.out.frz 0 rfl
            cases hq : gQ l u j nm with
            | some p =>
              obtain ⟨p0, p1⟩ := p
              rw [hq] at hlk hlkb HT3
              simp only [plV, Option.isSome_some] at hlk hlkb HT3
              obtain rfl := HYk.out HT3.out
              have HLc := hide (HLa.out.alloc #[.int .i64 p0, .int .i64 p1] 75).drew
              clear HYk HJk HP HT3
              go_region
              all_goals
                clear hlk hlkb c3 c4 c3b c4b q0 q0b q1b f1b HLb HLa
                generalize (w1.alloc (.cells #[.int .i64 p0, .int .i64 p1] 75)).drew = w2 at *
                have q3 := HLc.out.cell 3 rfl
                have f3 := HLc.out.frz 3 rfl
                have HG := hide (HLc.out.tr 3 rfl u 5 j)
                go_wp2_with fail
                refine bodyPost_ret (rtT Try.results17 rfl (HG.out.fr.get (i := 3) rfl).2 rfl) rfl ?_
                exact ⟨rfl, k2, _, HG.out.tail.tail.tail.tail, fun h => absurd h (by show ¬ ((5 : Int) = 0); decide)⟩
            | none =>
              rw [hq] at hlk hlkb HT3
              simp only [plV, Option.isSome_none] at hlk hlkb HT3
              have HJn := hide (HJk.out HT3.out)
              have HPn := hide (HP.out hq)
              have HLc := hide (HLb.out.drew)
              clear HYk HJk HP HT3 hq
              go_region
              all_goals
                clear hlk hlkb c3 c4 c3b c4b q0 q0b q1b f1b HLb HLa
                generalize (w1.alloc (.cells #[.int .i64 0, .int .i64 0] 75)).drew = w2 at *
                obtain ⟨-, c4⟩ := HLc.out.look
                have q0 := HLc.out.cell 1 rfl
                obtain ⟨w3, hup, hL3⟩ := HLc.out.drew.up nm u j hm16 (by unfold maxLen; omega)
                rw [HPn.out] at hL3
                have HL3 := hide hL3
                clear hL3 HLc HPn
                go_wp2_with fail
                go_region
                clear hup c4 q0
                go_wp2_with fail
                go_roundw
                case rel => exact ⟨j + 1, k2 + 1, by omega, by go_num, by omega, HL3.out.tail.tail, HJn⟩
                case measure => simp [intOf]; omega
        · have hlt2' : ¬ (j : Int) < ns := by omega
          obtain rfl : j = ns := by omega
          have HQn := hide (HQu.out (find_no fun m hm => HJ.out m hm (by rw [HNS.out] at hm; exact hm)))
          rw [← HGu.out] at HL
          clear HQu HYu HJ HS HGk
          go_wp2_with fail
          go_roundw
          case rel => exact ⟨u + 1, k2, by omega, by go_num, by omega, HL.out.tail, HQn⟩
          case measure => simp [intOf]; omega
    · have hlt' : ¬ (u : Int) < n := by omega
      obtain rfl : u = n := by omega
      obtain rfl := HNo.out fun v hv => HQ.out v hv (by have := HN.out; omega)
      rw [HGe.out] at HL
      clear HQ HYes HNo
      have q0 := HL.out.cell 0 rfl
      have f0 := HL.out.frz 0 rfl
      have HG := hide (HL.out.tr 0 rfl 0 0 0)
      go_wp2_with fail
      refine bodyPost_ret (rtT Try.results17 rfl (HG.out.fr.get (i := 0) rfl).2 rfl) rfl ?_
      exact ⟨rfl, k, _, HG.out.tail, fun _ => rfl⟩
end Go.Proofs.Ythbhlmbhnidbhaa.T
