/- The contracts of the linker's resolve, begin. The contract of the linker's about. The contract of the linker's speak. -/
import Derived.Test.YthbhlmbhnidbhaaXd
import Derived.Deep.RegionWith
import Derived.Test.YthbhlmbhnidbhaaXg
import Derived.Test.YthbhlmbhnidbhaaPDec
import Derived.Test.YthbhlmbhnidbhaaPEnc
import Derived.Test.YthbhlmbhnidbhaaXf
import Derived.Test.YthbhlmbhnidbhaaXh
import Derived.Test.YthbhlmbhnidbhaaLn
namespace Go.Proofs.Ythbhlmbhnidbhaa.T
open Go.RowKit Go.Proofs.Ythbhlmbhnidbhaa.M
set_option linter.unusedVariables false
set_option linter.unusedSimpArgs false
def resT (l : List Ob) : Int × Int × Int := match find2 (fun _ s => decide (outC l s ≠ 0)) l 0 with | some (u, i) => ((u : Int), outC l (symO l ((u : Int), (i : Int))), (i : Int)) | none => (0, 0, 0)
set_option maxRecDepth 100000 in
set_option maxHeartbeats 8000000 in
theorem resolve_any {W w : World} {b mb : Nat} {a : Option Addr} {n c : Nat} {mem : Int} {CO DA : List Int} {ST : List (Int × Int)} {RG : List Rg} {k : Nat} {L : List Rs} (l : List Ob) (hO : Obs W (.slice a n c) l) (hK : Oks l) (h : LS W.heap.size W w b mb a n c mem CO DA ST RG k (homeQ l) L) : Calls Try.prog 18 #[.pointer (some ⟨b, 0, none⟩)] w fun e w' => e = .returned (trV (resT l)) ∧ LS W.heap.size W w' b mb a n c mem CO DA ST RG k (homeQ l) L := by
  have HSy := hide (fun w' L' (h' : LS W.heap.size W w' b mb a n c mem CO DA ST RG k (homeQ l) L') (u i : Nat) (hu : u < l.length) (hi : i < l[u].syms.length) => psym_any l hO h' u i hu hi)
  obtain ⟨hnl, hlc, hc63, -⟩ := hO.at
  have HA := hide hO.at2
  have HN : Hid (l.length = n) := hnl.symm
  have hn4 : n ≤ 4 := by have := hK.1; omega
  have HK := hide hK
  have HYes : Hid (∀ u i (hu : u < l.length) (hi : i < l[u].syms.length), l[u].syms.findIdx? ((fun _ s => decide (outC l s ≠ 0)) u) = some i → (∀ v (hv : v < u), (l[v]'(by omega)).syms.findIdx? ((fun _ s => decide (outC l s ≠ 0)) v) = none) → resT l = ((u : Int), outC l l[u].syms[i], (i : Int))) := fun u i hu hi h1 h2 => by
    unfold resT
    rw [find2_yes0 hu h1 h2]
    simp only
    rw [symO_at hu hi]
  have HNo : Hid ((∀ v (hv : v < l.length), l[v].syms.findIdx? ((fun _ s => decide (outC l s ≠ 0)) v) = none) → resT l = (0, 0, 0)) := fun h1 => by
    unfold resT
    rw [find2_no0 h1]
  have hL := h.alloc #[.int .i64 0, .int .i64 0, .int .i64 0] 30
  have HL := hide hL
  obtain ⟨c3, -⟩ := hL.look
  clear h hO hnl hK hL
  generalize resT l = T at *
  go_enter Try.func18, Try.ntmps18
  go_wp2_with fail
  clear c3
  generalize w.alloc (.cells #[.int .i64 0, .int .i64 0, .int .i64 0] 30) = wa at *
  generalize hbq : w.heap.size = bq at *
  clear hbq
  go_loopw [14] (fun i wr => ∃ u : Nat, u ≤ n ∧ i = .int .i64 u ∧ Hid (LS W.heap.size W wr b mb a n c mem CO DA ST RG k (homeQ l) (.blk bq #[.int .i64 0, .int .i64 0, .int .i64 0] 30 :: L)) ∧ Hid (∀ v (hv : v < l.length), v < u → l[v].syms.findIdx? ((fun _ s => decide (outC l s ≠ 0)) v) = none)) (fun i _ => n - (intOf i).toNat)
  case atStart => exact ⟨0, Nat.zero_le _, rfl, HL, fun v _ hv => absurd hv (by omega)⟩
  case round =>
    clear HL
    obtain ⟨u, hu, rfl, HL, HQ⟩ := hrel
    by_cases hlt : u < n
    · have hlt' : (u : Int) < n := by omega
      have hidx : (0 : Int) ≤ u ∧ (u : Int) < n := by omega
      have hul : u < l.length := by rw [HN.out]; exact hlt
      obtain ⟨g, oo, rfl, HE⟩ := HA.out (by omega)
      obtain ⟨oca, occ, oda, odc, osa, osc, ora, orc, HC, HO⟩ := HE u hul
      obtain ⟨e0, e1, e2, e3⟩ := HC.out _ HL.out.below
      obtain ⟨-, hs63, HS⟩ := HO.out.syms
      have HS := hide HS
      have hs400 := (HK.out.len u hul).2.2.1
      have HMa : Hid (mayO l[u] = true) := HK.out.2 _ (List.getElem_mem hul)
      have HYu := hide (fun (i : Nat) hi h => HYes.out u i hul hi h (fun v hv => HQ.out v (by omega) hv))
      have HQu : Hid (l[u].syms.findIdx? ((fun _ s => decide (outC l s ≠ 0)) u) = none → ∀ v (hv : v < l.length), v < u + 1 → l[v].syms.findIdx? ((fun _ s => decide (outC l s ≠ 0)) v) = none) := fun h v hv hvu => by
        by_cases q : v = u
        · subst q; exact h
        · exact HQ.out v hv (by omega)
      have HGk : Hid (∀ j (hj : j < l[u].syms.length), (l[u].syms[j].kind = 1 ∨ l[u].syms[j].kind = 2 ∨ l[u].syms[j].kind = 3 ∨ l[u].syms[j].kind = 4) ∧ l[u].syms[j].name.size ≤ 16) := fun j hj => ⟨kind_of HMa.out hj, (mayO_n4 HMa.out j hj).2.2.2.2.1⟩
      obtain ⟨ns, HNS⟩ : ∃ m, Hid (l[u].syms.length = m) := ⟨_, hide rfl⟩
      rw [HNS.out] at e2 hs63 hs400
      clear HC HO HE HMa HQ HYes HNo
      generalize l[u].code.length = nc at *
      generalize l[u].data.length = nd at *
      generalize l[u].rels.length = nr at *
      replace HL := hide (HL.out.alloc #[.slice oca nc occ, .slice oda nd odc, .slice osa ns osc, .slice ora nr orc] 57)
      have q0 := HL.out.cell 0 rfl
      go_wp2_with fail
      clear q0 e0 e1 e2 e3
      generalize wr.alloc (.cells #[.slice oca nc occ, .slice oda nd odc, .slice osa ns osc, .slice ora nr orc] 57) = wb at *
      generalize hbo : wr.heap.size = bo at *
      clear hbo
      go_loopw [22] (fun i wr => ∃ j : Nat, j ≤ ns ∧ i = .int .i64 j ∧ Hid (LS W.heap.size W wr b mb (some ⟨g, oo, none⟩) n c mem CO DA ST RG k (homeQ l) (.blk bo #[.slice oca nc occ, .slice oda nd odc, .slice osa ns osc, .slice ora nr orc] 57 :: .blk bq #[.int .i64 0, .int .i64 0, .int .i64 0] 30 :: L)) ∧ Hid (∀ m (hm : m < l[u].syms.length), m < j → outC l l[u].syms[m] = 0)) (fun i _ => ns - (intOf i).toNat)
      case atStart => exact ⟨0, Nat.zero_le _, rfl, HL, fun v _ hv => absurd hv (by omega)⟩
      case round =>
        clear HL
        obtain ⟨j, hj, rfl, HL, HJ⟩ := hrel
        by_cases hlt2 : j < ns
        · have hlt2' : (j : Int) < ns := by omega
          have hidx2 : (0 : Int) ≤ j ∧ (j : Int) < ns := by omega
          have hjl : j < l[u].syms.length := by rw [HNS.out]; exact hlt2
          obtain ⟨gs, os, rfl, HSE⟩ := HS.out (by rw [HNS.out]; omega)
          obtain ⟨r0, r1, r2, r3, r4, r5, r6⟩ := HSE.out _ HL.out.below j hjl
          obtain ⟨hkd, hsz⟩ := HGk.out j hjl
          have HYk : Hid (outC l l[u].syms[j] ≠ 0 → T = ((u : Int), outC l l[u].syms[j], (j : Int))) := fun h => HYu.out j hjl (find_yes hjl (by simpa using h) fun m hm => by simpa using HJ.out m (by omega) hm)
          have HJk : Hid (outC l l[u].syms[j] = 0 → ∀ m (hm : m < l[u].syms.length), m < j + 1 → outC l l[u].syms[m] = 0) := fun h m hm hjm => by
            by_cases q : m = j
            · subst q; exact h
            · exact HJ.out m hm (by omega)
          have HO1 : Hid (ownB l[u].syms[j] = true → outC l l[u].syms[j] = 0) := fun h => outC_own h
          have HO2 : Hid (ownB l[u].syms[j] = false → homeQ l l[u].syms[j].name = none → outC l l[u].syms[j] = 4) := fun h h2 => outC_none h h2
          have HO3 : Hid (ownB l[u].syms[j] = false → ∀ v kk (hv : v < l.length) (hkk : kk < l[v].syms.length), homeQ l l[u].syms[j].name = some (v, kk) → outC l l[u].syms[j] = if meetB l[u].syms[j] l[v].syms[kk] then 0 else 3) := fun h v kk hv hkk h2 => outC_some h hkd h2 hv hkk
          clear HJ HYu HSE hkd
          generalize l[u].syms[j] = S at *
          obtain ⟨nm, kd, st, pl, sz, sg, fr⟩ := S
          have HOB : Hid (ownB ⟨nm, kd, st, pl, sz, sg, fr⟩ = (decide (kd = 1) || decide (kd = 2))) := rfl
          generalize ownB ⟨nm, kd, st, pl, sz, sg, fr⟩ = OW at *
          generalize outC l ⟨nm, kd, st, pl, sz, sg, fr⟩ = OC at *
          simp only at r0 r1 r2 r3 r4 r5 r6 HO2 HO3 hsz
          have HLa := hide (HL.out.alloc #[.string nm, .int .i64 kd, .bool st, .int .i64 pl, .int .i64 sz, .string sg, .int .i64 fr] 59)
          have HOw := hide (isown_any nm kd st pl sz sg fr (wr.alloc (.cells #[.string nm, .int .i64 kd, .bool st, .int .i64 pl, .int .i64 sz, .string sg, .int .i64 fr] 59)))
          rw [← HOB.out] at HOw
          have q0 := HLa.out.cell 0 rfl
          go_wp2_with fail
          go_at_call 28
          refine HOw.out.mono ?_
          rintro e w1 ⟨rfl, hb⟩
          replace HLa := hide (HLa.out.call hb)
          clear hb HOw q0 r0 r1 r2 r3 r4 r5 r6
          generalize wr.heap.size = bs at *
          have q0 := HLa.out.cell 0 rfl
          cases OW with
          | true =>
            have HJn := hide (HJk.out (HO1.out rfl))
            clear HO1 HO2 HO3 HYk HJk HOB
            go_wp2_with fail
            go_roundw
            case rel => exact ⟨j + 1, by omega, by go_num, HLa.out.tail, HJn⟩
            case measure => simp [intOf]; omega
          | false =>
            have HO2b := hide (HO2.out rfl)
            have HO3b := hide (HO3.out rfl)
            clear HO1 HO2 HO3 HOB
            have hm16 : nm.size ≤ maxLen := by unfold maxLen; omega
            have hlk := HLa.out.drew.look2 nm hm16
            obtain ⟨c3, c4⟩ := HLa.out.look
            obtain ⟨hb1, hb2, hb3⟩ := HLa.out.lt
            have HLb := hide (HLa.out.alloc #[.int .i64 0, .int .i64 0] 75)
            have hlkb := HLb.out.drew.look2 nm hm16
            obtain ⟨c3b, c4b⟩ := HLb.out.look
            have q0b := HLb.out.cell 1 rfl
            have q1b := HLb.out.cell 0 rfl
            have f1b := HLb.out.frz 0 rfl
            go_upto_region 8 with fail
            go_cut [7, 8] from 29 to 39 (fun p q wx => p = .pointer (some ⟨w1.heap.size, 0, none⟩) ∧ ∃ Q, Hid (homeQ l nm = Q) ∧ q = .bool Q.isSome ∧ ∃ p0 p1 : Nat, Hid (∀ v kk, Q = some (v, kk) → p0 = v ∧ p1 = kk) ∧ Hid (LS W.heap.size W wx b mb (some ⟨g, oo, none⟩) n c mem CO DA ST RG k (homeQ l) (.blk w1.heap.size #[.int .i64 p0, .int .i64 p1] 75 :: .blk bs #[.string nm, .int .i64 kd, .bool st, .int .i64 pl, .int .i64 sz, .string sg, .int .i64 fr] 59 :: .blk bo #[.slice oca nc occ, .slice oda nd odc, .slice (some ⟨gs, os, none⟩) ns osc, .slice ora nr orc] 57 :: .blk bq #[.int .i64 0, .int .i64 0, .int .i64 0] 30 :: L)))
            case first =>
              cases hq : homeQ l nm with
              | some p =>
                obtain ⟨p0, p1⟩ := p
                rw [hq] at hlk hlkb
                simp only [plV, Option.isSome_some] at hlk hlkb
                have HLc := hide (HLa.out.alloc #[.int .i64 p0, .int .i64 p1] 75).drew
                go_region
                all_goals
                  clear hlk hlkb c3 c4 c3b c4b q0 q0b q1b f1b HLb HLa
                  go_wp2_with fail
                  go_meet
                  case rel => exact ⟨rfl, some (p0, p1), (by first | exact hq | exact rfl), rfl, p0, p1, fun v kk h => by cases h; exact ⟨rfl, rfl⟩, HLc⟩
              | none =>
                rw [hq] at hlk hlkb
                simp only [plV, Option.isSome_none] at hlk hlkb
                have HLc := hide (HLb.out.drew)
                go_region
                all_goals
                  clear hlk hlkb c3 c4 c3b c4b q0 q0b q1b f1b HLb HLa
                  go_wp2_with fail
                  go_meet
                  case rel => exact ⟨rfl, none, (by first | exact hq | exact rfl), rfl, 0, 0, (fun v kk h => by cases h), HLc⟩
            case rest =>
              clear hlk hlkb c3 c4 c3b c4b q0 q0b q1b f1b HLb HLa
              obtain ⟨rfl, Q, HQ2, rfl, p0, p1, HP, HL2⟩ := hcut
              generalize hbp : w1.heap.size = bp at *
              clear hbp
              cases Q with
              | none =>
                have hOC := HO2b.out HQ2.out
                subst hOC
                obtain rfl := HYk.out (by decide)
                clear HO2b HO3b HYk HJk HQ2 HP
                have q3 := HL2.out.cell 3 rfl
                have f3 := HL2.out.frz 3 rfl
                have HG := hide (HL2.out.tr 3 rfl u 4 j)
                go_wp2_with fail
                refine bodyPost_ret (rtT Try.results18 rfl (HG.out.fr.get (i := 3) rfl).2 rfl) rfl ?_
                exact ⟨rfl, HG.out.tail.tail.tail.tail⟩
              | some p =>
                obtain ⟨v, kk⟩ := p
                obtain ⟨rfl, rfl⟩ := HP.out v kk rfl
                obtain ⟨hv, hkk, -, -⟩ := homeQ_some HQ2.out
                have HOC := hide (HO3b.out p0 p1 hv hkk HQ2.out)
                have HSk := hide (HSy.out _ _ HL2.out.drew p0 p1 hv hkk)
                clear HO2b HO3b HQ2 HP
                generalize l[p0].syms[p1] = S2 at *
                obtain ⟨nm2, kd2, st2, pl2, sz2, sg2, fr2⟩ := S2
                have HMt := hide (fun w' => meets_any nm kd st pl sz sg fr nm2 kd2 st2 pl2 sz2 sg2 fr2 w')
                unfold syV at HSk
                simp only at HSk
                generalize meetB ⟨nm, kd, st, pl, sz, sg, fr⟩ ⟨nm2, kd2, st2, pl2, sz2, sg2, fr2⟩ = MB at *
                have q1 := HL2.out.cell 1 rfl
                have q2 := HL2.out.cell 0 rfl
                go_upto_region 11 with fail
                go_cut [49] from 44 to 50 (fun p wx => p = .bool (!MB) ∧ Hid (LS W.heap.size W wx b mb (some ⟨g, oo, none⟩) n c mem CO DA ST RG k (homeQ l) (.blk bp #[.int .i64 p0, .int .i64 p1] 75 :: .blk bs #[.string nm, .int .i64 kd, .bool st, .int .i64 pl, .int .i64 sz, .string sg, .int .i64 fr] 59 :: .blk bo #[.slice oca nc occ, .slice oda nd odc, .slice (some ⟨gs, os, none⟩) ns osc, .slice ora nr orc] 57 :: .blk bq #[.int .i64 0, .int .i64 0, .int .i64 0] 30 :: L)))
                case first =>
                  go_region_with (first | (go_at_call 30; refine HSk.out.mono ?_; rintro e w3 ⟨rfl, hb⟩; have HL3 := hide (HL2.out.drew.call hb); clear hb; have q3 := HL3.out.cell 1 rfl) | (go_at_call 29; refine (HMt.out _).mono ?_; rintro e w4 ⟨rfl, hb4⟩; have HL4 := hide (HL3.out.call hb4); clear hb4))
                  all_goals
                    go_wp2_with fail
                    go_meet
                    case rel => exact ⟨rfl, HL4⟩
                case rest =>
                  clear HSk HMt q1 q2 HL2
                  obtain ⟨rfl, HL2⟩ := hcut
                  cases MB with
                  | true =>
                    have hOC : OC = 0 := HOC.out.trans (by simp)
                    subst hOC
                    have HJn := hide (HJk.out rfl)
                    clear HYk HJk HOC
                    go_wp2_with fail
                    go_roundw
                    case rel => exact ⟨j + 1, by omega, by go_num, HL2.out.tail.tail, HJn⟩
                    case measure => simp [intOf]; omega
                  | false =>
                    have hOC : OC = 3 := HOC.out.trans (by simp)
                    subst hOC
                    obtain rfl := HYk.out (by decide)
                    clear HYk HJk HOC
                    have q3 := HL2.out.cell 3 rfl
                    have f3 := HL2.out.frz 3 rfl
                    have HG := hide (HL2.out.tr 3 rfl u 3 j)
                    go_wp2_with fail
                    refine bodyPost_ret (rtT Try.results18 rfl (HG.out.fr.get (i := 3) rfl).2 rfl) rfl ?_
                    exact ⟨rfl, HG.out.tail.tail.tail.tail⟩
        · have hlt2' : ¬ (j : Int) < ns := by omega
          obtain rfl : j = ns := by omega
          have HQn := hide (HQu.out (find_no fun m hm => by simpa using HJ.out m hm (by rw [HNS.out] at hm; exact hm)))
          clear HQu HYu HJ HS HGk
          go_wp2_with fail
          go_roundw
          case rel => exact ⟨u + 1, by omega, by go_num, HL.out.tail, HQn⟩
          case measure => simp [intOf]; omega
    · have hlt' : ¬ (u : Int) < n := by omega
      obtain rfl : u = n := by omega
      obtain rfl := HNo.out fun v hv => HQ.out v hv (by have := HN.out; omega)
      clear HQ HYes HNo
      have q0 := HL.out.cell 0 rfl
      have f0 := HL.out.frz 0 rfl
      have HG := hide (HL.out.tr 0 rfl 0 0 0)
      go_wp2_with fail
      refine bodyPost_ret (rtT Try.results18 rfl (HG.out.fr.get (i := 0) rfl).2 rfl) rfl ?_
      exact ⟨rfl, HG.out.tail⟩
end Go.Proofs.Ythbhlmbhnidbhaa.T
namespace Go.Proofs.Ythbhlmbhnidbhaa.T
open Go.RowKit Go.Proofs.Ythbhlmbhnidbhaa.M
set_option linter.unusedVariables false
set_option linter.unusedSimpArgs false
set_option maxRecDepth 100000 in
set_option maxHeartbeats 4000000 in
theorem about_any (v im : Int) (w : World) (h0 : 0 ≤ v) (h1 : v ≤ 4294967295) (hd : dck v = 0) (ck : Int) (hck : ckN (v / 16777216) (v / 1048576 % 16) (v / 65536 % 16) (dC (kind (v / 16777216)) (v % 65536)) im = ck) :
    Calls Try.prog 37 #[.int .u32 v, .int .i64 im] w fun e w' => e = .returned (.tuple #[.int .u32 (if ck = 0 then encN (v / 16777216) (v / 1048576 % 16) (v / 65536 % 16) (dC (kind (v / 16777216)) (v % 65536)) im else 0), .bool (decide (ck = 0))]) ∧ Below w.heap.size w w' := by
  have HD := hide (Go.Proofs.Ythbhlmbhnidbhaa.W.decode_ok v w h0 h1 hd)
  generalize v / 16777216 = OP at *
  generalize v / 1048576 % 16 = XA at *
  generalize v / 65536 % 16 = XB at *
  generalize v % 65536 = XM at *
  generalize dM (kind OP) XM = DM at *
  generalize dC (kind OP) XM = DC at *
  by_cases hz : ck = 0
  · subst hz
    have HE := hide (fun w' => Go.Proofs.Ythbhlmbhnidbhaa.W.encode_ok OP XA XB DC im w' (hide hck))
    rw [if_pos rfl]
    clear hck hd
    generalize encN OP XA XB DC im = EN at *
    go_enter Try.func37, Try.ntmps37
    go_wp2_with fail
    go_at_call 47
    refine HD.out.mono ?_
    rintro e w1 ⟨rfl, hb⟩
    have HF := hide (((Fr.start w).call hb).alloc (q := w1.heap.size) rfl #[.int .i64 OP, .int .i64 XA, .int .i64 XB, .int .i64 DC, .int .i64 im] 53)
    clear hb HD
    have q0 := HF.out.cell 0 rfl
    have f0 := HF.out.frz 0 rfl
    go_wp2_with fail
    go_at_call 33
    refine (HE.out _).mono ?_
    rintro e w2 ⟨rfl, hb⟩
    replace HF := hide (HF.out.call hb)
    clear hb HE q0 f0
    go_wp2_with fail
    go_ret2
    exact ⟨rfl, HF.out.below⟩
  · have hz' : (ck == 0) = false := by simpa using hz
    have HE := hide (fun w' => Go.Proofs.Ythbhlmbhnidbhaa.W.encode_bad OP XA XB DC im ck w' (hide hck) hz')
    rw [if_neg hz]
    have hdz : decide (ck = 0) = false := by simpa using hz
    rw [hdz]
    clear hck hd
    go_enter Try.func37, Try.ntmps37
    go_wp2_with fail
    go_at_call 47
    refine HD.out.mono ?_
    rintro e w1 ⟨rfl, hb⟩
    have HF := hide (((Fr.start w).call hb).alloc (q := w1.heap.size) rfl #[.int .i64 OP, .int .i64 XA, .int .i64 XB, .int .i64 DC, .int .i64 im] 53)
    clear hb HD
    have q0 := HF.out.cell 0 rfl
    have f0 := HF.out.frz 0 rfl
    go_wp2_with fail
    go_at_call 33
    refine (HE.out _).mono ?_
    rintro e w2 ⟨rfl, hb⟩
    replace HF := hide (HF.out.call hb)
    clear hb HE q0 f0
    go_wp2_with fail
    go_ret2
    exact ⟨rfl, HF.out.below⟩
end Go.Proofs.Ythbhlmbhnidbhaa.T
namespace Go.Proofs.Ythbhlmbhnidbhaa.T
open Go.RowKit Go.Proofs.Ythbhlmbhnidbhaa.M
set_option linter.unusedVariables false
set_option linter.unusedSimpArgs false
def spkT (l : List Ob) : Int × Int × Int := match badR l with | some (u, i) => ((u : Int), 6, (i : Int)) | none => (0, 0, 0)
/-- What speak leaves. -/
def PSp (W : World) (b mb : Nat) (a : Option Addr) (n c : Nat) (mem : Int) (DA : List Int) (RG : List Rg) (k : Nat) (L : List Rs) (l : List Ob) (t : Int × Int × Int) (e : Ending) (w' : World) : Prop := e = .returned (trV t) ∧ ∃ CO, LS W.heap.size W w' b mb a n c mem CO DA (stL l) RG k (homeQ l) L ∧ (t.2.1 = 0 → CO = patL l l.length)
set_option maxRecDepth 100000 in
set_option maxHeartbeats 16000000 in
theorem speak_any {W w : World} {b mb : Nat} {a : Option Addr} {n c : Nat} {mem : Int} {DA : List Int} {RG : List Rg} {k : Nat} {L : List Rs} (l : List Ob) (hO : Obs W (.slice a n c) l) (hf : Fine l) (h : LS W.heap.size W w b mb a n c mem (cdL l l.length) DA (stL l) RG k (homeQ l) L) :
    Calls Try.prog 21 #[.pointer (some ⟨b, 0, none⟩)] w (PSp W b mb a n c mem DA RG k L l (spkT l)) := by
  obtain ⟨hnl, hlc, hc63, -⟩ := hO.at
  have h1 := hf.one
  obtain ⟨g, oo, rfl, HE⟩ := hO.at2 (by omega)
  have HE := hide HE
  have HN : Hid (l.length = n) := hnl.symm
  have hn4 : n ≤ 4 := by have := hf.oks.1; omega
  have hn1 : 1 ≤ n := by omega
  have HAd := hide (fun w' CO' L' h' (u i : Nat) hu hi => padr_any (W := W) (w := w') (b := b) (mb := mb) (mem := mem) (CO := CO') (DA := DA) (RG := RG) (k := k) (L := L') l hO hf h' u i hu hi)
  have HK := hide hf.oks
  have HF0 := hide hf
  have HYes : Hid (∀ u i (hu : u < l.length), l[u].rels.findIdx? (badP l u l[u]) = some i → (∀ v (hv : v < u), (l[v]'(by omega)).rels.findIdx? (badP l v (l[v]'(by omega))) = none) → spkT l = ((u : Int), 6, (i : Int))) := fun u i hu h2 h3 => by
    have hb : badR l = some (u, i) := by
      have := find3_yes (badP l) l 0 u i hu (by rw [Nat.zero_add]; exact h2) (fun v hv => by rw [Nat.zero_add]; exact h3 v hv)
      rw [Nat.zero_add] at this
      exact this
    unfold spkT
    rw [hb]
  have HNo : Hid ((∀ v (hv : v < l.length), l[v].rels.findIdx? (badP l v l[v]) = none) → spkT l = (0, 0, 0)) := fun h2 => by
    unfold spkT
    rw [badR_none h2]
  have HCl : Hid ((cdL l l.length).length = 2 + cS l l.length) := cdL_len
  have HPe : Hid (∀ P, P = patL l n → P = patL l l.length) := fun P h => by rw [HN.out]; exact h
  have HWf := hide hO.wf
  have hL := h.allocQ (q := w.heap.size) rfl #[.int .i64 0, .int .i64 0, .int .i64 0] 30
  have HL := hide hL
  obtain ⟨c3, -⟩ := hL.look
  have hNC : 2 + cS l l.length ≤ 24002 := by have := (hf.oks.sums l.length (Nat.le_refl _)).1; omega
  obtain ⟨NC, HNC⟩ : ∃ m, Hid (2 + cS l l.length = m) := ⟨_, hide rfl⟩
  rw [HNC.out] at HCl hNC
  have hNC1 : 2 ≤ NC := by have := HNC.out; omega
  have HP0 : Hid (cdL l l.length = patL l 0) := rfl
  clear h hO hf hnl hL
  generalize spkT l = T at *
  go_enter Try.func21, Try.ntmps21
  go_wp2_with fail
  clear c3
  generalize w.alloc (.cells #[.int .i64 0, .int .i64 0, .int .i64 0] 30) = wa at *
  generalize hbq : w.heap.size = bq at *
  clear hbq
  go_loopw [15] (fun i wr => ∃ (u : Nat) (P : List Int), u ≤ n ∧ i = .int .i64 u ∧ Hid (P = patL l u) ∧ Hid (P.length = NC) ∧ Hid (LS W.heap.size W wr b mb (some ⟨g, oo, none⟩) n c mem P DA (stL l) RG k (homeQ l) (.blk bq #[.int .i64 0, .int .i64 0, .int .i64 0] 30 :: L)) ∧ Hid (∀ v (hv : v < l.length), v < u → l[v].rels.findIdx? (badP l v l[v]) = none)) (fun i _ => n - (intOf i).toNat)
  case atStart => exact ⟨0, cdL l l.length, Nat.zero_le _, rfl, HP0, HCl, HL, fun v _ hv => absurd hv (by omega)⟩
  case round =>
    clear HL HP0 HCl
    obtain ⟨u, P, hu, rfl, HP, HPl, HL, HQ⟩ := hrel
    by_cases hlt : u < n
    · have hlt' : (u : Int) < n := by omega
      have hidx : (0 : Int) ≤ u ∧ (u : Int) < n := by omega
      have hul : u < l.length := by rw [HN.out]; exact hlt
      obtain ⟨oca, occ, oda, odc, osa, osc, ora, orc, HC, HO⟩ := HE.out u hul
      obtain ⟨e0, e1, e2, e3⟩ := HC.out _ HL.out.below
      have HRw := hide (HO.out.rels)
      have HCo := hide (HO.out.code1)
      have hk6 := (HK.out.len u hul).2.2.2
      have hMay := HK.out.2 _ (List.getElem_mem hul)
      have HRf := hide (rel_facts hMay)
      have hcs := (HK.out.sums u (by omega)).1
      have hcs2 : cS l (u + 1) ≤ cS l l.length := by
        have := cS_mono (l := l) (u := u + 1) (l.length - (u + 1)) (by omega)
        rw [show u + 1 + (l.length - (u + 1)) = l.length by omega] at this
        exact this
      have hcs3 := cS_next hul
      have HPk : Hid (∀ k (hk : k < l[u].rels.length), patU l u l[u] (patL l u) (k + 1) = (patU l u l[u] (patL l u) k).set (2 + cS l u + l[u].rels[k].pl.toNat) (rWd l u l[u] l[u].rels[k])) := fun k hk => patU_next hk
      have HPh : Hid (∀ k pn (hk : k < l[u].rels.length) (hp : pn < l[u].code.length), l[u].rels[k].pl = pn → (patU l u l[u] (patL l u) k)[2 + cS l u + pn]? = some l[u].code[pn]) := fun k pn hk hp ep => pat_here HK.out hul hk hp ep
      have HPn0 : Hid (∀ Q, Q = patU l u l[u] (patL l u) l[u].rels.length → Q = patL l (u + 1)) := fun Q h => by rw [patL_next hul, h]
      have HPz : Hid (P = patU l u l[u] (patL l u) 0) := (by show _ = _; rw [HP.out]; rfl)
      have HYu := hide (fun (i : Nat) h => HYes.out u i hul h (fun v hv => HQ.out v (by omega) hv))
      have HQu : Hid (l[u].rels.findIdx? (badP l u l[u]) = none → ∀ v (hv : v < l.length), v < u + 1 → l[v].rels.findIdx? (badP l v l[v]) = none) := fun h v hv hvu => by
        by_cases q : v = u
        · subst q; exact h
        · exact HQ.out v hv (by omega)
      have HAu := hide (fun w' CO' L' h' i hi => HAd.out w' CO' L' h' u i hul hi)
      have HAl : Hid (∀ k (hk : k < l[u].syms.length), 0 ≤ adrA l u l[u].syms[k] ∧ adrA l u l[u].syms[k] ≤ 4300000000) := fun k hk => adrA_le HF0.out hul hk
      have HSt := hide (stL_get hul)
      have HLt : Hid ((stL l).length = n) := (by show _ = _; rw [stL_len]; exact HN.out)
      obtain ⟨NR, HNR⟩ : ∃ m, Hid (l[u].rels.length = m) := ⟨_, hide rfl⟩
      obtain ⟨nc, HNc⟩ : ∃ m, Hid (l[u].code.length = m) := ⟨_, hide rfl⟩
      have hncN : 2 + cS l u + nc ≤ NC := by have := HNC.out; have := HNc.out; omega
      rw [HNR.out] at e3 hk6
      rw [HNc.out] at e0
      clear HC HO HQ HYes HNo HP hMay hcs2 hcs3
      generalize l[u].data.length = nd at *
      generalize hns : l[u].syms.length = ns at e2
      clear hns
      have HLa := hide (HL.out.allocQ (q := wr.heap.size) rfl #[.slice oca nc occ, .slice oda nd odc, .slice osa ns osc, .slice ora NR orc] 57)
      have q0 := HLa.out.cell 0 rfl
      clear HL
      go_wp2_with fail
      clear q0 e0 e1 e2 e3
      generalize wr.alloc (.cells #[.slice oca nc occ, .slice oda nd odc, .slice osa ns osc, .slice ora NR orc] 57) = wb at *
      generalize hbo : wr.heap.size = bo at *
      clear hbo
      go_loopw [23] (fun i wr => ∃ (j : Nat) (P : List Int), j ≤ NR ∧ i = .int .i64 j ∧ Hid (P = patU l u l[u] (patL l u) j) ∧ Hid (P.length = NC) ∧ Hid (LS W.heap.size W wr b mb (some ⟨g, oo, none⟩) n c mem P DA (stL l) RG k (homeQ l) (.blk bo #[.slice oca nc occ, .slice oda nd odc, .slice osa ns osc, .slice ora NR orc] 57 :: .blk bq #[.int .i64 0, .int .i64 0, .int .i64 0] 30 :: L)) ∧ Hid (∀ m (hm : m < l[u].rels.length), m < j → badP l u l[u] l[u].rels[m] = false)) (fun i _ => NR - (intOf i).toNat)
      case atStart => exact ⟨0, P, Nat.zero_le _, rfl, HPz, HPl, HLa, fun v _ hv => absurd hv (by omega)⟩
      case round =>
        clear HLa HPz HPl
        obtain ⟨j, P, hj, rfl, HP, HPl, HL, HJ⟩ := hrel
        by_cases hlt2 : j < NR
        · have hlt2' : (j : Int) < NR := by omega
          have hidx2 : (0 : Int) ≤ j ∧ (j : Int) < NR := by omega
          have hjl : j < l[u].rels.length := by rw [HNR.out]; exact hlt2
          obtain ⟨gr, orr, rfl, HRE⟩ := HRw.out (Nat.lt_of_le_of_lt (Nat.zero_le _) hjl)
          obtain ⟨r0, r1, r2⟩ := HRE.out _ HL.out.below j hjl
          obtain ⟨pn, sn, an, hp, hs, ep, es, ea, han, hdk⟩ := HRf.out j hjl
          obtain ⟨hcv, him⟩ := rCk_at (l := l) (u := u) hjl hp hs ep es
          obtain ⟨gc, oc, -, HCE⟩ := HCo.out (Nat.lt_of_le_of_lt (Nat.zero_le _) hp)
          have hN4 := (HCE.out _ HL.out.below pn hp).2
          rw [ep] at r0
          rw [es] at r1
          rw [ea] at r2 him
          obtain ⟨hal0, hal1⟩ := HAl.out sn hs
          have HAk0 := hide (fun w' CO' L' h' => HAu.out w' CO' L' h' sn hs)
          obtain ⟨AN, hAN⟩ : ∃ m : Nat, adrA l u l[u].syms[sn] = m := ⟨(adrA l u l[u].syms[sn]).toNat, by omega⟩
          rw [hAN] at HAk0 hal0 hal1 him
          have HCk : Hid (badP l u l[u] l[u].rels[j] = decide (ckN (l[u].code[pn] / 16777216) (l[u].code[pn] / 1048576 % 16) (l[u].code[pn] / 65536 % 16) (dC (kind (l[u].code[pn] / 16777216)) (l[u].code[pn] % 65536)) ((AN : Int) + an) ≠ 0)) := (by show _ = _; unfold badP rCk; rw [hcv, him])
          have HWd : Hid (rWd l u l[u] l[u].rels[j] = encN (l[u].code[pn] / 16777216) (l[u].code[pn] / 1048576 % 16) (l[u].code[pn] / 65536 % 16) (dC (kind (l[u].code[pn] / 16777216)) (l[u].code[pn] % 65536)) ((AN : Int) + an)) := (by show _ = _; unfold rWd; rw [hcv, him])
          have HPk1 := hide (HPk.out j hjl)
          rw [ep, Int.toNat_natCast] at HPk1
          have HPh1 := hide (HPh.out j pn hjl hp ep)
          rw [← HP.out] at HPk1 HPh1
          have hpn : pn < nc := by rw [← HNc.out]; exact hp
          unfold N4 at hN4
          obtain ⟨ck, hck⟩ : ∃ x, ckN (l[u].code[pn] / 16777216) (l[u].code[pn] / 1048576 % 16) (l[u].code[pn] / 65536 % 16) (dC (kind (l[u].code[pn] / 16777216)) (l[u].code[pn] % 65536)) ((AN : Int) + an) = x := ⟨_, rfl⟩
          have HAb0 := hide (fun w' => about_any l[u].code[pn] ((AN : Int) + an) w' hN4.1 (by have := hN4.2; omega) hdk ck hck)
          rw [hck] at HCk
          have HYk : Hid (badP l u l[u] l[u].rels[j] = true → T = ((u : Int), 6, (j : Int))) := fun h => HYu.out j (find_yes hjl h fun m hm => HJ.out m (by omega) hm)
          have HJk : Hid (badP l u l[u] l[u].rels[j] = false → ∀ m (hm : m < l[u].rels.length), m < j + 1 → badP l u l[u] l[u].rels[m] = false) := fun h m hm hjm => by
            by_cases q : m = j
            · subst q; exact h
            · exact HJ.out m hm (by omega)
          obtain ⟨EN, HEN⟩ : ∃ x, Hid (encN (l[u].code[pn] / 16777216) (l[u].code[pn] / 1048576 % 16) (l[u].code[pn] / 65536 % 16) (dC (kind (l[u].code[pn] / 16777216)) (l[u].code[pn] % 65536)) ((AN : Int) + an) = x) := ⟨_, hide rfl⟩
          rw [HEN.out] at HWd HAb0
          rw [HWd.out] at HPk1
          obtain ⟨A1, hA1⟩ : ∃ m : Nat, 2 + cS l u = m := ⟨_, rfl⟩
          rw [hA1] at HPk1 HPh1 hncN
          obtain ⟨X, hX⟩ : ∃ m : Nat, A1 + pn = m := ⟨_, rfl⟩
          rw [hX] at HPk1 HPh1
          have hXi : (0 : Int) ≤ X ∧ (X : Int) < NC := by omega
          have hXw : IntKind.i64.wrap ((A1 : Int) + pn) = (X : Int) := by rw [IntKind.wrap_i64]; omega
          have hIw : IntKind.i64.wrap ((AN : Int) + an) = (AN : Int) + an := by rw [IntKind.wrap_i64]; omega
          have HA1 : Hid ((stB l u).1 = (A1 : Int)) := (by show (2 : Int) + cS l u = A1; omega)
          clear HJ HYu HRE HCE HRf hcv him HWd HEN hck hdk ep es ea hal0 hal1 hAN
          generalize l[u].code[pn] = V at *
          have HLa := hide (HL.out.allocQ (q := wr.heap.size) rfl #[.int .i64 pn, .int .i64 sn, .int .i64 an] 63)
          have q0 := HLa.out.cell 0 rfl
          clear HL
          go_upto_region 7 with fail
          clear q0 r0 r1 r2
          generalize wr.alloc (.cells #[.int .i64 pn, .int .i64 sn, .int .i64 an] 63) = wc at *
          generalize hbr : wr.heap.size = br at *
          clear hbr
          obtain ⟨sa0, sc0, c5, HSs⟩ := HLa.out.starts
          obtain ⟨gst, ost, hsa, s0, s1⟩ := HSs u _ HSt.out
          subst hsa
          rw [HA1.out] at s0
          rw [HLt.out] at c5
          obtain ⟨ca, cc, da, dc, sa, sc, ra, rc, hF⟩ := HLa.out
          rw [HPl.out] at hF
          obtain ⟨gC, cap, cur, hv, hp1, hp2, hsz, htk, hln, hFo⟩ := hF.opened 1 rfl (by omega)
          obtain ⟨hca, hcc⟩ : ca = some ⟨gC, 0, none⟩ ∧ cc = cap := by cases hv; exact ⟨rfl, rfl⟩
          subst hca
          subst hcc
          have HFr := hide hF
          have HFo := hide hFo
          have HSz := hide hsz
          have HTk := hide htk
          have hcX : cur[X]? = some (.int .u32 V) := by
            have e1 : (cur.toList.take (NC * 1))[X]? = some (.int .u32 V) := by rw [htk, List.getElem?_map, HPh1.out]; rfl
            rw [Nat.mul_one] at e1
            rw [List.getElem?_take_of_lt (by omega)] at e1
            rw [← Array.getElem?_toList]
            exact e1
          have c0 := HFr.out.cell 0 rfl
          have q0 := HFr.out.cell 6 rfl
          clear hF hFo hv hsz htk hln HSs s1 HLa
          go_quiet (fail)
          generalize nq = qn
          clear c0 q0 c5 s0
          have HFd := hide (HFr.out.drewN qn).drew
          have HD := hide (HFo.out.drewN qn).drew
          have HLd : Hid (LS W.heap.size W _ b mb (some ⟨g, oo, none⟩) n c mem P DA (stL l) RG k (homeQ l) (.blk br #[.int .i64 pn, .int .i64 sn, .int .i64 an] 63 :: .blk bo #[.slice oca nc occ, .slice oda nd odc, .slice osa ns osc, .slice (some ⟨gr, orr, none⟩) NR orc] 57 :: .blk bq #[.int .i64 0, .int .i64 0, .int .i64 0] 30 :: L)) := ⟨_, _, da, dc, sa, sc, ra, rc, by rw [HPl.out]; exact HFd.out⟩
          have HAk := hide (HAk0.out _ _ _ HLd.out)
          clear HAk0 HLd
          by_cases hz : ck = 0
          · subst hz
            have HAb := HAb0
            rw [if_pos rfl] at HAb
            have HJn := hide (HJk.out (HCk.out.trans (by simp)))
            have HPn := hide (HPk1.out.symm)
            clear HAb0 HCk HYk HJk HPk1 HPh1
            simp only [decide_true] at HAb
            go_wp2_with fail
            refine wp_region_held_drew (S := fun w' => (∀ o, w'.cell? ⟨gC, o, none⟩ = cur[o]?) ∧ (∀ o, w'.cell? ⟨br, o, none⟩ = (#[.int .i64 pn, .int .i64 sn, .int .i64 an] : Array Value)[o]?)) (by kernel_rfl) ⟨(HD.out.cell 1 rfl), (HD.out.cell 6 rfl)⟩ (fun hHeld => ?_)
            refine wpAnyH_take (i := 0) (v := ?_) rfl (by kernel_rfl) (by kernel_rfl) (by kernel_rfl) (fun _ _ _ h => h) (Or.inl ⟨by rfl, ?_⟩) (by assumption) ?_
            rotate_left
            · (intro w hSw; (try dsimp only at hSw); obtain ⟨hSw0, hSw1⟩ := hSw; go_simp) <;> with_reducible rfl
            (simp only [Act.put, List.getElem_toArray, List.getElem_cons_zero, List.getElem_cons_succ, List.setIfInBounds_toArray, List.set_cons_zero, List.set_cons_succ])
            refine wpAnyH_take (i := 1) (v := ?_) rfl (by kernel_rfl) (by kernel_rfl) (by kernel_rfl) (fun _ _ _ h => h) (Or.inl ⟨by rfl, ?_⟩) (by assumption) ?_
            rotate_left
            · (intro w hSw; (try dsimp only at hSw); obtain ⟨hSw0, hSw1⟩ := hSw; go_simp) <;> with_reducible rfl
            (simp only [Act.put, List.getElem_toArray, List.getElem_cons_zero, List.getElem_cons_succ, List.setIfInBounds_toArray, List.set_cons_zero, List.set_cons_succ])
            refine wpAnyH_take (i := 2) (v := ?_) rfl (by kernel_rfl) (by kernel_rfl) (by kernel_rfl) (fun _ _ _ h => h) (Or.inl ⟨by rfl, ?_⟩) (by assumption) ?_
            rotate_left
            · (intro w hSw; (try dsimp only at hSw); obtain ⟨hSw0, hSw1⟩ := hSw; go_simp) <;> with_reducible rfl
            (simp only [Act.put, List.getElem_toArray, List.getElem_cons_zero, List.getElem_cons_succ, List.setIfInBounds_toArray, List.set_cons_zero, List.set_cons_succ])
            refine wpAnyH_take (i := 3) (v := ?_) rfl (by kernel_rfl) (by kernel_rfl) (by kernel_rfl) (fun _ _ _ h => h) (Or.inl ⟨by rfl, ?_⟩) (by assumption) ?_
            rotate_left
            · (intro w hSw; (try dsimp only at hSw); obtain ⟨hSw0, hSw1⟩ := hSw; go_simp) <;> with_reducible rfl
            (simp only [Act.put, List.getElem_toArray, List.getElem_cons_zero, List.getElem_cons_succ, List.setIfInBounds_toArray, List.set_cons_zero, List.set_cons_succ])
            refine wpAnyH_take (i := 4) (v := ?_) rfl (by kernel_rfl) (by kernel_rfl) (by kernel_rfl) (fun _ _ _ h => h) (Or.inl ⟨by rfl, ?_⟩) (by assumption) ?_
            rotate_left
            · (intro w hSw; (try dsimp only at hSw); obtain ⟨hSw0, hSw1⟩ := hSw; go_simp) <;> with_reducible rfl
            (simp only [Act.put, List.getElem_toArray, List.getElem_cons_zero, List.getElem_cons_succ, List.setIfInBounds_toArray, List.set_cons_zero, List.set_cons_succ])
            refine wpAnyH_take (i := 5) (v := ?_) rfl (by kernel_rfl) (by kernel_rfl) (by kernel_rfl) (fun _ _ _ h => h) (Or.inl ⟨by rfl, ?_⟩) (by assumption) ?_
            rotate_left
            · (intro w hSw; (try dsimp only at hSw); obtain ⟨hSw0, hSw1⟩ := hSw; go_simp) <;> with_reducible rfl
            (simp only [Act.put, List.getElem_toArray, List.getElem_cons_zero, List.getElem_cons_succ, List.setIfInBounds_toArray, List.set_cons_zero, List.set_cons_succ])
            refine wpAnyH_take (i := 6) (v := ?_) rfl (by kernel_rfl) (by kernel_rfl) (by kernel_rfl) (fun _ _ _ h => h) (Or.inl ⟨by rfl, ?_⟩) (by assumption) ?_
            rotate_left
            · (intro w hSw; (try dsimp only at hSw); obtain ⟨hSw0, hSw1⟩ := hSw; go_simp) <;> with_reducible rfl
            (simp only [Act.put, List.getElem_toArray, List.getElem_cons_zero, List.getElem_cons_succ, List.setIfInBounds_toArray, List.set_cons_zero, List.set_cons_succ])
            refine wpAnyH_take (i := 7) (v := ?_) rfl (by kernel_rfl) (by kernel_rfl) (by kernel_rfl) (fun _ _ _ h => h) (Or.inl ⟨by rfl, ?_⟩) (by assumption) ?_
            rotate_left
            · (intro w hSw; (try dsimp only at hSw); obtain ⟨hSw0, hSw1⟩ := hSw; go_simp) <;> with_reducible rfl
            (simp only [Act.put, List.getElem_toArray, List.getElem_cons_zero, List.getElem_cons_succ, List.setIfInBounds_toArray, List.set_cons_zero, List.set_cons_succ])
            refine wpAnyH_take (i := 9) (v := ?_) rfl (by kernel_rfl) (by kernel_rfl) (by kernel_rfl) (fun _ _ _ h => h) (Or.inl ⟨by rfl, ?_⟩) (by assumption) ?_
            rotate_left
            · (intro w hSw; (try dsimp only at hSw); obtain ⟨hSw0, hSw1⟩ := hSw; go_simp) <;> with_reducible rfl
            (simp only [Act.put, List.getElem_toArray, List.getElem_cons_zero, List.getElem_cons_succ, List.setIfInBounds_toArray, List.set_cons_zero, List.set_cons_succ])
            refine wpAnyH_take (i := 10) (v := ?_) rfl (by kernel_rfl) (by kernel_rfl) (by kernel_rfl) (fun _ _ _ h => h) (Or.inl ⟨by rfl, ?_⟩) (by assumption) ?_
            rotate_left
            · (intro w hSw; (try dsimp only at hSw); obtain ⟨hSw0, hSw1⟩ := hSw; go_simp) <;> with_reducible rfl
            (simp only [Act.put, List.getElem_toArray, List.getElem_cons_zero, List.getElem_cons_succ, List.setIfInBounds_toArray, List.set_cons_zero, List.set_cons_succ])
            refine wpAnyH_ready (rs := [8]) (by kernel_rfl) (by simp) ?_
            refine AllReadyH.cons rfl (fun K hK => ?_) AllReadyH.nil
            go_simp
            refine HAk.out.mono ?_
            rintro e w3 ⟨rfl, hb3⟩
            have HD3 := hide (HD.out.call hb3)
            have HE3 := hide (HFd.out.call hb3)
            clear hb3
            refine hK.out _ _ ⟨(HD3.out.cell 1 rfl), (HD3.out.cell 6 rfl)⟩ (fun hHeld1 => ?_)
            clear hK K
            (try (simp only [Act.put, List.getElem_toArray, List.getElem_cons_zero, List.getElem_cons_succ, List.setIfInBounds_toArray, List.set_cons_zero, List.set_cons_succ]))
            refine wpAnyH_take (i := 11) (v := ?_) rfl (by kernel_rfl) (by kernel_rfl) (by kernel_rfl) (fun _ _ _ h => h) (Or.inl ⟨by rfl, ?_⟩) (by assumption) ?_
            rotate_left
            · (intro w hSw; (try dsimp only at hSw); obtain ⟨hSw0, hSw1⟩ := hSw; go_simp) <;> with_reducible rfl
            (simp only [Act.put, List.getElem_toArray, List.getElem_cons_zero, List.getElem_cons_succ, List.setIfInBounds_toArray, List.set_cons_zero, List.set_cons_succ])
            refine wpAnyH_ready (rs := [12]) (by kernel_rfl) (by simp) ?_
            refine AllReadyH.cons rfl (fun K hK => ?_) AllReadyH.nil
            go_simp
            refine (HAb.out _).mono ?_
            rintro e w4 ⟨rfl, hb4⟩
            have HD4 := hide (HD3.out.call hb4)
            have HE4 := hide (HE3.out.call hb4)
            clear hb4
            refine hK.out _ _ ⟨(HD4.out.cell 1 rfl), (HD4.out.cell 6 rfl)⟩ (fun hHeld2 => ?_)
            clear hK K
            (try (simp only [Act.put, List.getElem_toArray, List.getElem_cons_zero, List.getElem_cons_succ, List.setIfInBounds_toArray, List.set_cons_zero, List.set_cons_succ]))
            refine wpAnyH_take (i := 13) (v := ?_) rfl (by kernel_rfl) (by kernel_rfl) (by kernel_rfl) (fun _ _ _ h => h) (Or.inl ⟨by rfl, ?_⟩) (by assumption) ?_
            rotate_left
            · (intro w hSw; (try dsimp only at hSw); obtain ⟨hSw0, hSw1⟩ := hSw; go_simp) <;> with_reducible rfl
            (simp only [Act.put, List.getElem_toArray, List.getElem_cons_zero, List.getElem_cons_succ, List.setIfInBounds_toArray, List.set_cons_zero, List.set_cons_succ])
            refine wpAnyH_take (i := 14) (v := ?_) rfl (by kernel_rfl) (by kernel_rfl) (by kernel_rfl) (fun _ _ _ h => h) (Or.inl ⟨by rfl, ?_⟩) (by assumption) ?_
            rotate_left
            · (intro w hSw; (try dsimp only at hSw); obtain ⟨hSw0, hSw1⟩ := hSw; go_simp) <;> with_reducible rfl
            (simp only [Act.put, List.getElem_toArray, List.getElem_cons_zero, List.getElem_cons_succ, List.setIfInBounds_toArray, List.set_cons_zero, List.set_cons_succ])
            refine wpAnyH_take (i := 15) (v := ?_) rfl (by kernel_rfl) (by kernel_rfl) (by kernel_rfl) (fun _ _ _ h => h) (Or.inl ⟨by rfl, ?_⟩) (by assumption) ?_
            rotate_left
            · (intro w hSw; (try dsimp only at hSw); obtain ⟨hSw0, hSw1⟩ := hSw; go_simp) <;> with_reducible rfl
            (simp only [Act.put, List.getElem_toArray, List.getElem_cons_zero, List.getElem_cons_succ, List.setIfInBounds_toArray, List.set_cons_zero, List.set_cons_succ])
            refine wpAnyH_take (i := 16) (v := ?_) rfl (by kernel_rfl) (by kernel_rfl) (by kernel_rfl) (fun _ _ _ h => h) (Or.inl ⟨by rfl, ?_⟩) (by assumption) ?_
            rotate_left
            · (intro w hSw; (try dsimp only at hSw); obtain ⟨hSw0, hSw1⟩ := hSw; go_simp) <;> with_reducible rfl
            (simp only [Act.put, List.getElem_toArray, List.getElem_cons_zero, List.getElem_cons_succ, List.setIfInBounds_toArray, List.set_cons_zero, List.set_cons_succ])
            refine wpAnyH_take (i := 17) (v := ?_) rfl (by kernel_rfl) (by kernel_rfl) (by kernel_rfl) (fun _ _ _ h => h) (Or.inl ⟨by rfl, ?_⟩) (by assumption) ?_
            rotate_left
            · (intro w hSw; (try dsimp only at hSw); obtain ⟨hSw0, hSw1⟩ := hSw; go_simp) <;> with_reducible rfl
            (simp only [Act.put, List.getElem_toArray, List.getElem_cons_zero, List.getElem_cons_succ, List.setIfInBounds_toArray, List.set_cons_zero, List.set_cons_succ])
            refine wpAnyH_done (by kernel_rfl) ?_ _
            clear HD HD3 HE3 HE4 HFd HAk HAb HFo
            have q7 := HD4.out.cell 1 rfl
            have f7 := HD4.out.frz 1 rfl
            have HG := hide (HD4.out.set 1 rfl X (.int .u32 EN))
            have HG2 := hide (HG.out.shut 1 (g := gC) (cap := cc) (n := NC) (z := 1) (cur := cur.setIfInBounds X (.int .u32 EN)) (e := 34) (xs := (P.set X EN).map (Value.int .u32)) rfl hp1 hp2 (by rw [Array.size_setIfInBounds]; exact HSz.out) (by rw [Nat.mul_one]; exact take_set_map (by have := HTk.out; rw [Nat.mul_one] at this; exact this)) (by rw [List.length_map, List.length_set, HPl.out, Nat.mul_one]))
            have HLg : Hid (LS W.heap.size W _ b mb (some ⟨g, oo, none⟩) n c mem (P.set X EN) DA (stL l) RG k (homeQ l) (.blk br #[.int .i64 pn, .int .i64 sn, .int .i64 an] 63 :: .blk bo #[.slice oca nc occ, .slice oda nd odc, .slice osa ns osc, .slice (some ⟨gr, orr, none⟩) NR orc] 57 :: .blk bq #[.int .i64 0, .int .i64 0, .int .i64 0] 30 :: L)) := ⟨some ⟨gC, 0, none⟩, cc, da, dc, sa, sc, ra, rc, by rw [List.length_set, HPl.out]; exact HG2.out⟩
            clear HG HG2
            go_wp2_with fail
            go_roundw
            case rel => exact ⟨j + 1, P.set X EN, by omega, by go_num, HPn, (by rw [List.length_set]; exact HPl.out), HLg.out.tail, HJn⟩
            case measure => simp [intOf]; omega
          · have hdz : decide (ck = 0) = false := by simpa using hz
            have HAb := HAb0
            rw [if_neg hz, hdz] at HAb
            obtain rfl := HYk.out (HCk.out.trans (by simp [hz]))
            clear HAb0 HCk HYk HJk HPk1 HPh1 hdz
            go_wp2_with fail
            refine wp_region_held_drew (S := fun w' => (∀ o, w'.cell? ⟨gC, o, none⟩ = cur[o]?) ∧ (∀ o, w'.cell? ⟨br, o, none⟩ = (#[.int .i64 pn, .int .i64 sn, .int .i64 an] : Array Value)[o]?)) (by kernel_rfl) ⟨(HD.out.cell 1 rfl), (HD.out.cell 6 rfl)⟩ (fun hHeld => ?_)
            refine wpAnyH_take (i := 0) (v := ?_) rfl (by kernel_rfl) (by kernel_rfl) (by kernel_rfl) (fun _ _ _ h => h) (Or.inl ⟨by rfl, ?_⟩) (by assumption) ?_
            rotate_left
            · (intro w hSw; (try dsimp only at hSw); obtain ⟨hSw0, hSw1⟩ := hSw; go_simp) <;> with_reducible rfl
            (simp only [Act.put, List.getElem_toArray, List.getElem_cons_zero, List.getElem_cons_succ, List.setIfInBounds_toArray, List.set_cons_zero, List.set_cons_succ])
            refine wpAnyH_take (i := 1) (v := ?_) rfl (by kernel_rfl) (by kernel_rfl) (by kernel_rfl) (fun _ _ _ h => h) (Or.inl ⟨by rfl, ?_⟩) (by assumption) ?_
            rotate_left
            · (intro w hSw; (try dsimp only at hSw); obtain ⟨hSw0, hSw1⟩ := hSw; go_simp) <;> with_reducible rfl
            (simp only [Act.put, List.getElem_toArray, List.getElem_cons_zero, List.getElem_cons_succ, List.setIfInBounds_toArray, List.set_cons_zero, List.set_cons_succ])
            refine wpAnyH_take (i := 2) (v := ?_) rfl (by kernel_rfl) (by kernel_rfl) (by kernel_rfl) (fun _ _ _ h => h) (Or.inl ⟨by rfl, ?_⟩) (by assumption) ?_
            rotate_left
            · (intro w hSw; (try dsimp only at hSw); obtain ⟨hSw0, hSw1⟩ := hSw; go_simp) <;> with_reducible rfl
            (simp only [Act.put, List.getElem_toArray, List.getElem_cons_zero, List.getElem_cons_succ, List.setIfInBounds_toArray, List.set_cons_zero, List.set_cons_succ])
            refine wpAnyH_take (i := 3) (v := ?_) rfl (by kernel_rfl) (by kernel_rfl) (by kernel_rfl) (fun _ _ _ h => h) (Or.inl ⟨by rfl, ?_⟩) (by assumption) ?_
            rotate_left
            · (intro w hSw; (try dsimp only at hSw); obtain ⟨hSw0, hSw1⟩ := hSw; go_simp) <;> with_reducible rfl
            (simp only [Act.put, List.getElem_toArray, List.getElem_cons_zero, List.getElem_cons_succ, List.setIfInBounds_toArray, List.set_cons_zero, List.set_cons_succ])
            refine wpAnyH_take (i := 4) (v := ?_) rfl (by kernel_rfl) (by kernel_rfl) (by kernel_rfl) (fun _ _ _ h => h) (Or.inl ⟨by rfl, ?_⟩) (by assumption) ?_
            rotate_left
            · (intro w hSw; (try dsimp only at hSw); obtain ⟨hSw0, hSw1⟩ := hSw; go_simp) <;> with_reducible rfl
            (simp only [Act.put, List.getElem_toArray, List.getElem_cons_zero, List.getElem_cons_succ, List.setIfInBounds_toArray, List.set_cons_zero, List.set_cons_succ])
            refine wpAnyH_take (i := 5) (v := ?_) rfl (by kernel_rfl) (by kernel_rfl) (by kernel_rfl) (fun _ _ _ h => h) (Or.inl ⟨by rfl, ?_⟩) (by assumption) ?_
            rotate_left
            · (intro w hSw; (try dsimp only at hSw); obtain ⟨hSw0, hSw1⟩ := hSw; go_simp) <;> with_reducible rfl
            (simp only [Act.put, List.getElem_toArray, List.getElem_cons_zero, List.getElem_cons_succ, List.setIfInBounds_toArray, List.set_cons_zero, List.set_cons_succ])
            refine wpAnyH_take (i := 6) (v := ?_) rfl (by kernel_rfl) (by kernel_rfl) (by kernel_rfl) (fun _ _ _ h => h) (Or.inl ⟨by rfl, ?_⟩) (by assumption) ?_
            rotate_left
            · (intro w hSw; (try dsimp only at hSw); obtain ⟨hSw0, hSw1⟩ := hSw; go_simp) <;> with_reducible rfl
            (simp only [Act.put, List.getElem_toArray, List.getElem_cons_zero, List.getElem_cons_succ, List.setIfInBounds_toArray, List.set_cons_zero, List.set_cons_succ])
            refine wpAnyH_take (i := 7) (v := ?_) rfl (by kernel_rfl) (by kernel_rfl) (by kernel_rfl) (fun _ _ _ h => h) (Or.inl ⟨by rfl, ?_⟩) (by assumption) ?_
            rotate_left
            · (intro w hSw; (try dsimp only at hSw); obtain ⟨hSw0, hSw1⟩ := hSw; go_simp) <;> with_reducible rfl
            (simp only [Act.put, List.getElem_toArray, List.getElem_cons_zero, List.getElem_cons_succ, List.setIfInBounds_toArray, List.set_cons_zero, List.set_cons_succ])
            refine wpAnyH_take (i := 9) (v := ?_) rfl (by kernel_rfl) (by kernel_rfl) (by kernel_rfl) (fun _ _ _ h => h) (Or.inl ⟨by rfl, ?_⟩) (by assumption) ?_
            rotate_left
            · (intro w hSw; (try dsimp only at hSw); obtain ⟨hSw0, hSw1⟩ := hSw; go_simp) <;> with_reducible rfl
            (simp only [Act.put, List.getElem_toArray, List.getElem_cons_zero, List.getElem_cons_succ, List.setIfInBounds_toArray, List.set_cons_zero, List.set_cons_succ])
            refine wpAnyH_take (i := 10) (v := ?_) rfl (by kernel_rfl) (by kernel_rfl) (by kernel_rfl) (fun _ _ _ h => h) (Or.inl ⟨by rfl, ?_⟩) (by assumption) ?_
            rotate_left
            · (intro w hSw; (try dsimp only at hSw); obtain ⟨hSw0, hSw1⟩ := hSw; go_simp) <;> with_reducible rfl
            (simp only [Act.put, List.getElem_toArray, List.getElem_cons_zero, List.getElem_cons_succ, List.setIfInBounds_toArray, List.set_cons_zero, List.set_cons_succ])
            refine wpAnyH_ready (rs := [8]) (by kernel_rfl) (by simp) ?_
            refine AllReadyH.cons rfl (fun K hK => ?_) AllReadyH.nil
            go_simp
            refine HAk.out.mono ?_
            rintro e w3 ⟨rfl, hb3⟩
            have HD3 := hide (HD.out.call hb3)
            have HE3 := hide (HFd.out.call hb3)
            clear hb3
            refine hK.out _ _ ⟨(HD3.out.cell 1 rfl), (HD3.out.cell 6 rfl)⟩ (fun hHeld3 => ?_)
            clear hK K
            (try (simp only [Act.put, List.getElem_toArray, List.getElem_cons_zero, List.getElem_cons_succ, List.setIfInBounds_toArray, List.set_cons_zero, List.set_cons_succ]))
            refine wpAnyH_take (i := 11) (v := ?_) rfl (by kernel_rfl) (by kernel_rfl) (by kernel_rfl) (fun _ _ _ h => h) (Or.inl ⟨by rfl, ?_⟩) (by assumption) ?_
            rotate_left
            · (intro w hSw; (try dsimp only at hSw); obtain ⟨hSw0, hSw1⟩ := hSw; go_simp) <;> with_reducible rfl
            (simp only [Act.put, List.getElem_toArray, List.getElem_cons_zero, List.getElem_cons_succ, List.setIfInBounds_toArray, List.set_cons_zero, List.set_cons_succ])
            refine wpAnyH_ready (rs := [12]) (by kernel_rfl) (by simp) ?_
            refine AllReadyH.cons rfl (fun K hK => ?_) AllReadyH.nil
            go_simp
            refine (HAb.out _).mono ?_
            rintro e w4 ⟨rfl, hb4⟩
            have HD4 := hide (HD3.out.call hb4)
            have HE4 := hide (HE3.out.call hb4)
            clear hb4
            refine hK.out _ _ ⟨(HD4.out.cell 1 rfl), (HD4.out.cell 6 rfl)⟩ (fun hHeld4 => ?_)
            clear hK K
            (try (simp only [Act.put, List.getElem_toArray, List.getElem_cons_zero, List.getElem_cons_succ, List.setIfInBounds_toArray, List.set_cons_zero, List.set_cons_succ]))
            refine wpAnyH_take (i := 13) (v := ?_) rfl (by kernel_rfl) (by kernel_rfl) (by kernel_rfl) (fun _ _ _ h => h) (Or.inl ⟨by rfl, ?_⟩) (by assumption) ?_
            rotate_left
            · (intro w hSw; (try dsimp only at hSw); obtain ⟨hSw0, hSw1⟩ := hSw; go_simp) <;> with_reducible rfl
            (simp only [Act.put, List.getElem_toArray, List.getElem_cons_zero, List.getElem_cons_succ, List.setIfInBounds_toArray, List.set_cons_zero, List.set_cons_succ])
            refine wpAnyH_take (i := 14) (v := ?_) rfl (by kernel_rfl) (by kernel_rfl) (by kernel_rfl) (fun _ _ _ h => h) (Or.inl ⟨by rfl, ?_⟩) (by assumption) ?_
            rotate_left
            · (intro w hSw; (try dsimp only at hSw); obtain ⟨hSw0, hSw1⟩ := hSw; go_simp) <;> with_reducible rfl
            (simp only [Act.put, List.getElem_toArray, List.getElem_cons_zero, List.getElem_cons_succ, List.setIfInBounds_toArray, List.set_cons_zero, List.set_cons_succ])
            refine wpAnyH_take (i := 15) (v := ?_) rfl (by kernel_rfl) (by kernel_rfl) (by kernel_rfl) (fun _ _ _ h => h) (Or.inl ⟨by rfl, ?_⟩) (by assumption) ?_
            rotate_left
            · (intro w hSw; (try dsimp only at hSw); obtain ⟨hSw0, hSw1⟩ := hSw; go_simp) <;> with_reducible rfl
            (simp only [Act.put, List.getElem_toArray, List.getElem_cons_zero, List.getElem_cons_succ, List.setIfInBounds_toArray, List.set_cons_zero, List.set_cons_succ])
            refine wpAnyH_take (i := 16) (v := ?_) rfl (by kernel_rfl) (by kernel_rfl) (by kernel_rfl) (fun _ _ _ h => h) (Or.inl ⟨by rfl, ?_⟩) (by assumption) ?_
            rotate_left
            · (intro w hSw; (try dsimp only at hSw); obtain ⟨hSw0, hSw1⟩ := hSw; go_simp) <;> with_reducible rfl
            (simp only [Act.put, List.getElem_toArray, List.getElem_cons_zero, List.getElem_cons_succ, List.setIfInBounds_toArray, List.set_cons_zero, List.set_cons_succ])
            refine wpAnyH_take (i := 17) (v := ?_) rfl (by kernel_rfl) (by kernel_rfl) (by kernel_rfl) (fun _ _ _ h => h) (Or.inl ⟨by rfl, ?_⟩) (by assumption) ?_
            rotate_left
            · (intro w hSw; (try dsimp only at hSw); obtain ⟨hSw0, hSw1⟩ := hSw; go_simp) <;> with_reducible rfl
            (simp only [Act.put, List.getElem_toArray, List.getElem_cons_zero, List.getElem_cons_succ, List.setIfInBounds_toArray, List.set_cons_zero, List.set_cons_succ])
            refine wpAnyH_done (by kernel_rfl) ?_ _
            clear HD HD3 HFd HE3 HAk HAb HFo
            have q7 := HE4.out.cell 8 rfl
            have f7 := HE4.out.frz 8 rfl
            have HG := hide (HE4.out.tr 8 rfl u 6 j)
            have HLg : Hid (LS W.heap.size W _ b mb (some ⟨g, oo, none⟩) n c mem P DA (stL l) RG k (homeQ l) (.blk br #[.int .i64 pn, .int .i64 sn, .int .i64 an] 63 :: .blk bo #[.slice oca nc occ, .slice oda nd odc, .slice osa ns osc, .slice (some ⟨gr, orr, none⟩) NR orc] 57 :: .blk bq #[.int .i64 u, .int .i64 6, .int .i64 j] 30 :: L)) := ⟨some ⟨gC, 0, none⟩, cc, da, dc, sa, sc, ra, rc, by rw [HPl.out]; exact HG.out⟩
            go_wp2_with fail
            refine bodyPost_ret (rtT Try.results21 rfl (HLg.out.fr.get (i := 2) rfl).2 rfl) rfl ?_
            exact ⟨rfl, P, HLg.out.tail.tail.tail, fun h => absurd h (by show ¬ ((6 : Int) = 0); decide)⟩
        · have hlt2' : ¬ (j : Int) < NR := by omega
          obtain rfl : NR = j := by omega
          have HQn := hide (HQu.out (find_no fun m hm => HJ.out m hm (by rw [HNR.out] at hm; exact hm)))
          have HPn1 := hide (HPn0.out P (by rw [HNR.out]; exact HP.out))
          clear HQu HYu HJ HP HPk HPh HRw HCo
          go_wp2_with fail
          go_roundw
          case rel => exact ⟨u + 1, P, by omega, by go_num, HPn1, HPl, HL.out.tail, HQn⟩
          case measure => simp [intOf]; omega
    · have hlt' : ¬ (u : Int) < n := by omega
      obtain rfl : n = u := by omega
      obtain rfl := HNo.out fun v hv => HQ.out v hv (by have := HN.out; omega)
      have HPq := hide (HPe.out P HP.out)
      clear HQ HYes HNo HP
      have q0 := HL.out.cell 0 rfl
      have f0 := HL.out.frz 0 rfl
      have HG := hide (HL.out.tr 0 rfl 0 0 0)
      go_wp2_with fail
      refine bodyPost_ret (rtT Try.results21 rfl (HG.out.fr.get (i := 0) rfl).2 rfl) rfl ?_
      exact ⟨rfl, P, HG.out.tail, fun _ => HPq.out⟩
end Go.Proofs.Ythbhlmbhnidbhaa.T
