/- The contract of the reference's Get. -/
import Derived.Test.YtnjcknlfecednaaPt
import Derived.Test.YtnjcknlfecednaaGp
import Derived.Deep.DeepCutAuto
import Derived.Outline
namespace Go.Proofs.Ytnjcknlfecednaa.T
open Go.RowKit Go.Proofs.Ytnjcknlfecednaa.M
set_option linter.unusedVariables false
set_option linter.unusedSimpArgs false
theorem info41 : (Try.prog.info? 41).map (fun i => (i.zero, i.size, i.bytes)) = some (some (.int .u32 0), 1, 4) := by kernel_rfl
theorem info21 : (Try.prog.info? 21).map (fun i => (i.zero, i.size, i.bytes)) = some (some (.int .i32 0), 1, 4) := by kernel_rfl
theorem info44 : (Try.prog.info? 44).map (fun i => (i.zero, i.size, i.bytes)) = some (some (.agg #[.string ⟨#[]⟩, .int .i64 0, .bool false, .int .i64 0, .int .i64 0, .string ⟨#[]⟩, .int .i64 0]), 7, 72) := by kernel_rfl
theorem info47 : (Try.prog.info? 47).map (fun i => (i.zero, i.size, i.bytes)) = some (some (.agg #[.int .i64 0, .int .i64 0, .int .i64 0]), 3, 24) := by kernel_rfl
theorem rtG {fn : Func} {t : Tmp} {q u : Nat} {c0 c1 c2 c3 v3 : Value} {tmps : Array Value} {w : World} (h : fn.results = #[.cell t 27, .tmp u]) (ht : tmps.getD t undef = .pointer (some ⟨q, 0, none⟩)) (hu : tmps.getD u undef = v3) (hb : w.heap[q]? = some (.cells #[c0, c1, c2, c3] 27 (0, 0))) : (results fn tmps).run Try.prog w = .ok (.tuple #[.agg #[c0, c1, c2, c3], v3]) w := by
  have ht' : tmps[t]?.getD undef = .pointer (some ⟨q, 0, none⟩) := by simpa using ht
  have hu' : tmps[u]?.getD undef = v3 := by simpa using hu
  have hc := fr_cells hb
  have hl := (Array.getElem?_eq_some_iff.1 hb).1
  simp [results, h, asAddr, ht', hu', loadVar, go_sem, hc, hl]
/-- What Get leaves. -/
def PGet (w : World) (raw : List UInt8) (e : Ending) (w' : World) : Prop := Below w.heap.size w w' ∧ match getO raw with
  | none => e = .returned (.tuple #[.agg #[.slice none 0 0, .slice none 0 0, .slice none 0 0, .slice none 0 0], .int .i64 2])
  | some o => ∃ v, e = .returned (.tuple #[v, .int .i64 0]) ∧ ObV w' o v
theorem PGet.no {w : World} {raw : List UInt8} {w' : World} (h : getO raw = none) (hb : Below w.heap.size w w') : PGet w raw (.returned (.tuple #[.agg #[.slice none 0 0, .slice none 0 0, .slice none 0 0, .slice none 0 0], .int .i64 2])) w' := by
  unfold PGet
  rw [h]
  exact ⟨hb, rfl⟩
theorem PGet.yes {w : World} {raw : List UInt8} {o : Ob} {v : Value} {w' : World} (h : getO raw = some o) (hb : Below w.heap.size w w') (hv : ObV w' o v) : PGet w raw (.returned (.tuple #[v, .int .i64 0])) w' := by
  unfold PGet
  rw [h]
  exact ⟨hb, v, rfl, hv⟩
set_option maxRecDepth 100000 in
set_option maxHeartbeats 8000000 in
theorem getr_any (a : Option Addr) (n c : Nat) (raw : List UInt8) (w : World) (hraw : Bys w (.slice a n c) raw) : Calls Try.prog 11 #[.slice a n c] w (PGet w raw) := by
  obtain ⟨hnc, hc63⟩ := hraw.room
  have HNL := hide hraw.at.1
  have HRAW := hide hraw
  clear hraw
  have HNum := hide (fun (wr : World) (L : List Rs) (b p : Nat) (z : Bool) (i : Nat) (h : Fr w.heap.size w wr L) (hi : L[i]? = some (.blk b #[.slice a n c, .int .i64 p, .bool z] 73)) (hp : p ≤ n) => num_fr i h hi HRAW.out hp)
  have HTxt := hide (fun (wr : World) (L : List Rs) (b p : Nat) (z : Bool) (i : Nat) (h : Fr w.heap.size w wr L) (hi : L[i]? = some (.blk b #[.slice a n c, .int .i64 p, .bool z] 73)) (hp : p ≤ n) => txt_fr i h hi HRAW.out hp)
  have HF := hide ((((((((Fr.start w).nil 47 3).nil 44 7).nil 21 1).nil 41 1).alloc (q := w.heap.size) rfl #[.slice none 0 0, .slice none 0 0, .slice none 0 0, .slice none 0 0] 27).alloc (q := w.heap.size + 1) (by simp) #[.slice a n c, .int .i64 ((0 : Nat) : Int), .bool false] 73).alloc (q := w.heap.size + 1 + 1) (by simp) #[.slice none 0 0, .slice none 0 0, .slice none 0 0, .slice none 0 0] 27)
  have HNo : Hid (∀ e w', getO raw = none → Below w.heap.size w w' → e = .returned (.tuple #[.agg #[.slice none 0 0, .slice none 0 0, .slice none 0 0, .slice none 0 0], .int .i64 2]) → PGet w raw e w') := fun e w' h hb he => by rw [he]; exact PGet.no h hb
  have HYes : Hid (∀ e w' o v, getO raw = some o → Below w.heap.size w w' → ObV w' o v → e = .returned (.tuple #[v, .int .i64 0]) → PGet w raw e w') := fun e w' o v h hb hv he => by rw [he]; exact PGet.yes h hb hv
  obtain ⟨W1, HW1⟩ : ∃ W, Hid (((((w.alloc (.cells #[.slice none 0 0, .slice none 0 0, .slice none 0 0, .slice none 0 0] 27)).alloc (.cells #[.slice a n c, .int .i64 ((0 : Nat) : Int), .bool false] 73)).alloc (.cells #[.slice none 0 0, .slice none 0 0, .slice none 0 0, .slice none 0 0] 27))) = W) := ⟨_, rfl⟩
  go_enter Try.func11, Try.ntmps11
  go_wp2_with fail
  generalize hb2 : w.heap.size + 1 + 1 = b2 at *
  generalize hb1 : w.heap.size + 1 = b1 at *
  go_at_call 36
  refine (HNum.out _ _ _ 0 false 1 HF.out rfl (Nat.zero_le _)).mono ?_
  rintro e wA ⟨xA, zA, pA, rfl, HRxA, xA0, xA1, hpA, hF⟩
  replace HF : Hid (Fr w.heap.size w wA [.blk b2 #[.slice none 0 0, .slice none 0 0, .slice none 0 0, .slice none 0 0] 27, .blk b1 #[.slice a n c, .int .i64 pA, .bool zA] 73, .blk w.heap.size #[.slice none 0 0, .slice none 0 0, .slice none 0 0, .slice none 0 0] 27, .row (.slice none 0 0) 41 1 0 [], .row (.slice none 0 0) 21 1 0 [], .row (.slice none 0 0) 44 7 0 [], .row (.slice none 0 0) 47 3 0 []]) := hF
  clear hF
  obtain ⟨NA, rfl⟩ : ∃ N : Nat, xA = N := ⟨xA.toNat, by omega⟩
  have b1c := HF.out.cell 1 rfl
  go_wp2_with fail
  clear b1c
  go_loopw [7] (fun i wr => ∃ (k p : Nat) (z : Bool) (aC : Option Addr) (cC : Nat) (CL : List Int), k ≤ NA ∧ i = .int .i64 k ∧ p ≤ n ∧ CL.length ≤ k ∧ Hid (rMany rNum (raw.drop pA, zA) k = (CL, (raw.drop p, z))) ∧ Hid (Fr w.heap.size w wr [.blk b2 #[.slice aC CL.length cC, .slice none 0 0, .slice none 0 0, .slice none 0 0] 27, .blk b1 #[.slice a n c, .int .i64 p, .bool z] 73, .blk w.heap.size #[.slice none 0 0, .slice none 0 0, .slice none 0 0, .slice none 0 0] 27, .row (.slice aC CL.length cC) 41 1 CL.length (CL.map (Value.int .u32)), .row (.slice none 0 0) 21 1 0 [], .row (.slice none 0 0) 44 7 0 [], .row (.slice none 0 0) 47 3 0 []])) (fun i _ => NA - (intOf i).toNat)
  case atStart => exact ⟨0, pA, zA, none, 0, [], Nat.zero_le _, rfl, hpA, Nat.le_refl _, rfl, HF⟩
  case round =>
    clear HF
    obtain ⟨k, qC, yC, aC, cC, CL, hk, rfl, hqC, hlen, HM, HF⟩ := hrel
    have b1c := HF.out.cell 1 rfl
    obtain ⟨BB, HBB⟩ : ∃ B, Hid ((decide (k < NA) && !yC) = B) := ⟨_, rfl⟩
    go_upto_region 5 with fail
    go_cut [34] from 25 to 34 (fun v wx => v = .bool BB ∧ wx = wr)
    case first =>
      by_cases hlt : k < NA
      · have hlt' : (k : Int) < NA := by omega
        cases yC
        · obtain rfl : true = BB := (show _ = true by simp [hlt]).symm.trans HBB.out
          clear HBB
          go_wp2_with fail
          go_meet
          case rel => exact ⟨rfl, rfl⟩
        · obtain rfl : false = BB := (show _ = false by simp).symm.trans HBB.out
          clear HBB
          go_wp2_with fail
          go_meet
          case rel => exact ⟨rfl, rfl⟩
      · have hlt' : ¬ (k : Int) < NA := by omega
        obtain rfl : false = BB := (show _ = false by simp [hlt]).symm.trans HBB.out
        clear HBB
        go_wp2_with fail
        go_meet
        case rel => exact ⟨rfl, rfl⟩
    case rest =>
      obtain ⟨rfl, rfl⟩ := hcut
      cases BB
      · have HEndC : Hid (rMany rNum (raw.drop pA, zA) NA = (CL, (raw.drop qC, yC))) := (by
          show _ = _
          have h := HBB.out
          cases yC with
          | true => rw [rMany_stop (by rw [HM.out]) NA hk]; exact HM.out
          | false =>
            simp at h
            obtain rfl : NA = k := by omega
            exact HM.out)
        clear HBB HM hlen
        go_wp2_with fail
        go_at_call 36
        refine (HNum.out _ _ _ qC yC 1 HF.out rfl hqC).mono ?_
        rintro e wB ⟨xB, zB, pB, rfl, HRxB, xB0, xB1, hpB, hF⟩
        replace HF : Hid (Fr w.heap.size w wB [.blk b2 #[.slice aC CL.length cC, .slice none 0 0, .slice none 0 0, .slice none 0 0] 27, .blk b1 #[.slice a n c, .int .i64 pB, .bool zB] 73, .blk w.heap.size #[.slice none 0 0, .slice none 0 0, .slice none 0 0, .slice none 0 0] 27, .row (.slice aC CL.length cC) 41 1 CL.length (CL.map (Value.int .u32)), .row (.slice none 0 0) 21 1 0 [], .row (.slice none 0 0) 44 7 0 [], .row (.slice none 0 0) 47 3 0 []]) := hF
        clear hF
        obtain ⟨NB, rfl⟩ : ∃ N : Nat, xB = N := ⟨xB.toNat, by omega⟩
        have b1c := HF.out.cell 1 rfl
        go_wp2_with fail
        clear b1c
        go_loopw [9] (fun i wr => ∃ (k p : Nat) (z : Bool) (aD : Option Addr) (cD : Nat) (DL : List Int), k ≤ NB ∧ i = .int .i64 k ∧ p ≤ n ∧ DL.length ≤ k ∧ Hid (rMany rData (raw.drop pB, zB) k = (DL, (raw.drop p, z))) ∧ Hid (Fr w.heap.size w wr [.blk b2 #[.slice aC CL.length cC, .slice aD DL.length cD, .slice none 0 0, .slice none 0 0] 27, .blk b1 #[.slice a n c, .int .i64 p, .bool z] 73, .blk w.heap.size #[.slice none 0 0, .slice none 0 0, .slice none 0 0, .slice none 0 0] 27, .row (.slice aC CL.length cC) 41 1 CL.length (CL.map (Value.int .u32)), .row (.slice aD DL.length cD) 21 1 DL.length (DL.map (Value.int .i32)), .row (.slice none 0 0) 44 7 0 [], .row (.slice none 0 0) 47 3 0 []])) (fun i _ => NB - (intOf i).toNat)
        case atStart => exact ⟨0, pB, zB, none, 0, [], Nat.zero_le _, rfl, hpB, Nat.le_refl _, rfl, HF⟩
        case round =>
          clear HF
          obtain ⟨k, qD, yD, aD, cD, DL, hk, rfl, hqD, hlen, HM, HF⟩ := hrel
          have b1c := HF.out.cell 1 rfl
          obtain ⟨BB, HBB⟩ : ∃ B, Hid ((decide (k < NB) && !yD) = B) := ⟨_, rfl⟩
          go_upto_region 11 with fail
          go_cut [57] from 48 to 57 (fun v wx => v = .bool BB ∧ wx = wr)
          case first =>
            by_cases hlt : k < NB
            · have hlt' : (k : Int) < NB := by omega
              cases yD
              · obtain rfl : true = BB := (show _ = true by simp [hlt]).symm.trans HBB.out
                clear HBB
                go_wp2_with fail
                go_meet
                case rel => exact ⟨rfl, rfl⟩
              · obtain rfl : false = BB := (show _ = false by simp).symm.trans HBB.out
                clear HBB
                go_wp2_with fail
                go_meet
                case rel => exact ⟨rfl, rfl⟩
            · have hlt' : ¬ (k : Int) < NB := by omega
              obtain rfl : false = BB := (show _ = false by simp [hlt]).symm.trans HBB.out
              clear HBB
              go_wp2_with fail
              go_meet
              case rel => exact ⟨rfl, rfl⟩
          case rest =>
            obtain ⟨rfl, rfl⟩ := hcut
            cases BB
            · have HEndD : Hid (rMany rData (raw.drop pB, zB) NB = (DL, (raw.drop qD, yD))) := (by
                show _ = _
                have h := HBB.out
                cases yD with
                | true => rw [rMany_stop (by rw [HM.out]) NB hk]; exact HM.out
                | false =>
                  simp at h
                  obtain rfl : NB = k := by omega
                  exact HM.out)
              clear HBB HM hlen
              go_wp2_with fail
              go_at_call 36
              refine (HNum.out _ _ _ qD yD 1 HF.out rfl hqD).mono ?_
              rintro e wS ⟨xS, zS, pS, rfl, HRxS, xS0, xS1, hpS, hF⟩
              replace HF : Hid (Fr w.heap.size w wS [.blk b2 #[.slice aC CL.length cC, .slice aD DL.length cD, .slice none 0 0, .slice none 0 0] 27, .blk b1 #[.slice a n c, .int .i64 pS, .bool zS] 73, .blk w.heap.size #[.slice none 0 0, .slice none 0 0, .slice none 0 0, .slice none 0 0] 27, .row (.slice aC CL.length cC) 41 1 CL.length (CL.map (Value.int .u32)), .row (.slice aD DL.length cD) 21 1 DL.length (DL.map (Value.int .i32)), .row (.slice none 0 0) 44 7 0 [], .row (.slice none 0 0) 47 3 0 []]) := hF
              clear hF
              obtain ⟨NS, rfl⟩ : ∃ N : Nat, xS = N := ⟨xS.toNat, by omega⟩
              have b1c := HF.out.cell 1 rfl
              go_wp2_with fail
              clear b1c
              go_loopw [12] (fun i wr => ∃ (k p : Nat) (z : Bool) (aS : Option Addr) (cS : Nat) (SL : List Sy), k ≤ NS ∧ i = .int .i64 k ∧ p ≤ n ∧ SL.length ≤ k ∧ Hid (rMany rSym (raw.drop pS, zS) k = (SL, (raw.drop p, z))) ∧ Hid (Fr w.heap.size w wr [.blk b2 #[.slice aC CL.length cC, .slice aD DL.length cD, .slice aS SL.length cS, .slice none 0 0] 27, .blk b1 #[.slice a n c, .int .i64 p, .bool z] 73, .blk w.heap.size #[.slice none 0 0, .slice none 0 0, .slice none 0 0, .slice none 0 0] 27, .row (.slice aC CL.length cC) 41 1 CL.length (CL.map (Value.int .u32)), .row (.slice aD DL.length cD) 21 1 DL.length (DL.map (Value.int .i32)), .row (.slice aS SL.length cS) 44 7 SL.length (SL.flatMap syL), .row (.slice none 0 0) 47 3 0 []])) (fun i _ => NS - (intOf i).toNat)
              case atStart => exact ⟨0, pS, zS, none, 0, [], Nat.zero_le _, rfl, hpS, Nat.le_refl _, rfl, HF⟩
              case round =>
                clear HF
                obtain ⟨k, qS, yS, aS, cS, SL, hk, rfl, hqS, hlen, HM, HF⟩ := hrel
                have b1c := HF.out.cell 1 rfl
                obtain ⟨BB, HBB⟩ : ∃ B, Hid ((decide (k < NS) && !yS) = B) := ⟨_, rfl⟩
                go_upto_region 18 with fail
                go_cut [81] from 72 to 81 (fun v wx => v = .bool BB ∧ wx = wr)
                case first =>
                  by_cases hlt : k < NS
                  · have hlt' : (k : Int) < NS := by omega
                    cases yS
                    · obtain rfl : true = BB := (show _ = true by simp [hlt]).symm.trans HBB.out
                      clear HBB
                      go_wp2_with fail
                      go_meet
                      case rel => exact ⟨rfl, rfl⟩
                    · obtain rfl : false = BB := (show _ = false by simp).symm.trans HBB.out
                      clear HBB
                      go_wp2_with fail
                      go_meet
                      case rel => exact ⟨rfl, rfl⟩
                  · have hlt' : ¬ (k : Int) < NS := by omega
                    obtain rfl : false = BB := (show _ = false by simp [hlt]).symm.trans HBB.out
                    clear HBB
                    go_wp2_with fail
                    go_meet
                    case rel => exact ⟨rfl, rfl⟩
                case rest =>
                  obtain ⟨rfl, rfl⟩ := hcut
                  cases BB
                  · have HEndS : Hid (rMany rSym (raw.drop pS, zS) NS = (SL, (raw.drop qS, yS))) := (by
                      show _ = _
                      have h := HBB.out
                      cases yS with
                      | true => rw [rMany_stop (by rw [HM.out]) NS hk]; exact HM.out
                      | false =>
                        simp at h
                        obtain rfl : NS = k := by omega
                        exact HM.out)
                    clear HBB HM hlen
                    go_wp2_with fail
                    go_at_call 36
                    refine (HNum.out _ _ _ qS yS 1 HF.out rfl hqS).mono ?_
                    rintro e wR ⟨xR, zR, pR, rfl, HRxR, xR0, xR1, hpR, hF⟩
                    replace HF : Hid (Fr w.heap.size w wR [.blk b2 #[.slice aC CL.length cC, .slice aD DL.length cD, .slice aS SL.length cS, .slice none 0 0] 27, .blk b1 #[.slice a n c, .int .i64 pR, .bool zR] 73, .blk w.heap.size #[.slice none 0 0, .slice none 0 0, .slice none 0 0, .slice none 0 0] 27, .row (.slice aC CL.length cC) 41 1 CL.length (CL.map (Value.int .u32)), .row (.slice aD DL.length cD) 21 1 DL.length (DL.map (Value.int .i32)), .row (.slice aS SL.length cS) 44 7 SL.length (SL.flatMap syL), .row (.slice none 0 0) 47 3 0 []]) := hF
                    clear hF
                    obtain ⟨NR, rfl⟩ : ∃ N : Nat, xR = N := ⟨xR.toNat, by omega⟩
                    have b1c := HF.out.cell 1 rfl
                    go_wp2_with fail
                    clear b1c
                    go_loopw [15] (fun i wr => ∃ (k p : Nat) (z : Bool) (aR : Option Addr) (cR : Nat) (RL : List Re), k ≤ NR ∧ i = .int .i64 k ∧ p ≤ n ∧ RL.length ≤ k ∧ Hid (rMany rRel (raw.drop pR, zR) k = (RL, (raw.drop p, z))) ∧ Hid (Fr w.heap.size w wr [.blk b2 #[.slice aC CL.length cC, .slice aD DL.length cD, .slice aS SL.length cS, .slice aR RL.length cR] 27, .blk b1 #[.slice a n c, .int .i64 p, .bool z] 73, .blk w.heap.size #[.slice none 0 0, .slice none 0 0, .slice none 0 0, .slice none 0 0] 27, .row (.slice aC CL.length cC) 41 1 CL.length (CL.map (Value.int .u32)), .row (.slice aD DL.length cD) 21 1 DL.length (DL.map (Value.int .i32)), .row (.slice aS SL.length cS) 44 7 SL.length (SL.flatMap syL), .row (.slice aR RL.length cR) 47 3 RL.length (RL.flatMap reL)])) (fun i _ => NR - (intOf i).toNat)
                    case atStart => exact ⟨0, pR, zR, none, 0, [], Nat.zero_le _, rfl, hpR, Nat.le_refl _, rfl, HF⟩
                    case round =>
                      clear HF
                      obtain ⟨k, qR, yR, aR, cR, RL, hk, rfl, hqR, hlen, HM, HF⟩ := hrel
                      have b1c := HF.out.cell 1 rfl
                      obtain ⟨BB, HBB⟩ : ∃ B, Hid ((decide (k < NR) && !yR) = B) := ⟨_, rfl⟩
                      go_upto_region 32 with fail
                      go_cut [125] from 116 to 125 (fun v wx => v = .bool BB ∧ wx = wr)
                      case first =>
                        by_cases hlt : k < NR
                        · have hlt' : (k : Int) < NR := by omega
                          cases yR
                          · obtain rfl : true = BB := (show _ = true by simp [hlt]).symm.trans HBB.out
                            clear HBB
                            go_wp2_with fail
                            go_meet
                            case rel => exact ⟨rfl, rfl⟩
                          · obtain rfl : false = BB := (show _ = false by simp).symm.trans HBB.out
                            clear HBB
                            go_wp2_with fail
                            go_meet
                            case rel => exact ⟨rfl, rfl⟩
                        · have hlt' : ¬ (k : Int) < NR := by omega
                          obtain rfl : false = BB := (show _ = false by simp [hlt]).symm.trans HBB.out
                          clear HBB
                          go_wp2_with fail
                          go_meet
                          case rel => exact ⟨rfl, rfl⟩
                      case rest =>
                        obtain ⟨rfl, rfl⟩ := hcut
                        cases BB
                        · have HEndR : Hid (rMany rRel (raw.drop pR, zR) NR = (RL, (raw.drop qR, yR))) := (by
                            show _ = _
                            have h := HBB.out
                            cases yR with
                            | true => rw [rMany_stop (by rw [HM.out]) NR hk]; exact HM.out
                            | false =>
                              simp at h
                              obtain rfl : NR = k := by omega
                              exact HM.out)
                          clear HBB HM hlen
                          have HObj := hide (rObj_of (rList_of (s := (raw, false)) HRxA.out HEndC.out) (rList_of HRxB.out HEndD.out) (rList_of HRxS.out HEndS.out) (rList_of HRxR.out HEndR.out))
                          have A1 : Hid (∀ x, x ∈ CL → N4 x) := fun x hx => rMany_all (f := rNum) (P := N4) rNum_n4 (raw.drop pA, zA) NA x (by rw [HEndC.out]; exact hx)
                          have A2 : Hid (∀ x, x ∈ DL → -2147483648 ≤ x ∧ x ≤ 2147483647) := fun x hx => rMany_all (f := rData) (P := fun x => -2147483648 ≤ x ∧ x ≤ 2147483647) (fun s => by have := rNum_n4 s; unfold N4 at this; unfold rData wordOf; simp only; split <;> omega) (raw.drop pB, zB) NB x (by rw [HEndD.out]; exact hx)
                          have A3 : Hid (∀ (W : World) x, x ∈ SL → syC W x (syL x)) := fun W x hx => by
                            obtain ⟨k1, k2, k3, k4, k5, k6⟩ := (rMany_syms (raw.drop pS, zS) NS).2 x (by rw [HEndS.out]; exact hx)
                            have h5 : (raw.drop pS).length ≤ n := by rw [HNL.out]; exact rDrop_len
                            unfold N4 at k1 k2 k3 k4
                            simp only at k5 k6
                            refine ⟨rfl, ?_, ?_, ?_, ?_, ?_, ?_⟩ <;> (first | (unfold In64; omega) | (unfold maxLen; omega))
                          have A4 : Hid (∀ (W : World) x, x ∈ RL → reC W x (reL x)) := fun W x hx => by
                            obtain ⟨k1, k2, k3⟩ := rMany_all (f := rRel) (P := fun x => N4 x.pl ∧ N4 x.sym ∧ N4 x.add) (fun s => ⟨rNum_n4 _, rNum_n4 _, rNum_n4 _⟩) (raw.drop pR, zR) NR x (by rw [HEndR.out]; exact hx)
                            unfold N4 at k1 k2 k3
                            refine ⟨rfl, ?_, ?_, ?_⟩ <;> (unfold In64; omega)
                          have HOV : Hid (∀ (wx : World) (L : List Rs), Fr w.heap.size w wx L → L[3]? = some (.row (.slice aC CL.length cC) 41 1 CL.length (CL.map (Value.int .u32))) → L[4]? = some (.row (.slice aD DL.length cD) 21 1 DL.length (DL.map (Value.int .i32))) → L[5]? = some (.row (.slice aS SL.length cS) 44 7 SL.length (SL.flatMap syL)) → L[6]? = some (.row (.slice aR RL.length cR) 47 3 RL.length (RL.flatMap reL)) → ObV wx ⟨CL, DL, SL, RL⟩ (.agg #[.slice aC CL.length cC, .slice aD DL.length cD, .slice aS SL.length cS, .slice aR RL.length cR])) := fun wx L h r1 r2 r3 r4 =>
                            ⟨_, _, _, _, rfl, row_u32 (h.get r1) A1.out, row_i32 (h.get r2) A2.out, row_flat syL 44 7 (fun _ => rfl) (by decide) (h.get r3) (A3.out wx), row_flat reL 47 3 (fun _ => rfl) (by decide) (h.get r4) (A4.out wx)⟩
                          clear HRxA HRxB HRxS HRxR HEndC HEndD HEndS HEndR A1 A2 A3 A4
                          have b1c := HF.out.cell 1 rfl
                          cases yR
                          · have b2c := HF.out.cell 0 rfl
                            have HV := hide (HOV.out _ _ HF.out rfl rfl rfl rfl)
                            by_cases hm : mayO ⟨CL, DL, SL, RL⟩ = true
                            · have HCl := hide (putr_ok _ _ _ HV.out hm)
                              go_wp2_with fail
                              go_at_call 7
                              refine HCl.out.mono ?_
                              rintro e w8 ⟨u, rfl, hby, hb⟩
                              replace HF := hide (HF.out.call hb)
                              obtain ⟨ua, uc, rfl, -⟩ := id hby
                              have hcv1 := hby.conv.2
                              have hcv2 := (Bys.conv (RowV.below (w := w) (w' := w8) (fun _ _ h => h) HRAW.out HF.out.below)).2
                              replace b1c := HF.out.cell 1 rfl
                              replace b2c := HF.out.cell 0 rfl
                              clear hb hby HCl HV
                              by_cases hq : putO ⟨CL, DL, SL, RL⟩ = raw
                              · have HSome : Hid (getO raw = some ⟨CL, DL, SL, RL⟩) := (by
                                  show getO raw = _
                                  unfold getO
                                  rw [HObj.out, if_pos ⟨rfl, hm, hq⟩])
                                generalize (putO ⟨CL, DL, SL, RL⟩).length = un at *
                                rw [hq] at hcv1
                                generalize strOf raw = SR at *
                                clear hq hm HObj
                                have b0c := HF.out.cell 2 rfl
                                have b0f := HF.out.frz 2 rfl
                                have HG := hide ((((HF.out.set 2 rfl 0 (.slice aC CL.length cC)).set 2 rfl 1 (.slice aD DL.length cD)).set 2 rfl 2 (.slice aS SL.length cS)).set 2 rfl 3 (.slice aR RL.length cR))
                                go_wp2_with fail
                                refine bodyPost_ret (rtG Try.results11 rfl rfl (HG.out.get (i := 2) rfl).2) rfl ?_
                                exact HYes.out _ _ _ _ HSome.out HG.out.below (HOV.out _ _ HG.out rfl rfl rfl rfl) rfl
                              · have HNone : Hid (getO raw = none) := (by
                                  show getO raw = _
                                  unfold getO
                                  rw [HObj.out, if_neg (fun h => hq h.2.2)])
                                have hne : ((strOf (putO ⟨CL, DL, SL, RL⟩)).toList == (strOf raw).toList) = false := by
                                  rw [str_eq]
                                  simp only [decide_eq_false_iff_not]
                                  intro h
                                  exact hq (by rw [← bytes_strOf (putO ⟨CL, DL, SL, RL⟩), h, bytes_strOf])
                                generalize (putO ⟨CL, DL, SL, RL⟩).length = un at *
                                generalize strOf raw = SR at *
                                generalize strOf (putO ⟨CL, DL, SL, RL⟩) = SP at *
                                clear hq hm HObj
                                have b0c := HF.out.cell 2 rfl
                                have b0f := HF.out.frz 2 rfl
                                have HG := hide ((((HF.out.set 2 rfl 0 (.slice none 0 0)).set 2 rfl 1 (.slice none 0 0)).set 2 rfl 2 (.slice none 0 0)).set 2 rfl 3 (.slice none 0 0))
                                go_wp2_with fail
                                refine bodyPost_ret (rtG Try.results11 rfl rfl (HG.out.get (i := 2) rfl).2) rfl ?_
                                exact HNo.out _ _ HNone.out HG.out.below rfl
                            · have hm' : mayO ⟨CL, DL, SL, RL⟩ = false := by simpa using hm
                              have HNone : Hid (getO raw = none) := (by
                                show getO raw = _
                                unfold getO
                                rw [HObj.out, if_neg (fun h => hm h.2.1)])
                              have HCl := hide (putr_bad _ _ _ HV.out hm')
                              clear hm hm' HV HObj
                              go_wp2_with fail
                              go_at_call 7
                              refine HCl.out.mono ?_
                              rintro e w8 ⟨rfl, hb⟩
                              replace HF := hide (HF.out.call hb)
                              clear hb HCl b1c b2c
                              have b0c := HF.out.cell 2 rfl
                              have b0f := HF.out.frz 2 rfl
                              have HG := hide ((((HF.out.set 2 rfl 0 (.slice none 0 0)).set 2 rfl 1 (.slice none 0 0)).set 2 rfl 2 (.slice none 0 0)).set 2 rfl 3 (.slice none 0 0))
                              go_wp2_with fail
                              refine bodyPost_ret (rtG Try.results11 rfl rfl (HG.out.get (i := 2) rfl).2) rfl ?_
                              exact HNo.out _ _ HNone.out HG.out.below rfl
                          · have HNone : Hid (getO raw = none) := (by
                              show getO raw = _
                              unfold getO
                              rw [HObj.out, if_neg (fun h => by simp at h)])
                            clear HObj HOV
                            have b0c := HF.out.cell 2 rfl
                            have b0f := HF.out.frz 2 rfl
                            have HG := hide ((((HF.out.set 2 rfl 0 (.slice none 0 0)).set 2 rfl 1 (.slice none 0 0)).set 2 rfl 2 (.slice none 0 0)).set 2 rfl 3 (.slice none 0 0))
                            go_wp2_with fail
                            refine bodyPost_ret (rtG Try.results11 rfl rfl (HG.out.get (i := 2) rfl).2) rfl ?_
                            exact HNo.out _ _ HNone.out HG.out.below rfl
                        · obtain ⟨hlt, rfl⟩ : k < NR ∧ yR = false := by
                            have h := HBB.out
                            simpa using h
                          clear HBB
                          have HGo := hide (rMany_go HM.out)
                          clear HM
                          go_wp2_with fail
                          replace HF : Hid (Fr w.heap.size w _ [.blk wc.heap.size #[.int .i64 0, .int .i64 0, .int .i64 0] 47, .blk b2 #[.slice aC CL.length cC, .slice aD DL.length cD, .slice aS SL.length cS, .slice aR RL.length cR] 27, .blk b1 #[.slice a n c, .int .i64 qR, .bool false] 73, .blk w.heap.size #[.slice none 0 0, .slice none 0 0, .slice none 0 0, .slice none 0 0] 27, .row (.slice aC CL.length cC) 41 1 CL.length (CL.map (Value.int .u32)), .row (.slice aD DL.length cD) 21 1 DL.length (DL.map (Value.int .i32)), .row (.slice aS SL.length cS) 44 7 SL.length (SL.flatMap syL), .row (.slice aR RL.length cR) 47 3 RL.length (RL.flatMap reL)]) := HF.out.alloc (q := wc.heap.size) rfl #[.int .i64 0, .int .i64 0, .int .i64 0] 47
                          generalize hbs : wc.heap.size = bs at *
                          clear hbs
                          go_at_call 36
                          refine (HNum.out _ _ _ qR false 2 HF.out rfl hqR).mono ?_
                          rintro e w_1 ⟨x1, z_1, p_1, rfl, HRx1, x10, x11, hp_1, hF⟩
                          replace HF : Hid (Fr w.heap.size w w_1 [.blk bs #[.int .i64 0, .int .i64 0, .int .i64 0] 47, .blk b2 #[.slice aC CL.length cC, .slice aD DL.length cD, .slice aS SL.length cS, .slice aR RL.length cR] 27, .blk b1 #[.slice a n c, .int .i64 p_1, .bool z_1] 73, .blk w.heap.size #[.slice none 0 0, .slice none 0 0, .slice none 0 0, .slice none 0 0] 27, .row (.slice aC CL.length cC) 41 1 CL.length (CL.map (Value.int .u32)), .row (.slice aD DL.length cD) 21 1 DL.length (DL.map (Value.int .i32)), .row (.slice aS SL.length cS) 44 7 SL.length (SL.flatMap syL), .row (.slice aR RL.length cR) 47 3 RL.length (RL.flatMap reL)]) := hF
                          clear hF
                          have b1c := HF.out.cell 2 rfl
                          have bsc := HF.out.cell 0 rfl
                          have bsf := HF.out.frz 0 rfl
                          replace HF : Hid (Fr w.heap.size w (w_1.setCell ⟨bs, 0, none⟩ (.int .i64 x1)) [.blk bs #[.int .i64 x1, .int .i64 0, .int .i64 0] 47, .blk b2 #[.slice aC CL.length cC, .slice aD DL.length cD, .slice aS SL.length cS, .slice aR RL.length cR] 27, .blk b1 #[.slice a n c, .int .i64 p_1, .bool z_1] 73, .blk w.heap.size #[.slice none 0 0, .slice none 0 0, .slice none 0 0, .slice none 0 0] 27, .row (.slice aC CL.length cC) 41 1 CL.length (CL.map (Value.int .u32)), .row (.slice aD DL.length cD) 21 1 DL.length (DL.map (Value.int .i32)), .row (.slice aS SL.length cS) 44 7 SL.length (SL.flatMap syL), .row (.slice aR RL.length cR) 47 3 RL.length (RL.flatMap reL)]) := HF.out.set 0 rfl 0 _
                          go_wp2_with fail
                          clear b1c bsc bsf
                          generalize w_1.setCell ⟨bs, 0, none⟩ (.int .i64 x1) = w_1s at *
                          go_at_call 36
                          refine (HNum.out _ _ _ p_1 z_1 2 HF.out rfl hp_1).mono ?_
                          rintro e w_2 ⟨x2, z_2, p_2, rfl, HRx2, x20, x21, hp_2, hF⟩
                          replace HF : Hid (Fr w.heap.size w w_2 [.blk bs #[.int .i64 x1, .int .i64 0, .int .i64 0] 47, .blk b2 #[.slice aC CL.length cC, .slice aD DL.length cD, .slice aS SL.length cS, .slice aR RL.length cR] 27, .blk b1 #[.slice a n c, .int .i64 p_2, .bool z_2] 73, .blk w.heap.size #[.slice none 0 0, .slice none 0 0, .slice none 0 0, .slice none 0 0] 27, .row (.slice aC CL.length cC) 41 1 CL.length (CL.map (Value.int .u32)), .row (.slice aD DL.length cD) 21 1 DL.length (DL.map (Value.int .i32)), .row (.slice aS SL.length cS) 44 7 SL.length (SL.flatMap syL), .row (.slice aR RL.length cR) 47 3 RL.length (RL.flatMap reL)]) := hF
                          clear hF
                          have b1c := HF.out.cell 2 rfl
                          have bsc := HF.out.cell 0 rfl
                          have bsf := HF.out.frz 0 rfl
                          replace HF : Hid (Fr w.heap.size w (w_2.setCell ⟨bs, 1, none⟩ (.int .i64 x2)) [.blk bs #[.int .i64 x1, .int .i64 x2, .int .i64 0] 47, .blk b2 #[.slice aC CL.length cC, .slice aD DL.length cD, .slice aS SL.length cS, .slice aR RL.length cR] 27, .blk b1 #[.slice a n c, .int .i64 p_2, .bool z_2] 73, .blk w.heap.size #[.slice none 0 0, .slice none 0 0, .slice none 0 0, .slice none 0 0] 27, .row (.slice aC CL.length cC) 41 1 CL.length (CL.map (Value.int .u32)), .row (.slice aD DL.length cD) 21 1 DL.length (DL.map (Value.int .i32)), .row (.slice aS SL.length cS) 44 7 SL.length (SL.flatMap syL), .row (.slice aR RL.length cR) 47 3 RL.length (RL.flatMap reL)]) := HF.out.set 0 rfl 1 _
                          go_wp2_with fail
                          clear b1c bsc bsf
                          generalize w_2.setCell ⟨bs, 1, none⟩ (.int .i64 x2) = w_2s at *
                          go_at_call 36
                          refine (HNum.out _ _ _ p_2 z_2 2 HF.out rfl hp_2).mono ?_
                          rintro e w_3 ⟨x3, z2, p2, rfl, HRx3, x30, x31, hp2, hF⟩
                          replace HF : Hid (Fr w.heap.size w w_3 [.blk bs #[.int .i64 x1, .int .i64 x2, .int .i64 0] 47, .blk b2 #[.slice aC CL.length cC, .slice aD DL.length cD, .slice aS SL.length cS, .slice aR RL.length cR] 27, .blk b1 #[.slice a n c, .int .i64 p2, .bool z2] 73, .blk w.heap.size #[.slice none 0 0, .slice none 0 0, .slice none 0 0, .slice none 0 0] 27, .row (.slice aC CL.length cC) 41 1 CL.length (CL.map (Value.int .u32)), .row (.slice aD DL.length cD) 21 1 DL.length (DL.map (Value.int .i32)), .row (.slice aS SL.length cS) 44 7 SL.length (SL.flatMap syL), .row (.slice aR RL.length cR) 47 3 RL.length (RL.flatMap reL)]) := hF
                          clear hF
                          rw [rRel_of HRx1.out HRx2.out HRx3.out] at HGo
                          clear HRx1 HRx2 HRx3
                          have bsf := HF.out.frz 0 rfl
                          have bsc0 := HF.out.cell 0 rfl
                          replace HF : Hid (Fr w.heap.size w (w_3.setCell ⟨bs, 2, none⟩ (.int .i64 x3)) [.blk bs #[.int .i64 x1, .int .i64 x2, .int .i64 x3] 47, .blk b2 #[.slice aC CL.length cC, .slice aD DL.length cD, .slice aS SL.length cS, .slice aR RL.length cR] 27, .blk b1 #[.slice a n c, .int .i64 p2, .bool z2] 73, .blk w.heap.size #[.slice none 0 0, .slice none 0 0, .slice none 0 0, .slice none 0 0] 27, .row (.slice aC CL.length cC) 41 1 CL.length (CL.map (Value.int .u32)), .row (.slice aD DL.length cD) 21 1 DL.length (DL.map (Value.int .i32)), .row (.slice aS SL.length cS) 44 7 SL.length (SL.flatMap syL), .row (.slice aR RL.length cR) 47 3 RL.length (RL.flatMap reL)]) := HF.out.set 0 rfl 2 _
                          have bsc := HF.out.cell 0 rfl
                          have b2c := HF.out.cell 1 rfl
                          replace HF := hide (HF.out.alloc (q := w_3.heap.size) (by simp) #[.int .i64 x1, .int .i64 x2, .int .i64 x3] 47)
                          go_wp2_with (at_builtin; refine Fr.oneBig 25 info47 Try.underlying25 rfl (by decide) (by decide) HF.out 7 rfl (by omega) (.tmp 139) (.tmp 141) rfl rfl rfl rfl rfl rfl ?_; intro g7 cap7 w7 h7 _; have HF7 := hide h7; clear h7; have f7 := HF7.out.frz 1 rfl; have b7 := HF7.out.cell 1 rfl)
                          have HF9 := hide (HF7.out.set 1 rfl 3 (.slice (some ⟨g7, 0, none⟩) (RL.length + 1) cap7)).tail
                          go_roundw
                          case rel => exact ⟨k + 1, p2, z2, some ⟨g7, 0, none⟩, cap7, RL ++ [⟨x1, x2, x3⟩], by omega, by go_num, hp2, by simp; omega, HGo, by simpa [List.map_append, List.flatMap_append, syL, reL] using HF9⟩
                          case measure => simp [intOf]; omega
                  · obtain ⟨hlt, rfl⟩ : k < NS ∧ yS = false := by
                      have h := HBB.out
                      simpa using h
                    clear HBB
                    have HGo := hide (rMany_go HM.out)
                    clear HM
                    go_wp2_with fail
                    replace HF : Hid (Fr w.heap.size w _ [.blk wc.heap.size #[.string ⟨#[]⟩, .int .i64 0, .bool false, .int .i64 0, .int .i64 0, .string ⟨#[]⟩, .int .i64 0] 44, .blk b2 #[.slice aC CL.length cC, .slice aD DL.length cD, .slice aS SL.length cS, .slice none 0 0] 27, .blk b1 #[.slice a n c, .int .i64 qS, .bool false] 73, .blk w.heap.size #[.slice none 0 0, .slice none 0 0, .slice none 0 0, .slice none 0 0] 27, .row (.slice aC CL.length cC) 41 1 CL.length (CL.map (Value.int .u32)), .row (.slice aD DL.length cD) 21 1 DL.length (DL.map (Value.int .i32)), .row (.slice aS SL.length cS) 44 7 SL.length (SL.flatMap syL), .row (.slice none 0 0) 47 3 0 []]) := HF.out.alloc (q := wc.heap.size) rfl #[.string ⟨#[]⟩, .int .i64 0, .bool false, .int .i64 0, .int .i64 0, .string ⟨#[]⟩, .int .i64 0] 44
                    generalize hbs : wc.heap.size = bs at *
                    clear hbs
                    go_at_call 38
                    refine (HTxt.out _ _ _ qS false 2 HF.out rfl hqS).mono ?_
                    rintro e w_1 ⟨t1, z_1, p_1, rfl, HRt1, hp_1, hF⟩
                    replace HF : Hid (Fr w.heap.size w w_1 [.blk bs #[.string ⟨#[]⟩, .int .i64 0, .bool false, .int .i64 0, .int .i64 0, .string ⟨#[]⟩, .int .i64 0] 44, .blk b2 #[.slice aC CL.length cC, .slice aD DL.length cD, .slice aS SL.length cS, .slice none 0 0] 27, .blk b1 #[.slice a n c, .int .i64 p_1, .bool z_1] 73, .blk w.heap.size #[.slice none 0 0, .slice none 0 0, .slice none 0 0, .slice none 0 0] 27, .row (.slice aC CL.length cC) 41 1 CL.length (CL.map (Value.int .u32)), .row (.slice aD DL.length cD) 21 1 DL.length (DL.map (Value.int .i32)), .row (.slice aS SL.length cS) 44 7 SL.length (SL.flatMap syL), .row (.slice none 0 0) 47 3 0 []]) := hF
                    clear hF
                    have b1c := HF.out.cell 2 rfl
                    have bsc := HF.out.cell 0 rfl
                    have bsf := HF.out.frz 0 rfl
                    replace HF : Hid (Fr w.heap.size w (w_1.setCell ⟨bs, 0, none⟩ (.string t1)) [.blk bs #[.string t1, .int .i64 0, .bool false, .int .i64 0, .int .i64 0, .string ⟨#[]⟩, .int .i64 0] 44, .blk b2 #[.slice aC CL.length cC, .slice aD DL.length cD, .slice aS SL.length cS, .slice none 0 0] 27, .blk b1 #[.slice a n c, .int .i64 p_1, .bool z_1] 73, .blk w.heap.size #[.slice none 0 0, .slice none 0 0, .slice none 0 0, .slice none 0 0] 27, .row (.slice aC CL.length cC) 41 1 CL.length (CL.map (Value.int .u32)), .row (.slice aD DL.length cD) 21 1 DL.length (DL.map (Value.int .i32)), .row (.slice aS SL.length cS) 44 7 SL.length (SL.flatMap syL), .row (.slice none 0 0) 47 3 0 []]) := HF.out.set 0 rfl 0 _
                    go_wp2_with fail
                    clear b1c bsc bsf
                    generalize w_1.setCell ⟨bs, 0, none⟩ (.string t1) = w_1s at *
                    go_at_call 36
                    refine (HNum.out _ _ _ p_1 z_1 2 HF.out rfl hp_1).mono ?_
                    rintro e w_2 ⟨x2, z_2, p_2, rfl, HRx2, x20, x21, hp_2, hF⟩
                    replace HF : Hid (Fr w.heap.size w w_2 [.blk bs #[.string t1, .int .i64 0, .bool false, .int .i64 0, .int .i64 0, .string ⟨#[]⟩, .int .i64 0] 44, .blk b2 #[.slice aC CL.length cC, .slice aD DL.length cD, .slice aS SL.length cS, .slice none 0 0] 27, .blk b1 #[.slice a n c, .int .i64 p_2, .bool z_2] 73, .blk w.heap.size #[.slice none 0 0, .slice none 0 0, .slice none 0 0, .slice none 0 0] 27, .row (.slice aC CL.length cC) 41 1 CL.length (CL.map (Value.int .u32)), .row (.slice aD DL.length cD) 21 1 DL.length (DL.map (Value.int .i32)), .row (.slice aS SL.length cS) 44 7 SL.length (SL.flatMap syL), .row (.slice none 0 0) 47 3 0 []]) := hF
                    clear hF
                    have b1c := HF.out.cell 2 rfl
                    have bsc := HF.out.cell 0 rfl
                    have bsf := HF.out.frz 0 rfl
                    replace HF : Hid (Fr w.heap.size w (w_2.setCell ⟨bs, 1, none⟩ (.int .i64 x2)) [.blk bs #[.string t1, .int .i64 x2, .bool false, .int .i64 0, .int .i64 0, .string ⟨#[]⟩, .int .i64 0] 44, .blk b2 #[.slice aC CL.length cC, .slice aD DL.length cD, .slice aS SL.length cS, .slice none 0 0] 27, .blk b1 #[.slice a n c, .int .i64 p_2, .bool z_2] 73, .blk w.heap.size #[.slice none 0 0, .slice none 0 0, .slice none 0 0, .slice none 0 0] 27, .row (.slice aC CL.length cC) 41 1 CL.length (CL.map (Value.int .u32)), .row (.slice aD DL.length cD) 21 1 DL.length (DL.map (Value.int .i32)), .row (.slice aS SL.length cS) 44 7 SL.length (SL.flatMap syL), .row (.slice none 0 0) 47 3 0 []]) := HF.out.set 0 rfl 1 _
                    go_wp2_with fail
                    clear b1c bsc bsf
                    generalize w_2.setCell ⟨bs, 1, none⟩ (.int .i64 x2) = w_2s at *
                    go_at_call 36
                    refine (HNum.out _ _ _ p_2 z_2 2 HF.out rfl hp_2).mono ?_
                    rintro e w_3 ⟨x3, z_3, p_3, rfl, HRx3, x30, x31, hp_3, hF⟩
                    replace HF : Hid (Fr w.heap.size w w_3 [.blk bs #[.string t1, .int .i64 x2, .bool false, .int .i64 0, .int .i64 0, .string ⟨#[]⟩, .int .i64 0] 44, .blk b2 #[.slice aC CL.length cC, .slice aD DL.length cD, .slice aS SL.length cS, .slice none 0 0] 27, .blk b1 #[.slice a n c, .int .i64 p_3, .bool z_3] 73, .blk w.heap.size #[.slice none 0 0, .slice none 0 0, .slice none 0 0, .slice none 0 0] 27, .row (.slice aC CL.length cC) 41 1 CL.length (CL.map (Value.int .u32)), .row (.slice aD DL.length cD) 21 1 DL.length (DL.map (Value.int .i32)), .row (.slice aS SL.length cS) 44 7 SL.length (SL.flatMap syL), .row (.slice none 0 0) 47 3 0 []]) := hF
                    clear hF
                    have b1c := HF.out.cell 2 rfl
                    have bsc := HF.out.cell 0 rfl
                    have bsf := HF.out.frz 0 rfl
                    replace HF : Hid (Fr w.heap.size w (w_3.setCell ⟨bs, 2, none⟩ (.bool (decide (x3 = 1)))) [.blk bs #[.string t1, .int .i64 x2, .bool (decide (x3 = 1)), .int .i64 0, .int .i64 0, .string ⟨#[]⟩, .int .i64 0] 44, .blk b2 #[.slice aC CL.length cC, .slice aD DL.length cD, .slice aS SL.length cS, .slice none 0 0] 27, .blk b1 #[.slice a n c, .int .i64 p_3, .bool z_3] 73, .blk w.heap.size #[.slice none 0 0, .slice none 0 0, .slice none 0 0, .slice none 0 0] 27, .row (.slice aC CL.length cC) 41 1 CL.length (CL.map (Value.int .u32)), .row (.slice aD DL.length cD) 21 1 DL.length (DL.map (Value.int .i32)), .row (.slice aS SL.length cS) 44 7 SL.length (SL.flatMap syL), .row (.slice none 0 0) 47 3 0 []]) := HF.out.set 0 rfl 2 _
                    go_wp2_with fail
                    clear b1c bsc bsf
                    generalize w_3.setCell ⟨bs, 2, none⟩ (.bool (decide (x3 = 1))) = w_3s at *
                    go_at_call 36
                    refine (HNum.out _ _ _ p_3 z_3 2 HF.out rfl hp_3).mono ?_
                    rintro e w_4 ⟨x4, z_4, p_4, rfl, HRx4, x40, x41, hp_4, hF⟩
                    replace HF : Hid (Fr w.heap.size w w_4 [.blk bs #[.string t1, .int .i64 x2, .bool (decide (x3 = 1)), .int .i64 0, .int .i64 0, .string ⟨#[]⟩, .int .i64 0] 44, .blk b2 #[.slice aC CL.length cC, .slice aD DL.length cD, .slice aS SL.length cS, .slice none 0 0] 27, .blk b1 #[.slice a n c, .int .i64 p_4, .bool z_4] 73, .blk w.heap.size #[.slice none 0 0, .slice none 0 0, .slice none 0 0, .slice none 0 0] 27, .row (.slice aC CL.length cC) 41 1 CL.length (CL.map (Value.int .u32)), .row (.slice aD DL.length cD) 21 1 DL.length (DL.map (Value.int .i32)), .row (.slice aS SL.length cS) 44 7 SL.length (SL.flatMap syL), .row (.slice none 0 0) 47 3 0 []]) := hF
                    clear hF
                    have b1c := HF.out.cell 2 rfl
                    have bsc := HF.out.cell 0 rfl
                    have bsf := HF.out.frz 0 rfl
                    replace HF : Hid (Fr w.heap.size w (w_4.setCell ⟨bs, 3, none⟩ (.int .i64 x4)) [.blk bs #[.string t1, .int .i64 x2, .bool (decide (x3 = 1)), .int .i64 x4, .int .i64 0, .string ⟨#[]⟩, .int .i64 0] 44, .blk b2 #[.slice aC CL.length cC, .slice aD DL.length cD, .slice aS SL.length cS, .slice none 0 0] 27, .blk b1 #[.slice a n c, .int .i64 p_4, .bool z_4] 73, .blk w.heap.size #[.slice none 0 0, .slice none 0 0, .slice none 0 0, .slice none 0 0] 27, .row (.slice aC CL.length cC) 41 1 CL.length (CL.map (Value.int .u32)), .row (.slice aD DL.length cD) 21 1 DL.length (DL.map (Value.int .i32)), .row (.slice aS SL.length cS) 44 7 SL.length (SL.flatMap syL), .row (.slice none 0 0) 47 3 0 []]) := HF.out.set 0 rfl 3 _
                    go_wp2_with fail
                    clear b1c bsc bsf
                    generalize w_4.setCell ⟨bs, 3, none⟩ (.int .i64 x4) = w_4s at *
                    go_at_call 36
                    refine (HNum.out _ _ _ p_4 z_4 2 HF.out rfl hp_4).mono ?_
                    rintro e w_5 ⟨x5, z_5, p_5, rfl, HRx5, x50, x51, hp_5, hF⟩
                    replace HF : Hid (Fr w.heap.size w w_5 [.blk bs #[.string t1, .int .i64 x2, .bool (decide (x3 = 1)), .int .i64 x4, .int .i64 0, .string ⟨#[]⟩, .int .i64 0] 44, .blk b2 #[.slice aC CL.length cC, .slice aD DL.length cD, .slice aS SL.length cS, .slice none 0 0] 27, .blk b1 #[.slice a n c, .int .i64 p_5, .bool z_5] 73, .blk w.heap.size #[.slice none 0 0, .slice none 0 0, .slice none 0 0, .slice none 0 0] 27, .row (.slice aC CL.length cC) 41 1 CL.length (CL.map (Value.int .u32)), .row (.slice aD DL.length cD) 21 1 DL.length (DL.map (Value.int .i32)), .row (.slice aS SL.length cS) 44 7 SL.length (SL.flatMap syL), .row (.slice none 0 0) 47 3 0 []]) := hF
                    clear hF
                    have b1c := HF.out.cell 2 rfl
                    have bsc := HF.out.cell 0 rfl
                    have bsf := HF.out.frz 0 rfl
                    replace HF : Hid (Fr w.heap.size w (w_5.setCell ⟨bs, 4, none⟩ (.int .i64 x5)) [.blk bs #[.string t1, .int .i64 x2, .bool (decide (x3 = 1)), .int .i64 x4, .int .i64 x5, .string ⟨#[]⟩, .int .i64 0] 44, .blk b2 #[.slice aC CL.length cC, .slice aD DL.length cD, .slice aS SL.length cS, .slice none 0 0] 27, .blk b1 #[.slice a n c, .int .i64 p_5, .bool z_5] 73, .blk w.heap.size #[.slice none 0 0, .slice none 0 0, .slice none 0 0, .slice none 0 0] 27, .row (.slice aC CL.length cC) 41 1 CL.length (CL.map (Value.int .u32)), .row (.slice aD DL.length cD) 21 1 DL.length (DL.map (Value.int .i32)), .row (.slice aS SL.length cS) 44 7 SL.length (SL.flatMap syL), .row (.slice none 0 0) 47 3 0 []]) := HF.out.set 0 rfl 4 _
                    go_wp2_with fail
                    clear b1c bsc bsf
                    generalize w_5.setCell ⟨bs, 4, none⟩ (.int .i64 x5) = w_5s at *
                    go_at_call 38
                    refine (HTxt.out _ _ _ p_5 z_5 2 HF.out rfl hp_5).mono ?_
                    rintro e w_6 ⟨t6, z_6, p_6, rfl, HRt6, hp_6, hF⟩
                    replace HF : Hid (Fr w.heap.size w w_6 [.blk bs #[.string t1, .int .i64 x2, .bool (decide (x3 = 1)), .int .i64 x4, .int .i64 x5, .string ⟨#[]⟩, .int .i64 0] 44, .blk b2 #[.slice aC CL.length cC, .slice aD DL.length cD, .slice aS SL.length cS, .slice none 0 0] 27, .blk b1 #[.slice a n c, .int .i64 p_6, .bool z_6] 73, .blk w.heap.size #[.slice none 0 0, .slice none 0 0, .slice none 0 0, .slice none 0 0] 27, .row (.slice aC CL.length cC) 41 1 CL.length (CL.map (Value.int .u32)), .row (.slice aD DL.length cD) 21 1 DL.length (DL.map (Value.int .i32)), .row (.slice aS SL.length cS) 44 7 SL.length (SL.flatMap syL), .row (.slice none 0 0) 47 3 0 []]) := hF
                    clear hF
                    have b1c := HF.out.cell 2 rfl
                    have bsc := HF.out.cell 0 rfl
                    have bsf := HF.out.frz 0 rfl
                    replace HF : Hid (Fr w.heap.size w (w_6.setCell ⟨bs, 5, none⟩ (.string t6)) [.blk bs #[.string t1, .int .i64 x2, .bool (decide (x3 = 1)), .int .i64 x4, .int .i64 x5, .string t6, .int .i64 0] 44, .blk b2 #[.slice aC CL.length cC, .slice aD DL.length cD, .slice aS SL.length cS, .slice none 0 0] 27, .blk b1 #[.slice a n c, .int .i64 p_6, .bool z_6] 73, .blk w.heap.size #[.slice none 0 0, .slice none 0 0, .slice none 0 0, .slice none 0 0] 27, .row (.slice aC CL.length cC) 41 1 CL.length (CL.map (Value.int .u32)), .row (.slice aD DL.length cD) 21 1 DL.length (DL.map (Value.int .i32)), .row (.slice aS SL.length cS) 44 7 SL.length (SL.flatMap syL), .row (.slice none 0 0) 47 3 0 []]) := HF.out.set 0 rfl 5 _
                    go_wp2_with fail
                    clear b1c bsc bsf
                    generalize w_6.setCell ⟨bs, 5, none⟩ (.string t6) = w_6s at *
                    go_at_call 36
                    refine (HNum.out _ _ _ p_6 z_6 2 HF.out rfl hp_6).mono ?_
                    rintro e w_7 ⟨x7, z2, p2, rfl, HRx7, x70, x71, hp2, hF⟩
                    replace HF : Hid (Fr w.heap.size w w_7 [.blk bs #[.string t1, .int .i64 x2, .bool (decide (x3 = 1)), .int .i64 x4, .int .i64 x5, .string t6, .int .i64 0] 44, .blk b2 #[.slice aC CL.length cC, .slice aD DL.length cD, .slice aS SL.length cS, .slice none 0 0] 27, .blk b1 #[.slice a n c, .int .i64 p2, .bool z2] 73, .blk w.heap.size #[.slice none 0 0, .slice none 0 0, .slice none 0 0, .slice none 0 0] 27, .row (.slice aC CL.length cC) 41 1 CL.length (CL.map (Value.int .u32)), .row (.slice aD DL.length cD) 21 1 DL.length (DL.map (Value.int .i32)), .row (.slice aS SL.length cS) 44 7 SL.length (SL.flatMap syL), .row (.slice none 0 0) 47 3 0 []]) := hF
                    clear hF
                    rw [rSym_of HRt1.out HRx2.out HRx3.out HRx4.out HRx5.out HRt6.out HRx7.out] at HGo
                    clear HRt1 HRx2 HRx3 HRx4 HRx5 HRt6 HRx7
                    have b1c := HF.out.cell 2 rfl
                    have bsf := HF.out.frz 0 rfl
                    have bsc0 := HF.out.cell 0 rfl
                    replace HF : Hid (Fr w.heap.size w (w_7.setCell ⟨bs, 6, none⟩ (.int .i64 x7)) [.blk bs #[.string t1, .int .i64 x2, .bool (decide (x3 = 1)), .int .i64 x4, .int .i64 x5, .string t6, .int .i64 x7] 44, .blk b2 #[.slice aC CL.length cC, .slice aD DL.length cD, .slice aS SL.length cS, .slice none 0 0] 27, .blk b1 #[.slice a n c, .int .i64 p2, .bool z2] 73, .blk w.heap.size #[.slice none 0 0, .slice none 0 0, .slice none 0 0, .slice none 0 0] 27, .row (.slice aC CL.length cC) 41 1 CL.length (CL.map (Value.int .u32)), .row (.slice aD DL.length cD) 21 1 DL.length (DL.map (Value.int .i32)), .row (.slice aS SL.length cS) 44 7 SL.length (SL.flatMap syL), .row (.slice none 0 0) 47 3 0 []]) := HF.out.set 0 rfl 6 _
                    have bsc := HF.out.cell 0 rfl
                    have b2c := HF.out.cell 1 rfl
                    replace HF := hide (HF.out.alloc (q := w_7.heap.size) (by simp) #[.string t1, .int .i64 x2, .bool (decide (x3 = 1)), .int .i64 x4, .int .i64 x5, .string t6, .int .i64 x7] 44)
                    go_wp2_with (at_builtin; refine Fr.oneBig 24 info44 Try.underlying24 rfl (by decide) (by decide) HF.out 6 rfl (by omega) (.tmp 109) (.tmp 111) rfl rfl rfl rfl rfl rfl ?_; intro g7 cap7 w7 h7 _; have HF7 := hide h7; clear h7; have f7 := HF7.out.frz 1 rfl; have b7 := HF7.out.cell 1 rfl)
                    have HF9 := hide (HF7.out.set 1 rfl 2 (.slice (some ⟨g7, 0, none⟩) (SL.length + 1) cap7)).tail
                    go_roundw
                    case rel => exact ⟨k + 1, p2, z2, some ⟨g7, 0, none⟩, cap7, SL ++ [⟨t1, x2, decide (x3 = 1), x4, x5, t6, x7⟩], by omega, by go_num, hp2, by simp; omega, HGo, by simpa [List.map_append, List.flatMap_append, syL, reL] using HF9⟩
                    case measure => simp [intOf]; omega
            · obtain ⟨hlt, rfl⟩ : k < NB ∧ yD = false := by
                have h := HBB.out
                simpa using h
              clear HBB
              have HGo := hide (rMany_go HM.out)
              clear HM
              go_wp2_with fail
              go_at_call 36
              refine (HNum.out _ _ _ qD false 1 HF.out rfl hqD).mono ?_
              rintro e w2 ⟨x, z2, p2, rfl, HRx, x0, x1, hp2, hF⟩
              replace HF : Hid (Fr w.heap.size w w2 [.blk b2 #[.slice aC CL.length cC, .slice aD DL.length cD, .slice none 0 0, .slice none 0 0] 27, .blk b1 #[.slice a n c, .int .i64 p2, .bool z2] 73, .blk w.heap.size #[.slice none 0 0, .slice none 0 0, .slice none 0 0, .slice none 0 0] 27, .row (.slice aC CL.length cC) 41 1 CL.length (CL.map (Value.int .u32)), .row (.slice aD DL.length cD) 21 1 DL.length (DL.map (Value.int .i32)), .row (.slice none 0 0) 44 7 0 [], .row (.slice none 0 0) 47 3 0 []]) := hF
              clear hF
              rw [rData_of HRx.out] at HGo
              clear HRx
              have HWd := hide (word_any x w2 ⟨x0, x1⟩)
              have HWr : Hid (-2147483648 ≤ wordOf x ∧ wordOf x ≤ 2147483647) := (by show _ ∧ _; unfold wordOf; split <;> omega)
              generalize wordOf x = y at *
              have b2c := HF.out.cell 0 rfl
              replace HF := hide (HF.out.alloc (q := w2.heap.size) rfl #[.int .i32 y] 21)
              go_wp2_with fail
              go_at_call 37
              refine HWd.out.mono ?_
              rintro e w3 ⟨rfl, rfl⟩
              go_wp2_with (at_builtin; refine Fr.oneBig 23 info21 Try.underlying23 rfl (by decide) (by decide) HF.out 4 rfl (by omega) (.tmp 65) (.tmp 67) rfl rfl rfl rfl rfl rfl ?_; intro g7 cap7 w7 h7 _; have HF7 := hide h7; clear h7; have f7 := HF7.out.frz 0 rfl; have b7 := HF7.out.cell 0 rfl)
              have HF9 := hide (HF7.out.set 0 rfl 1 (.slice (some ⟨g7, 0, none⟩) (DL.length + 1) cap7))
              go_roundw
              case rel => exact ⟨k + 1, p2, z2, some ⟨g7, 0, none⟩, cap7, DL ++ [y], by omega, by go_num, hp2, by simp; omega, HGo, by simpa [List.map_append, List.flatMap_append, syL, reL] using HF9⟩
              case measure => simp [intOf]; omega
      · obtain ⟨hlt, rfl⟩ : k < NA ∧ yC = false := by
          have h := HBB.out
          simpa using h
        clear HBB
        have HGo := hide (rMany_go HM.out)
        clear HM
        go_wp2_with fail
        go_at_call 36
        refine (HNum.out _ _ _ qC false 1 HF.out rfl hqC).mono ?_
        rintro e w2 ⟨x, z2, p2, rfl, HRx, x0, x1, hp2, hF⟩
        replace HF : Hid (Fr w.heap.size w w2 [.blk b2 #[.slice aC CL.length cC, .slice none 0 0, .slice none 0 0, .slice none 0 0] 27, .blk b1 #[.slice a n c, .int .i64 p2, .bool z2] 73, .blk w.heap.size #[.slice none 0 0, .slice none 0 0, .slice none 0 0, .slice none 0 0] 27, .row (.slice aC CL.length cC) 41 1 CL.length (CL.map (Value.int .u32)), .row (.slice none 0 0) 21 1 0 [], .row (.slice none 0 0) 44 7 0 [], .row (.slice none 0 0) 47 3 0 []]) := hF
        clear hF
        rw [HRx.out] at HGo
        clear HRx
        have b2c := HF.out.cell 0 rfl
        replace HF := hide (HF.out.alloc (q := w2.heap.size) rfl #[.int .u32 x] 41)
        have xw : IntKind.u32.wrap x = x := by rw [show ∀ y : Int, IntKind.u32.wrap y = y % 4294967296 from fun y => rfl]; omega
        go_wp2_with (at_builtin; refine Fr.oneBig 22 info41 Try.underlying22 rfl (by decide) (by decide) HF.out 3 rfl (by omega) (.tmp 40) (.tmp 43) rfl rfl rfl rfl rfl rfl ?_; intro g7 cap7 w7 h7 _; have HF7 := hide h7; clear h7; have f7 := HF7.out.frz 0 rfl; have b7 := HF7.out.cell 0 rfl)
        have HF9 := hide (HF7.out.set 0 rfl 0 (.slice (some ⟨g7, 0, none⟩) (CL.length + 1) cap7))
        go_roundw
        case rel => exact ⟨k + 1, p2, z2, some ⟨g7, 0, none⟩, cap7, CL ++ [x], by omega, by go_num, hp2, by simp; omega, HGo, by simpa [List.map_append, List.flatMap_append, syL, reL] using HF9⟩
        case measure => simp [intOf]; omega
end Go.Proofs.Ytnjcknlfecednaa.T
