/- The contracts of the program's fields, and of the function that it hands back. -/
import Derived.Test.YtmbhcpnlfdgkjaaPSeq
namespace Go.Proofs.Ytmbhcpnlfdgkjaa.T
open Go.RowKit Go.Shelf
set_option linter.unusedVariables false
set_option linter.unusedSimpArgs false
attribute [local go_sem] Oper.semAt_some
theorem cells_at {W : World} {b : Nat} {cur : Array Value} {t : TypeId} (h : W.heap[b]? = some (.cells cur t (0, 0))) : ∀ o, W.cell? ⟨b, o, none⟩ = cur[o]? := fun o => by simp [World.cell?, h]
variable {kind : Int} {name : ByteArray} {nn : Nat} {names : Nat → ByteArray} {pn : Nat} {parts : Nat → Ty} {many : Bool}
set_option maxRecDepth 100000 in
set_option maxHeartbeats 2000000 in
theorem fields1_in (n : Nat) (hn : 1 ≤ n) (hfew : pn ≤ 7) (sz : Nat → Nat) (ev : Nat → Bool) (hsm : ∀ i, i < pn → sz i ≤ 12) (hev : Hid (∀ i, i < pn → ev i = evenT (parts i)))
    (hsize : Hid (∀ i, i < pn → ∀ v w, TyV w (parts i) v → Calls Try.prog 24 #[v] w fun e w' => e = .returned (.int .i64 (sz i)) ∧ Below w.heap.size w w'))
    (w : World) (na pa : Option Addr) (nc pc : Nat) (pv : Nat → Value) (hpv : Hid (PartsAt w pa pn parts pv)) (l Bn : Nat) (J Jx : List (Fin pn) → World → Prop) (W : World) (hJ : Hid (AbidesFrom W.heap.size J))
    (hY : Hid (∀ pre (x : Fin pn) W1, J pre W1 → pre.length < pn → YieldAt Fence.wide (n - 1) Try.prog l #[.int .i64 (placeN sz ev x), pv x] W1 fun e W' => (e = .returned (.bool true) ∧ J (pre ++ [x]) W' ∧ Kp w.heap.size W1 W') ∨ (e = .returned (.bool false) ∧ Jx (pre ++ [x]) W')))
    (hB : Hid (Below w.heap.size w W)) (hbox : ∀ o, W.cell? ⟨Bn, o, none⟩ = (#[Value.int .i64 kind, .string name, .slice na nn nc, .slice pa pn pc, .bool many])[o]?) (h0 : Hid (J [] W)) :
    CallsIn Fence.wide n Try.prog 39 #[.func (.yield l) #[] #[], .pointer (some ⟨Bn, 0, none⟩)] W fun e W' => (∃ v, e = .returned v) ∧ ((∃ ys, ys = List.finRange pn ∧ J ys W') ∨ (∃ pre, True ∧ Jx pre W')) := by
  refine callsIn_of_wp Try.func39 rfl trivial ?_ rfl
  simp only [Try.ntmps39, List.size_toArray, List.length_cons, List.length_nil, Nat.reduceAdd, Nat.reduceSub, Array.replicate_succ, Array.replicate_zero, List.push_toArray, List.append_toArray, List.nil_append, List.cons_append]
  have hpl0 : ∀ i, i ≤ pn → placeN sz ev i ≤ 13 * i := fun i hi => place_le (fun j hj => hsm j hj) i hi
  gi_wp2
  gi_loopw [3, 9] (fun p i wr => ∃ k : Nat, k ≤ pn ∧ p = .int .i64 (endN sz ev k) ∧ i = .int .i64 k ∧ Hid (Below w.heap.size w wr) ∧ Hid (J (upto pn k) wr)) (fun _ i _ => pn - (intOf i).toNat)
  case atStart => exact ⟨0, Nat.zero_le _, rfl, rfl, hB, h0⟩
  case round =>
    obtain ⟨k, hk, rfl, rfl, HB, HJ⟩ := hrel
    by_cases hlt : k < pn
    · have hlt' : (k : Int) < pn := by omega
      have hidx : (0 : Int) ≤ k ∧ (k : Int) < pn := by omega
      obtain ⟨b, o, kd, nm, xa, xn, xc, ya, yn, yc, my, rfl, hb, hpe, g0, g1, g2, g3, g4, g5⟩ := hpv.out k hlt
      have e0 : wr.cell? ⟨b, o + k * 5, none⟩ = some (.int .i64 kd) := (HB.out.cell (p := ⟨b, o + k * 5, none⟩) hb).trans g0
      have e1 : wr.cell? ⟨b, o + k * 5 + 1, none⟩ = some (.string nm) := (HB.out.cell (p := ⟨b, o + k * 5 + 1, none⟩) hb).trans g1
      have e2 : wr.cell? ⟨b, o + k * 5 + 2, none⟩ = some (.slice xa xn xc) := (HB.out.cell (p := ⟨b, o + k * 5 + 2, none⟩) hb).trans g2
      have e3 : wr.cell? ⟨b, o + k * 5 + 3, none⟩ = some (.slice ya yn yc) := (HB.out.cell (p := ⟨b, o + k * 5 + 3, none⟩) hb).trans g3
      have e4 : wr.cell? ⟨b, o + k * 5 + 4, none⟩ = some (.bool my) := (HB.out.cell (p := ⟨b, o + k * 5 + 4, none⟩) hb).trans g4
      rw [hpe] at g5
      have hevc := fun w' (hw : Below w.heap.size w w') => peven_any (parts k) _ w' (g5.below hw)
      rw [← hev.out k hlt] at hevc
      have hszc := fun w' (hw : Below w.heap.size w w') => hsize.out k hlt _ w' (g5.below hw)
      clear g0 g1 g2 g3 g4
      have l1 := hpl0 k hk
      have l2 := hsm k hlt
      have HPL := place_end sz ev k
      have hle := (rnd_le (ev k) (endN sz ev k)).1
      rw [← HPL] at hle
      have hen1 : endN sz ev (k + 1) = placeN sz ev k + sz k := rfl
      have HH := hide (And.intro HPL hen1)
      generalize endN sz ev k = en at *
      clear HPL hen1
      cases hE : ev k with
      | false =>
        rw [hE] at hevc
        have HPE : Hid (placeN sz ev k = en) := by show _ = _; rw [HH.out.1, hE]; simp [rnd]
        have hadd : IntKind.i64.wrap ((en : Int) + (sz k : Int)) = ((endN sz ev (k + 1) : Nat) : Int) := by rw [IntKind.wrap_i64, HH.out.2, HPE.out]; have := HPE.out; omega
        gi_wp2
        refine ⟨trivial, ?_⟩
        refine (callsIn_wide.2 (hevc _ (HB.out.alloc HB.out.size _))).mono ?_
        rintro e w1 ⟨rfl, hb1⟩
        have hbw : Below wr.heap.size wr w1 := ((Below.refl _ wr).alloc (Nat.le_refl _) _).trans (hb1.mono (by simp))
        have HB1 : Hid (Below w.heap.size w w1) := HB.out.trans (hbw.mono HB.out.size)
        have HJ1 : Hid (J (upto pn k) w1) := hJ.out _ _ _ none HJ.out (grown_of hbw) (fun r e => by cases e)
        have hbk : w1.heap[wr.heap.size]? = some (.cells #[.int .i64 kd, .string nm, .slice xa xn xc, .slice ya yn yc, .bool my] 25 (0, 0)) := (hb1.block _ (by simp)).trans (World.alloc_heap_new wr _)
        have hq := cells_at hbk
        have HBK := hide hbk
        have hyk := hY.out (upto pn k) ⟨k, hlt⟩ w1 HJ1.out (by rw [upto_len hk]; exact hlt)
        dsimp only at hyk
        rw [hpe, HPE.out] at hyk
        try rw [show ((en + 1 : Nat) : Int) = (en : Int) + 1 from rfl] at hyk
        obtain ⟨fn, tmps, assign, body, hy, hR⟩ := hyk
        have HR := hide hR
        clear hb1 hbw hbk hR
        gi_wp2
        refine HR.out.mono ?_
        rintro e w3 (⟨rfl, hJ3, hk3⟩ | ⟨rfl, hJx3⟩)
        · have HB3 : Hid (Below w.heap.size w w3) := HB1.out.trans hk3.below
          have hq3 := cells_at (hk3.types _ _ HBK.out ⟨_, rfl⟩)
          have HJ3 := hide hJ3
          clear hq hy hJ3 hk3
          gi_wp2
          refine ⟨trivial, ?_⟩
          refine (callsIn_wide.2 (hszc _ HB3.out)).mono ?_
          rintro e w4 ⟨rfl, hb4⟩
          have HB4 : Hid (Below w.heap.size w w4) := HB3.out.trans (hb4.mono HB3.out.size)
          have HJ4 : Hid (J (upto pn (k + 1)) w4) := by
            show J _ _
            rw [upto_succ hlt]
            exact hJ.out _ _ _ none HJ3.out (grown_of hb4) (fun r e => by cases e)
          clear hb4 hq3
          gi_wp2
          go_roundw
          case rel => exact ⟨k + 1, by omega, by go_num, by go_num, HB4, HJ4⟩
          case measure => simp [intOf]; omega
        · gi_wp2
          refine bodyPost_ret (results_none rfl _ _ _) rfl ?_
          exact ⟨⟨_, rfl⟩, .inr ⟨_, trivial, hJx3⟩⟩
      | true =>
        rw [hE] at hevc
        by_cases od : en % 2 = 1
        · have HPE : Hid (placeN sz ev k = en + 1) := by show _ = _; rw [HH.out.1, hE]; simp [rnd, od]
          have hrm : (en : Int).tmod 2 = 1 := by rw [Int.tmod_eq_emod_of_nonneg (by omega)]; omega
          have hrm2 : (en : Int) % 2 = 1 := by omega
          have hw1 : IntKind.i64.wrap ((en : Int) + 1) = ((en + 1 : Nat) : Int) := by rw [IntKind.wrap_i64]; omega
          have hadd : IntKind.i64.wrap ((en : Int) + 1 + (sz k : Int)) = ((endN sz ev (k + 1) : Nat) : Int) := by rw [IntKind.wrap_i64, HH.out.2, HPE.out]; have := HPE.out; omega
          have HOD := hide od
          clear od
          gi_wp2
          refine ⟨trivial, ?_⟩
          refine (callsIn_wide.2 (hevc _ (HB.out.alloc HB.out.size _))).mono ?_
          rintro e w1 ⟨rfl, hb1⟩
          have hbw : Below wr.heap.size wr w1 := ((Below.refl _ wr).alloc (Nat.le_refl _) _).trans (hb1.mono (by simp))
          have HB1 : Hid (Below w.heap.size w w1) := HB.out.trans (hbw.mono HB.out.size)
          have HJ1 : Hid (J (upto pn k) w1) := hJ.out _ _ _ none HJ.out (grown_of hbw) (fun r e => by cases e)
          have hbk : w1.heap[wr.heap.size]? = some (.cells #[.int .i64 kd, .string nm, .slice xa xn xc, .slice ya yn yc, .bool my] 25 (0, 0)) := (hb1.block _ (by simp)).trans (World.alloc_heap_new wr _)
          have hq := cells_at hbk
          have HBK := hide hbk
          have hyk := hY.out (upto pn k) ⟨k, hlt⟩ w1 HJ1.out (by rw [upto_len hk]; exact hlt)
          dsimp only at hyk
          rw [hpe, HPE.out] at hyk
          try rw [show ((en + 1 : Nat) : Int) = (en : Int) + 1 from rfl] at hyk
          obtain ⟨fn, tmps, assign, body, hy, hR⟩ := hyk
          have HR := hide hR
          clear hb1 hbw hbk hR
          gi_wp2
          refine HR.out.mono ?_
          rintro e w3 (⟨rfl, hJ3, hk3⟩ | ⟨rfl, hJx3⟩)
          · have HB3 : Hid (Below w.heap.size w w3) := HB1.out.trans hk3.below
            have hq3 := cells_at (hk3.types _ _ HBK.out ⟨_, rfl⟩)
            have HJ3 := hide hJ3
            clear hq hy hJ3 hk3
            gi_wp2
            refine ⟨trivial, ?_⟩
            refine (callsIn_wide.2 (hszc _ HB3.out)).mono ?_
            rintro e w4 ⟨rfl, hb4⟩
            have HB4 : Hid (Below w.heap.size w w4) := HB3.out.trans (hb4.mono HB3.out.size)
            have HJ4 : Hid (J (upto pn (k + 1)) w4) := by
              show J _ _
              rw [upto_succ hlt]
              exact hJ.out _ _ _ none HJ3.out (grown_of hb4) (fun r e => by cases e)
            clear hb4 hq3
            gi_wp2
            go_roundw
            case rel => exact ⟨k + 1, by omega, by go_num, by go_num, HB4, HJ4⟩
            case measure => simp [intOf]; omega
          · gi_wp2
            refine bodyPost_ret (results_none rfl _ _ _) rfl ?_
            exact ⟨⟨_, rfl⟩, .inr ⟨_, trivial, hJx3⟩⟩
        · have HPE : Hid (placeN sz ev k = en) := by show _ = _; rw [HH.out.1, hE]; simp [rnd, od]
          have hrm : (en : Int).tmod 2 = 0 := by rw [Int.tmod_eq_emod_of_nonneg (by omega)]; omega
          have hrm2 : (en : Int) % 2 = 0 := by omega
          have hw1 : IntKind.i64.wrap ((en : Int) + 0) = (en : Int) := by rw [IntKind.wrap_i64]; omega
          have hw2 : IntKind.i64.wrap (en : Int) = (en : Int) := by rw [IntKind.wrap_i64]; omega
          have hadd : IntKind.i64.wrap ((en : Int) + (sz k : Int)) = ((endN sz ev (k + 1) : Nat) : Int) := by rw [IntKind.wrap_i64, HH.out.2, HPE.out]; have := HPE.out; omega
          have HOD := hide od
          clear od
          gi_wp2
          refine ⟨trivial, ?_⟩
          refine (callsIn_wide.2 (hevc _ (HB.out.alloc HB.out.size _))).mono ?_
          rintro e w1 ⟨rfl, hb1⟩
          have hbw : Below wr.heap.size wr w1 := ((Below.refl _ wr).alloc (Nat.le_refl _) _).trans (hb1.mono (by simp))
          have HB1 : Hid (Below w.heap.size w w1) := HB.out.trans (hbw.mono HB.out.size)
          have HJ1 : Hid (J (upto pn k) w1) := hJ.out _ _ _ none HJ.out (grown_of hbw) (fun r e => by cases e)
          have hbk : w1.heap[wr.heap.size]? = some (.cells #[.int .i64 kd, .string nm, .slice xa xn xc, .slice ya yn yc, .bool my] 25 (0, 0)) := (hb1.block _ (by simp)).trans (World.alloc_heap_new wr _)
          have hq := cells_at hbk
          have HBK := hide hbk
          have hyk := hY.out (upto pn k) ⟨k, hlt⟩ w1 HJ1.out (by rw [upto_len hk]; exact hlt)
          dsimp only at hyk
          rw [hpe, HPE.out] at hyk
          try rw [show ((en + 1 : Nat) : Int) = (en : Int) + 1 from rfl] at hyk
          obtain ⟨fn, tmps, assign, body, hy, hR⟩ := hyk
          have HR := hide hR
          clear hb1 hbw hbk hR
          gi_wp2
          refine HR.out.mono ?_
          rintro e w3 (⟨rfl, hJ3, hk3⟩ | ⟨rfl, hJx3⟩)
          · have HB3 : Hid (Below w.heap.size w w3) := HB1.out.trans hk3.below
            have hq3 := cells_at (hk3.types _ _ HBK.out ⟨_, rfl⟩)
            have HJ3 := hide hJ3
            clear hq hy hJ3 hk3
            gi_wp2
            refine ⟨trivial, ?_⟩
            refine (callsIn_wide.2 (hszc _ HB3.out)).mono ?_
            rintro e w4 ⟨rfl, hb4⟩
            have HB4 : Hid (Below w.heap.size w w4) := HB3.out.trans (hb4.mono HB3.out.size)
            have HJ4 : Hid (J (upto pn (k + 1)) w4) := by
              show J _ _
              rw [upto_succ hlt]
              exact hJ.out _ _ _ none HJ3.out (grown_of hb4) (fun r e => by cases e)
            clear hb4 hq3
            gi_wp2
            go_roundw
            case rel => exact ⟨k + 1, by omega, by go_num, by go_num, HB4, HJ4⟩
            case measure => simp [intOf]; omega
          · gi_wp2
            refine bodyPost_ret (results_none rfl _ _ _) rfl ?_
            exact ⟨⟨_, rfl⟩, .inr ⟨_, trivial, hJx3⟩⟩
    · obtain rfl : k = pn := by omega
      have hlt' : ¬ (k : Int) < k := by omega
      gi_wp2
      go_end0
      exact ⟨⟨_, rfl⟩, .inl (by rw [← upto_all]; exact HJ.out)⟩
set_option maxHeartbeats 1000000 in
/-- fields boxes the type; the function value captures the box. -/
theorem fields_in (n : Nat) (kind : Int) (name : ByteArray) (na pa : Option Addr) (nn nc pn pc : Nat) (many : Bool) (w : World) :
    Calls Try.prog 32 #[.agg #[.int .i64 kind, .string name, .slice na nn nc, .slice pa pn pc, .bool many]] w fun e w' => e = .returned (.func (.func 39) #[] #[.pointer (some ⟨w.heap.size, 0, none⟩)]) ∧ w' = w.alloc (.cells #[.int .i64 kind, .string name, .slice na nn nc, .slice pa pn pc, .bool many] 25) := by
  go_enter Try.func32, Try.ntmps32
  go_wp2_with fail
  go_ret
  exact ⟨rfl, rfl⟩
/-- What fields hands back, as the range's law asks it. -/
theorem fields_stops (n : Nat) (hn : 1 ≤ n) (hfew : pn ≤ 7) (sz : Nat → Nat) (ev : Nat → Bool) (hsm : ∀ i, i < pn → sz i ≤ 12) (hev : Hid (∀ i, i < pn → ev i = evenT (parts i)))
    (hsize : Hid (∀ i, i < pn → ∀ v w, TyV w (parts i) v → Calls Try.prog 24 #[v] w fun e w' => e = .returned (.int .i64 (sz i)) ∧ Below w.heap.size w w'))
    (w : World) (na pa : Option Addr) (nc pc : Nat) (pv : Nat → Value) (hpv : Hid (PartsAt w pa pn parts pv)) (Bn : Nat) (W : World) (hB : Below w.heap.size w W) (hBn : Bn < W.heap.size)
    (hbox : ∀ o, W.cell? ⟨Bn, o, none⟩ = (#[Value.int .i64 kind, .string name, .slice na nn nc, .slice pa pn pc, .bool many])[o]?) :
    SeqStopsK Fence.wide n Try.prog 39 #[.pointer (some ⟨Bn, 0, none⟩)] (fun x : Fin pn => #[.int .i64 (placeN sz ev x), pv x]) (Kp w.heap.size) (fun ys => ys = List.finRange pn) (fun _ => True) pn W := fun l J Jx W' hW hJ _ hY h0 =>
  fields1_in n hn hfew sz ev hsm hev hsize w na pa nc pc pv hpv l Bn J Jx W' hJ hY (hB.trans (hW.mono hB.size)) (fun o => (hW.cell (p := ⟨Bn, o, none⟩) hBn).trans (hbox o)) h0
end Go.Proofs.Ytmbhcpnlfdgkjaa.T
