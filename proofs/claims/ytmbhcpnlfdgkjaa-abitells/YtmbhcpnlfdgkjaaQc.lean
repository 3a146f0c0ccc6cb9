/- The program's param, of what is not copied. -/
import Derived.Test.YtmbhcpnlfdgkjaaQb
import Derived.LoopTactic
namespace Go.Proofs.Ytmbhcpnlfdgkjaa.T
open Go.RowKit
set_option linter.unusedVariables false
set_option linter.unusedSimpArgs false
set_option maxRecDepth 100000 in
set_option maxHeartbeats 1000000 in
theorem par_laid (b r p : Nat) (T : Ty) (v : Value) (w W0 : World) (hb : w.heap[b]? = some (.cells (ly r p) 43 (0, 0))) (h4 : ¬ 4 < sizeT T) (hr : r ≤ 4) (hp : p ≤ 500) (hs : ∃ k0 k1 k2 k3 k4, v = .agg #[k0, k1, k2, k3, k4]) (hv : TyV W0 T v) (hm : mayN 4 T = true) (hB : Below W0.heap.size W0 w) (hb0 : W0.heap.size ≤ b) :
    Calls Try.prog 14 #[.pointer (some ⟨b, 0, none⟩), v, .bool false] w fun e w' => ∃ lv, e = .returned lv ∧ w'.ownsRow w.heap.size 39 2 lv (parN T) (locV (lay (aT r T) (qT r p T) (parN T))) ∧ w'.heap[b]? = some (.cells (ly (adv (aT r T) (qT r p T) (parN T)).1 (adv (aT r T) (qT r p T) (parN T)).2) 43 (0, 0)) ∧ w.grownBy w' (some b) := by
  have hE : parE T = evenT T := by unfold parE; simp [h4]
  have hN : parN T = sizeT T := by unfold parN; simp [h4]
  have hq := q_le r p T
  rw [hN]
  have HA : Hid ((parE T = true → aT r T = upN r ∧ qT r p T = if upN r = 4 then upN p else p) ∧ (parE T = false → aT r T = r ∧ qT r p T = p)) := ⟨fun h => aq_even hr h, fun h => aq_not hr h⟩
  rw [hE] at HA
  generalize aT r T = a at *
  generalize qT r p T = q at *
  obtain ⟨k0, k1, k2, k3, k4, rfl⟩ := hs
  obtain ⟨kind, name, na, nn, nc, pa, pn, pc, many, rfl, rfl, rfl, rfl, rfl, -⟩ := hv.shape
  have HF := hide ((Fx.one' hb).alloc rfl #[.int .i64 kind, .string name, .slice na nn nc, .slice pa pn pc, .bool many] 25)
  have HCE : Hid (∀ w', Below W0.heap.size W0 w' → Calls Try.prog 25 #[.agg #[.int .i64 kind, .string name, .slice na nn nc, .slice pa pn pc, .bool many]] w' fun e w'' => e = .returned (.bool (evenT T)) ∧ Below w'.heap.size w' w'') := fun w' h => pEven_t T _ w' hm (hv.below h)
  have HCW : Hid (∀ w', Below W0.heap.size W0 w' → Calls Try.prog 13 #[.agg #[.int .i64 kind, .string name, .slice na nn nc, .slice pa pn pc, .bool many]] w' fun e w'' => e = .returned (.int .i64 (sizeT T)) ∧ Below w'.heap.size w' w'') := fun w' h => pWords_t T _ w' hm (hv.below h)
  have HL : Hid (∀ w' L, Fx (· = b) w w' L → Below W0.heap.size W0 w') := fun w' L h => h.low hB hb0
  clear hv hb hE hN hm hB hb0
  generalize evenT T = ev at *
  generalize sizeT T = sz at *
  have key : ∀ (wr : World), Hid (Fx (· = b) w wr [.row (.slice none 0 0) 39 2 0 [], .blk w.heap.size #[.int .i64 kind, .string name, .slice na nn nc, .slice pa pn pc, .bool many] 25, .blk b (ly a q) 43]) → True := fun _ _ => trivial
  clear key
  cases ev
  · obtain ⟨rfl, rfl⟩ := HA.out.2 rfl
    go_enter Try.func14, Try.ntmps14
    go_wp2_with fail
    go_at_call 25
    refine (HCE.out _ (HL.out _ _ HF.out)).mono ?_
    rintro e w1 ⟨rfl, hb⟩
    replace HF := hide (HF.out.call hb)
    clear hb
    have c0 := HF.out.cell 0 rfl
    go_wp2_with fail
    go_at_call 13
    refine (HCW.out _ (HL.out _ _ HF.out)).mono ?_
    rintro e w2 ⟨rfl, hb⟩
    replace HF := hide ((HF.out.call hb).nil 39 2)
    clear hb c0 HCE HCW HA
    go_wp2_with fail
    go_loopw [7, 18] (fun rv i wr => ∃ k : Nat, k ≤ sz ∧ i = .int .i64 k ∧ Hid (Fx (· = b) w wr [.row rv 39 2 k (locV (lay a q k)), .blk w.heap.size #[.int .i64 kind, .string name, .slice na nn nc, .slice pa pn pc, .bool many] 25, .blk b (ly (adv a q k).1 (adv a q k).2) 43])) (fun _ i _ => sz - (intOf i).toNat)
    case atStart => exact ⟨0, Nat.zero_le _, rfl, HF⟩
    case round =>
      clear HF
      obtain ⟨k, hk, rfl, HF⟩ := hrel
      by_cases hlt : k < sz
      · have hlt' : (k : Int) < sz := by omega
        have HC := hide (next_any b a q k _ (HF.out.fr.get (i := 2) rfl).2 (by have := (adv_bounds a q k).2.1; omega))
        go_wp2_with fail
        go_at_call 12
        refine HC.out.mono ?_
        rintro e w3 ⟨x, hx, rfl, h1, h2⟩
        obtain ⟨x1, x2⟩ := x
        have HG := hide (HF.out.via 2 rfl h2 h1)
        have HX := hide hx
        clear h1 h2 hx HC HF
        go_wp2_with (at_builtin; first | (have HAl := HG.out.alloc rfl #[.bool x1, .int .i64 x2] 39; refine Fx.one 36 info39 Try.underlying36 rfl (by decide) (by decide) HAl 0 (n := k) rfl (by omega) _ _ rfl rfl rfl rfl rfl rfl ?_; intro g5 cap5 w5 h5; have HF5 := hide h5; clear h5))
        go_roundw
        case rel =>
          refine ⟨k + 1, by omega, by go_num, ?_⟩
          show Fx _ _ _ _
          rw [HX.out, locV_append]
          exact HF5.out
        case measure => simp [intOf]; omega
      · obtain rfl : k = sz := by omega
        have hlt' : ¬ (k : Int) < k := by omega
        go_wp2_with fail
        go_ret
        exact ⟨_, rfl, fx_other HF.out (i := 0) (j := 2) rfl rfl (by decide), (HF.out.fr.get (i := 2) rfl).2, HF.out.grown⟩
  · obtain ⟨rfl, rfl⟩ := HA.out.1 rfl
    have HCL : Hid (∀ w', w'.heap[b]? = some (.cells (ly r p) 43 (0, 0)) → Calls Try.prog 26 #[.pointer (some ⟨b, 0, none⟩)] w' fun e w'' => e = .returned (.tuple #[]) ∧ w''.heap[b]? = some (.cells (ly (upN r) (if upN r = 4 then upN p else p)) 43 (0, 0)) ∧ w'.grownBy w'' (some b)) := fun w' h => leave_any b r p w' h hr (by omega)
    generalize upN r = a at *
    generalize (if a = 4 then upN p else p) = q at *
    go_enter Try.func14, Try.ntmps14
    go_wp2_with fail
    go_at_call 25
    refine (HCE.out _ (HL.out _ _ HF.out)).mono ?_
    rintro e w1 ⟨rfl, hb⟩
    replace HF := hide (HF.out.call hb)
    clear hb
    go_wp2_with fail
    go_at_call 26
    refine (HCL.out _ (HF.out.fr.get (i := 1) rfl).2).mono ?_
    rintro e w1 ⟨rfl, h1, h2⟩
    replace HF := hide (HF.out.via 1 rfl h2 h1)
    clear h1 h2
    have c0 := HF.out.cell 0 rfl
    go_wp2_with fail
    go_at_call 13
    refine (HCW.out _ (HL.out _ _ HF.out)).mono ?_
    rintro e w2 ⟨rfl, hb⟩
    replace HF := hide ((HF.out.call hb).nil 39 2)
    clear hb c0 HCE HCW HA HCL
    go_wp2_with fail
    go_loopw [7, 18] (fun rv i wr => ∃ k : Nat, k ≤ sz ∧ i = .int .i64 k ∧ Hid (Fx (· = b) w wr [.row rv 39 2 k (locV (lay a q k)), .blk w.heap.size #[.int .i64 kind, .string name, .slice na nn nc, .slice pa pn pc, .bool many] 25, .blk b (ly (adv a q k).1 (adv a q k).2) 43])) (fun _ i _ => sz - (intOf i).toNat)
    case atStart => exact ⟨0, Nat.zero_le _, rfl, HF⟩
    case round =>
      clear HF
      obtain ⟨k, hk, rfl, HF⟩ := hrel
      by_cases hlt : k < sz
      · have hlt' : (k : Int) < sz := by omega
        have HC := hide (next_any b a q k _ (HF.out.fr.get (i := 2) rfl).2 (by have := (adv_bounds a q k).2.1; omega))
        go_wp2_with fail
        go_at_call 12
        refine HC.out.mono ?_
        rintro e w3 ⟨x, hx, rfl, h1, h2⟩
        obtain ⟨x1, x2⟩ := x
        have HG := hide (HF.out.via 2 rfl h2 h1)
        have HX := hide hx
        clear h1 h2 hx HC HF
        go_wp2_with (at_builtin; first | (have HAl := HG.out.alloc rfl #[.bool x1, .int .i64 x2] 39; refine Fx.one 36 info39 Try.underlying36 rfl (by decide) (by decide) HAl 0 (n := k) rfl (by omega) _ _ rfl rfl rfl rfl rfl rfl ?_; intro g5 cap5 w5 h5; have HF5 := hide h5; clear h5))
        go_roundw
        case rel =>
          refine ⟨k + 1, by omega, by go_num, ?_⟩
          show Fx _ _ _ _
          rw [HX.out, locV_append]
          exact HF5.out
        case measure => simp [intOf]; omega
      · obtain rfl : k = sz := by omega
        have hlt' : ¬ (k : Int) < k := by omega
        go_wp2_with fail
        go_ret
        exact ⟨_, rfl, fx_other HF.out (i := 0) (j := 2) rfl rfl (by decide), (HF.out.fr.get (i := 2) rfl).2, HF.out.grown⟩
end Go.Proofs.Ytmbhcpnlfdgkjaa.T
