/- The contract of the program's words. -/
import Derived.Test.YtmbhcpnlfdgkjaaPField
namespace Go.Proofs.Ytmbhcpnlfdgkjaa.T
open Go.RowKit Go.Shelf
set_option linter.unusedVariables false
set_option linter.unusedSimpArgs false
attribute [local go_sem] Oper.semAt_some
/-- Where the fields that have come end. -/
def lastEnd {pn : Nat} (sz : Nat → Nat) (ev : Nat → Bool) (pre : List (Fin pn)) : Nat := match pre.getLast? with | none => 0 | some x => placeN sz ev x + sz x
theorem lastEnd_snoc {pn : Nat} (sz : Nat → Nat) (ev : Nat → Bool) (pre : List (Fin pn)) (x : Fin pn) : lastEnd sz ev (pre ++ [x]) = placeN sz ev x + sz x := by simp [lastEnd]
theorem lastEnd_all (pn : Nat) (sz : Nat → Nat) (ev : Nat → Bool) : lastEnd sz ev (List.finRange pn) = endN sz ev pn := by
  cases pn with
  | zero => rfl
  | succ m =>
    rw [← upto_all, upto_succ (Nat.lt_succ_self m), lastEnd_snoc]
    rfl
theorem own_block {β : Type} (b : Nat) (cur : Array Value) (t : TypeId) : Own (fun (_ : β) W => W.heap[b]? = some (.cells cur t (0, 0))) := fun s X Y row hs hg hrow =>
  (hg.block b (Array.getElem?_eq_some_iff.1 hs).1 (fun e' => by obtain ⟨o, ho, hc⟩ := hrow b e'.symm; rw [hs] at ho; cases ho; cases hc)).trans hs
theorem kp_set {n E : Nat} {W : World} {t : TypeId} {u : Value} (h : Boxed W E t u) (ht : t ≠ 25) (hn : n ≤ E) (v : Value) : Kp n W (W.setCell ⟨E, 0, none⟩ v) := by
  refine ⟨(Below.refl n W).setCell (p := ⟨E, 0, none⟩) hn _, fun k o hk ho => (Below.heap_setCell _ _ _ k (fun e => ?_)).trans hk⟩
  obtain ⟨cur, rfl⟩ := ho
  rw [e, show W.heap[E]? = _ from h] at hk
  simp at hk
  exact ht hk.2
set_option maxRecDepth 100000 in
set_option maxHeartbeats 2000000 in
theorem words_any : ∀ (T : Ty), Few T → ∀ (v : Value) (w : World), TyV w T v → Calls Try.prog 24 #[v] w fun e w' => e = .returned (.int .i64 (sizeT T)) ∧ Below w.heap.size w w' := by
  intro T
  induction T with
  | leaf => intro _ v w hv; exact (TyV_leaf hv).elim
  | mk kind name nn names pn parts many ih =>
    intro hF v w hv
    have hF' := hF
    unfold Few at hF'
    have HI : Hid (∀ i, i < pn → ∀ v w, TyV w (parts i) v → Calls Try.prog 24 #[v] w fun e w' => e = .returned (.int .i64 (sizeT (parts i))) ∧ Below w.heap.size w w') := fun i hi v w hv => ih i (hF'.2 i hi).1 v w hv
    have hsm : ∀ i, i < pn → sizeT (parts i) ≤ 12 := fun i hi => (hF'.2 i hi).2
    have hfew := hF'.1
    rw [sizeT_mk]
    obtain ⟨na, nc, pa, pc, rfl, hS, q1, q2, q3, q4, q5, q6, q7, HP⟩ := hv.part
    have HT := hide hv
    clear ih hv hS hF hF'
    have hB0 : Below w.heap.size w (w.alloc (.cells #[.int .i64 kind, .string name, .slice na nn nc, .slice pa pn pc, .bool many] 25)) := (Below.refl _ _).alloc (Nat.le_refl _) _
    by_cases k2 : kind = 2
    · subst k2
      rw [if_pos rfl]
      go_enter Try.func24, Try.ntmps24
      go_wp2_with fail
      go_ret
      exact ⟨rfl, hB0⟩
    · have k2' : (kind == 2) = false := by simpa using k2
      rw [if_neg k2]
      by_cases k3 : kind = 3
      · rw [if_pos k3]
        subst k3
        obtain ⟨pv, hpv⟩ := parts_at HP.out
        have HPV := hide hpv
        obtain ⟨sz, hsz⟩ : ∃ sz : Nat → Nat, (fun i => sizeT (parts i)) = sz := ⟨_, rfl⟩
        have HI2 : Hid (∀ i, i < pn → ∀ v w, TyV w (parts i) v → Calls Try.prog 24 #[v] w fun e w' => e = .returned (.int .i64 (sz i)) ∧ Below w.heap.size w w') := by rw [← hsz]; exact HI
        have hsm2 : ∀ i, i < pn → sz i ≤ 12 := by rw [← hsz]; exact hsm
        rw [hsz]
        obtain ⟨ev, hev⟩ : ∃ ev : Nat → Bool, evs (.mk 3 name nn names pn parts many) pn parts = ev := ⟨_, rfl⟩
        have HEV : Hid (∀ i, i < pn → ev i = evenT (parts i)) := fun i hi => by rw [← hev]; unfold evs; rw [if_pos hi]
        have hEVe : ev pn = evenT (.mk 3 name nn names pn parts many) := by rw [← hev]; unfold evs; rw [if_neg (by omega)]
        rw [hev]
        clear hpv hsz hev HI hsm HP
        refine (callsIn_wide (n := 5)).1 ?_
        refine callsIn_of_wp_marks Try.func24 rfl trivial ?_ rfl
        simp only [Try.ntmps24, List.size_toArray, List.length_cons, List.length_nil, Nat.reduceAdd, Nat.reduceSub, Array.replicate_succ, Array.replicate_zero, List.push_toArray, List.append_toArray, List.nil_append, List.cons_append]
        gi_wp2
        refine ⟨trivial, ?_⟩
        refine (callsIn_wide.2 (fields_in 5 _ _ _ _ _ _ _ _ _ _)).mono ?_
        rintro e w1 ⟨rfl, rfl⟩
        gi_wp2
        -- the loop
        have hB1 : Below w.heap.size w (((w.alloc (.cells #[Value.int .i64 3, .string name, .slice na nn nc, .slice pa pn pc, .bool many] 25)).alloc (.cells #[.int .i64 0] 3)).alloc (.cells #[Value.int .i64 3, .string name, .slice na nn nc, .slice pa pn pc, .bool many] 25)) := (hB0.alloc (by simp) _).alloc (by simp; omega) _
        have hsz0 : (((w.alloc (.cells #[Value.int .i64 3, .string name, .slice na nn nc, .slice pa pn pc, .bool many] 25)).alloc (.cells #[.int .i64 0] 3)).alloc (.cells #[Value.int .i64 3, .string name, .slice na nn nc, .slice pa pn pc, .bool many] 25)).heap.size = w.heap.size + 1 + 1 + 1 := by simp
        have bT : (((w.alloc (.cells #[Value.int .i64 3, .string name, .slice na nn nc, .slice pa pn pc, .bool many] 25)).alloc (.cells #[.int .i64 0] 3)).alloc (.cells #[Value.int .i64 3, .string name, .slice na nn nc, .slice pa pn pc, .bool many] 25)).heap[w.heap.size]? = some (.cells #[Value.int .i64 3, .string name, .slice na nn nc, .slice pa pn pc, .bool many] 25 (0, 0)) := (Below.heap_alloc _ _ _ (by simp; omega)).trans ((Below.heap_alloc _ _ _ (by simp)).trans (World.alloc_heap_new w _))
        have bE : Boxed (((w.alloc (.cells #[Value.int .i64 3, .string name, .slice na nn nc, .slice pa pn pc, .bool many] 25)).alloc (.cells #[.int .i64 0] 3)).alloc (.cells #[Value.int .i64 3, .string name, .slice na nn nc, .slice pa pn pc, .bool many] 25)) (w.heap.size + 1) 3 (.int .i64 0) := by
          have := (Boxed.new (w.alloc (.cells #[Value.int .i64 3, .string name, .slice na nn nc, .slice pa pn pc, .bool many] 25)) 3 (.int .i64 0)).alloc (.cells #[Value.int .i64 3, .string name, .slice na nn nc, .slice pa pn pc, .bool many] 25)
          simpa only [World.size_alloc] using this
        have bN : (((w.alloc (.cells #[Value.int .i64 3, .string name, .slice na nn nc, .slice pa pn pc, .bool many] 25)).alloc (.cells #[.int .i64 0] 3)).alloc (.cells #[Value.int .i64 3, .string name, .slice na nn nc, .slice pa pn pc, .bool many] 25)).heap[w.heap.size + 1 + 1]? = some (.cells #[Value.int .i64 3, .string name, .slice na nn nc, .slice pa pn pc, .bool many] 25 (0, 0)) := by
          have := World.alloc_heap_new ((w.alloc (.cells #[Value.int .i64 3, .string name, .slice na nn nc, .slice pa pn pc, .bool many] 25)).alloc (.cells #[.int .i64 0] 3)) (.cells #[Value.int .i64 3, .string name, .slice na nn nc, .slice pa pn pc, .bool many] 25)
          simpa only [World.size_alloc] using this
        generalize (((w.alloc (.cells #[Value.int .i64 3, .string name, .slice na nn nc, .slice pa pn pc, .bool many] 25)).alloc (.cells #[.int .i64 0] 3)).alloc (.cells #[Value.int .i64 3, .string name, .slice na nn nc, .slice pa pn pc, .bool many] 25)) = W0 at *
        have hpl0 : ∀ i, i ≤ pn → placeN sz ev i ≤ 13 * i := fun i hi => place_le (fun j hj => hsm2 j hj) i hi
        clear hB0
        refine wpIn_rangeFunc_ownH rfl (by omega) (gf := 39) (lb := #[.pointer (some ⟨w.heap.size + 1 + 1, 0, none⟩)]) rfl trivial (enters_of Try.func39 (by kernel_rfl) rfl)
          (fields_stops 4 (by omega) hfew sz ev hsm2 HEV HI2 w na pa nc pc pv HPV (w.heap.size + 1 + 1) W0 hB1 (by omega) (cells_at bN)) Kp.trans (kp_put (by omega)) (Below.refl _ _) (fun _ => rfl)
          (fun pre W => (Boxed W (w.heap.size + 1) 3 (.int .i64 (lastEnd sz ev pre)) ∧ W.heap[w.heap.size]? = some (.cells #[Value.int .i64 3, .string name, .slice na nn nc, .slice pa pn pc, .bool many] 25 (0, 0))) ∧ Below w.heap.size w W)
          (fun _ _ _ => False)
          (OwnFrom.and (OwnFrom.and (Own.from (boxed_own _ _ _) _) (Own.from (own_block _ _ _) _)) (ownFrom_below (Nat.le_refl _) (by omega)))
          (fun _ _ _ _ _ hs _ _ => hs)
          ⟨⟨bE, bT⟩, hB1⟩
          (fun x a' W => ∃ Bx kd nm xa xn xc ya yn yc my, pv x = .agg #[Value.int .i64 kd, .string nm, .slice xa xn xc, .slice ya yn yc, .bool my] ∧ w.heap.size + 1 < Bx ∧ W.heap[Bx]? = some (.cells #[Value.int .i64 kd, .string nm, .slice xa xn xc, .slice ya yn yc, .bool my] 25 (0, 0)) ∧ a' = { tmps := #[.agg #[.int .i64 3, .string name, .slice na nn nc, .slice pa pn pc, .bool many], .pointer (some ⟨w.heap.size, 0, none⟩), .int .i64 0, .pointer (some ⟨w.heap.size + 1, 0, none⟩), .int .i64 (placeN sz ev x), .pointer (some ⟨Bx, 0, none⟩), .pointer (some ⟨w.heap.size, 0, none⟩), .int .i64 3, .bool false, .bool false, .bool true, .bool true, .agg #[.int .i64 3, .string name, .slice na nn nc, .slice pa pn pc, .bool many], .func (.func 39) #[] #[.pointer (some ⟨w.heap.size + 1 + 1, 0, none⟩)], .int .i64 (placeN sz ev x), .agg #[Value.int .i64 kd, .string nm, .slice xa xn xc, .slice ya yn yc, .bool my], undef, undef, undef, undef, undef, undef, undef, undef, undef, undef, undef], defers := [] })
          (fun x a' _ X Y row hs hg hr => by obtain ⟨Bx, kd, nm, xa, xn, xc, ya, yn, yc, my, h1, h2, h3, h4⟩ := hs; exact ⟨Bx, kd, nm, xa, xn, xc, ya, yn, yc, my, h1, h2, own_block Bx #[Value.int .i64 kd, .string nm, .slice xa xn xc, .slice ya yn yc, .bool my] 25 () X Y row h3 hg (fun r e => (hr r e).2), h4⟩)
          ?assign ?body ?done ?stop
        case assign =>
          rintro l pre x W K ⟨⟨bE1, bT1⟩, hB2⟩ hK
          obtain ⟨b, o, kd, nm, xa, xn, xc, ya, yn, yc, my, hpa, hb, hpe, -⟩ := HPV.out x x.2
          rw [hpe]
          clear hpa hb
          have HKK := hide hK
          clear hK
          gi_wp2
          exact HKK.out _ _ ((KeepsOthers.alloc _ _).from _) (Kp.of ((Below.refl _ W).alloc (Nat.le_refl _) _) hB2.size) ⟨⟨bE1.alloc _, (Below.heap_alloc _ _ _ (Array.getElem?_eq_some_iff.1 bT1).1).trans bT1⟩, hB2.alloc hB2.size _⟩ ⟨W.heap.size, kd, nm, xa, xn, xc, ya, yn, yc, my, hpe, bE1.lt, World.alloc_heap_new W _, rfl⟩
        case body =>
          rintro l pre x a' W hl ⟨r, hr⟩ ⟨⟨bE1, bT1⟩, hB2⟩ ⟨Bx, kd, nm, xa, xn, xc, ya, yn, yc, my, hpe, hBx, bX, rfl⟩ hlt
          have cX := cells_at bX
          obtain ⟨b, o, _, _, _, _, _, _, _, _, _, hpa, hb, _, _, _, _, _, _, g5⟩ := HPV.out x x.2
          rw [hpe] at g5
          have hcal := HI2.out x x.2 _ W (g5.below hB2)
          have HE1 := hide bE1
          have HT1 := hide bT1
          have HB2 := hide hB2
          have hsx := hsm2 x x.2
          have hpx := hpl0 x (Nat.le_of_lt x.2)
          have hadd : IntKind.i64.wrap ((placeN sz ev x : Int) + (sz x : Int)) = ((lastEnd sz ev (pre ++ [x]) : Nat) : Int) := by
            rw [IntKind.wrap_i64, lastEnd_snoc]; have := x.2; omega
          clear bE1 bT1 hB2 hr hpa bX
          gi_wp2
          refine ⟨trivial, ?_⟩
          refine (CallsIn.inRound l (callsIn_wide.2 hcal)).mono ?_
          rintro e w1 ⟨rfl, hb1⟩
          have bE2 := Boxed.below HE1.out hb1
          have HB3 : Hid (Below w.heap.size w w1) := HB2.out.trans (hb1.mono HB2.out.size)
          have cE := bE2.cell
          have fE := bE2.frozen
          have HE2 := hide bE2
          have HT2 : Hid (w1.heap[w.heap.size]? = some (.cells #[Value.int .i64 3, .string name, .slice na nn nc, .slice pa pn pc, .bool many] 25 (0, 0))) := (hb1.block _ (Array.getElem?_eq_some_iff.1 HT1.out).1).trans HT1.out
          have Hb1 := hide hb1
          clear bE2 hb1 hcal cX
          gi_wp2
          exact ⟨(keeps_of Hb1.out).trans ((KeepsOthers.setCell _ _ _).from _), (Kp.of Hb1.out HB2.out.size).trans (kp_set HE2.out (by decide) (by omega) _), ⟨⟨HE2.out.set _, (Below.heap_setCell _ _ _ _ (by simp)).trans HT2.out⟩, HB3.out.setCell (p := ⟨w.heap.size + 1, 0, none⟩) (by simp) _⟩⟩
        case done =>
          rintro D ys W hD rfl ⟨⟨bE1, bT1⟩, hB2⟩ hK
          rw [lastEnd_all] at bE1
          have hpe := place_end sz ev pn
          have hle := (rnd_le (ev pn) (endN sz ev pn)).1
          rw [← hpe] at hle
          have l1 := hpl0 pn (Nat.le_refl _)
          have hevc := peven_any _ _ W (HT.out.below hB2)
          rw [← hEVe] at hevc
          have cT := cells_at bT1
          have HE1 := hide bE1
          have HT1 := hide bT1
          have HB2 := hide hB2
          have HK := hide hK
          generalize endN sz ev pn = en at *
          clear bE1 bT1 hB2 hK
          cases hE : ev pn with
          | false =>
            have HPE : Hid (placeN sz ev pn = en) := by show _ = _; rw [hpe, hE]; simp [rnd]
            rw [hE] at hevc
            clear hpe
            gi_wp2
            refine ⟨trivial, ?_⟩
            refine (callsIn_wide.2 hevc).mono ?_
            rintro e w2 ⟨rfl, hb2⟩
            have bE2 := Boxed.below HE1.out hb2
            have cE := bE2.cell
            have fE := bE2.frozen
            have HK2 : Hid (w2.heap[D]? = some (.deferred (some []))) := (hb2.block D (Array.getElem?_eq_some_iff.1 HK.out).1).trans HK.out
            have HB3 : Hid (Below w.heap.size w w2) := HB2.out.trans (hb2.mono HB2.out.size)
            have HE2 := hide bE2
            clear bE2 hb2 hevc cT
            gi_wp2
            refine ⟨by simp, .inl ⟨_, _, rfl, run_takeDeferred HK2.out, ?_⟩⟩
            exact ⟨_, results_tmp rfl _ _ _, by rw [HPE.out]; rfl, HB3.out.trans (belowK_b (w := w) (Nat.le_refl _) w2 D _ _ (by omega) HK2.out rfl rfl)⟩
          | true =>
            rw [hE] at hevc
            by_cases od : en % 2 = 1
            · have HPE : Hid (placeN sz ev pn = en + 1) := by show _ = _; rw [hpe, hE]; simp [rnd, od]
              have hrm : (en : Int).tmod 2 = 1 := by rw [Int.tmod_eq_emod_of_nonneg (by omega)]; omega
              have hrm2 : (en : Int) % 2 = 1 := by omega
              have hw1 : IntKind.i64.wrap ((en : Int) + 1) = ((en + 1 : Nat) : Int) := by rw [IntKind.wrap_i64]; omega
              have HOD := hide od
              clear od hpe
              gi_wp2
              refine ⟨trivial, ?_⟩
              refine (callsIn_wide.2 hevc).mono ?_
              rintro e w2 ⟨rfl, hb2⟩
              have bE2 := Boxed.below HE1.out hb2
              have cE := bE2.cell
              have fE := bE2.frozen
              have HK2 : Hid (w2.heap[D]? = some (.deferred (some []))) := (hb2.block D (Array.getElem?_eq_some_iff.1 HK.out).1).trans HK.out
              have HB3 : Hid (Below w.heap.size w w2) := HB2.out.trans (hb2.mono HB2.out.size)
              have HE2 := hide bE2
              clear bE2 hb2 hevc cT
              gi_wp2
              have cS : (w2.setCell ⟨w.heap.size + 1, 0, none⟩ (.int .i64 ((en : Int) + 1))).cell? ⟨w.heap.size + 1, 0, none⟩ = some (.int .i64 ((en : Int) + 1)) := (HE2.out.set _).cell
              have HK3 : Hid ((w2.setCell ⟨w.heap.size + 1, 0, none⟩ (.int .i64 ((en : Int) + 1))).heap[D]? = some (.deferred (some []))) := (KeepsOthers.setCell _ _ _).same D _ HK2.out rfl
              have HB4 : Hid (Below w.heap.size w (w2.setCell ⟨w.heap.size + 1, 0, none⟩ (.int .i64 ((en : Int) + 1)))) := HB3.out.setCell (p := ⟨w.heap.size + 1, 0, none⟩) (by simp) _
              gi_wp2
              refine ⟨by simp, .inl ⟨_, _, rfl, run_takeDeferred HK3.out, ?_⟩⟩
              exact ⟨_, results_tmp rfl _ _ _, by rw [HPE.out]; rfl, HB4.out.trans (belowK_b (w := w) (Nat.le_refl _) _ D _ _ (by omega) HK3.out rfl rfl)⟩
            · have HPE : Hid (placeN sz ev pn = en) := by show _ = _; rw [hpe, hE]; simp [rnd, od]
              have hrm : (en : Int).tmod 2 = 0 := by rw [Int.tmod_eq_emod_of_nonneg (by omega)]; omega
              have hrm2 : (en : Int) % 2 = 0 := by omega
              have hw1 : IntKind.i64.wrap ((en : Int) + 0) = (en : Int) := by rw [IntKind.wrap_i64]; omega
              have hw2 : IntKind.i64.wrap (en : Int) = (en : Int) := by rw [IntKind.wrap_i64]; omega
              have HOD := hide od
              clear od hpe
              gi_wp2
              refine ⟨trivial, ?_⟩
              refine (callsIn_wide.2 hevc).mono ?_
              rintro e w2 ⟨rfl, hb2⟩
              have bE2 := Boxed.below HE1.out hb2
              have cE := bE2.cell
              have fE := bE2.frozen
              have HK2 : Hid (w2.heap[D]? = some (.deferred (some []))) := (hb2.block D (Array.getElem?_eq_some_iff.1 HK.out).1).trans HK.out
              have HB3 : Hid (Below w.heap.size w w2) := HB2.out.trans (hb2.mono HB2.out.size)
              have HE2 := hide bE2
              clear bE2 hb2 hevc cT
              gi_wp2
              have cS : (w2.setCell ⟨w.heap.size + 1, 0, none⟩ (.int .i64 en)).cell? ⟨w.heap.size + 1, 0, none⟩ = some (.int .i64 en) := (HE2.out.set _).cell
              have HK3 : Hid ((w2.setCell ⟨w.heap.size + 1, 0, none⟩ (.int .i64 en)).heap[D]? = some (.deferred (some []))) := (KeepsOthers.setCell _ _ _).same D _ HK2.out rfl
              have HB4 : Hid (Below w.heap.size w (w2.setCell ⟨w.heap.size + 1, 0, none⟩ (.int .i64 en))) := HB3.out.setCell (p := ⟨w.heap.size + 1, 0, none⟩) (by simp) _
              gi_wp2
              refine ⟨by simp, .inl ⟨_, _, rfl, run_takeDeferred HK3.out, ?_⟩⟩
              exact ⟨_, results_tmp rfl _ _ _, by rw [HPE.out]; rfl, HB4.out.trans (belowK_b (w := w) (Nat.le_refl _) _ D _ _ (by omega) HK3.out rfl rfl)⟩
        case stop =>
          rintro D c pre W _ _ h _
          exact h.elim
      · have k3' : (kind == 3) = false := by simpa using k3
        rw [if_neg k3]
        go_enter Try.func24, Try.ntmps24
        go_wp2_with fail
        go_ret
        exact ⟨rfl, hB0⟩
end Go.Proofs.Ytmbhcpnlfdgkjaa.T
