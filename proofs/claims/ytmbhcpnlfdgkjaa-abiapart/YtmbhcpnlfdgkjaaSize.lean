/- The contracts of the reference's Place and Size. -/
import Derived.Test.YtmbhcpnlfdgkjaaEven
import Derived.Deep.DeepCutAuto
import Derived.Deep.RegionHeldLaw
namespace Go.Proofs.Ytmbhcpnlfdgkjaa.T
open Go.RowKit
set_option linter.unusedVariables false
set_option linter.unusedSimpArgs false

/-- Few parts, and few words of each, all through. -/
def Few : Ty → Prop
  | .leaf => False
  | .mk _ _ _ _ pn parts _ => pn ≤ 7 ∧ ∀ i, i < pn → Few (parts i) ∧ sizeT (parts i) ≤ 12
theorem rnd_le (e : Bool) (n : Nat) : n ≤ rnd e n ∧ rnd e n ≤ n + 1 := by unfold rnd; split <;> omega
theorem place_le {sz : Nat → Nat} {ev : Nat → Bool} {n : Nat} (h : ∀ i, i < n → sz i ≤ 12) : ∀ k, k ≤ n → placeN sz ev k ≤ 13 * k
  | 0, _ => by simp [placeN]
  | k + 1, hk => by
    have h1 := place_le (ev := ev) h k (by omega)
    have h2 := h k (by omega)
    have h3 := (rnd_le (ev (k + 1)) (placeN sz ev k + sz k)).2
    unfold placeN
    omega
/-- Which fields are even, and, behind the last, whether the struct is. -/
def evs (T : Ty) (pn : Nat) (parts : Nat → Ty) : Nat → Bool := fun i => if i < pn then evenT (parts i) else evenT T
theorem sizeT_mk (kind : Int) (name : ByteArray) (nn : Nat) (names : Nat → ByteArray) (pn : Nat) (parts : Nat → Ty) (many : Bool) :
    sizeT (.mk kind name nn names pn parts many) = if kind = 2 then 2 else if kind = 3 then placeN (fun i => sizeT (parts i)) (evs (.mk kind name nn names pn parts many) pn parts) pn else 1 := by
  rw [sizeT]; rfl
/-- Where the fields up to the i-th end. -/
def endN (sz : Nat → Nat) (ev : Nat → Bool) : Nat → Nat
  | 0 => 0
  | i + 1 => placeN sz ev i + sz i
theorem place_end (sz : Nat → Nat) (ev : Nat → Bool) : ∀ k, placeN sz ev k = rnd (ev k) (endN sz ev k)
  | 0 => by simp [placeN, endN, rnd]
  | k + 1 => rfl
variable {kind : Int} {name : ByteArray} {nn : Nat} {names : Nat → ByteArray} {pn : Nat} {parts : Nat → Ty} {many : Bool}
set_option maxRecDepth 100000 in
set_option maxHeartbeats 2000000 in
theorem place_step (hfew : pn ≤ 7) (hsm : ∀ i, i < pn → sizeT (parts i) ≤ 12) (hsize : Hid (∀ i, i < pn → ∀ v w, TyV w (parts i) v → Calls Try.prog 18 #[v] w fun e w' => e = .returned (.int .i64 (sizeT (parts i))) ∧ Below w.heap.size w w'))
    (sz : Nat → Nat) (ev : Nat → Bool) (hsz0 : Hid (sz = fun i => sizeT (parts i))) (hev0 : Hid (ev = evs (.mk kind name nn names pn parts many) pn parts)) (k : Nat) (hk : k ≤ pn)
    (hrec : Hid (∀ i, i < k → ∀ v w, TyV w (.mk kind name nn names pn parts many) v → Calls Try.prog 28 #[v, .int .i64 i] w fun e w' => e = .returned (.int .i64 (placeN sz ev i)) ∧ Below w.heap.size w w')) (v : Value) (w : World)
    (hv : TyV w (.mk kind name nn names pn parts many) v) : Calls Try.prog 28 #[v, .int .i64 k] w fun e w' => e = .returned (.int .i64 (placeN sz ev k)) ∧ Below w.heap.size w w' := by
  have hpl0 : ∀ i, i ≤ pn → placeN sz ev i ≤ 13 * i := fun i hi => place_le (fun j hj => by rw [hsz0.out]; exact hsm j hj) i hi
  have hsl : ∀ i, i < pn → sz i ≤ 12 := fun i hi => by rw [hsz0.out]; exact hsm i hi
  obtain ⟨na, nc, pa, pc, rfl, hS, q1, q2, q3, q4, q5, q6, q7, HP⟩ := hv.part
  have HT := hide hv
  clear hv hS
  go_enter Try.func28, Try.ntmps28
  go_wp2_with fail
  have hB0 : Below w.heap.size w (w.alloc (.cells #[.int .i64 kind, .string name, .slice na nn nc, .slice pa pn pc, .bool many] 25)) := (Below.refl _ _).alloc (Nat.le_refl _) _
  have hx0 : ∀ o, (w.alloc (.cells #[.int .i64 kind, .string name, .slice na nn nc, .slice pa pn pc, .bool many] 25)).cell? ⟨w.heap.size, o, none⟩ = (#[Value.int .i64 kind, .string name, .slice na nn nc, .slice pa pn pc, .bool many])[o]? := fun o => World.cell?_alloc_at _ _ _ _ rfl
  have hz0 : (w.alloc (.cells #[.int .i64 kind, .string name, .slice na nn nc, .slice pa pn pc, .bool many] 25)).heap.size = w.heap.size + 1 := by simp
  generalize w.alloc (.cells #[.int .i64 kind, .string name, .slice na nn nc, .slice pa pn pc, .bool many] 25) = W at *
  have HL := hide (And.intro hpl0 hsl)
  have HW : Hid (∀ w', Below W.heap.size W w' → Below w.heap.size w w') := fun w' hw => hB0.trans (hw.mono (by omega))
  have HXc : Hid (∀ w', Below W.heap.size W w' → ∀ o, w'.cell? ⟨w.heap.size, o, none⟩ = (#[Value.int .i64 kind, .string name, .slice na nn nc, .slice pa pn pc, .bool many])[o]?) := fun w' hw o => (hw.cell (p := ⟨w.heap.size, o, none⟩) (by show w.heap.size < _; omega)).trans (hx0 o)
  clear hx0 hz0 hB0 hpl0 hsl
  go_loopw [5, 6] (fun at' i' wr => ∃ i : Nat, i ≤ k ∧ at' = .int .i64 (endN sz ev i) ∧ i' = .int .i64 i ∧ Hid (Below W.heap.size W wr)) (fun _ i' _ => k - (intOf i').toNat)
  case atStart => exact ⟨0, Nat.zero_le _, rfl, rfl, Below.refl _ _⟩
  case round =>
    obtain ⟨i, hi, rfl, rfl, HB⟩ := hrel
    have hx1 := HXc.out wr HB.out
    have HBw : Hid (Below w.heap.size w wr) := HW.out wr HB.out
    by_cases hlt : i < k
    · have hlt' : (i : Int) < k := by omega
      have hidx : (0 : Int) ≤ i ∧ (i : Int) < pn := by omega
      obtain ⟨b, o, rfl, hb, hc⟩ := HP.out (by omega)
      obtain ⟨c0, c1, c2, c3, c4, g0, g1, g2, g3, g4, g5⟩ := hc i (by omega)
      have hpl := fun w' (hw : Below W.heap.size W w') => hrec.out i hlt _ w' (HT.out.below (HW.out w' hw))
      have hsz := fun w' (hw : Below W.heap.size W w') => hsize.out i (by omega) _ w' (g5.below (HW.out w' hw))
      rw [show sizeT (parts i) = sz i by rw [hsz0.out]] at hsz
      have l1 := HL.out.1 i (by omega)
      have l2 := HL.out.2 i (by omega)
      have hadd : IntKind.i64.wrap ((placeN sz ev i : Int) + (sz i : Int)) = ((endN sz ev (i + 1) : Nat) : Int) := by
        rw [IntKind.wrap_i64]
        show _ = ((placeN sz ev i + sz i : Nat) : Int)
        omega
      have HSb : Hid (∀ w', Below W.heap.size W w' → (∀ o', w'.cell? ⟨w.heap.size, o', none⟩ = (#[Value.int .i64 kind, .string name, .slice na nn nc, .slice (some ⟨b, o, none⟩) pn pc, .bool many])[o']?) ∧ w'.cell? ⟨b, o + i * 5, none⟩ = some c0 ∧ w'.cell? ⟨b, o + i * 5 + 1, none⟩ = some c1 ∧ w'.cell? ⟨b, o + i * 5 + 2, none⟩ = some c2 ∧ w'.cell? ⟨b, o + i * 5 + 3, none⟩ = some c3 ∧ w'.cell? ⟨b, o + i * 5 + 4, none⟩ = some c4) := fun w' hw => ⟨fun o' => (HXc.out w' hw o'), ((HW.out w' hw).cell (p := ⟨b, o + i * 5, none⟩) hb).trans g0, ((HW.out w' hw).cell (p := ⟨b, o + i * 5 + 1, none⟩) hb).trans g1, ((HW.out w' hw).cell (p := ⟨b, o + i * 5 + 2, none⟩) hb).trans g2, ((HW.out w' hw).cell (p := ⟨b, o + i * 5 + 3, none⟩) hb).trans g3, ((HW.out w' hw).cell (p := ⟨b, o + i * 5 + 4, none⟩) hb).trans g4⟩
      clear g0 g1 g2 g3 g4 g5 hc
      go_wp2_with fail
      · have HBd : Hid (Below W.heap.size W wr.drew) := HB.out.drew
        refine wp_region_held_drew (S := fun w' => (∀ o', w'.cell? ⟨w.heap.size, o', none⟩ = (#[Value.int .i64 kind, .string name, .slice na nn nc, .slice (some ⟨b, o, none⟩) pn pc, .bool many])[o']?) ∧ w'.cell? ⟨b, o + i * 5, none⟩ = some c0 ∧ w'.cell? ⟨b, o + i * 5 + 1, none⟩ = some c1 ∧ w'.cell? ⟨b, o + i * 5 + 2, none⟩ = some c2 ∧ w'.cell? ⟨b, o + i * 5 + 3, none⟩ = some c3 ∧ w'.cell? ⟨b, o + i * 5 + 4, none⟩ = some c4) (by kernel_rfl) (HSb.out _ HBd.out) (fun hHeld => ?_)
        refine wpAnyH_take (i := 0) (v := ?_) rfl (by kernel_rfl) (by kernel_rfl) (by kernel_rfl) (fun _ _ _ h => h) (Or.inl ⟨by rfl, ?_⟩) (by assumption) ?_
        rotate_left
        · (intro w hSw; (try dsimp only at hSw); go_simp) <;> with_reducible rfl
        (simp only [Act.put, List.getElem_toArray, List.getElem_cons_zero, List.getElem_cons_succ, List.setIfInBounds_toArray, List.set_cons_zero, List.set_cons_succ])
        refine wpAnyH_take (i := 1) (v := ?_) rfl (by kernel_rfl) (by kernel_rfl) (by kernel_rfl) (fun _ _ _ h => h) (Or.inl ⟨by rfl, ?_⟩) (by assumption) ?_
        rotate_left
        · (intro w hSw; (try dsimp only at hSw); go_simp) <;> with_reducible rfl
        (simp only [Act.put, List.getElem_toArray, List.getElem_cons_zero, List.getElem_cons_succ, List.setIfInBounds_toArray, List.set_cons_zero, List.set_cons_succ])
        refine wpAnyH_take (i := 3) (v := ?_) rfl (by kernel_rfl) (by kernel_rfl) (by kernel_rfl) (fun _ _ _ h => h) (Or.inl ⟨by rfl, ?_⟩) (by assumption) ?_
        rotate_left
        · (intro w hSw; (try dsimp only at hSw); go_simp) <;> with_reducible rfl
        (simp only [Act.put, List.getElem_toArray, List.getElem_cons_zero, List.getElem_cons_succ, List.setIfInBounds_toArray, List.set_cons_zero, List.set_cons_succ])
        refine wpAnyH_take (i := 4) (v := ?_) rfl (by kernel_rfl) (by kernel_rfl) (by kernel_rfl) (fun _ _ _ h => h) (Or.inl ⟨by rfl, ?_⟩) (by assumption) ?_
        rotate_left
        · (intro w hSw; (try dsimp only at hSw); go_simp) <;> with_reducible rfl
        (simp only [Act.put, List.getElem_toArray, List.getElem_cons_zero, List.getElem_cons_succ, List.setIfInBounds_toArray, List.set_cons_zero, List.set_cons_succ])
        refine wpAnyH_take (i := 5) (v := ?_) rfl (by kernel_rfl) (by kernel_rfl) (by kernel_rfl) (fun _ _ _ h => h) (Or.inl ⟨by rfl, ?_⟩) (by assumption) ?_
        rotate_left
        · (intro w hSw; (try dsimp only at hSw); go_simp) <;> with_reducible rfl
        (simp only [Act.put, List.getElem_toArray, List.getElem_cons_zero, List.getElem_cons_succ, List.setIfInBounds_toArray, List.set_cons_zero, List.set_cons_succ])
        refine wpAnyH_take (i := 6) (v := ?_) rfl (by kernel_rfl) (by kernel_rfl) (by kernel_rfl) (fun _ _ _ h => h) (Or.inl ⟨by rfl, ?_⟩) (by assumption) ?_
        rotate_left
        · (intro w hSw; (try dsimp only at hSw); go_simp) <;> with_reducible rfl
        (simp only [Act.put, List.getElem_toArray, List.getElem_cons_zero, List.getElem_cons_succ, List.setIfInBounds_toArray, List.set_cons_zero, List.set_cons_succ])
        refine wpAnyH_take (i := 7) (v := ?_) rfl (by kernel_rfl) (by kernel_rfl) (by kernel_rfl) (fun _ _ _ h => h) (Or.inl ⟨by rfl, ?_⟩) (by assumption) ?_
        rotate_left
        · (intro w hSw; (try dsimp only at hSw); go_simp) <;> with_reducible rfl
        (simp only [Act.put, List.getElem_toArray, List.getElem_cons_zero, List.getElem_cons_succ, List.setIfInBounds_toArray, List.set_cons_zero, List.set_cons_succ])
        refine wpAnyH_ready (rs := [2]) (by kernel_rfl) (by simp) ?_
        refine AllReadyH.cons rfl (fun K hK => ?_) AllReadyH.nil
        go_simp
        refine (hpl _ HBd.out).mono ?_
        rintro e w1 ⟨rfl, hb1⟩
        have HC1 : Hid (Below W.heap.size W w1) := HBd.out.trans (hb1.mono HBd.out.size)
        refine hK.out _ _ (HSb.out _ HC1.out) (fun hHeld1 => ?_)
        clear hK K hb1
        (try simp only [Act.put, List.getElem_toArray, List.getElem_cons_zero, List.getElem_cons_succ, List.setIfInBounds_toArray, List.set_cons_zero, List.set_cons_succ])
        refine wpAnyH_ready (rs := [8]) (by kernel_rfl) (by simp) ?_
        refine AllReadyH.cons rfl (fun K hK => ?_) AllReadyH.nil
        go_simp
        refine (hsz _ HC1.out).mono ?_
        rintro e w2 ⟨rfl, hb2⟩
        have HC2 : Hid (Below W.heap.size W w2) := HC1.out.trans (hb2.mono HC1.out.size)
        refine hK.out _ _ (HSb.out _ HC2.out) (fun hHeld2 => ?_)
        clear hK K hb2
        (try simp only [Act.put, List.getElem_toArray, List.getElem_cons_zero, List.getElem_cons_succ, List.setIfInBounds_toArray, List.set_cons_zero, List.set_cons_succ])
        refine wpAnyH_take (i := 9) (v := ?_) rfl (by kernel_rfl) (by kernel_rfl) (by kernel_rfl) (fun _ _ _ h => h) (Or.inl ⟨by rfl, ?_⟩) (by assumption) ?_
        rotate_left
        · (intro w hSw; (try dsimp only at hSw); go_simp) <;> with_reducible rfl
        (simp only [Act.put, List.getElem_toArray, List.getElem_cons_zero, List.getElem_cons_succ, List.setIfInBounds_toArray, List.set_cons_zero, List.set_cons_succ])
        refine wpAnyH_take (i := 10) (v := ?_) rfl (by kernel_rfl) (by kernel_rfl) (by kernel_rfl) (fun _ _ _ h => h) (Or.inl ⟨by rfl, ?_⟩) (by assumption) ?_
        rotate_left
        · (intro w hSw; (try dsimp only at hSw); go_simp) <;> with_reducible rfl
        (simp only [Act.put, List.getElem_toArray, List.getElem_cons_zero, List.getElem_cons_succ, List.setIfInBounds_toArray, List.set_cons_zero, List.set_cons_succ])
        refine wpAnyH_done (by kernel_rfl) ?_ _
        go_wp2_with fail
        go_roundw
        case rel => exact ⟨i + 1, by omega, by go_num, rfl, HC2⟩
        case measure => simp [intOf]; omega
    · obtain rfl : i = k := by omega
      have hlt' : ¬ (i : Int) < i := by omega
      have l1 := HL.out.1 i hk
      have le := (rnd_le (ev i) (endN sz ev i)).1
      rw [← place_end] at le
      have hpe := place_end sz ev i
      generalize hen : endN sz ev i = en at *
      by_cases hip : i < pn
      · have hip' : (i : Int) < pn := by omega
        have hip2 : ¬ (pn : Int) ≤ i := by omega
        have hip3 : decide ((pn : Int) ≤ i) = false := by simpa using hip2
        have hip4 : decide (pn ≤ i) = false := by simp; omega
        have hip5 : decide (i < pn) = true := by simp; omega
        have hip6 : decide ((i : Int) < pn) = true := by simp; omega
        have hidx : (0 : Int) ≤ i ∧ (i : Int) < pn := by omega
        obtain ⟨b, o, rfl, hb, hc⟩ := HP.out (by omega)
        obtain ⟨c0, c1, c2, c3, c4, g0, g1, g2, g3, g4, g5⟩ := hc i hip
        have hev := fun w' (hw : Below W.heap.size W w') => even_any (parts i) _ w' (g5.below (HW.out w' hw))
        have hee : evenT (parts i) = ev i := by rw [hev0.out]; unfold evs; rw [if_pos hip]
        rw [hee] at hev
        have e0 : wr.cell? ⟨b, o + i * 5, none⟩ = some c0 := (HBw.out.cell (p := ⟨b, o + i * 5, none⟩) hb).trans g0
        have e1 : wr.cell? ⟨b, o + i * 5 + 1, none⟩ = some c1 := (HBw.out.cell (p := ⟨b, o + i * 5 + 1, none⟩) hb).trans g1
        have e2 : wr.cell? ⟨b, o + i * 5 + 2, none⟩ = some c2 := (HBw.out.cell (p := ⟨b, o + i * 5 + 2, none⟩) hb).trans g2
        have e3 : wr.cell? ⟨b, o + i * 5 + 3, none⟩ = some c3 := (HBw.out.cell (p := ⟨b, o + i * 5 + 3, none⟩) hb).trans g3
        have e4 : wr.cell? ⟨b, o + i * 5 + 4, none⟩ = some c4 := (HBw.out.cell (p := ⟨b, o + i * 5 + 4, none⟩) hb).trans g4
        clear g0 g1 g2 g3 g4 g5 hc hee
        cases hE : ev i with
        | false =>
          rw [hE] at hev
          have HPE : Hid (placeN sz ev i = en) := by show _ = _; rw [hpe, hE]; simp [rnd]
          have HH := hide (And.intro hpe hE)
          clear hpe hE
          · go_wp2_with fail
            go_at_call 19
            refine (hev _ HB.out).mono ?_
            rintro e w1 ⟨rfl, hb1⟩
            have hx2 := HXc.out w1 (HB.out.trans (hb1.mono HB.out.size))
            have HB1 : Hid (Below w.heap.size w w1) := HW.out _ (HB.out.trans (hb1.mono HB.out.size))
            clear hb1
            go_wp2_with fail
            go_ret
            exact ⟨by rw [HPE.out]; rfl, HB1.out⟩
        | true =>
          rw [hE] at hev
          by_cases od : en % 2 = 1
          · have HPE : Hid (placeN sz ev i = en + 1) := by show _ = _; rw [hpe, hE]; simp [rnd, od]
            have hrm : (en : Int).tmod 2 = 1 := by rw [Int.tmod_eq_emod_of_nonneg (by omega)]; omega
            have hrm2 : (en : Int) % 2 = 1 := by omega
            have hw1 : IntKind.i64.wrap ((en : Int) + 1) = ((en + 1 : Nat) : Int) := by rw [IntKind.wrap_i64]; omega
            have HH := hide (And.intro hpe (And.intro hE od))
            clear hpe hE od
            go_wp2_with fail
            go_at_call 19
            refine (hev _ HB.out).mono ?_
            rintro e w1 ⟨rfl, hb1⟩
            have hx2 := HXc.out w1 (HB.out.trans (hb1.mono HB.out.size))
            have HB1 : Hid (Below w.heap.size w w1) := HW.out _ (HB.out.trans (hb1.mono HB.out.size))
            clear hb1
            go_wp2_with fail
            go_ret
            exact ⟨by rw [HPE.out]; rfl, HB1.out⟩
          · have HPE : Hid (placeN sz ev i = en) := by show _ = _; rw [hpe, hE]; simp [rnd, od]
            have hrm : (en : Int).tmod 2 = 0 := by rw [Int.tmod_eq_emod_of_nonneg (by omega)]; omega
            have hrm2 : (en : Int) % 2 = 0 := by omega
            have HH := hide (And.intro hpe (And.intro hE od))
            clear hpe hE od
            go_wp2_with fail
            go_at_call 19
            refine (hev _ HB.out).mono ?_
            rintro e w1 ⟨rfl, hb1⟩
            have hx2 := HXc.out w1 (HB.out.trans (hb1.mono HB.out.size))
            have HB1 : Hid (Below w.heap.size w w1) := HW.out _ (HB.out.trans (hb1.mono HB.out.size))
            clear hb1
            go_wp2_with fail
            go_ret
            exact ⟨by rw [HPE.out]; rfl, HB1.out⟩
      · have hip' : ¬ (i : Int) < pn := by omega
        have hip2 : (pn : Int) ≤ i := by omega
        have hip3 : decide ((pn : Int) ≤ i) = true := by simpa using hip2
        have hip4 : decide (pn ≤ i) = true := by simp; omega
        have hip5 : decide (i < pn) = false := by simp; omega
        have hip6 : decide ((i : Int) < pn) = false := by simp; omega
        have hev := fun w' (hw : Below W.heap.size W w') => even_any _ _ w' (HT.out.below (HW.out w' hw))
        have hee : evenT (.mk kind name nn names pn parts many) = ev i := by rw [hev0.out]; unfold evs; rw [if_neg hip]
        rw [hee] at hev
        clear hee
        cases hE : ev i with
        | false =>
          rw [hE] at hev
          have HPE : Hid (placeN sz ev i = en) := by show _ = _; rw [hpe, hE]; simp [rnd]
          have HH := hide (And.intro hpe hE)
          clear hpe hE
          · go_wp2_with fail
            go_at_call 19
            refine (hev _ HB.out).mono ?_
            rintro e w1 ⟨rfl, hb1⟩
            have hx2 := HXc.out w1 (HB.out.trans (hb1.mono HB.out.size))
            have HB1 : Hid (Below w.heap.size w w1) := HW.out _ (HB.out.trans (hb1.mono HB.out.size))
            clear hb1
            go_wp2_with fail
            go_ret
            exact ⟨by rw [HPE.out]; rfl, HB1.out⟩
        | true =>
          rw [hE] at hev
          by_cases od : en % 2 = 1
          · have HPE : Hid (placeN sz ev i = en + 1) := by show _ = _; rw [hpe, hE]; simp [rnd, od]
            have hrm : (en : Int).tmod 2 = 1 := by rw [Int.tmod_eq_emod_of_nonneg (by omega)]; omega
            have hrm2 : (en : Int) % 2 = 1 := by omega
            have hw1 : IntKind.i64.wrap ((en : Int) + 1) = ((en + 1 : Nat) : Int) := by rw [IntKind.wrap_i64]; omega
            have HH := hide (And.intro hpe (And.intro hE od))
            clear hpe hE od
            go_wp2_with fail
            go_at_call 19
            refine (hev _ HB.out).mono ?_
            rintro e w1 ⟨rfl, hb1⟩
            have hx2 := HXc.out w1 (HB.out.trans (hb1.mono HB.out.size))
            have HB1 : Hid (Below w.heap.size w w1) := HW.out _ (HB.out.trans (hb1.mono HB.out.size))
            clear hb1
            go_wp2_with fail
            go_ret
            exact ⟨by rw [HPE.out]; rfl, HB1.out⟩
          · have HPE : Hid (placeN sz ev i = en) := by show _ = _; rw [hpe, hE]; simp [rnd, od]
            have hrm : (en : Int).tmod 2 = 0 := by rw [Int.tmod_eq_emod_of_nonneg (by omega)]; omega
            have hrm2 : (en : Int) % 2 = 0 := by omega
            have HH := hide (And.intro hpe (And.intro hE od))
            clear hpe hE od
            go_wp2_with fail
            go_at_call 19
            refine (hev _ HB.out).mono ?_
            rintro e w1 ⟨rfl, hb1⟩
            have hx2 := HXc.out w1 (HB.out.trans (hb1.mono HB.out.size))
            have HB1 : Hid (Below w.heap.size w w1) := HW.out _ (HB.out.trans (hb1.mono HB.out.size))
            clear hb1
            go_wp2_with fail
            go_ret
            exact ⟨by rw [HPE.out]; rfl, HB1.out⟩
theorem place_all (hfew : pn ≤ 7) (hsm : ∀ i, i < pn → sizeT (parts i) ≤ 12) (hsize : ∀ i, i < pn → ∀ v w, TyV w (parts i) v → Calls Try.prog 18 #[v] w fun e w' => e = .returned (.int .i64 (sizeT (parts i))) ∧ Below w.heap.size w w') :
    ∀ k, k ≤ pn → ∀ v w, TyV w (.mk kind name nn names pn parts many) v → Calls Try.prog 28 #[v, .int .i64 k] w fun e w' => e = .returned (.int .i64 (placeN (fun i => sizeT (parts i)) (evs (.mk kind name nn names pn parts many) pn parts) k)) ∧ Below w.heap.size w w' := by
  intro k
  induction k using Nat.strongRecOn with
  | ind k hk =>
    intro hkp v w hv
    exact place_step hfew hsm hsize _ _ rfl rfl k hkp (fun i hi v w hv => hk i hi (by omega) v w hv) v w hv
set_option maxRecDepth 100000 in
set_option maxHeartbeats 1000000 in
theorem size_any : ∀ (T : Ty), Few T → ∀ (v : Value) (w : World), TyV w T v → Calls Try.prog 18 #[v] w fun e w' => e = .returned (.int .i64 (sizeT T)) ∧ Below w.heap.size w w' := by
  intro T
  induction T with
  | leaf => intro _ v w hv; exact (TyV_leaf hv).elim
  | mk kind name nn names pn parts many ih =>
    intro hF v w hv
    have hF' := hF
    unfold Few at hF'
    have hpl := place_all (kind := kind) (name := name) (nn := nn) (names := names) (many := many) hF'.1 (fun i hi => (hF'.2 i hi).2) (fun i hi v w hv => ih i (hF'.2 i hi).1 v w hv) pn (Nat.le_refl _)
    rw [sizeT_mk]
    obtain ⟨na, nc, pa, pc, rfl, hS, q1, q2, q3, q4, q5, q6, q7, HP⟩ := hv.part
    have HT := hide hv
    have HPl := hide hpl
    clear ih hv hS hF hF' hpl
    have hB0 : Below w.heap.size w (w.alloc (.cells #[.int .i64 kind, .string name, .slice na nn nc, .slice pa pn pc, .bool many] 25)) := (Below.refl _ _).alloc (Nat.le_refl _) _
    by_cases k2 : kind = 2
    · subst k2
      rw [if_pos rfl]
      go_enter Try.func18, Try.ntmps18
      go_wp2_with fail
      go_ret
      exact ⟨rfl, hB0⟩
    · have k2' : (kind == 2) = false := by simpa using k2
      rw [if_neg k2]
      by_cases k3 : kind = 3
      · rw [if_pos k3]
        subst k3
        have hcal := HPl.out _ _ (HT.out.below hB0)
        generalize placeN (fun i => sizeT (parts i)) (evs (.mk 3 name nn names pn parts many) pn parts) pn = pl at *
        have HB0 := hide hB0
        clear hB0
        go_enter Try.func18, Try.ntmps18
        go_wp2_with fail
        go_at_call 28
        refine hcal.mono ?_
        rintro e w1 ⟨rfl, hb1⟩
        have HB1 : Hid (Below w.heap.size w w1) := HB0.out.trans (hb1.mono HB0.out.size)
        clear hb1
        go_wp2_with fail
        go_ret
        exact ⟨rfl, HB1.out⟩
      · have k3' : (kind == 3) = false := by simpa using k3
        rw [if_neg k3]
        go_enter Try.func18, Try.ntmps18
        go_wp2_with fail
        go_ret
        exact ⟨rfl, hB0⟩
end Go.Proofs.Ytmbhcpnlfdgkjaa.T
