/- The contract of the program's Places. -/
import Derived.Test.YtakijacfadpmoaaPMay2
import Derived.Test.YtakijacfadpmoaaPlaces
import Derived.RangeFuncBox
import Derived.Maps.AppendAt
namespace Go.Proofs.Ytakijacfadpmoaa.T
open Go.RowKit Go.Shelf
set_option linter.unusedVariables false
set_option linter.unusedSimpArgs false
attribute [local go_sem] Oper.semAt_some
theorem kp_appended {W w1 : World} {n₀ B : Nat} {t e : TypeId} {size : Nat} {v v' : Value} {k m : Nat} {xs ys : List Value} {tmp : Obj}
    (hv : Boxed W B t v) (hte : t ≠ e) (ht : t ≠ 25) (he : e ≠ 25) (hrow : W.ownsRow n₀ e size v k xs) (hn₀ : n₀ ≤ W.heap.size) (hB : n₀ ≤ B)
    (hown' : w1.ownsRow n₀ e size v' m ys) (hgrow : (W.alloc tmp).grownBy w1 v.ownBlock) : Kp n₀ W (w1.setCell ⟨B, 0, none⟩ v') := by
  obtain ⟨h1, _, _, _, h5⟩ := hv.appended hte hrow hn₀ hB hown' hgrow
  refine ⟨h5, fun i o hi ho => ?_⟩
  obtain ⟨cur, rfl⟩ := ho
  have hlt := (Array.getElem?_eq_some_iff.1 hi).1
  have ne1 : i ≠ B := by
    rintro rfl
    rw [show W.heap[i]? = _ from hv] at hi
    simp at hi
    exact ht hi.2
  have ne2 : some i ≠ v.ownBlock := by
    rcases hrow.2 with ⟨rfl, _⟩ | ⟨g, cap, c2, rfl, _, hgb, _⟩
    · simp [Value.ownBlock]
    · intro e'
      obtain rfl : i = g := by simpa [Value.ownBlock] using e'
      rw [hgb] at hi
      simp at hi
      exact he hi.2
  exact (Below.heap_setCell _ _ _ i ne1).trans ((hgrow.block i (by simp; omega) ne2).trans ((Below.heap_alloc W tmp i hlt).trans hi))
/-- The places of the fields that have come. -/
def came {pn : Nat} (sz : Nat → Nat) (ev : Nat → Bool) (pre : List (Fin pn)) : List Nat := pre.map fun (x : Fin pn) => placeN sz ev x
theorem came_snoc {pn : Nat} (sz : Nat → Nat) (ev : Nat → Bool) (pre : List (Fin pn)) (x : Fin pn) : came sz ev (pre ++ [x]) = came sz ev pre ++ [placeN sz ev x] := by simp [came]
theorem came_all (pn : Nat) (sz : Nat → Nat) (ev : Nat → Bool) : came sz ev (List.finRange pn) = (List.range pn).map (placeN sz ev) := by
  unfold came
  apply List.ext_getElem
  · simp
  · intro i h1 h2
    simp
theorem came_len {pn : Nat} (sz : Nat → Nat) (ev : Nat → Bool) (pre : List (Fin pn)) : (came sz ev pre).length = pre.length := by simp [came]
set_option maxRecDepth 100000 in
set_option maxHeartbeats 1000000 in
theorem pPlaces_f (T : Ty) (v : Value) (w : World) (hm : mayN 4 T = false) (hv : TyV w T v) : Calls Try.prog 10 #[v] w fun e w' => ∃ l, e = .returned l ∧ w'.ownsRow w.heap.size 3 1 l 0 [] ∧ Below w.heap.size w w' := by
  rcases T with _ | ⟨kind, name, nn, names, pn, parts, many⟩
  · exact (TyV_leaf hv).elim
  obtain ⟨na, nc, pa, pc, rfl, hS, q1, q2, q3, q4, q5, q6, q7, HP⟩ := hv.part
  have hB0 : Below w.heap.size w (w.alloc (.cells #[.int .i64 kind, .string name, .slice na nn nc, .slice pa pn pc, .bool many] 25)) := (Below.refl _ _).alloc (Nat.le_refl _) _
  have cmay := pMay_any _ _ _ (hv.below hB0)
  rw [hm] at cmay
  have HB0 := hide hB0
  clear hv hS hB0 HP
  go_enter Try.func10, Try.ntmps10
  go_wp2_with fail
  go_at_call 6
  refine cmay.mono ?_
  rintro e w1 ⟨rfl, hb1⟩
  have HB1 : Hid (Below w.heap.size w w1) := HB0.out.trans (hb1.mono HB0.out.size)
  clear hb1
  go_wp2_with fail
  go_ret
  exact ⟨_, rfl, World.ownsRow_nil _ _ _ _, HB1.out⟩
set_option maxRecDepth 100000 in
set_option maxHeartbeats 1000000 in
theorem pPlaces_n (T : Ty) (v : Value) (w : World) (hm : mayN 4 T = true) (hk : placesT T = []) (hn : ∀ name nn names pn parts many, T ≠ .mk 3 name nn names pn parts many) (hv : TyV w T v) : Calls Try.prog 10 #[v] w fun e w' => ∃ l, e = .returned l ∧ w'.ownsRow w.heap.size 3 1 l (placesT T).length (ints (placesT T)) ∧ Below w.heap.size w w' := by
  rw [hk]
  rcases T with _ | ⟨kind, name, nn, names, pn, parts, many⟩
  · exact (TyV_leaf hv).elim
  have k3 : ¬ kind = 3 := fun e => hn name nn names pn parts many (by rw [e])
  have k3' : (kind == 3) = false := by simpa using k3
  have k3'' : (kind != 3) = true := by simpa using k3
  obtain ⟨na, nc, pa, pc, rfl, hS, q1, q2, q3, q4, q5, q6, q7, HP⟩ := hv.part
  have hB0 : Below w.heap.size w (w.alloc (.cells #[.int .i64 kind, .string name, .slice na nn nc, .slice pa pn pc, .bool many] 25)) := (Below.refl _ _).alloc (Nat.le_refl _) _
  have hx0 : ∀ o, (w.alloc (.cells #[.int .i64 kind, .string name, .slice na nn nc, .slice pa pn pc, .bool many] 25)).cell? ⟨w.heap.size, o, none⟩ = (#[Value.int .i64 kind, .string name, .slice na nn nc, .slice pa pn pc, .bool many])[o]? := fun o => World.cell?_alloc_at _ _ _ _ rfl
  have cmay := pMay_any _ _ _ (hv.below hB0)
  rw [hm] at cmay
  have HB0 := hide hB0
  have HX0 := hide hx0
  clear hv hS hB0 HP hx0 hn hk hm
  go_enter Try.func10, Try.ntmps10
  go_wp2_with fail
  go_at_call 6
  refine cmay.mono ?_
  rintro e w1 ⟨rfl, hb1⟩
  have HB1 : Hid (Below w.heap.size w w1) := HB0.out.trans (hb1.mono HB0.out.size)
  have hx1 : ∀ o, w1.cell? ⟨w.heap.size, o, none⟩ = (#[Value.int .i64 kind, .string name, .slice na nn nc, .slice pa pn pc, .bool many])[o]? := fun o => (hb1.cell (p := ⟨w.heap.size, o, none⟩) (by simp)).trans (HX0.out o)
  clear hb1
  go_wp2_with fail
  go_ret
  exact ⟨_, rfl, World.ownsRow_nil _ _ _ _, HB1.out⟩
set_option maxRecDepth 100000 in
set_option maxHeartbeats 2000000 in
theorem pPlaces_s (name : ByteArray) (nn : Nat) (names : Nat → ByteArray) (pn : Nat) (parts : Nat → Ty) (many : Bool) (v : Value) (w : World) (hm : mayN 4 (.mk 3 name nn names pn parts many) = true) (hv : TyV w (.mk 3 name nn names pn parts many) v) : Calls Try.prog 10 #[v] w fun e w' => ∃ l, e = .returned l ∧ w'.ownsRow w.heap.size 3 1 l (placesT (.mk 3 name nn names pn parts many)).length (ints (placesT (.mk 3 name nn names pn parts many))) ∧ Below w.heap.size w w' := by
  have hF' := (sizeT_le hm).1
  unfold Few at hF'
  have hfew := hF'.1
  obtain ⟨na, nc, pa, pc, rfl, hS, q1, q2, q3, q4, q5, q6, q7, HP⟩ := hv.part
  obtain ⟨pv, hpv⟩ := parts_at HP.out
  have HPV := hide hpv
  have HE : Hid (placesT (.mk 3 name nn names pn parts many) = (List.range pn).map (placeN (fun i => sizeT (parts i)) (evs (.mk 3 name nn names pn parts many) pn parts))) := by show _ = _; rw [placesT_mk, if_pos rfl]
  rw [HE.out]
  obtain ⟨sz, hsz⟩ : ∃ sz : Nat → Nat, (fun i => sizeT (parts i)) = sz := ⟨_, rfl⟩
  have HI2 : Hid (∀ i, i < pn → ∀ v w, TyV w (parts i) v → Calls Try.prog 21 #[v] w fun e w' => e = .returned (.int .i64 (sz i)) ∧ Below w.heap.size w w') := fun i hi v w hv => by rw [← hsz]; exact words_any (parts i) (hF'.2 i hi).1 v w hv
  have hsm2 : ∀ i, i < pn → sz i ≤ 12 := by rw [← hsz]; exact fun i hi => (hF'.2 i hi).2
  obtain ⟨ev, hev⟩ : ∃ ev : Nat → Bool, evs (.mk 3 name nn names pn parts many) pn parts = ev := ⟨_, rfl⟩
  have HEV : Hid (∀ i, i < pn → ev i = evenT (parts i)) := fun i hi => by rw [← hev]; unfold evs; rw [if_pos hi]
  rw [hsz, hev, List.length_map, List.length_range]
  have hB0 : Below w.heap.size w (w.alloc (.cells #[.int .i64 3, .string name, .slice na nn nc, .slice pa pn pc, .bool many] 25)) := (Below.refl _ _).alloc (Nat.le_refl _) _
  have hx0 : ∀ o, (w.alloc (.cells #[.int .i64 3, .string name, .slice na nn nc, .slice pa pn pc, .bool many] 25)).cell? ⟨w.heap.size, o, none⟩ = (#[Value.int .i64 3, .string name, .slice na nn nc, .slice pa pn pc, .bool many])[o]? := fun o => World.cell?_alloc_at _ _ _ _ rfl
  have cmay := pMay_any _ _ _ (hv.below hB0)
  rw [hm] at cmay
  have HB0 := hide hB0
  have HX0 := hide hx0
  have HT := hide hv
  obtain ⟨i0, hi, hz0, hz1, hz2⟩ := info_parts info3
  clear hpv hsz hev HP hv hS hB0 hx0 hm hF' HE
  refine (callsIn_wide (n := 5)).1 ?_
  refine callsIn_of_wp_marks Try.func10 rfl trivial ?_ rfl
  simp only [Try.ntmps10, List.size_toArray, List.length_cons, List.length_nil, Nat.reduceAdd, Nat.reduceSub, Array.replicate_succ, Array.replicate_zero, List.push_toArray, List.append_toArray, List.nil_append, List.cons_append]
  gi_wp2
  refine ⟨trivial, ?_⟩
  refine (callsIn_wide.2 cmay).mono ?_
  rintro e w1 ⟨rfl, hb1⟩
  have HB1 : Hid (Below w.heap.size w w1) := HB0.out.trans (hb1.mono HB0.out.size)
  have hsz1 : w.heap.size < w1.heap.size := by have := hb1.size; simp at this; omega
  have hx1 : ∀ o, w1.cell? ⟨w.heap.size, o, none⟩ = (#[Value.int .i64 3, .string name, .slice na nn nc, .slice pa pn pc, .bool many])[o]? := fun o => (hb1.cell (p := ⟨w.heap.size, o, none⟩) (by simp)).trans (HX0.out o)
  have hx2 : ∀ o, (w1.alloc (.cells #[.slice none 0 0] 28)).cell? ⟨w.heap.size, o, none⟩ = (#[Value.int .i64 3, .string name, .slice na nn nc, .slice pa pn pc, .bool many])[o]? := fun o => (World.cell?_alloc_past _ _ _ (by simpa using hsz1)).trans (hx1 o)
  clear hb1
  gi_wp2
  refine ⟨trivial, ?_⟩
  refine (callsIn_wide.2 (fields_in 5 _ _ _ _ _ _ _ _ _ _)).mono ?_
  rintro e w2 ⟨rfl, rfl⟩
  clear hx1 hx2
  gi_wp2
  have bO : Boxed ((w1.alloc (.cells #[.slice none 0 0] 28)).alloc (.cells #[.int .i64 3, .string name, .slice na nn nc, .slice pa pn pc, .bool many] 25)) w1.heap.size 28 (.slice none 0 0) := (Boxed.new w1 28 (.slice none 0 0)).alloc _
  have bN : ((w1.alloc (.cells #[.slice none 0 0] 28)).alloc (.cells #[.int .i64 3, .string name, .slice na nn nc, .slice pa pn pc, .bool many] 25)).heap[w1.heap.size + 1]? = some (.cells #[Value.int .i64 3, .string name, .slice na nn nc, .slice pa pn pc, .bool many] 25 (0, 0)) := by
    have := World.alloc_heap_new (w1.alloc (.cells #[.slice none 0 0] 28)) (.cells #[.int .i64 3, .string name, .slice na nn nc, .slice pa pn pc, .bool many] 25)
    simpa only [World.size_alloc] using this
  have hB2 : Below w.heap.size w ((w1.alloc (.cells #[.slice none 0 0] 28)).alloc (.cells #[.int .i64 3, .string name, .slice na nn nc, .slice pa pn pc, .bool many] 25)) := (HB1.out.alloc HB1.out.size _).alloc (by simp; omega) _
  have hsz0 : ((w1.alloc (.cells #[.slice none 0 0] 28)).alloc (.cells #[.int .i64 3, .string name, .slice na nn nc, .slice pa pn pc, .bool many] 25)).heap.size = w1.heap.size + 1 + 1 := by simp
  generalize ((w1.alloc (.cells #[.slice none 0 0] 28)).alloc (.cells #[.int .i64 3, .string name, .slice na nn nc, .slice pa pn pc, .bool many] 25)) = W0 at *
  refine wpIn_rangeFunc_ownG rfl (by omega) (gf := 31) (lb := #[.pointer (some ⟨w1.heap.size + 1, 0, none⟩)]) rfl trivial (enters_of Try.func31 (by kernel_rfl) rfl)
    (fields_stops 4 (by omega) hfew sz ev hsm2 HEV HI2 w na pa nc pc pv HPV (w1.heap.size + 1) W0 hB2 (by omega) (cells_at bN)) Kp.trans (kp_put (by omega)) (Below.refl _ _) (fun _ => rfl)
    (fun pre W => (∃ v, Boxed W w1.heap.size 28 v ∧ W.ownsRow w.heap.size 3 1 v (came sz ev pre).length (ints (came sz ev pre)) ∧ True) ∧ Below w.heap.size w W)
    (fun _ _ _ => False)
    (OwnFrom.and (Own.from (holdsRow_own w.heap.size w1.heap.size 28 3 1 (fun pre => (came sz ev pre).length) (fun pre => ints (came sz ev pre)) (fun _ _ => True)) _) (ownFrom_below (Nat.le_refl _) (by omega)))
    (fun _ _ _ _ _ hs _ _ => hs)
    ⟨⟨_, bO, World.ownsRow_nil _ _ _ _, trivial⟩, hB2⟩
    (fun x => { tmps := #[.agg #[.int .i64 3, .string name, .slice na nn nc, .slice pa pn pc, .bool many], .pointer (some ⟨w.heap.size, 0, none⟩), .slice none 0 0, .pointer (some ⟨w1.heap.size, 0, none⟩), .int .i64 (placeN sz ev x), .agg #[.int .i64 3, .string name, .slice na nn nc, .slice pa pn pc, .bool many], .bool true, .bool false, .bool false, .pointer (some ⟨w.heap.size, 0, none⟩), .int .i64 3, .bool false, .bool false, .agg #[.int .i64 3, .string name, .slice na nn nc, .slice pa pn pc, .bool many], .func (.func 31) #[] #[.pointer (some ⟨w1.heap.size + 1, 0, none⟩)], .int .i64 (placeN sz ev x), pv x, undef, undef, undef, undef, undef], defers := [] }) ?assign ?body ?done ?stop
  case assign =>
    intro l x W K hK
    gi_wp2
    exact hK
  case body =>
    rintro l pre x W ⟨⟨v, hv, hrow, -⟩, hB⟩ hlt
    have hc := hv.cell
    have hpl : (came sz ev pre).length ≤ 7 := by rw [came_len]; omega
    have hm : maxLen = 9223372036854775807 := rfl
    gi_wp2_with (gi_at_builtin; refine wpListIn_append_own _ rfl _ _ 28 rfl w.heap.size 3 i0 (.int .i64 0) 1 8 Try.underlying28 hi hz0 hz1 hz2 rfl (by decide) _ _ _ rfl (hrow.alloc _) ⟨W.heap.size, 0, none⟩ 1 1 [.int .i64 (placeN sz ev x)] rfl rfl (cell_one_new _ _ _) (by simp [Value.oneCell']) (by omega) (by omega) (by have := hB.size; simp; omega) ?_; intro v' w3 hown' hgrow _; obtain ⟨g', cap', rfl⟩ := ownsRow_succ hown'; have hkp := kp_appended hv (by decide) (by decide) (by decide) hrow hB.size (Nat.le_of_lt hsz1) hown' hgrow; obtain ⟨hv1, hv2, hr2, hk2, hb2⟩ := hv.appended (by decide) hrow hB.size (Nat.le_of_lt hsz1) hown' hgrow; have hc1 := hv1.cell; have hf1 := hv1.frozen)
    exact ⟨hk2.from _, hkp, ⟨_, hv2, by rw [came_snoc]; unfold ints at hr2 ⊢; simpa using hr2, trivial⟩, hB.trans hb2⟩
  case done =>
    rintro D ys W hD rfl ⟨⟨v, hv, hrow, -⟩, hB⟩ hK
    have hc := hv.cell
    rw [came_all, List.length_map, List.length_range] at hrow
    gi_wp2
    refine ⟨by simp, .inl ⟨_, _, rfl, run_takeDeferred hK, ?_⟩⟩
    exact ⟨_, results_tmp rfl _ _ _, v, rfl, ownsRow_putObj hrow _ hK rfl, hB.trans (belowK_b (w := w) (Nat.le_refl _) W D _ _ (by omega) hK rfl rfl)⟩
  case stop =>
    rintro D c pre W _ _ h _
    exact h.elim
theorem pPlaces_t (T : Ty) (v : Value) (w : World) (hm : mayN 4 T = true) (hv : TyV w T v) : Calls Try.prog 10 #[v] w fun e w' => ∃ l, e = .returned l ∧ w'.ownsRow w.heap.size 3 1 l (placesT T).length (ints (placesT T)) ∧ Below w.heap.size w w' := by
  rcases T with _ | ⟨kind, name, nn, names, pn, parts, many⟩
  · exact (TyV_leaf hv).elim
  by_cases k : kind = 3
  · subst k; exact pPlaces_s name nn names pn parts many v w hm hv
  · exact pPlaces_n _ v w hm (by rw [placesT_mk, if_neg k]) (fun _ _ _ _ _ _ e => k (by cases e; rfl)) hv
end Go.Proofs.Ytakijacfadpmoaa.T
