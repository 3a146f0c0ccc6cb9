/- The program's asked; the library's IndexFunc and ContainsFunc at its closures. -/
import Derived.Test.YtejionmgpplniaaG
import Derived.Test.YtejionmgpplniaaH
namespace Go.Proofs.Ytejionmgpplniaa.T
open Go.RowKit
set_option linter.unusedVariables false
set_option linter.unusedSimpArgs false
theorem c18_any (q b : Nat) (f : Lc → Int) (s : Bool) (x : Int) (w : World) (hq : w.heap[q]? = some (.cells #[.map (some b)] 45 (0, 0))) (hm : Mp w b f) (hw : Wf (s, x)) : Calls Try.prog 18 #[.agg #[.bool s, .int .i64 x], .pointer (some ⟨q, 0, none⟩)] w fun e w' => e = .returned (.bool (decide (0 < f (s, x)))) ∧ Below w.heap.size w w' := by
  have HF := hide ((Fr.start w).alloc rfl #[.bool s, .int .i64 x] 31)
  have hlt := (Array.getElem?_eq_some_iff.1 hq).1
  have cq := fr_cells ((HF.out.below.block q hlt).trans hq)
  have hk := (hm.keep (HF.out.below.block b hm.lt)).look hw
  unfold kV at hk
  clear hlt hq hm
  generalize f (s, x) = F at *
  by_cases h : 0 < F
  · go_enter Try.func18, Try.ntmps18
    go_wp2_with fail
    go_ret
    exact ⟨by simp [h], HF.out.below⟩
  · go_enter Try.func18, Try.ntmps18
    go_wp2_with fail
    go_ret
    exact ⟨by simp [h], HF.out.below⟩
/-- Where the first one of which p holds stands. -/
def idxP (p : Lc × Lc → Bool) (L : List (Lc × Lc)) : Int := match L.findIdx? p with | some j => j | none => -1
theorem idx_hit {p : Lc × Lc → Bool} {L : List (Lc × Lc)} {k : Nat} (hk : k < L.length) (h : p L[k] = true) (hp : ∀ j (hj : j < L.length), j < k → p L[j] = false) : idxP p L = k := by
  have : L.findIdx? p = some k := List.findIdx?_eq_some_iff_getElem.2 ⟨hk, h, fun j hj => by rw [hp j (by omega) hj]; simp⟩
  unfold idxP; rw [this]
theorem idx_miss {p : Lc × Lc → Bool} {L : List (Lc × Lc)} (hp : ∀ j (hj : j < L.length), p L[j] = false) : idxP p L = -1 := by
  have : L.findIdx? p = none := List.findIdx?_eq_none_iff.2 fun x hx => by
    obtain ⟨j, hj, rfl⟩ := List.getElem_of_mem hx
    exact hp j hj
  unfold idxP; rw [this]
theorem idx_any {p : Lc × Lc → Bool} {L : List (Lc × Lc)} : 0 ≤ idxP p L ↔ ∃ m, m ∈ L ∧ p m = true := by
  unfold idxP
  cases h : L.findIdx? p with
  | none =>
    have := List.findIdx?_eq_none_iff.1 h
    constructor
    · intro h0; simp at h0
    · rintro ⟨m, hm, hp⟩; rw [this m hm] at hp; cases hp
  | some j =>
    obtain ⟨hj, h1, _⟩ := List.findIdx?_eq_some_iff_getElem.1 h
    exact ⟨fun _ => ⟨_, List.getElem_mem hj, h1⟩, fun _ => by simp⟩
set_option maxHeartbeats 1000000 in
theorem ix13_any (v : Value) (L : List (Lc × Lc)) (w : World) (hL : Prs w v L) (hl : L.length ≤ 100) : Calls Try.prog 20 #[v, .func (.func 13) #[] #[]] w fun e w' => e = .returned (.int .i64 (idxP (fun m : Lc × Lc => !okM m) L)) ∧ Below w.heap.size w w' := by
  obtain ⟨a, cp, rfl, H⟩ := hL
  have HH := hide (prs_at (c := cp) H)
  obtain ⟨pr, HPR⟩ : ∃ pr, Hid ((fun m : Lc × Lc => !okM m) = pr) := ⟨_, rfl⟩
  rw [HPR.out]
  clear H
  go_enter Try.func20, Try.ntmps20
  go_wp2_with fail
  go_loopw [8] (fun i wr => ∃ k : Nat, k ≤ L.length ∧ i = .int .i64 k ∧ Hid (Below w.heap.size w wr) ∧ Hid (∀ j (h : j < L.length), j < k → pr L[j] = false)) (fun i _ => L.length - (intOf i).toNat)
  case atStart => exact ⟨0, Nat.zero_le _, rfl, Below.refl _ _, fun j h hj => absurd hj (by omega)⟩
  case round =>
    obtain ⟨k, hk, rfl, HB, HO⟩ := hrel
    by_cases hlt : k < L.length
    · have hlt' : (k : Int) < L.length := by omega
      have hidx : (0 : Int) ≤ k ∧ (k : Int) < L.length := by omega
      obtain ⟨g, o, rfl, E⟩ := HH.out (by omega)
      obtain ⟨d0, d1, d2, d3⟩ := E _ HB.out k hlt
      clear E
      have HN : Hid (pr L[k] = false → ∀ j (h : j < L.length), j < k + 1 → pr L[j] = false) := fun h j hj hje => by
        by_cases q : j = k
        · subst q; exact h
        · exact HO.out j hj (by omega)
      have HY : Hid (pr L[k] = true → idxP pr L = k) := fun h => idx_hit hlt h HO.out
      generalize L[k] = y at *
      obtain ⟨⟨s1, x1⟩, ⟨s2, x2⟩⟩ := y
      simp only at d0 d1 d2 d3
      have HC := hide (c13_any s1 x1 s2 x2 wr)
      have HE : Hid ((!okM ((s1, x1), (s2, x2))) = pr ((s1, x1), (s2, x2))) := by rw [← HPR.out]; rfl
      rw [HE.out] at HC
      clear HE
      cases hp : pr ((s1, x1), (s2, x2))
      · have HN2 := hide (HN.out hp)
        rw [hp] at HC
        clear hp HY HN HO
        go_wp2_with fail
        go_at_call 13
        refine HC.out.mono ?_
        rintro e w1 ⟨rfl, hb⟩
        have HB1 := hide (HB.out.trans (hb.mono HB.out.size))
        clear hb
        go_wp2_with fail
        go_roundw
        case rel => exact ⟨k + 1, by omega, by go_num, HB1, HN2⟩
        case measure => simp [intOf]; omega
      · have HY2 := hide (HY.out hp)
        rw [hp] at HC
        clear hp HY HN HO
        go_wp2_with fail
        go_at_call 13
        refine HC.out.mono ?_
        rintro e w1 ⟨rfl, hb⟩
        have HB1 := hide (HB.out.trans (hb.mono HB.out.size))
        clear hb
        go_wp2_with fail
        go_ret
        exact ⟨by rw [HY2.out]; rfl, HB1.out⟩
    · have hlt' : ¬ (k : Int) < L.length := by omega
      have HY : Hid (idxP pr L = -1) := idx_miss fun j hj => HO.out j hj (by omega)
      go_wp2_with fail
      go_ret
      exact ⟨by rw [HY.out]; rfl, HB.out⟩
set_option maxHeartbeats 1000000 in
theorem ix15_any (q : Nat) (tmp : Int) (v : Value) (L : List (Lc × Lc)) (w : World) (hL : Prs w v L) (hl : L.length ≤ 100) (hq : w.heap[q]? = some (.cells #[.bool false, .int .i64 tmp] 31 (0, 0))) : Calls Try.prog 20 #[v, .func (.func 15) #[] #[.pointer (some ⟨q, 0, none⟩)]] w fun e w' => e = .returned (.int .i64 (idxP (isM (false, tmp)) L)) ∧ Below w.heap.size w w' := by
  obtain ⟨a, cp, rfl, H⟩ := hL
  have HH := hide (prs_at (c := cp) H)
  have hlt := (Array.getElem?_eq_some_iff.1 hq).1
  have HQ : Hid (∀ w', Below w.heap.size w w' → w'.heap[q]? = _) := fun w' hb => (hb.block q hlt).trans hq
  clear hq hlt
  obtain ⟨pr, HPR⟩ : ∃ pr, Hid ((isM (false, tmp)) = pr) := ⟨_, rfl⟩
  rw [HPR.out]
  clear H
  go_enter Try.func20, Try.ntmps20
  go_wp2_with fail
  go_loopw [8] (fun i wr => ∃ k : Nat, k ≤ L.length ∧ i = .int .i64 k ∧ Hid (Below w.heap.size w wr) ∧ Hid (∀ j (h : j < L.length), j < k → pr L[j] = false)) (fun i _ => L.length - (intOf i).toNat)
  case atStart => exact ⟨0, Nat.zero_le _, rfl, Below.refl _ _, fun j h hj => absurd hj (by omega)⟩
  case round =>
    obtain ⟨k, hk, rfl, HB, HO⟩ := hrel
    by_cases hlt : k < L.length
    · have hlt' : (k : Int) < L.length := by omega
      have hidx : (0 : Int) ≤ k ∧ (k : Int) < L.length := by omega
      obtain ⟨g, o, rfl, E⟩ := HH.out (by omega)
      obtain ⟨d0, d1, d2, d3⟩ := E _ HB.out k hlt
      clear E
      have HN : Hid (pr L[k] = false → ∀ j (h : j < L.length), j < k + 1 → pr L[j] = false) := fun h j hj hje => by
        by_cases q : j = k
        · subst q; exact h
        · exact HO.out j hj (by omega)
      have HY : Hid (pr L[k] = true → idxP pr L = k) := fun h => idx_hit hlt h HO.out
      generalize L[k] = y at *
      obtain ⟨⟨s1, x1⟩, ⟨s2, x2⟩⟩ := y
      simp only at d0 d1 d2 d3
      have HC := hide (c15_any q tmp s1 x1 s2 x2 wr (HQ.out _ HB.out))
      have HE : Hid (isM (false, tmp) ((s1, x1), (s2, x2)) = pr ((s1, x1), (s2, x2))) := by rw [← HPR.out]; rfl
      rw [HE.out] at HC
      clear HE
      cases hp : pr ((s1, x1), (s2, x2))
      · have HN2 := hide (HN.out hp)
        rw [hp] at HC
        clear hp HY HN HO
        go_wp2_with fail
        go_at_call 15
        refine HC.out.mono ?_
        rintro e w1 ⟨rfl, hb⟩
        have HB1 := hide (HB.out.trans (hb.mono HB.out.size))
        clear hb
        go_wp2_with fail
        go_roundw
        case rel => exact ⟨k + 1, by omega, by go_num, HB1, HN2⟩
        case measure => simp [intOf]; omega
      · have HY2 := hide (HY.out hp)
        rw [hp] at HC
        clear hp HY HN HO
        go_wp2_with fail
        go_at_call 15
        refine HC.out.mono ?_
        rintro e w1 ⟨rfl, hb⟩
        have HB1 := hide (HB.out.trans (hb.mono HB.out.size))
        clear hb
        go_wp2_with fail
        go_ret
        exact ⟨by rw [HY2.out]; rfl, HB1.out⟩
    · have hlt' : ¬ (k : Int) < L.length := by omega
      have HY : Hid (idxP pr L = -1) := idx_miss fun j hj => HO.out j hj (by omega)
      go_wp2_with fail
      go_ret
      exact ⟨by rw [HY.out]; rfl, HB.out⟩
set_option maxHeartbeats 1000000 in
theorem ix21_any (q : Nat) (s : Bool) (x : Int) (v : Value) (L : List (Lc × Lc)) (w : World) (hL : Prs w v L) (hl : L.length ≤ 100) (hq : w.heap[q]? = some (.cells #[.bool s, .int .i64 x] 31 (0, 0))) : Calls Try.prog 20 #[v, .func (.func 21) #[] #[.pointer (some ⟨q, 0, none⟩)]] w fun e w' => e = .returned (.int .i64 (idxP (fun m : Lc × Lc => decide (m.1 = (s, x))) L)) ∧ Below w.heap.size w w' := by
  obtain ⟨a, cp, rfl, H⟩ := hL
  have HH := hide (prs_at (c := cp) H)
  have hlt := (Array.getElem?_eq_some_iff.1 hq).1
  have HQ : Hid (∀ w', Below w.heap.size w w' → w'.heap[q]? = _) := fun w' hb => (hb.block q hlt).trans hq
  clear hq hlt
  obtain ⟨pr, HPR⟩ : ∃ pr, Hid ((fun m : Lc × Lc => decide (m.1 = (s, x))) = pr) := ⟨_, rfl⟩
  rw [HPR.out]
  clear H
  go_enter Try.func20, Try.ntmps20
  go_wp2_with fail
  go_loopw [8] (fun i wr => ∃ k : Nat, k ≤ L.length ∧ i = .int .i64 k ∧ Hid (Below w.heap.size w wr) ∧ Hid (∀ j (h : j < L.length), j < k → pr L[j] = false)) (fun i _ => L.length - (intOf i).toNat)
  case atStart => exact ⟨0, Nat.zero_le _, rfl, Below.refl _ _, fun j h hj => absurd hj (by omega)⟩
  case round =>
    obtain ⟨k, hk, rfl, HB, HO⟩ := hrel
    by_cases hlt : k < L.length
    · have hlt' : (k : Int) < L.length := by omega
      have hidx : (0 : Int) ≤ k ∧ (k : Int) < L.length := by omega
      obtain ⟨g, o, rfl, E⟩ := HH.out (by omega)
      obtain ⟨d0, d1, d2, d3⟩ := E _ HB.out k hlt
      clear E
      have HN : Hid (pr L[k] = false → ∀ j (h : j < L.length), j < k + 1 → pr L[j] = false) := fun h j hj hje => by
        by_cases q : j = k
        · subst q; exact h
        · exact HO.out j hj (by omega)
      have HY : Hid (pr L[k] = true → idxP pr L = k) := fun h => idx_hit hlt h HO.out
      generalize L[k] = y at *
      obtain ⟨⟨s1, x1⟩, ⟨s2, x2⟩⟩ := y
      simp only at d0 d1 d2 d3
      have HC := hide (c21_any q s x s1 x1 s2 x2 wr (HQ.out _ HB.out))
      have HE : Hid (decide ((s1, x1) = (s, x)) = pr ((s1, x1), (s2, x2))) := by rw [← HPR.out]; rfl
      rw [HE.out] at HC
      clear HE
      cases hp : pr ((s1, x1), (s2, x2))
      · have HN2 := hide (HN.out hp)
        rw [hp] at HC
        clear hp HY HN HO
        go_wp2_with fail
        go_at_call 21
        refine HC.out.mono ?_
        rintro e w1 ⟨rfl, hb⟩
        have HB1 := hide (HB.out.trans (hb.mono HB.out.size))
        clear hb
        go_wp2_with fail
        go_roundw
        case rel => exact ⟨k + 1, by omega, by go_num, HB1, HN2⟩
        case measure => simp [intOf]; omega
      · have HY2 := hide (HY.out hp)
        rw [hp] at HC
        clear hp HY HN HO
        go_wp2_with fail
        go_at_call 21
        refine HC.out.mono ?_
        rintro e w1 ⟨rfl, hb⟩
        have HB1 := hide (HB.out.trans (hb.mono HB.out.size))
        clear hb
        go_wp2_with fail
        go_ret
        exact ⟨by rw [HY2.out]; rfl, HB1.out⟩
    · have hlt' : ¬ (k : Int) < L.length := by omega
      have HY : Hid (idxP pr L = -1) := idx_miss fun j hj => HO.out j hj (by omega)
      go_wp2_with fail
      go_ret
      exact ⟨by rw [HY.out]; rfl, HB.out⟩
theorem cf13_any (v : Value) (L : List (Lc × Lc)) (w : World) (hL : Prs w v L) (hl : L.length ≤ 100) : Calls Try.prog 16 #[v, .func (.func 13) #[] #[]] w fun e w' => e = .returned (.bool (decide (0 ≤ idxP (fun m : Lc × Lc => !okM m) L))) ∧ Below w.heap.size w w' := by
  have HC := hide (ix13_any v L w hL hl)
  clear hL
  generalize idxP (fun m : Lc × Lc => !okM m) L = I at *
  by_cases h : 0 ≤ I
  · go_enter Try.func16, Try.ntmps16
    go_wp2_with fail
    go_at_call 20
    refine HC.out.mono ?_
    rintro e w1 ⟨rfl, hb⟩
    have HB := hide hb
    clear hb HC
    go_wp2_with fail
    go_ret
    exact ⟨by simp [h], HB.out⟩
  · go_enter Try.func16, Try.ntmps16
    go_wp2_with fail
    go_at_call 20
    refine HC.out.mono ?_
    rintro e w1 ⟨rfl, hb⟩
    have HB := hide hb
    clear hb HC
    go_wp2_with fail
    go_ret
    exact ⟨by simp [h], HB.out⟩
theorem cf15_any (q : Nat) (tmp : Int) (v : Value) (L : List (Lc × Lc)) (w : World) (hL : Prs w v L) (hl : L.length ≤ 100) (hq : w.heap[q]? = some (.cells #[.bool false, .int .i64 tmp] 31 (0, 0))) : Calls Try.prog 16 #[v, .func (.func 15) #[] #[.pointer (some ⟨q, 0, none⟩)]] w fun e w' => e = .returned (.bool (decide (0 ≤ idxP (isM (false, tmp)) L))) ∧ Below w.heap.size w w' := by
  have HC := hide (ix15_any q tmp v L w hL hl hq)
  clear hL hq
  generalize idxP (isM (false, tmp)) L = I at *
  by_cases h : 0 ≤ I
  · go_enter Try.func16, Try.ntmps16
    go_wp2_with fail
    go_at_call 20
    refine HC.out.mono ?_
    rintro e w1 ⟨rfl, hb⟩
    have HB := hide hb
    clear hb HC
    go_wp2_with fail
    go_ret
    exact ⟨by simp [h], HB.out⟩
  · go_enter Try.func16, Try.ntmps16
    go_wp2_with fail
    go_at_call 20
    refine HC.out.mono ?_
    rintro e w1 ⟨rfl, hb⟩
    have HB := hide hb
    clear hb HC
    go_wp2_with fail
    go_ret
    exact ⟨by simp [h], HB.out⟩
end Go.Proofs.Ytejionmgpplniaa.T
