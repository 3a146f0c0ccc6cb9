/- The contract of the reference's Check. -/
import Derived.Test.YtejionmgpplniaaB
namespace Go.Proofs.Ytejionmgpplniaa.T
open Go.RowKit
set_option linter.unusedVariables false
set_option linter.unusedSimpArgs false
def okM (m : Lc × Lc) : Bool := placeB m.1 && placeB m.2
def isM (t : Lc) (m : Lc × Lc) : Bool := decide (m.1 = t) || decide (m.2 = t)
/-- Do two moves go to one place? -/
def dupP (L : List (Lc × Lc)) : Prop := ∃ i k, ∃ (hi : i < L.length) (hk : k < i), (L[k]'(by omega)).2 = L[i].2
theorem dup_iff (L : List (Lc × Lc)) : ¬ (L.map (·.2)).Nodup ↔ dupP L := by
  rw [List.Nodup, List.pairwise_iff_getElem]
  constructor
  · intro h
    by_cases hd : dupP L
    · exact hd
    · refine absurd (fun i j hi hj hij e => hd ⟨j, i, by simpa using hj, hij, ?_⟩) h
      simpa using e
  · rintro ⟨i, k, hi, hk, e⟩ h
    exact h k i (by simp; omega) (by simpa using hi) hk (by simpa using e)
def dupD (L : List (Lc × Lc)) : Decidable (dupP L) := decidable_of_iff _ (dup_iff L)
def chkN (L : List (Lc × Lc)) (tmp : Int) : Nat := if 100 < L.length then 1 else if ¬ (∀ m, m ∈ L → okM m = true) then 6 else if tmp < 0 ∨ 15 < tmp then 6 else @ite _ (dupP L) (dupD L) 5 (if (∃ m, m ∈ L ∧ isM (false, tmp) m = true) then 3 else 0)
theorem below_drew {B : Nat} {a w : World} (h : Below B a w) (n : Nat) : Below B a (w.drewN n) := ⟨h.os, h.tape, h.output, h.size, h.block⟩
theorem prs_at {w : World} {a : Option Addr} {c : Nat} {L : List (Lc × Lc)} (H : 0 < L.length → ∃ g o, a = some ⟨g, o, none⟩ ∧ g < w.heap.size ∧ ∀ j (h : j < L.length), w.cell? ⟨g, o + j * 4, none⟩ = some (.bool L[j].1.1) ∧ w.cell? ⟨g, o + j * 4 + 1, none⟩ = some (.int .i64 L[j].1.2) ∧ w.cell? ⟨g, o + j * 4 + 2, none⟩ = some (.bool L[j].2.1) ∧ w.cell? ⟨g, o + j * 4 + 3, none⟩ = some (.int .i64 L[j].2.2)) :
    0 < L.length → ∃ g o, a = some ⟨g, o, none⟩ ∧ ∀ w', Below w.heap.size w w' → ∀ j (h : j < L.length), w'.cell? ⟨g, o + j * 4, none⟩ = some (.bool L[j].1.1) ∧ w'.cell? ⟨g, o + j * 4 + 1, none⟩ = some (.int .i64 L[j].1.2) ∧ w'.cell? ⟨g, o + j * 4 + 2, none⟩ = some (.bool L[j].2.1) ∧ w'.cell? ⟨g, o + j * 4 + 3, none⟩ = some (.int .i64 L[j].2.2) := fun h => by
  obtain ⟨g, o, e1, e2, e3⟩ := H h
  exact ⟨g, o, e1, fun w' hb j hj => ⟨(hb.cell (p := ⟨g, o + j * 4, none⟩) e2).trans (e3 j hj).1, (hb.cell (p := ⟨g, o + j * 4 + 1, none⟩) e2).trans (e3 j hj).2.1, (hb.cell (p := ⟨g, o + j * 4 + 2, none⟩) e2).trans (e3 j hj).2.2.1, (hb.cell (p := ⟨g, o + j * 4 + 3, none⟩) e2).trans (e3 j hj).2.2.2⟩⟩
set_option maxRecDepth 100000 in
set_option maxHeartbeats 2000000 in
theorem check_any (v : Value) (L : List (Lc × Lc)) (tmp : Int) (w : World) (hL : Prs w v L) (hl : L.length ≤ 9223372036854775807) :
    Calls Try.prog 5 #[v, .int .i64 tmp] w fun e w' => e = .returned (.int .i64 (chkN L tmp)) ∧ Below w.heap.size w w' := by
  obtain ⟨a, c, rfl, H⟩ := hL
  have HH := hide (prs_at (c := c) H)
  clear H
  by_cases h100 : 100 < L.length
  · have HC : Hid (chkN L tmp = 1) := if_pos h100
    have h100' : (100 : Int) < L.length := by omega
    go_enter Try.func5, Try.ntmps5
    go_wp2_with fail
    go_ret
    exact ⟨by rw [HC.out]; rfl, Below.refl _ _⟩
  have H100 := hide h100
  have h100' : ¬ (100 : Int) < L.length := by omega
  go_enter Try.func5, Try.ntmps5
  go_wp2_with fail
  clear h100'
  go_loopw [5] (fun i wr => ∃ k : Nat, k ≤ L.length ∧ i = .int .i64 k ∧ Hid (Below w.heap.size w wr) ∧ Hid (∀ j (h : j < L.length), j < k → okM L[j] = true)) (fun i _ => L.length - (intOf i).toNat)
  case atStart => exact ⟨0, Nat.zero_le _, rfl, Below.refl _ _, fun j h hj => absurd hj (by omega)⟩
  case round =>
    obtain ⟨k, hk, rfl, HB, HO⟩ := hrel
    by_cases hlt : k < L.length
    · have hlt' : (k : Int) < L.length := by omega
      have hidx : (0 : Int) ≤ k ∧ (k : Int) < L.length := by omega
      obtain ⟨g, o, rfl, E⟩ := HH.out (by omega)
      have HE := hide E
      clear E
      obtain ⟨d0, d1, d2, d3⟩ := HE.out _ HB.out k hlt
      have HM := hide (List.getElem_mem hlt)
      obtain ⟨y, HY⟩ : ∃ y, Hid (L[k] = y) := ⟨L[k], rfl⟩
      have HOY : Hid (okM L[k] = (placeB y.1 && placeB y.2)) := by rw [HY.out]; rfl
      rw [HY.out] at d0 d1 d2 d3
      have HC6 : Hid (okM L[k] = false → chkN L tmp = 6) := fun h => by
        unfold chkN
        rw [if_neg H100.out, if_pos]
        intro hh
        rw [hh _ HM.out] at h
        cases h
      obtain ⟨⟨s1, x1⟩, ⟨s2, x2⟩⟩ := y
      simp only at d0 d1 d2 d3 HOY
      go_wp2_with fail
      go_at_call 12
      refine (place_any s1 x1 _).mono ?_
      rintro e w1 ⟨rfl, hb1⟩
      have HB1 : Hid (Below w.heap.size w w1) := HB.out.trans (hb1.mono HB.out.size)
      obtain ⟨d0, d1, d2, d3⟩ := HE.out _ HB1.out k hlt
      rw [HY.out] at d0 d1 d2 d3
      simp only at d0 d1 d2 d3
      clear hb1
      cases hp1 : placeB (s1, x1)
      · have HC : Hid (chkN L tmp = 6) := HC6.out (by rw [HOY.out, hp1]; rfl)
        go_wp2_with fail
        go_ret
        exact ⟨by rw [HC.out]; rfl, HB1.out⟩
      go_wp2_with fail
      go_at_call 12
      refine (place_any s2 x2 _).mono ?_
      rintro e w2 ⟨rfl, hb2⟩
      have HB2 : Hid (Below w.heap.size w w2) := HB1.out.trans (hb2.mono HB1.out.size)
      clear hb2
      cases hp2 : placeB (s2, x2)
      · have HC : Hid (chkN L tmp = 6) := HC6.out (by rw [HOY.out, hp2]; simp)
        go_wp2_with fail
        go_ret
        exact ⟨by rw [HC.out]; rfl, HB2.out⟩
      have HO2 : Hid (∀ j (h : j < L.length), j < k + 1 → okM L[j] = true) := fun j h hj => by
        by_cases e : j = k
        · subst e; rw [HOY.out, hp1, hp2]; rfl
        · exact HO.out j h (by omega)
      go_wp2_with fail
      go_roundw
      case rel => exact ⟨k + 1, by omega, by go_num, HB2, HO2⟩
      case measure => simp [intOf]; omega
    · have hlt' : ¬ (k : Int) < L.length := by omega
      have HAll : Hid (∀ m, m ∈ L → okM m = true) := fun m hm => by
        obtain ⟨j, hj, rfl⟩ := List.getElem_of_mem hm
        exact HO.out j hj (by omega)
      clear HO
      by_cases ht : tmp < 0 ∨ 15 < tmp
      · have HC : Hid (chkN L tmp = 6) := by show _ = _; unfold chkN; rw [if_neg H100.out, if_neg (by simpa using HAll.out), if_pos ht]
        by_cases ht0 : tmp < 0
        · go_wp2_with fail
          go_ret
          exact ⟨by rw [HC.out]; rfl, HB.out⟩
        · have ht1 : 15 < tmp := by omega
          go_wp2_with fail
          go_ret
          exact ⟨by rw [HC.out]; rfl, HB.out⟩
      have HT := hide ht
      have ht0 : ¬ tmp < 0 := fun h => ht (Or.inl h)
      have ht1 : ¬ 15 < tmp := fun h => ht (Or.inr h)
      clear ht
      go_wp2_with fail
      clear ht0 ht1 hlt'
      generalize wr = w0 at *
      have HB0 := HB
      clear HB
      go_loopw [6] (fun i wi => ∃ j m : Nat, j ≤ L.length ∧ i = .int .i64 j ∧ Hid (wi = w0.drewN m) ∧ Hid (∀ i k (hi : i < L.length) (hk : k < i), i < j → ¬ (L[k]'(by omega)).2 = L[i].2)) (fun i _ => L.length - (intOf i).toNat)
      case atStart => exact ⟨0, 0, Nat.zero_le _, rfl, rfl, fun i k hi hk h => absurd h (by omega)⟩
      case round =>
        obtain ⟨j, m, hj, rfl, HB, HD⟩ := hrel
        by_cases hjl : j < L.length
        · have hjl' : (j : Int) < L.length := by omega
          go_wp2_with fail
          obtain ⟨g, o, rfl, E⟩ := HH.out (by omega)
          have HE := hide E
          clear E
          go_loopw [7] (fun i wi => ∃ e m2 : Nat, e ≤ j ∧ i = .int .i64 e ∧ Hid (wi = w0.drewN m2) ∧ Hid (∀ k (hk : k < j), k < e → ¬ (L[k]'(by omega)).2 = L[j].2)) (fun i _ => j - (intOf i).toNat)
          case atStart => exact ⟨0, m, Nat.zero_le _, rfl, HB, fun k hk h => absurd h (by omega)⟩
          case round =>
            clear HB
            obtain ⟨e, m2, he, rfl, HB2, HD2⟩ := hrel
            have HBB : Hid (Below w.heap.size w wr) := by rw [HB2.out]; exact below_drew HB0.out m2
            by_cases hej : e < j
            · have hej' : (e : Int) < j := by omega
              have hi1 : (0 : Int) ≤ e ∧ (e : Int) < L.length := by omega
              have hi2 : (0 : Int) ≤ j ∧ (j : Int) < L.length := by omega
              obtain ⟨-, -, d2, d3⟩ := HE.out _ HBB.out e (by omega)
              obtain ⟨-, -, d4, d5⟩ := HE.out _ HBB.out j (by omega)
              have HDU : Hid (L[e].2 = L[j].2 → chkN L tmp = 5) := fun h => by
                unfold chkN
                rw [if_neg H100.out, if_neg (by simpa using HAll.out), if_neg HT.out, if_pos ⟨j, e, by omega, hej, h⟩]
              have HDN : Hid (¬ L[e].2 = L[j].2 → ∀ k (hk : k < j), k < e + 1 → ¬ (L[k]'(by omega)).2 = L[j].2) := fun h k hk hke => by
                by_cases q : k = e
                · subst q; exact h
                · exact HD2.out k hk (by omega)
              generalize L[e].2 = y at *
              generalize L[j].2 = z at *
              obtain ⟨s1, x1⟩ := y
              obtain ⟨s2, x2⟩ := z
              simp only at d2 d3 d4 d5
              by_cases hq : (s1, x1) = (s2, x2)
              · have HC := hide (HDU.out hq)
                obtain ⟨rfl, rfl⟩ := Prod.mk.injEq .. ▸ hq
                go_wp2_with fail
                go_quiet (fail)
                generalize nq = q
                go_wp2_with fail
                go_ret
                exact ⟨by rw [HC.out]; rfl, below_drew HBB.out q⟩
              · have HD3 := hide (HDN.out hq)
                by_cases hs : s1 = s2
                focus
                  subst hs
                  have hx : ¬ x1 = x2 := fun h => hq (by rw [h])
                  have hx' : (x1 == x2) = false := by simpa using hx
                  go_wp2_with fail
                  go_quiet (fail)
                  generalize nq = q
                  go_wp2_with fail
                rotate_left
                focus
                  have hs' : (s1 == s2) = false := by simpa using hs
                  go_wp2_with fail
                  go_quiet (fail)
                  generalize nq = q
                  go_wp2_with fail
                rotate_left
                all_goals
                  go_roundw
                  case rel => exact ⟨e + 1, m2 + q, by omega, by go_num, by rw [HB2.out, World.drewN_drewN]; rfl, HD3⟩
                  case measure => simp [intOf]; omega
            · obtain rfl : e = j := by omega
              have hej' : ¬ (e : Int) < e := by omega
              have HD4 : Hid (∀ i k (hi : i < L.length) (hk : k < i), i < e + 1 → ¬ (L[k]'(by omega)).2 = L[i].2) := fun i k hi hk h => by
                by_cases q : i = e
                · subst q; exact HD2.out k hk (by omega)
                · exact HD.out i k hi hk (by omega)
              go_wp2_with fail
              go_roundw
              case rel => exact ⟨e + 1, m2, by omega, by go_num, HB2, HD4⟩
              case measure => simp [intOf]; omega
        · have hjl' : ¬ (j : Int) < L.length := by omega
          have HND : Hid (¬ dupP L) := fun ⟨i, k, hi, hk, h⟩ => HD.out i k hi hk (by omega) h
          have HBB : Hid (Below w.heap.size w wr) := by rw [HB.out]; exact below_drew HB0.out m
          clear HD HB HB0
          have HF := hide ((Fr.start wr).alloc rfl #[.bool false, .int .i64 tmp] 31)
          have HF0 : Hid (∀ w', Below wr.heap.size wr w' → Below w.heap.size w w') := fun w' hb => HBB.out.trans (hb.mono HBB.out.size)
          go_wp2_with fail
          generalize hxb : wr.heap.size = xb at *
          generalize hwa : wr.alloc _ = wa at *
          have HFB : Hid (∀ m, Below w.heap.size w (wa.drewN m)) := fun m => below_drew (HF0.out _ HF.out.below) m
          have HCB : Hid (∀ o, wa.cell? ⟨xb, o, none⟩ = #[Value.bool false, .int .i64 tmp][o]?) := HF.out.cell 0 rfl
          clear hjl' hxb hwa HF HF0 HBB
          go_loopw [9] (fun i wi => ∃ e m2 : Nat, e ≤ L.length ∧ i = .int .i64 e ∧ Hid (wi = wa.drewN m2) ∧ Hid (∀ j (h : j < L.length), j < e → isM (false, tmp) L[j] = false)) (fun i _ => L.length - (intOf i).toNat)
          case atStart => exact ⟨0, 0, Nat.zero_le _, rfl, rfl, fun j h hj => absurd hj (by omega)⟩
          case round =>
            obtain ⟨e, m2, he, rfl, HB, HI⟩ := hrel
            have HBB : Hid (Below w.heap.size w wr) := by rw [HB.out]; exact HFB.out m2
            have xc : ∀ o, wr.cell? ⟨xb, o, none⟩ = #[Value.bool false, .int .i64 tmp][o]? := fun o => dr HB.out (HCB.out o)
            by_cases hel : e < L.length
            · have hel' : (e : Int) < L.length := by omega
              have hidx : (0 : Int) ≤ e ∧ (e : Int) < L.length := by omega
              obtain ⟨g, o, rfl, E⟩ := HH.out (by omega)
              obtain ⟨d0, d1, d2, d3⟩ := E _ HBB.out e hel
              clear E
              have HM := hide (List.getElem_mem hel)
              have HC3 : Hid (isM (false, tmp) L[e] = true → chkN L tmp = 3) := fun h => by
                unfold chkN
                rw [if_neg H100.out, if_neg (by simpa using HAll.out), if_neg HT.out, if_neg HND.out, if_pos ⟨_, HM.out, h⟩]
              have HIN : Hid (isM (false, tmp) L[e] = false → ∀ j (h : j < L.length), j < e + 1 → isM (false, tmp) L[j] = false) := fun h j hj hje => by
                by_cases q : j = e
                · subst q; exact h
                · exact HI.out j hj (by omega)
              generalize L[e] = y at *
              obtain ⟨⟨s1, x1⟩, ⟨s2, x2⟩⟩ := y
              simp only at d0 d1 d2 d3
              by_cases hq1 : (s1, x1) = (false, tmp)
              · have HC := hide (HC3.out (by simp [isM, hq1]))
                obtain ⟨rfl, rfl⟩ : s1 = false ∧ x1 = tmp := Prod.mk.injEq .. ▸ hq1
                go_wp2_with fail
                go_quiet (fail)
                generalize nq = q
                go_wp2_with fail
                go_ret
                exact ⟨by rw [HC.out]; rfl, below_drew HBB.out q⟩
              by_cases hq2 : (s2, x2) = (false, tmp)
              · have HC := hide (HC3.out (by simp [isM, hq2]))
                by_cases hs1 : s1 = true
                · subst hs1
                  obtain ⟨rfl, rfl⟩ : s2 = false ∧ x2 = tmp := Prod.mk.injEq .. ▸ hq2
                  go_wp2_with fail
                  go_quiet (fail)
                  generalize nq = q
                  go_wp2_with fail
                  go_ret
                  exact ⟨by rw [HC.out]; rfl, below_drew HBB.out q⟩
                · have hs1' : s1 = false := by simpa using hs1
                  subst hs1'
                  have hx1 : ¬ x1 = tmp := fun h => hq1 (by rw [h])
                  have hx1' : (x1 == tmp) = false := by simpa using hx1
                  obtain ⟨rfl, rfl⟩ : s2 = false ∧ x2 = tmp := Prod.mk.injEq .. ▸ hq2
                  go_wp2_with fail
                  go_quiet (fail)
                  generalize nq = q
                  go_wp2_with fail
                  go_ret
                  exact ⟨by rw [HC.out]; rfl, below_drew HBB.out q⟩
              have HI2 := hide (HIN.out (by simp [isM, hq1, hq2]))
              by_cases hs1 : s1 = true
              · by_cases hs2 : s2 = true
                · subst hs1
                  subst hs2
                  go_wp2_with fail
                  go_quiet (fail)
                  generalize nq = q
                  go_wp2_with fail
                  go_roundw
                  case rel => exact ⟨e + 1, m2 + q, by omega, by go_num, by rw [HB.out, World.drewN_drewN]; rfl, HI2⟩
                  case measure => simp [intOf]; omega
                · subst hs1
                  have hs2' : s2 = false := by simpa using hs2
                  subst hs2'
                  have hx2 : ¬ x2 = tmp := fun h => hq2 (by rw [h])
                  have hx2' : (x2 == tmp) = false := by simpa using hx2
                  go_wp2_with fail
                  go_quiet (fail)
                  generalize nq = q
                  go_wp2_with fail
                  go_roundw
                  case rel => exact ⟨e + 1, m2 + q, by omega, by go_num, by rw [HB.out, World.drewN_drewN]; rfl, HI2⟩
                  case measure => simp [intOf]; omega
              · by_cases hs2 : s2 = true
                · have hs1' : s1 = false := by simpa using hs1
                  subst hs1'
                  have hx1 : ¬ x1 = tmp := fun h => hq1 (by rw [h])
                  have hx1' : (x1 == tmp) = false := by simpa using hx1
                  subst hs2
                  go_wp2_with fail
                  go_quiet (fail)
                  generalize nq = q
                  go_wp2_with fail
                  go_roundw
                  case rel => exact ⟨e + 1, m2 + q, by omega, by go_num, by rw [HB.out, World.drewN_drewN]; rfl, HI2⟩
                  case measure => simp [intOf]; omega
                · have hs1' : s1 = false := by simpa using hs1
                  subst hs1'
                  have hx1 : ¬ x1 = tmp := fun h => hq1 (by rw [h])
                  have hx1' : (x1 == tmp) = false := by simpa using hx1
                  have hs2' : s2 = false := by simpa using hs2
                  subst hs2'
                  have hx2 : ¬ x2 = tmp := fun h => hq2 (by rw [h])
                  have hx2' : (x2 == tmp) = false := by simpa using hx2
                  go_wp2_with fail
                  go_quiet (fail)
                  generalize nq = q
                  go_wp2_with fail
                  go_roundw
                  case rel => exact ⟨e + 1, m2 + q, by omega, by go_num, by rw [HB.out, World.drewN_drewN]; rfl, HI2⟩
                  case measure => simp [intOf]; omega
            · have hel' : ¬ (e : Int) < L.length := by omega
              have HC : Hid (chkN L tmp = 0) := by
                show _ = _
                unfold chkN
                rw [if_neg H100.out, if_neg (by simpa using HAll.out), if_neg HT.out, if_neg HND.out, if_neg]
                rintro ⟨mm, hm, h⟩
                obtain ⟨j, hj, rfl⟩ := List.getElem_of_mem hm
                rw [HI.out j hj (by omega)] at h
                cases h
              go_wp2_with fail
              go_ret
              exact ⟨by rw [HC.out]; rfl, HBB.out⟩
end Go.Proofs.Ytejionmgpplniaa.T
