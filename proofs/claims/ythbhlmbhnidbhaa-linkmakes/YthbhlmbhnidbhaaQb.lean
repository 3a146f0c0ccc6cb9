/- The contracts of the program's signMay, symbolMay. -/
import Derived.Test.YthbhlmbhnidbhaaLf
import Derived.Test.YthbhlmbhnidbhaaQa
import Derived.Test.YthbhlmbhnidbhaaPName
namespace Go.Proofs.Ythbhlmbhnidbhaa.T
open Go.RowKit Go.Proofs.Ythbhlmbhnidbhaa.M
set_option linter.unusedVariables false
set_option linter.unusedSimpArgs false
theorem psign_any (s : ByteArray) (w : World) (hs : s.size ≤ maxLen) : Calls Try.prog 60 #[.string s] w fun e w' => e = .returned (.bool (sgnB s)) ∧ w' = w := by
  unfold maxLen at hs
  have HR : Hid (sgnB s = (decide (1 ≤ s.size) && decide (s.size ≤ 2000) && (List.range s.size).all (chB s))) := rfl
  rw [HR.out]
  have HT : Hid ((∀ j, j < s.size → chB s j = true) → (List.range s.size).all (chB s) = true) := fun h => List.all_eq_true.2 fun j hj => h j (List.mem_range.1 hj)
  have HX : Hid (∀ k, k < s.size → chB s k = false → (List.range s.size).all (chB s) = false) := fun k hk h => by
    cases e : (List.range s.size).all (chB s) with
    | false => rfl
    | true =>
      have := List.all_eq_true.1 e k (List.mem_range.2 hk)
      rw [this] at h
      cases h
  have HG : Hid (∀ k (hlt : k < s.size), chB s k = (decide (32 ≤ (s[k]'hlt).toNat) && decide ((s[k]'hlt).toNat ≤ 126))) := fun k hlt => by
    have : (bytes s).getD k 0 = s[k]'hlt := by
      unfold bytes
      rw [List.getD_eq_getElem?_getD, Array.getElem?_toList, Array.getElem?_eq_getElem (show k < s.data.size from hlt)]
      rfl
    unfold chB
    rw [this]
  clear HR
  generalize (List.range s.size).all (chB s) = R at *
  by_cases h1 : 1 ≤ s.size
  case neg =>
    have h1' : (s.size : Int) < 1 := by omega
    go_enter Try.func60, Try.ntmps60
    go_wp2_with fail
    go_ret
    exact ⟨by simp [h1], rfl⟩
  have h1' : ¬ (s.size : Int) < 1 := by omega
  by_cases h2 : s.size ≤ 2000
  case neg =>
    have h2' : (2000 : Int) < s.size := by omega
    go_enter Try.func60, Try.ntmps60
    go_wp2_with fail
    go_ret
    exact ⟨by simp [h2], rfl⟩
  have h2' : ¬ (2000 : Int) < s.size := by omega
  rw [show (decide (1 ≤ s.size) && decide (s.size ≤ 2000) && R) = R by simp [h1, h2]]
  go_enter Try.func60, Try.ntmps60
  go_wp2_with fail
  clear h1' h2'
  go_loopw [14] (fun i wr => ∃ k : Nat, k ≤ s.size ∧ i = .int .i64 k ∧ wr = w ∧ Hid (∀ j, j < k → chB s j = true)) (fun i _ => s.size - (intOf i).toNat)
  case atStart => exact ⟨0, Nat.zero_le _, rfl, rfl, fun j hj => absurd hj (by omega)⟩
  case round =>
    obtain ⟨k, hk, rfl, rfl, HA⟩ := hrel
    by_cases hlt : k < s.size
    · have hlt' : (k : Int) < s.size := by omega
      have hidx : (0 : Int) ≤ k ∧ (k : Int) < s.size := by omega
      have HN : Hid (chB s k = true → ∀ j, j < k + 1 → chB s j = true) := fun h j hj => by
        by_cases q : j = k
        · subst q; exact h
        · exact HA.out j (by omega)
      have HXk := hide (HX.out k hlt)
      have HGk := hide (HG.out k hlt)
      clear HA HX HG HT
      generalize hc : (s[k]'hlt).toNat = c at *
      by_cases h32 : 32 ≤ c
      · have h32' : ¬ (c : Int) < 32 := by omega
        by_cases h126 : c ≤ 126
        · have h126' : ¬ (126 : Int) < c := by omega
          go_wp2_with fail
          go_roundw
          case rel => exact ⟨k + 1, by omega, by go_num, by simp, HN.out (HGk.out.trans (by simp [h32, h126]))⟩
          case measure => simp [intOf]; omega
        · have h126' : (126 : Int) < c := by omega
          go_wp2_with fail
          go_ret
          obtain rfl := HXk.out (HGk.out.trans (by simp [h126]))
          exact ⟨rfl, rfl⟩
      · have h32' : (c : Int) < 32 := by omega
        go_wp2_with fail
        go_ret
        obtain rfl := HXk.out (HGk.out.trans (by simp [h32]))
        exact ⟨rfl, rfl⟩
    · obtain rfl : k = s.size := by omega
      have hlt' : ¬ ((s.size : Nat) : Int) < (s.size : Nat) := by omega
      go_wp2_with fail
      go_ret
      obtain rfl := HT.out HA.out
      exact ⟨rfl, rfl⟩

set_option maxRecDepth 100000 in
set_option maxHeartbeats 4000000 in
theorem symmay_any (s : Sy) (w : World) (b1 : In64 s.kind) (b2 : In64 s.pl) (b3 : In64 s.size) (b4 : In64 s.frame) (b5 : s.name.size ≤ maxLen) (b6 : s.sign.size ≤ maxLen) : Calls Try.prog 52 #[.agg #[.string s.name, .int .i64 s.kind, .bool s.stat, .int .i64 s.pl, .int .i64 s.size, .string s.sign, .int .i64 s.frame]] w fun e w' => e = .returned (.bool (sMayB s)) ∧ Below w.heap.size w w' := by
  obtain ⟨nm, kd, st, pl, sz, sg, fr⟩ := s
  simp only at *
  have HR : Hid (sMayB ⟨nm, kd, st, pl, sz, sg, fr⟩ = (nameB (bytes nm) && sgnB sg && kMayB ⟨nm, kd, st, pl, sz, sg, fr⟩)) := rfl
  obtain ⟨R, HRR⟩ : ∃ R, Hid (sMayB ⟨nm, kd, st, pl, sz, sg, fr⟩ = R) := ⟨_, rfl⟩
  rw [HRR.out] at HR
  rw [HRR.out]
  clear HRR
  have HK : Hid (kMayB ⟨nm, kd, st, pl, sz, sg, fr⟩ = if kd = 1 then decide (0 ≤ fr) && decide (fr ≤ 16000) else if kd = 2 then decide (fr = 0) else if kd = 3 ∨ kd = 4 then decide (pl = 0) && decide (sz = 0) && decide (fr = 0) && !st else false) := rfl
  generalize kMayB ⟨nm, kd, st, pl, sz, sg, fr⟩ = K at *
  have hN := fun w' => pname_any nm w' b5
  have hG := fun w' => psign_any sg w' b6
  generalize nameB (bytes nm) = n1 at *
  generalize sgnB sg = g1 at *
  have HF := hide ((Fr.start w).alloc rfl #[.string nm, .int .i64 kd, .bool st, .int .i64 pl, .int .i64 sz, .string sg, .int .i64 fr] 59)
  have c0 := HF.out.cell 0 rfl
  unfold In64 at *
  cases n1 with
  | false =>
    obtain rfl : R = false := by rw [HR.out]; rfl
    go_enter Try.func52, Try.ntmps52
    go_wp2_with fail
    go_at_call 59
    refine (hN _).mono ?_
    rintro e w1 ⟨rfl, rfl⟩
    go_wp2_with fail
    go_ret
    exact ⟨rfl, HF.out.below⟩
  | true =>
  cases g1 with
  | false =>
    obtain rfl : R = false := by rw [HR.out]; rfl
    go_enter Try.func52, Try.ntmps52
    go_wp2_with fail
    go_at_call 59
    refine (hN _).mono ?_
    rintro e w1 ⟨rfl, rfl⟩
    go_wp2_with fail
    go_at_call 60
    refine (hG _).mono ?_
    rintro e w1 ⟨rfl, rfl⟩
    go_wp2_with fail
    go_ret
    exact ⟨rfl, HF.out.below⟩
  | true =>
  have HR2 : Hid (R = K) := by show R = K; rw [HR.out]; rfl
  clear HR
  by_cases k1 : kd = 1
  · subst k1
    have HK2 : Hid (K = (decide (0 ≤ fr) && decide (fr ≤ 16000))) := HK.out.trans (by simp)
    clear HK
    go_enter Try.func52, Try.ntmps52
    go_wp2_with fail
    go_at_call 59
    refine (hN _).mono ?_
    rintro e w1 ⟨rfl, rfl⟩
    go_wp2_with fail
    go_at_call 60
    refine (hG _).mono ?_
    rintro e w1 ⟨rfl, rfl⟩
    by_cases f0 : 0 ≤ fr
    · by_cases f1 : fr ≤ 16000
      · go_wp2_with fail
        go_ret
        exact ⟨by rw [HR2.out, HK2.out]; first | (simp [f0, f1]; done) | (simp; omega) | (simp; intros; omega), HF.out.below⟩
      · go_wp2_with fail
        go_ret
        exact ⟨by rw [HR2.out, HK2.out]; first | (simp [f0, f1]; done) | (simp; omega) | (simp; intros; omega), HF.out.below⟩
    · go_wp2_with fail
      go_ret
      exact ⟨by rw [HR2.out, HK2.out]; first | (simp [f0]; done) | (simp; omega) | (simp; intros; omega), HF.out.below⟩
  by_cases k2 : kd = 2
  · subst k2
    have HK2 : Hid (K = decide (fr = 0)) := HK.out.trans (by simp)
    clear HK
    go_enter Try.func52, Try.ntmps52
    go_wp2_with fail
    go_at_call 59
    refine (hN _).mono ?_
    rintro e w1 ⟨rfl, rfl⟩
    go_wp2_with fail
    go_at_call 60
    refine (hG _).mono ?_
    rintro e w1 ⟨rfl, rfl⟩
    go_wp2_with fail
    go_ret
    exact ⟨by rw [HR2.out, HK2.out]; by_cases h : fr = 0 <;> simp [h], HF.out.below⟩
  by_cases k3 : kd = 3 ∨ kd = 4
  · have HK2 : Hid (K = (decide (pl = 0) && decide (sz = 0) && decide (fr = 0) && !st)) := HK.out.trans (by simp [k1, k2, k3])
    clear HK
    rcases k3 with rfl | rfl
    all_goals
      go_enter Try.func52, Try.ntmps52
      go_wp2_with fail
      go_at_call 59
      refine (hN _).mono ?_
      rintro e w1 ⟨rfl, rfl⟩
      go_wp2_with fail
      go_at_call 60
      refine (hG _).mono ?_
      rintro e w1 ⟨rfl, rfl⟩
      go_wp2_with fail
      all_goals
        go_ret
        exact ⟨by rw [HR2.out, HK2.out]; simp [*], (Below.refl _ _).alloc (Nat.le_refl _) _⟩
  · have HK2 : Hid (K = false) := HK.out.trans (by simp [k1, k2, k3])
    have k3' : ¬ kd = 3 := by omega
    have k4' : ¬ kd = 4 := by omega
    obtain rfl : R = false := HR2.out.trans HK2.out
    clear HK k3
    go_enter Try.func52, Try.ntmps52
    go_wp2_with fail
    go_at_call 59
    refine (hN _).mono ?_
    rintro e w1 ⟨rfl, rfl⟩
    go_wp2_with fail
    go_at_call 60
    refine (hG _).mono ?_
    rintro e w1 ⟨rfl, rfl⟩
    go_wp2_with fail
    go_ret
    exact ⟨rfl, HF.out.below⟩
end Go.Proofs.Ythbhlmbhnidbhaa.T
