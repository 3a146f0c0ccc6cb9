/- The contracts of the reference's Has and fits. -/
import Derived.Test.YthbhlmbhnidbhaaFind
namespace Go.Proofs.Ythbhlmbhnidbhaa.M
theorem idx_mem (l : List UInt8) (c : UInt8) : 0 ≤ Lib.indexByte l c ↔ ∃ i, ∃ h : i < l.length, l[i] = c := by
  induction l with
  | nil => simp [Lib.indexByte]
  | cons b l ih =>
    simp only [Lib.indexByte]
    by_cases hb : b = c
    · subst hb
      simp only [beq_self_eq_true, if_true]
      exact ⟨fun _ => ⟨0, by simp, rfl⟩, fun _ => by omega⟩
    · rw [if_neg (by simpa using hb)]
      have hge := Lib.indexByte_ge l c
      constructor
      · intro h
        have h1 : ¬ (Lib.indexByte l c == -1) = true := by
          intro e; rw [if_pos e] at h; omega
        rw [if_neg h1] at h
        have : 0 ≤ Lib.indexByte l c := by
          have : Lib.indexByte l c ≠ -1 := by simpa using h1
          omega
        obtain ⟨i, hi, e⟩ := ih.1 this
        exact ⟨i + 1, by simpa using hi, by simpa using e⟩
      · rintro ⟨i, hi, e⟩
        cases i with
        | zero => exact absurd e hb
        | succ i =>
          have := ih.2 ⟨i, by simpa using hi, by simpa using e⟩
          rw [if_neg (by simp; omega)]
          omega
theorem byte_of (b : UInt8) (r : Int) (h0 : 0 ≤ r) (h1 : r < 128) : b = r.toNat.toUInt8 ↔ (b.toNat : Int) = r := by
  constructor
  · rintro rfl
    simp
    omega
  · intro h
    apply UInt8.toNat_inj.1
    simp
    omega
theorem has_iff (k : Nat) (r : Int) (h0 : 0 ≤ r) (h1 : r < 128) : hasL k r = true ↔ ∃ i, ∃ h : i < (fl k).size, ((fl k)[i].toNat : Int) = r := by
  simp only [hasL, decide_eq_true_eq]
  rw [idx_mem]
  constructor
  · rintro ⟨i, h, e⟩; exact ⟨i, by simpa using h, (byte_of _ _ h0 h1).1 e⟩
  · rintro ⟨i, h, e⟩; exact ⟨i, by simpa using h, (byte_of _ _ h0 h1).2 e⟩
theorem fl_size (k : Nat) : (fl k).size ≤ 3 := by
  unfold fl; split <;> decide
end Go.Proofs.Ythbhlmbhnidbhaa.M
namespace Go.Proofs.Ythbhlmbhnidbhaa.W
open Go.RowKit Go.Proofs.Ythbhlmbhnidbhaa.M
set_option linter.unusedVariables false

set_option maxHeartbeats 1000000 in
theorem has_any (kd : Nat) (c : Int) (w : World) (h0 : 0 ≤ c) (h1 : c < 128) :
    Calls Try.prog 26 #[.string (fl kd), .int .u8 c] w fun e w' => e = .returned (.bool (hasL kd c)) ∧ w' = w := by
  have hs := fl_size kd
  have HI := hide (has_iff kd c h0 h1)
  generalize hasL kd c = t at *
  generalize fl kd = s at *
  go_enter Try.func26, Try.ntmps26
  go_wp2
  go_loop [5] (fun i => ∃ k : Nat, k ≤ s.size ∧ i = .int .i64 k ∧ Hid (∀ j, (hj : j < k) → (hj2 : j < s.size) → ((s[j].toNat : Int) ≠ c))) (fun i => s.size - (intOf i).toNat)
  case atStart => exact ⟨0, by omega, rfl, fun j hj => by omega⟩
  case round =>
    obtain ⟨k, hk, rfl, hall⟩ := hrel
    by_cases hlt : k < s.size
    · by_cases he : (s[k].toNat : Int) = c
      · have HE := hide he
        have he' : ((s[k].toNat : Int) == c) = true := by simpa using he
        clear he
        go_wp2
        go_ret
        exact ⟨ret_bool ((unhide HI).2 ⟨k, hlt, unhide HE⟩).symm, rfl⟩
      · have HE := hide he
        have he' : ((s[k].toNat : Int) == c) = false := by simpa using he
        clear he
        go_wp2
        go_round
        case rel => exact ⟨k + 1, by omega, by go_num, fun j hj hj2 => by
          by_cases e : j = k
          · subst e; exact unhide HE
          · exact unhide hall j (by omega) hj2⟩
        case measure => simp [intOf]; omega
    · have hk2 : k = s.size := by omega
      subst hk2
      go_wp2
      go_ret
      refine ⟨ret_bool ?_, rfl⟩
      cases t with
      | false => rfl
      | true =>
        obtain ⟨i, hi, e⟩ := (unhide HI).1 rfl
        exact absurd e (unhide hall i hi hi)

set_option maxHeartbeats 1000000 in
theorem fits_any (a : Int) (nm : ByteArray) (kd : Nat) (r n : Int) (w : World) (h0 : 0 ≤ r) (h1 : r < 128) (hsl : sgn kd = true → hasL kd r = true → r = 73 → lo kd = -32768 ∧ hi kd = 32767) (hsu : sgn kd = false → hasL kd r = true → r = 73 → lo kd = 0 ∧ hi kd = 65535) :
    Calls Try.prog 40 #[.agg #[.int .i64 a, .string nm, .string (fl kd), .bool (sgn kd)], .int .u8 r, .int .i64 n] w fun e w' => e = .returned (.bool (okL kd r n)) ∧ Below w.heap.size w w' := by
  have hB : Below w.heap.size w (w.alloc (.cells #[.int .i64 a, .string nm, .string (fl kd), .bool (sgn kd)] 70)) := (Below.refl _ _).alloc (Nat.le_refl _) _
  have HL := hide hsl
  have HU := hide hsu
  clear hsl hsu
  have hha := has_any kd r
  cases hh : hasL kd r with
  | false =>
    have H1 : Hid (okL kd r n = decide (n = 0)) := by show _ = _; simp [okL, hh]
    rw [hh] at hha
    by_cases hn : n = 0
    all_goals
      go_enter Try.func40, Try.ntmps40
      go_wp2_with (go_at_call 26; refine (hha _ h0 h1).mono ?_; rintro e w' ⟨rfl, rfl⟩)
      go_ret
      exact ⟨ret_bool (by rw [unhide H1]; simp [hn]), hB⟩
  | true =>
    rw [hh] at hha
    by_cases h73 : r = 73
    · cases hg : sgn kd with
      | true =>
        obtain ⟨e1, e2⟩ := unhide HL hg hh h73
        have H1 : Hid (okL kd r n = decide (-32768 ≤ n ∧ n ≤ 32767)) := by show _ = _; unfold okL; rw [if_pos hh, if_pos h73, e1, e2]
        clear e1 e2
        subst h73
        rw [hg] at hB
        have hcs : (-32768 ≤ n ∧ n ≤ 32767) ∨ (¬ -32768 ≤ n) ∨ (-32768 ≤ n ∧ ¬ n ≤ 32767) := by omega
        rcases hcs with ⟨ha, hb⟩ | ha | ⟨ha, hb⟩
        all_goals
          go_enter Try.func40, Try.ntmps40
          go_wp2_with (go_at_call 26; refine (hha _ h0 h1).mono ?_; rintro e w' ⟨rfl, rfl⟩)
          go_ret
          exact ⟨ret_bool (by rw [unhide H1]; first | (simp [ha, hb]; done) | (simp; omega)), hB⟩
      | false =>
        obtain ⟨e1, e2⟩ := unhide HU hg hh h73
        have H1 : Hid (okL kd r n = decide (0 ≤ n ∧ n ≤ 65535)) := by show _ = _; unfold okL; rw [if_pos hh, if_pos h73, e1, e2]
        clear e1 e2
        subst h73
        rw [hg] at hB
        have hcs : (0 ≤ n ∧ n ≤ 65535) ∨ (¬ 0 ≤ n) ∨ (0 ≤ n ∧ ¬ n ≤ 65535) := by omega
        rcases hcs with ⟨ha, hb⟩ | ha | ⟨ha, hb⟩
        all_goals
          go_enter Try.func40, Try.ntmps40
          go_wp2_with (go_at_call 26; refine (hha _ h0 h1).mono ?_; rintro e w' ⟨rfl, rfl⟩)
          go_ret
          exact ⟨ret_bool (by rw [unhide H1]; first | (simp [ha, hb]; done) | (simp; omega)), hB⟩
    · have H1 : Hid (okL kd r n = decide (0 ≤ n ∧ n ≤ 15)) := by show _ = _; unfold okL; rw [if_pos hh, if_neg h73]
      have h73' : (r == 73) = false := by simpa using h73
      have hcs : (0 ≤ n ∧ n ≤ 15) ∨ (¬ 0 ≤ n) ∨ (0 ≤ n ∧ ¬ n ≤ 15) := by omega
      rcases hcs with ⟨ha, hb⟩ | ha | ⟨ha, hb⟩
      all_goals
        go_enter Try.func40, Try.ntmps40
        go_wp2_with (go_at_call 26; refine (hha _ h0 h1).mono ?_; rintro e w' ⟨rfl, rfl⟩)
        go_ret
        exact ⟨ret_bool (by rw [unhide H1]; first | (simp [ha, hb]; done) | (simp; omega)), hB⟩
end Go.Proofs.Ythbhlmbhnidbhaa.W
