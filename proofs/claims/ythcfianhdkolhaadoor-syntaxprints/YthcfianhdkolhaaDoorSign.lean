/- The reference's Sign. -/
import Derived.Test.YthcfianhdkolhaaDoorOb
namespace Go.Proofs.YthcfianhdkolhaaDoor.T
open Go.RowKit Go.Proofs.YthcfianhdkolhaaDoor.S
set_option linter.unusedVariables false
set_option linter.unusedSimpArgs false
theorem str_eqB (a : List UInt8) (x : ByteArray) : ((str a).toList == x.toList) = decide (a = x.data.toList) := by
  rw [ByteArray.toList_eq, ByteArray.toList_eq]
  have : (str a).data.toList = a := by simp [str]
  rw [this]
  by_cases h : a = x.data.toList
  · rw [decide_eq_true h, h]; simp
  · rw [decide_eq_false h]; simpa using h
theorem grown_app {a b c : World} {r : Option Nat} (h : a.grownBy b r) (k : b.grownBy c r) : a.grownBy c r := ⟨k.os.trans h.os, k.tape.trans h.tape, k.output.trans h.output, Nat.le_trans h.size k.size, fun i hi hn => (k.block i (Nat.lt_of_lt_of_le hi h.size) hn).trans (h.block i hi hn)⟩
def sgs : List (List UInt8) := [sSAME, sLESS, sPLUS, sMINUS, sOR, sXOR, sMUL, sDIV, sREM, sAMP]
def ops : List Int := [12, 10, 1, 2, 8, 9, 3, 5, 6, 7]
def sgN (k : Nat) : ByteArray := str (sgs.getD k [])
def opN (k : Nat) : Int := ops.getD k 0
def lvN (k : Nat) : Int := if k < 2 then 0 else if k < 6 then 1 else 2
theorem sign_hit {s : List UInt8} {k : Nat} (hk : k < 10) (h : sgs.getD k [] = s) : sign s = (lvN k, opN k) := by
  have : k = 0 ∨ k = 1 ∨ k = 2 ∨ k = 3 ∨ k = 4 ∨ k = 5 ∨ k = 6 ∨ k = 7 ∨ k = 8 ∨ k = 9 := by omega
  rcases this with rfl | rfl | rfl | rfl | rfl | rfl | rfl | rfl | rfl | rfl <;> (subst h; decide)
theorem sign_miss {s : List UInt8} (h : ∀ k, k < 10 → sgs.getD k [] ≠ s) : sign s = (-1, 0) := by
  have h0 := h 0 (by omega)
  have h1 := h 1 (by omega)
  have h2 := h 2 (by omega)
  have h3 := h 3 (by omega)
  have h4 := h 4 (by omega)
  have h5 := h 5 (by omega)
  have h6 := h 6 (by omega)
  have h7 := h 7 (by omega)
  have h8 := h 8 (by omega)
  have h9 := h 9 (by omega)
  unfold sign
  rw [if_neg (fun e => h0 e.symm), if_neg (fun e => h1 e.symm), if_neg (fun e => h2 e.symm), if_neg (fun e => h3 e.symm), if_neg (fun e => h4 e.symm), if_neg (fun e => h5 e.symm), if_neg (fun e => h6 e.symm), if_neg (fun e => h7 e.symm), if_neg (fun e => h8 e.symm), if_neg (fun e => h9 e.symm)]
set_option maxRecDepth 100000 in
set_option maxHeartbeats 1000000 in
theorem sign_key (s : List UInt8) (w : World) (a c : Int) (HR : Hid ((a, c) = sign s)) : Calls Tryd.prog 38 #[.string (str s)] w fun e w' => e = .returned (.tuple #[.int .i64 a, .int .i64 c]) ∧ w.grownBy w' none := by
  go_enter Tryd.func38, Tryd.ntmps38
  go_wp2_with fail
  have hg0 : w.grownBy ((w.alloc (.cells #[Value.string ⟨#[61, 61]⟩, Value.string ⟨#[60]⟩, Value.string ⟨#[43]⟩, Value.string ⟨#[45]⟩, Value.string ⟨#[124]⟩, Value.string ⟨#[94]⟩, Value.string ⟨#[42]⟩, Value.string ⟨#[47]⟩, Value.string ⟨#[37]⟩, Value.string ⟨#[38]⟩] 9)).alloc (.cells #[Value.int .i64 12, Value.int .i64 10, Value.int .i64 1, Value.int .i64 2, Value.int .i64 8, Value.int .i64 9, Value.int .i64 3, Value.int .i64 5, Value.int .i64 6, Value.int .i64 7] 2)) none := ⟨rfl, rfl, rfl, by simp; omega, fun k hk _ => (Below.heap_alloc _ _ k (by simp; omega)).trans (Below.heap_alloc _ _ k hk)⟩
  have hx0 : ∀ o, ((w.alloc (.cells #[Value.string ⟨#[61, 61]⟩, Value.string ⟨#[60]⟩, Value.string ⟨#[43]⟩, Value.string ⟨#[45]⟩, Value.string ⟨#[124]⟩, Value.string ⟨#[94]⟩, Value.string ⟨#[42]⟩, Value.string ⟨#[47]⟩, Value.string ⟨#[37]⟩, Value.string ⟨#[38]⟩] 9)).alloc (.cells #[Value.int .i64 12, Value.int .i64 10, Value.int .i64 1, Value.int .i64 2, Value.int .i64 8, Value.int .i64 9, Value.int .i64 3, Value.int .i64 5, Value.int .i64 6, Value.int .i64 7] 2)).cell? ⟨w.heap.size, o, none⟩ = (#[Value.string ⟨#[61, 61]⟩, Value.string ⟨#[60]⟩, Value.string ⟨#[43]⟩, Value.string ⟨#[45]⟩, Value.string ⟨#[124]⟩, Value.string ⟨#[94]⟩, Value.string ⟨#[42]⟩, Value.string ⟨#[47]⟩, Value.string ⟨#[37]⟩, Value.string ⟨#[38]⟩])[o]? := fun o => (World.cell?_alloc_past _ _ _ (by simp)).trans (World.cell?_alloc_at _ _ _ _ rfl)
  have hy0 : ∀ o, ((w.alloc (.cells #[Value.string ⟨#[61, 61]⟩, Value.string ⟨#[60]⟩, Value.string ⟨#[43]⟩, Value.string ⟨#[45]⟩, Value.string ⟨#[124]⟩, Value.string ⟨#[94]⟩, Value.string ⟨#[42]⟩, Value.string ⟨#[47]⟩, Value.string ⟨#[37]⟩, Value.string ⟨#[38]⟩] 9)).alloc (.cells #[Value.int .i64 12, Value.int .i64 10, Value.int .i64 1, Value.int .i64 2, Value.int .i64 8, Value.int .i64 9, Value.int .i64 3, Value.int .i64 5, Value.int .i64 6, Value.int .i64 7] 2)).cell? ⟨w.heap.size + 1, o, none⟩ = (#[Value.int .i64 12, Value.int .i64 10, Value.int .i64 1, Value.int .i64 2, Value.int .i64 8, Value.int .i64 9, Value.int .i64 3, Value.int .i64 5, Value.int .i64 6, Value.int .i64 7])[o]? := fun o => World.cell?_alloc_at _ _ _ _ (by simp)
  have hx1 : ∀ k, k < 10 → ((w.alloc (.cells #[Value.string ⟨#[61, 61]⟩, Value.string ⟨#[60]⟩, Value.string ⟨#[43]⟩, Value.string ⟨#[45]⟩, Value.string ⟨#[124]⟩, Value.string ⟨#[94]⟩, Value.string ⟨#[42]⟩, Value.string ⟨#[47]⟩, Value.string ⟨#[37]⟩, Value.string ⟨#[38]⟩] 9)).alloc (.cells #[Value.int .i64 12, Value.int .i64 10, Value.int .i64 1, Value.int .i64 2, Value.int .i64 8, Value.int .i64 9, Value.int .i64 3, Value.int .i64 5, Value.int .i64 6, Value.int .i64 7] 2)).cell? ⟨w.heap.size, k, none⟩ = some (.string (sgN k)) := fun k hk => by
    rw [hx0]
    have : k = 0 ∨ k = 1 ∨ k = 2 ∨ k = 3 ∨ k = 4 ∨ k = 5 ∨ k = 6 ∨ k = 7 ∨ k = 8 ∨ k = 9 := by omega
    rcases this with rfl | rfl | rfl | rfl | rfl | rfl | rfl | rfl | rfl | rfl <;> rfl
  have hy1 : ∀ k, k < 10 → ((w.alloc (.cells #[Value.string ⟨#[61, 61]⟩, Value.string ⟨#[60]⟩, Value.string ⟨#[43]⟩, Value.string ⟨#[45]⟩, Value.string ⟨#[124]⟩, Value.string ⟨#[94]⟩, Value.string ⟨#[42]⟩, Value.string ⟨#[47]⟩, Value.string ⟨#[37]⟩, Value.string ⟨#[38]⟩] 9)).alloc (.cells #[Value.int .i64 12, Value.int .i64 10, Value.int .i64 1, Value.int .i64 2, Value.int .i64 8, Value.int .i64 9, Value.int .i64 3, Value.int .i64 5, Value.int .i64 6, Value.int .i64 7] 2)).cell? ⟨w.heap.size + 1, k, none⟩ = some (.int .i64 (opN k)) := fun k hk => by
    rw [hy0]
    have : k = 0 ∨ k = 1 ∨ k = 2 ∨ k = 3 ∨ k = 4 ∨ k = 5 ∨ k = 6 ∨ k = 7 ∨ k = 8 ∨ k = 9 := by omega
    rcases this with rfl | rfl | rfl | rfl | rfl | rfl | rfl | rfl | rfl | rfl <;> rfl
  generalize ((w.alloc (.cells #[Value.string ⟨#[61, 61]⟩, Value.string ⟨#[60]⟩, Value.string ⟨#[43]⟩, Value.string ⟨#[45]⟩, Value.string ⟨#[124]⟩, Value.string ⟨#[94]⟩, Value.string ⟨#[42]⟩, Value.string ⟨#[47]⟩, Value.string ⟨#[37]⟩, Value.string ⟨#[38]⟩] 9)).alloc (.cells #[Value.int .i64 12, Value.int .i64 10, Value.int .i64 1, Value.int .i64 2, Value.int .i64 8, Value.int .i64 9, Value.int .i64 3, Value.int .i64 5, Value.int .i64 6, Value.int .i64 7] 2)) = W at *
  have HG := hide hg0
  have HC := hide (And.intro hx1 hy1)
  clear hg0 hx0 hy0 hx1 hy1
  go_loopw [6] (fun i wr => ∃ k : Nat, k ≤ 10 ∧ i = .int .i64 k ∧ wr = W ∧ Hid (∀ j, j < k → sgs.getD j [] ≠ s)) (fun i _ => 10 - (intOf i).toNat)
  case atStart => exact ⟨0, Nat.zero_le _, rfl, rfl, fun j hj => by omega⟩
  case round =>
    obtain ⟨k, hk, rfl, rfl, HK⟩ := hrel
    by_cases hlt : k < 10
    · have hlt' : (k : Int) < 10 := by omega
      have hidx : (0 : Int) ≤ k ∧ (k : Int) < 10 := by omega
      have c1 := HC.out.1 k hlt
      have c2 := HC.out.2 k hlt
      have hq : ((sgN k).toList == (str s).toList) = decide (sgs.getD k [] = s) := by
        unfold sgN
        rw [str_eqB]
        exact decide_eq_decide.2 (by rw [show (str s).data.toList = s by simp [str]])
      by_cases e : sgs.getD k [] = s
      · rw [decide_eq_true e] at hq
        have HA : Hid (a = lvN k ∧ c = opN k) := by
          have q := HR.out.trans (sign_hit hlt e)
          injection q with q1 q2
          exact ⟨q1, q2⟩
        have HE := hide e
        clear e
        by_cases k2 : k < 2
        · have k2' : (k : Int) < 2 := by omega
          have hl : lvN k = 0 := by unfold lvN; rw [if_pos k2]
          have HL := hide hl
          clear hl
          go_wp2_with fail
          go_quiet (fail)
          generalize nq = q
          go_wp2_with fail
          go_ret2
          exact ⟨by rw [HA.out.1, HA.out.2, HL.out]; rfl, grown_app HG.out (grown_drewN _ _)⟩
        · have k2' : ¬ (k : Int) < 2 := by omega
          by_cases k6 : k < 6
          · have k6' : (k : Int) < 6 := by omega
            have hl : lvN k = 1 := by unfold lvN; rw [if_neg k2, if_pos k6]
            have HL := hide hl
            clear hl
            go_wp2_with fail
            go_quiet (fail)
            generalize nq = q
            go_wp2_with fail
            go_ret2
            exact ⟨by rw [HA.out.1, HA.out.2, HL.out]; rfl, grown_app HG.out (grown_drewN _ _)⟩
          · have k6' : ¬ (k : Int) < 6 := by omega
            have hl : lvN k = 2 := by unfold lvN; rw [if_neg k2, if_neg k6]
            have HL := hide hl
            clear hl
            go_wp2_with fail
            go_quiet (fail)
            generalize nq = q
            go_wp2_with fail
            go_ret2
            exact ⟨by rw [HA.out.1, HA.out.2, HL.out]; rfl, grown_app HG.out (grown_drewN _ _)⟩
      · rw [decide_eq_false e] at hq
        have HK1 : Hid (∀ j, j < k + 1 → sgs.getD j [] ≠ s) := fun j hj => by
          by_cases q : j = k
          · subst q; exact e
          · exact HK.out j (by omega)
        clear e
        go_wp2_with fail
        go_roundw
        case rel => exact ⟨k + 1, by omega, by go_num, trivial, HK1⟩
        case measure => simp [intOf]; omega
    · obtain rfl : k = 10 := by omega
      have HA : Hid (a = -1 ∧ c = 0) := by
        have q := HR.out.trans (sign_miss HK.out)
        injection q with q1 q2
        exact ⟨q1, q2⟩
      go_wp2_with fail
      go_ret2
      exact ⟨by rw [HA.out.1, HA.out.2]; rfl, HG.out⟩
theorem sign_any (s : List UInt8) (w : World) : Calls Tryd.prog 38 #[.string (str s)] w fun e w' => e = .returned (.tuple #[.int .i64 (sign s).1, .int .i64 (sign s).2]) ∧ w.grownBy w' none := sign_key s w _ _ rfl
end Go.Proofs.YthcfianhdkolhaaDoor.T
