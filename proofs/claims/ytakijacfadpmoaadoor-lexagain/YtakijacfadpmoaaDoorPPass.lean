/- The program's passBlanks. -/
import Derived.Test.YtakijacfadpmoaaDoorSc
import Derived.WalkMore
import Derived.ScopeJumps
namespace Go.Proofs.YtakijacfadpmoaaDoor.T
open Go.RowKit
set_option linter.unusedVariables false
set_option linter.unusedSimpArgs false
variable {w0 w : World} {b : Nat} {t : ByteArray} {c p : Int} {i : Nat} {L : List Tok}
def atOf (w : World) (b : Nat) : Nat := match w.cell? ⟨b, 3, none⟩ with | some (.int _ q) => q.toNat | _ => 0
theorem Sc.atOf (h : Sc w0 w b t c p i L) : atOf w b = i := by
  obtain ⟨v, h1, _⟩ := h.blk
  have := cells_at h1 3
  unfold T.atOf
  rw [this]
  simp
set_option maxRecDepth 100000 in
set_option maxHeartbeats 4000000 in
theorem pass_any (h : Sc w0 w b t c p i L) : Calls Tryd.prog 7 #[.pointer (some ⟨b, 0, none⟩)] w fun e w' => (∃ v, e = .returned v) ∧ ∃ j, i ≤ j ∧ Sc w0 w' b t c p j L ∧ (∀ l, scanAt t i false l = scanAt t j false l) ∧ (j = t.size ∨ blank false (byteAt t j) = false) := by
  have HS := hide h
  clear h
  go_enter Tryd.func7, Tryd.ntmps7
  go_wp2_with fail
  refine wp_scope_jumps 0 (fun a' w' => ∃ j, i ≤ j ∧ Hid (Sc w0 w' b t c p j L) ∧ Hid (∀ l, scanAt t i false l = scanAt t j false l) ∧ ∃ (u2 u3 u4 u5 u6 u7 u8 u9 u10 u11 u12 u13 u14 u15 u16 u17 u18 u19 u20 u21 u22 u23 u24 u25 u26 u27 u28 u29 u30 u31 u32 u33 u34 u35 u36 u37 u38 u39 u40 u41 u42 u43 u44 : Value), a' = { tmps := #[.pointer (some ⟨b, 0, none⟩), undef, u2, u3, u4, u5, u6, u7, u8, u9, u10, u11, u12, u13, u14, u15, u16, u17, u18, u19, u20, u21, u22, u23, u24, u25, u26, u27, u28, u29, u30, u31, u32, u33, u34, u35, u36, u37, u38, u39, u40, u41, u42, u43, u44], defers := [] }) (fun _ w' => t.size - T.atOf w' b) rfl ?_ ?_
  · have hlen := HS.out.len
    have hle := HS.out.le
    obtain ⟨v, h1, h2⟩ := HS.out.blk
    have hc := cells_at h1
    have hf := frozen_at h1
    have hat := HS.out.many
    clear h2 h1
    go_wp2_with fail
    go_step3
    by_cases hlt : i < t.size
    · have hlt' : (i : Int) < t.size := by omega
      have e0 : ((i : Int) == t.size) = false := by simp; omega
      have hidx : (0 : Int) ≤ i ∧ (i : Int) < t.size := by omega
      have HBy := hide (byteAt_get t i hlt)
      have hw1 : IntKind.i64.wrap ((i : Int) + 1) = ((i + 1 : Nat) : Int) := by rw [IntKind.wrap_i64]; omega
      by_cases c32 : t[i].toNat = 32
      · have e32 : ((t[i].toNat : Int) == 32) = true := by simp; omega
        have HN := hide (pass_blank t i hlt (Or.inl (HBy.out.trans c32)))
        clear c32
        go_wp2_with fail
        go_quiet (fail)
        generalize nq = q1
        go_wp2_with fail
        go_quiet (fail)
        generalize nq = q2
        have hS2 : Sc w0 ((w.drewN q1).drewN q2) b t c p i L := HS.out.kept (below_drew (below_drew (Below.refl _ _) _) _)
        generalize (w.drewN q1).drewN q2 = w2 at *
        obtain ⟨v2, k1, k2⟩ := hS2.blk
        have hc2 := cells_at k1
        have hf2 := frozen_at k1
        have HS2 := hide hS2
        clear hS2 k1 k2 hc hf
        have HN1 : Hid (Sc w0 (w2.setCell ⟨b, 3, none⟩ (.int .i64 ((i : Int) + 1))) b t c p (i + 1) L) := HS2.out.at (i + 1) (by omega) (by omega)
        go_wp2_with fail
        go_step3
        refine ⟨rfl, ⟨_, by omega, HN1, fun l => HN.out l, _, _, _, _, _, _, _, _, _, _, _, _, _, _, _, _, _, _, _, _, _, _, _, _, _, _, _, _, _, _, _, _, _, _, _, _, _, _, _, _, _, _, _, rfl⟩⟩
      have e32 : ((t[i].toNat : Int) == 32) = false := by simp; omega
      by_cases c10 : t[i].toNat = 10
      · have e10 : ((t[i].toNat : Int) == 10) = true := by simp; omega
        have HN := hide (pass_blank t i hlt (Or.inr (HBy.out.trans c10)))
        clear c10 c32
        go_wp2_with fail
        go_quiet (fail)
        generalize nq = q1
        go_wp2_with fail
        go_quiet (fail)
        generalize nq = q2
        have hS2 : Sc w0 ((w.drewN q1).drewN q2) b t c p i L := HS.out.kept (below_drew (below_drew (Below.refl _ _) _) _)
        generalize (w.drewN q1).drewN q2 = w2 at *
        obtain ⟨v2, k1, k2⟩ := hS2.blk
        have hc2 := cells_at k1
        have hf2 := frozen_at k1
        have HS2 := hide hS2
        clear hS2 k1 k2 hc hf
        have HN1 : Hid (Sc w0 (w2.setCell ⟨b, 3, none⟩ (.int .i64 ((i : Int) + 1))) b t c p (i + 1) L) := HS2.out.at (i + 1) (by omega) (by omega)
        go_wp2_with fail
        go_step3
        refine ⟨rfl, ⟨_, by omega, HN1, fun l => HN.out l, _, _, _, _, _, _, _, _, _, _, _, _, _, _, _, _, _, _, _, _, _, _, _, _, _, _, _, _, _, _, _, _, _, _, _, _, _, _, _, _, _, _, _, rfl⟩⟩
      have e10 : ((t[i].toNat : Int) == 10) = false := by simp; omega
      by_cases c35 : t[i].toNat = 35
      · have e35 : ((t[i].toNat : Int) == 35) = true := by simp; omega
        have H35 := hide (HBy.out.trans c35)
        clear c10 c32 c35
        go_wp2_with fail
        go_quiet (fail)
        generalize nq = q1
        go_wp2_with fail
        go_quiet (fail)
        generalize nq = q2
        have hS2 : Sc w0 ((w.drewN q1).drewN q2) b t c p i L := HS.out.kept (below_drew (below_drew (Below.refl _ _) _) _)
        generalize (w.drewN q1).drewN q2 = w2 at *
        obtain ⟨v2, k1, k2⟩ := hS2.blk
        have hc2 := cells_at k1
        have hf2 := frozen_at k1
        have HS2 := hide hS2
        clear hS2 k1 k2 hc hf
        go_wp2_with fail
        go_at_call 14
        refine (row_note_any HS2.out _ rfl).mono ?_
        rintro e w3 ⟨j3, q1, q2, q3, q4, rfl, hb3⟩
        have HS3 := hide (HS2.out.kept hb3)
        have hj3 : i < j3 := by
          by_cases e : i = j3
          · subst e
            rcases q4 with q4 | q4
            · omega
            · rw [H35.out] at q4; cases q4
          · omega
        have HN := hide (pass_note t i j3 hlt H35.out hj3 q2 (fun k k1 k2 => by have := q3 k k1 k2; simpa using this) (q4.imp id (fun h => by simpa using h)))
        have hex : (t.extract i j3).size = j3 - i := by rw [ByteArray.size_extract]; omega
        have hw3 : IntKind.i64.wrap ((i : Int) + ((t.extract i j3).size : Int)) = (j3 : Int) := by rw [IntKind.wrap_i64, hex]; omega
        obtain ⟨v3, m1, m2⟩ := HS3.out.blk
        have hc3 := cells_at m1
        have hf3 := frozen_at m1
        have HN1 : Hid (Sc w0 (w3.setCell ⟨b, 3, none⟩ (.int .i64 ((i : Int) + ((j3 - i : Nat) : Int)))) b t c p j3 L) := by
          have h3 := HS3.out.at j3 q2 (by omega)
          rwa [show (j3 : Int) = (i : Int) + ((j3 - i : Nat) : Int) by omega] at h3
        clear m1 m2 q3 q4 hb3 hc2 hf2 hex
        go_wp2_with fail
        go_step3
        refine ⟨rfl, ⟨_, by omega, HN1, fun l => HN.out l, _, _, _, _, _, _, _, _, _, _, _, _, _, _, _, _, _, _, _, _, _, _, _, _, _, _, _, _, _, _, _, _, _, _, _, _, _, _, _, _, _, _, _, rfl⟩⟩
      · have e35 : ((t[i].toNat : Int) == 35) = false := by simp; omega
        have HBl : Hid (blank false (byteAt t i) = false) := by show _ = _; rw [HBy.out]; unfold blank; simp [c32, c10, c35]
        clear c32 c10 c35
        go_wp2_with fail
        go_quiet (fail)
        generalize nq = q1
        go_wp2_with fail
        go_quiet (fail)
        generalize nq = q2
        have hS2 : Sc w0 ((w.drewN q1).drewN q2) b t c p i L := HS.out.kept (below_drew (below_drew (Below.refl _ _) _) _)
        generalize (w.drewN q1).drewN q2 = w2 at *
        obtain ⟨v2, k1, k2⟩ := hS2.blk
        have hc2 := cells_at k1
        have hf2 := frozen_at k1
        have HS2 := hide hS2
        clear hS2 k1 k2 hc hf
        go_wp2_with fail
        simp only [Exit.jump]
        go_end0
        exact ⟨⟨_, rfl⟩, i, by omega, HS2.out, (fun l => rfl), Or.inr HBl.out⟩
    · have e0 : ((i : Int) == t.size) = true := by simp; omega
      have HE : Hid (i = t.size) := by show _ = _; omega
      go_wp2_with fail
      go_quiet (fail)
      generalize nq = q1
      have HS2 : Hid (Sc w0 (w.drewN q1) b t c p i L) := HS.out.kept (below_drew (Below.refl _ _) _)
      go_wp2_with fail
      simp only [Exit.jump]
      refine bodyPost_ret (results_none rfl _ _ _) rfl ?_
      exact ⟨⟨_, rfl⟩, i, by omega, HS2.out, (fun l => rfl), Or.inl HE.out⟩
  · rintro a' w' ⟨j, hij, HS, HT, u2, u3, u4, u5, u6, u7, u8, u9, u10, u11, u12, u13, u14, u15, u16, u17, u18, u19, u20, u21, u22, u23, u24, u25, u26, u27, u28, u29, u30, u31, u32, u33, u34, u35, u36, u37, u38, u39, u40, u41, u42, u43, u44, rfl⟩
    have hlen := HS.out.len
    have hle := HS.out.le
    obtain ⟨v, h1, h2⟩ := HS.out.blk
    have hc := cells_at h1
    have hf := frozen_at h1
    have hat := HS.out.many
    clear h2 h1
    by_cases hlt : j < t.size
    · have hlt' : (j : Int) < t.size := by omega
      have e0 : ((j : Int) == t.size) = false := by simp; omega
      have hidx : (0 : Int) ≤ j ∧ (j : Int) < t.size := by omega
      have HBy := hide (byteAt_get t j hlt)
      have hw1 : IntKind.i64.wrap ((j : Int) + 1) = ((j + 1 : Nat) : Int) := by rw [IntKind.wrap_i64]; omega
      by_cases c32 : t[j].toNat = 32
      · have e32 : ((t[j].toNat : Int) == 32) = true := by simp; omega
        have HN := hide (pass_blank t j hlt (Or.inl (HBy.out.trans c32)))
        clear c32
        go_wp2_with fail
        go_quiet (fail)
        generalize nq = q1
        go_wp2_with fail
        go_quiet (fail)
        generalize nq = q2
        have hS2 : Sc w0 ((w'.drewN q1).drewN q2) b t c p j L := HS.out.kept (below_drew (below_drew (Below.refl _ _) _) _)
        generalize (w'.drewN q1).drewN q2 = w2 at *
        obtain ⟨v2, k1, k2⟩ := hS2.blk
        have hc2 := cells_at k1
        have hf2 := frozen_at k1
        have HS2 := hide hS2
        clear hS2 k1 k2 hc hf
        have HN1 : Hid (Sc w0 (w2.setCell ⟨b, 3, none⟩ (.int .i64 ((j : Int) + 1))) b t c p (j + 1) L) := HS2.out.at (j + 1) (by omega) (by omega)
        go_wp2_with fail
        go_step3
        refine ⟨rfl, ⟨_, by omega, HN1, fun l => (HT.out l).trans (HN.out l), _, _, _, _, _, _, _, _, _, _, _, _, _, _, _, _, _, _, _, _, _, _, _, _, _, _, _, _, _, _, _, _, _, _, _, _, _, _, _, _, _, _, _, rfl⟩, by show t.size - T.atOf _ b < t.size - T.atOf _ b; rw [HN1.out.atOf, HS.out.atOf]; omega⟩
      have e32 : ((t[j].toNat : Int) == 32) = false := by simp; omega
      by_cases c10 : t[j].toNat = 10
      · have e10 : ((t[j].toNat : Int) == 10) = true := by simp; omega
        have HN := hide (pass_blank t j hlt (Or.inr (HBy.out.trans c10)))
        clear c10 c32
        go_wp2_with fail
        go_quiet (fail)
        generalize nq = q1
        go_wp2_with fail
        go_quiet (fail)
        generalize nq = q2
        have hS2 : Sc w0 ((w'.drewN q1).drewN q2) b t c p j L := HS.out.kept (below_drew (below_drew (Below.refl _ _) _) _)
        generalize (w'.drewN q1).drewN q2 = w2 at *
        obtain ⟨v2, k1, k2⟩ := hS2.blk
        have hc2 := cells_at k1
        have hf2 := frozen_at k1
        have HS2 := hide hS2
        clear hS2 k1 k2 hc hf
        have HN1 : Hid (Sc w0 (w2.setCell ⟨b, 3, none⟩ (.int .i64 ((j : Int) + 1))) b t c p (j + 1) L) := HS2.out.at (j + 1) (by omega) (by omega)
        go_wp2_with fail
        go_step3
        refine ⟨rfl, ⟨_, by omega, HN1, fun l => (HT.out l).trans (HN.out l), _, _, _, _, _, _, _, _, _, _, _, _, _, _, _, _, _, _, _, _, _, _, _, _, _, _, _, _, _, _, _, _, _, _, _, _, _, _, _, _, _, _, _, rfl⟩, by show t.size - T.atOf _ b < t.size - T.atOf _ b; rw [HN1.out.atOf, HS.out.atOf]; omega⟩
      have e10 : ((t[j].toNat : Int) == 10) = false := by simp; omega
      by_cases c35 : t[j].toNat = 35
      · have e35 : ((t[j].toNat : Int) == 35) = true := by simp; omega
        have H35 := hide (HBy.out.trans c35)
        clear c10 c32 c35
        go_wp2_with fail
        go_quiet (fail)
        generalize nq = q1
        go_wp2_with fail
        go_quiet (fail)
        generalize nq = q2
        have hS2 : Sc w0 ((w'.drewN q1).drewN q2) b t c p j L := HS.out.kept (below_drew (below_drew (Below.refl _ _) _) _)
        generalize (w'.drewN q1).drewN q2 = w2 at *
        obtain ⟨v2, k1, k2⟩ := hS2.blk
        have hc2 := cells_at k1
        have hf2 := frozen_at k1
        have HS2 := hide hS2
        clear hS2 k1 k2 hc hf
        go_wp2_with fail
        go_at_call 14
        refine (row_note_any HS2.out _ rfl).mono ?_
        rintro e w3 ⟨j3, q1, q2, q3, q4, rfl, hb3⟩
        have HS3 := hide (HS2.out.kept hb3)
        have hj3 : j < j3 := by
          by_cases e : j = j3
          · subst e
            rcases q4 with q4 | q4
            · omega
            · rw [H35.out] at q4; cases q4
          · omega
        have HN := hide (pass_note t j j3 hlt H35.out hj3 q2 (fun k k1 k2 => by have := q3 k k1 k2; simpa using this) (q4.imp id (fun h => by simpa using h)))
        have hex : (t.extract j j3).size = j3 - j := by rw [ByteArray.size_extract]; omega
        have hw3 : IntKind.i64.wrap ((j : Int) + ((t.extract j j3).size : Int)) = (j3 : Int) := by rw [IntKind.wrap_i64, hex]; omega
        obtain ⟨v3, m1, m2⟩ := HS3.out.blk
        have hc3 := cells_at m1
        have hf3 := frozen_at m1
        have HN1 : Hid (Sc w0 (w3.setCell ⟨b, 3, none⟩ (.int .i64 ((j : Int) + ((j3 - j : Nat) : Int)))) b t c p j3 L) := by
          have h3 := HS3.out.at j3 q2 (by omega)
          rwa [show (j3 : Int) = (j : Int) + ((j3 - j : Nat) : Int) by omega] at h3
        clear m1 m2 q3 q4 hb3 hc2 hf2 hex
        go_wp2_with fail
        go_step3
        refine ⟨rfl, ⟨_, by omega, HN1, fun l => (HT.out l).trans (HN.out l), _, _, _, _, _, _, _, _, _, _, _, _, _, _, _, _, _, _, _, _, _, _, _, _, _, _, _, _, _, _, _, _, _, _, _, _, _, _, _, _, _, _, _, rfl⟩, by show t.size - T.atOf _ b < t.size - T.atOf _ b; rw [HN1.out.atOf, HS.out.atOf]; omega⟩
      · have e35 : ((t[j].toNat : Int) == 35) = false := by simp; omega
        have HBl : Hid (blank false (byteAt t j) = false) := by show _ = _; rw [HBy.out]; unfold blank; simp [c32, c10, c35]
        clear c32 c10 c35
        go_wp2_with fail
        go_quiet (fail)
        generalize nq = q1
        go_wp2_with fail
        go_quiet (fail)
        generalize nq = q2
        have hS2 : Sc w0 ((w'.drewN q1).drewN q2) b t c p j L := HS.out.kept (below_drew (below_drew (Below.refl _ _) _) _)
        generalize (w'.drewN q1).drewN q2 = w2 at *
        obtain ⟨v2, k1, k2⟩ := hS2.blk
        have hc2 := cells_at k1
        have hf2 := frozen_at k1
        have HS2 := hide hS2
        clear hS2 k1 k2 hc hf
        go_wp2_with fail
        simp only [Exit.jump]
        go_end0
        exact ⟨⟨_, rfl⟩, j, by omega, HS2.out, HT.out, Or.inr HBl.out⟩
    · have e0 : ((j : Int) == t.size) = true := by simp; omega
      have HE : Hid (j = t.size) := by show _ = _; omega
      go_wp2_with fail
      go_quiet (fail)
      generalize nq = q1
      have HS2 : Hid (Sc w0 (w'.drewN q1) b t c p j L) := HS.out.kept (below_drew (Below.refl _ _) _)
      go_wp2_with fail
      simp only [Exit.jump]
      refine bodyPost_ret (results_none rfl _ _ _) rfl ?_
      exact ⟨⟨_, rfl⟩, j, by omega, HS2.out, HT.out, Or.inl HE.out⟩
end Go.Proofs.YtakijacfadpmoaaDoor.T
