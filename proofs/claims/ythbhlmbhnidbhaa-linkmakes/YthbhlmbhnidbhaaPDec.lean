/- The contract of code.Decode. -/
import Derived.Test.YthbhlmbhnidbhaaPCheck
import Derived.Test.YthbhlmbhnidbhaaPBits
import Derived.Test.YthbhlmbhnidbhaaRdec
namespace Go.Proofs.Ythbhlmbhnidbhaa.W
open Go.RowKit Go.Proofs.Ythbhlmbhnidbhaa.M
set_option linter.unusedVariables false

theorem own_cell {w w1 w2 : World} {R I : Array Value} {t u : TypeId} {p : Addr} {v : Value}
    (hb : Below ((w.alloc (.cells R t)).alloc (.cells I u)).heap.size ((w.alloc (.cells R t)).alloc (.cells I u)) w1)
    (hb2 : Below (w1.setCell p v).heap.size (w1.setCell p v) w2) (hp : p.block ≠ w.heap.size) (i : Nat) : w2.cell? ⟨w.heap.size, i, none⟩ = R[i]? := by
  have hz : w.heap.size < ((w.alloc (.cells R t)).alloc (.cells I u)).heap.size := by simp; omega
  have hz1 : w.heap.size < w1.heap.size := Nat.lt_of_lt_of_le hz hb.size
  rw [hb2.cell (p := ⟨w.heap.size, i, none⟩) (by simp [World.setCell]; exact hz1), World.cell?_setCell_other (h := show p ≠ ⟨w.heap.size, i, none⟩ from fun e => hp (by rw [e])), hb.cell (p := ⟨w.heap.size, i, none⟩) hz]
  exact (World.cell?_alloc_past _ _ _ (by simp)).trans (World.cell?_alloc_at _ _ _ _ rfl)
theorem own_below {w w1 w2 : World} {R I : Array Value} {t u : TypeId} {p : Addr} {v : Value}
    (hb : Below ((w.alloc (.cells R t)).alloc (.cells I u)).heap.size ((w.alloc (.cells R t)).alloc (.cells I u)) w1)
    (hb2 : Below (w1.setCell p v).heap.size (w1.setCell p v) w2) (hp : w.heap.size ≤ p.block) : Below w.heap.size w w2 := by
  have h1 : Below w.heap.size w w1 := (((Below.refl _ _).alloc (Nat.le_refl _) _).alloc (by simp) _).trans (hb.mono (by simp; omega))
  exact (h1.setCell hp v).trans (hb2.mono (by have := h1.size; simp [World.setCell]; omega))

set_option maxRecDepth 100000 in
set_option maxHeartbeats 2000000 in
theorem decode_c_ok (v : Int) (w : World) (h0 : 0 ≤ v) (h1 : v ≤ 4294967295) (hh : hasL (kind (v / 16777216)) 73 = false) (H : Hid (ckN (v / 16777216) (v / 1048576 % 16) (v / 65536 % 16) (v % 65536) 0 = 0)) :
    Calls Try.prog 47 #[.int .u32 v] w fun e w' => e = .returned (.tuple #[.agg #[.int .i64 (v / 16777216), .int .i64 (v / 1048576 % 16), .int .i64 (v / 65536 % 16), .int .i64 (v % 65536), .int .i64 0], .bool true]) ∧ Below w.heap.size w w' := by
  have e1 := and_15 (v / 1048576) (by omega) (by omega)
  have e2 := and_15 (v / 65536) (by omega) (by omega)
  have e3 := and_16 v (by omega) (by omega)
  have hr := row_any (v / 16777216)
  have hc := check_any (v / 16777216) (v / 1048576 % 16) (v / 65536 % 16) (v % 65536) 0
  rw [unhide H] at hc
  generalize kind (v / 16777216) = kd at *
  go_enter Try.func47, Try.ntmps47
  go_wp2_with (first | (go_at_call 54; refine (hr _).mono ?_; rintro e w1 ⟨p, q, rfl, hcl, hb⟩; obtain ⟨hce, hfr⟩ := bcell hb; have hz : w.heap.size + 1 < w1.heap.size := (by have := hb.size; simp at this; omega); have hz0 : w.heap.size < w1.heap.size := (by omega)) | (go_at_call 56; refine (contains_any _ _ _ (by decide) (by decide)).mono ?_; rintro e w' ⟨rfl, rfl⟩) | (go_at_call 45; refine (hc _).mono ?_; rintro e w2 ⟨rfl, hb2⟩; obtain ⟨hce2, hfr2⟩ := bcell hb2; have r0 := own_cell hb hb2 (by simp) 0; have r1 := own_cell hb hb2 (by simp) 1; have r2 := own_cell hb hb2 (by simp) 2; have r3 := own_cell hb hb2 (by simp) 3; have r4 := own_cell hb hb2 (by simp) 4))
  refine bodyPost_ret (v := .tuple #[.agg #[.int .i64 (v / 16777216), .int .i64 (v / 1048576 % 16), .int .i64 (v / 65536 % 16), .int .i64 (v % 65536), .int .i64 0], .bool true]) (by simp [results, Try.results47, go_sem, r0, r1, r2, r3, r4]) rfl ⟨rfl, ?_⟩
  exact (((((own_below hb hb2 (by simp)).setCell (by simp) _).setCell (by simp) _).setCell (by simp) _).setCell (by simp) _).setCell (by simp) _

set_option maxRecDepth 100000 in
set_option maxHeartbeats 2000000 in
theorem decode_c_bad (v : Int) (w : World) (h0 : 0 ≤ v) (h1 : v ≤ 4294967295) (hh : hasL (kind (v / 16777216)) 73 = false) (ck : Int) (H : Hid (ckN (v / 16777216) (v / 1048576 % 16) (v / 65536 % 16) (v % 65536) 0 = ck)) (hck : (ck == 0) = false) :
    Calls Try.prog 47 #[.int .u32 v] w fun e w' => e = .returned (.tuple #[.agg #[.int .i64 0, .int .i64 0, .int .i64 0, .int .i64 0, .int .i64 0], .bool false]) ∧ Below w.heap.size w w' := by
  have e1 := and_15 (v / 1048576) (by omega) (by omega)
  have e2 := and_15 (v / 65536) (by omega) (by omega)
  have e3 := and_16 v (by omega) (by omega)
  have hr := row_any (v / 16777216)
  have hc := check_any (v / 16777216) (v / 1048576 % 16) (v / 65536 % 16) (v % 65536) 0
  rw [unhide H] at hc
  generalize kind (v / 16777216) = kd at *
  go_enter Try.func47, Try.ntmps47
  go_wp2_with (first | (go_at_call 54; refine (hr _).mono ?_; rintro e w1 ⟨p, q, rfl, hcl, hb⟩; obtain ⟨hce, hfr⟩ := bcell hb; have hz : w.heap.size + 1 < w1.heap.size := (by have := hb.size; simp at this; omega); have hz0 : w.heap.size < w1.heap.size := (by omega)) | (go_at_call 56; refine (contains_any _ _ _ (by decide) (by decide)).mono ?_; rintro e w' ⟨rfl, rfl⟩) | (go_at_call 45; refine (hc _).mono ?_; rintro e w2 ⟨rfl, hb2⟩; obtain ⟨hce2, hfr2⟩ := bcell hb2; have r0 := own_cell hb hb2 (by simp) 0; have r1 := own_cell hb hb2 (by simp) 1; have r2 := own_cell hb hb2 (by simp) 2; have r3 := own_cell hb hb2 (by simp) 3; have r4 := own_cell hb hb2 (by simp) 4))
  refine bodyPost_ret (v := .tuple #[.agg #[.int .i64 0, .int .i64 0, .int .i64 0, .int .i64 0, .int .i64 0], .bool false]) (by simp [results, Try.results47, go_sem, r0, r1, r2, r3, r4]) rfl ⟨rfl, ?_⟩
  exact (((((own_below hb hb2 (by simp)).setCell (by simp) _).setCell (by simp) _).setCell (by simp) _).setCell (by simp) _).setCell (by simp) _

set_option maxRecDepth 100000 in
set_option maxHeartbeats 2000000 in
theorem decode_u_ok (v : Int) (w : World) (h0 : 0 ≤ v) (h1 : v ≤ 4294967295) (hh : hasL (kind (v / 16777216)) 73 = true) (HF : Hid (decide (lo (kind (v / 16777216)) ≤ (v % 65536) ∧ (v % 65536) ≤ hi (kind (v / 16777216))) = true)) (H : Hid (ckN (v / 16777216) (v / 1048576 % 16) (v / 65536 % 16) 0 (v % 65536) = 0)) :
    Calls Try.prog 47 #[.int .u32 v] w fun e w' => e = .returned (.tuple #[.agg #[.int .i64 (v / 16777216), .int .i64 (v / 1048576 % 16), .int .i64 (v / 65536 % 16), .int .i64 0, .int .i64 (v % 65536)], .bool true]) ∧ Below w.heap.size w w' := by
  have e1 := and_15 (v / 1048576) (by omega) (by omega)
  have e2 := and_15 (v / 65536) (by omega) (by omega)
  have e3 := and_16 v (by omega) (by omega)
  have hr := row_any (v / 16777216)
  have hc := check_any (v / 16777216) (v / 1048576 % 16) (v / 65536 % 16) 0 (v % 65536)
  rw [unhide H] at hc
  generalize kind (v / 16777216) = kd at *
  go_enter Try.func47, Try.ntmps47
  go_wp2_with (first | (go_at_call 54; refine (hr _).mono ?_; rintro e w1 ⟨p, q, rfl, hcl, hb⟩; obtain ⟨hce, hfr⟩ := bcell hb; have hz : w.heap.size + 1 < w1.heap.size := (by have := hb.size; simp at this; omega); have hz0 : w.heap.size < w1.heap.size := (by omega)) | (go_at_call 56; refine (contains_any _ _ _ (by decide) (by decide)).mono ?_; rintro e w' ⟨rfl, rfl⟩) | (go_at_call 61; refine (test_at _ _ _ true _ _ _ hcl (unhide HF)).mono ?_; rintro e w' ⟨rfl, rfl⟩) | (go_at_call 45; refine (hc _).mono ?_; rintro e w2 ⟨rfl, hb2⟩; obtain ⟨hce2, hfr2⟩ := bcell hb2; have r0 := own_cell hb hb2 (by simp) 0; have r1 := own_cell hb hb2 (by simp) 1; have r2 := own_cell hb hb2 (by simp) 2; have r3 := own_cell hb hb2 (by simp) 3; have r4 := own_cell hb hb2 (by simp) 4))
  refine bodyPost_ret (v := .tuple #[.agg #[.int .i64 (v / 16777216), .int .i64 (v / 1048576 % 16), .int .i64 (v / 65536 % 16), .int .i64 0, .int .i64 (v % 65536)], .bool true]) (by simp [results, Try.results47, go_sem, r0, r1, r2, r3, r4]) rfl ⟨rfl, ?_⟩
  exact (((((own_below hb hb2 (by simp)).setCell (by simp) _).setCell (by simp) _).setCell (by simp) _).setCell (by simp) _).setCell (by simp) _

set_option maxRecDepth 100000 in
set_option maxHeartbeats 2000000 in
theorem decode_u_bad (v : Int) (w : World) (h0 : 0 ≤ v) (h1 : v ≤ 4294967295) (hh : hasL (kind (v / 16777216)) 73 = true) (HF : Hid (decide (lo (kind (v / 16777216)) ≤ (v % 65536) ∧ (v % 65536) ≤ hi (kind (v / 16777216))) = true)) (ck : Int) (H : Hid (ckN (v / 16777216) (v / 1048576 % 16) (v / 65536 % 16) 0 (v % 65536) = ck)) (hck : (ck == 0) = false) :
    Calls Try.prog 47 #[.int .u32 v] w fun e w' => e = .returned (.tuple #[.agg #[.int .i64 0, .int .i64 0, .int .i64 0, .int .i64 0, .int .i64 0], .bool false]) ∧ Below w.heap.size w w' := by
  have e1 := and_15 (v / 1048576) (by omega) (by omega)
  have e2 := and_15 (v / 65536) (by omega) (by omega)
  have e3 := and_16 v (by omega) (by omega)
  have hr := row_any (v / 16777216)
  have hc := check_any (v / 16777216) (v / 1048576 % 16) (v / 65536 % 16) 0 (v % 65536)
  rw [unhide H] at hc
  generalize kind (v / 16777216) = kd at *
  go_enter Try.func47, Try.ntmps47
  go_wp2_with (first | (go_at_call 54; refine (hr _).mono ?_; rintro e w1 ⟨p, q, rfl, hcl, hb⟩; obtain ⟨hce, hfr⟩ := bcell hb; have hz : w.heap.size + 1 < w1.heap.size := (by have := hb.size; simp at this; omega); have hz0 : w.heap.size < w1.heap.size := (by omega)) | (go_at_call 56; refine (contains_any _ _ _ (by decide) (by decide)).mono ?_; rintro e w' ⟨rfl, rfl⟩) | (go_at_call 61; refine (test_at _ _ _ true _ _ _ hcl (unhide HF)).mono ?_; rintro e w' ⟨rfl, rfl⟩) | (go_at_call 45; refine (hc _).mono ?_; rintro e w2 ⟨rfl, hb2⟩; obtain ⟨hce2, hfr2⟩ := bcell hb2; have r0 := own_cell hb hb2 (by simp) 0; have r1 := own_cell hb hb2 (by simp) 1; have r2 := own_cell hb hb2 (by simp) 2; have r3 := own_cell hb hb2 (by simp) 3; have r4 := own_cell hb hb2 (by simp) 4))
  refine bodyPost_ret (v := .tuple #[.agg #[.int .i64 0, .int .i64 0, .int .i64 0, .int .i64 0, .int .i64 0], .bool false]) (by simp [results, Try.results47, go_sem, r0, r1, r2, r3, r4]) rfl ⟨rfl, ?_⟩
  exact (((((own_below hb hb2 (by simp)).setCell (by simp) _).setCell (by simp) _).setCell (by simp) _).setCell (by simp) _).setCell (by simp) _

set_option maxRecDepth 100000 in
set_option maxHeartbeats 2000000 in
theorem decode_s_ok (v : Int) (w : World) (h0 : 0 ≤ v) (h1 : v ≤ 4294967295) (hh : hasL (kind (v / 16777216)) 73 = true) (HF : Hid (decide (lo (kind (v / 16777216)) ≤ (v % 65536) ∧ (v % 65536) ≤ hi (kind (v / 16777216))) = false)) (H : Hid (ckN (v / 16777216) (v / 1048576 % 16) (v / 65536 % 16) 0 (v % 65536 - 65536) = 0)) :
    Calls Try.prog 47 #[.int .u32 v] w fun e w' => e = .returned (.tuple #[.agg #[.int .i64 (v / 16777216), .int .i64 (v / 1048576 % 16), .int .i64 (v / 65536 % 16), .int .i64 0, .int .i64 (v % 65536 - 65536)], .bool true]) ∧ Below w.heap.size w w' := by
  have e1 := and_15 (v / 1048576) (by omega) (by omega)
  have e2 := and_15 (v / 65536) (by omega) (by omega)
  have e3 := and_16 v (by omega) (by omega)
  have hr := row_any (v / 16777216)
  have hc := check_any (v / 16777216) (v / 1048576 % 16) (v / 65536 % 16) 0 (v % 65536 - 65536)
  rw [unhide H] at hc
  generalize kind (v / 16777216) = kd at *
  go_enter Try.func47, Try.ntmps47
  go_wp2_with (first | (go_at_call 54; refine (hr _).mono ?_; rintro e w1 ⟨p, q, rfl, hcl, hb⟩; obtain ⟨hce, hfr⟩ := bcell hb; have hz : w.heap.size + 1 < w1.heap.size := (by have := hb.size; simp at this; omega); have hz0 : w.heap.size < w1.heap.size := (by omega)) | (go_at_call 56; refine (contains_any _ _ _ (by decide) (by decide)).mono ?_; rintro e w' ⟨rfl, rfl⟩) | (go_at_call 61; refine (test_at _ _ _ false _ _ _ hcl (unhide HF)).mono ?_; rintro e w' ⟨rfl, rfl⟩) | (go_at_call 45; refine (hc _).mono ?_; rintro e w2 ⟨rfl, hb2⟩; obtain ⟨hce2, hfr2⟩ := bcell hb2; have r0 := own_cell hb hb2 (by simp) 0; have r1 := own_cell hb hb2 (by simp) 1; have r2 := own_cell hb hb2 (by simp) 2; have r3 := own_cell hb hb2 (by simp) 3; have r4 := own_cell hb hb2 (by simp) 4))
  refine bodyPost_ret (v := .tuple #[.agg #[.int .i64 (v / 16777216), .int .i64 (v / 1048576 % 16), .int .i64 (v / 65536 % 16), .int .i64 0, .int .i64 (v % 65536 - 65536)], .bool true]) (by simp [results, Try.results47, go_sem, r0, r1, r2, r3, r4]) rfl ⟨rfl, ?_⟩
  exact (((((own_below hb hb2 (by simp)).setCell (by simp) _).setCell (by simp) _).setCell (by simp) _).setCell (by simp) _).setCell (by simp) _

set_option maxRecDepth 100000 in
set_option maxHeartbeats 2000000 in
theorem decode_s_bad (v : Int) (w : World) (h0 : 0 ≤ v) (h1 : v ≤ 4294967295) (hh : hasL (kind (v / 16777216)) 73 = true) (HF : Hid (decide (lo (kind (v / 16777216)) ≤ (v % 65536) ∧ (v % 65536) ≤ hi (kind (v / 16777216))) = false)) (ck : Int) (H : Hid (ckN (v / 16777216) (v / 1048576 % 16) (v / 65536 % 16) 0 (v % 65536 - 65536) = ck)) (hck : (ck == 0) = false) :
    Calls Try.prog 47 #[.int .u32 v] w fun e w' => e = .returned (.tuple #[.agg #[.int .i64 0, .int .i64 0, .int .i64 0, .int .i64 0, .int .i64 0], .bool false]) ∧ Below w.heap.size w w' := by
  have e1 := and_15 (v / 1048576) (by omega) (by omega)
  have e2 := and_15 (v / 65536) (by omega) (by omega)
  have e3 := and_16 v (by omega) (by omega)
  have hr := row_any (v / 16777216)
  have hc := check_any (v / 16777216) (v / 1048576 % 16) (v / 65536 % 16) 0 (v % 65536 - 65536)
  rw [unhide H] at hc
  generalize kind (v / 16777216) = kd at *
  go_enter Try.func47, Try.ntmps47
  go_wp2_with (first | (go_at_call 54; refine (hr _).mono ?_; rintro e w1 ⟨p, q, rfl, hcl, hb⟩; obtain ⟨hce, hfr⟩ := bcell hb; have hz : w.heap.size + 1 < w1.heap.size := (by have := hb.size; simp at this; omega); have hz0 : w.heap.size < w1.heap.size := (by omega)) | (go_at_call 56; refine (contains_any _ _ _ (by decide) (by decide)).mono ?_; rintro e w' ⟨rfl, rfl⟩) | (go_at_call 61; refine (test_at _ _ _ false _ _ _ hcl (unhide HF)).mono ?_; rintro e w' ⟨rfl, rfl⟩) | (go_at_call 45; refine (hc _).mono ?_; rintro e w2 ⟨rfl, hb2⟩; obtain ⟨hce2, hfr2⟩ := bcell hb2; have r0 := own_cell hb hb2 (by simp) 0; have r1 := own_cell hb hb2 (by simp) 1; have r2 := own_cell hb hb2 (by simp) 2; have r3 := own_cell hb hb2 (by simp) 3; have r4 := own_cell hb hb2 (by simp) 4))
  refine bodyPost_ret (v := .tuple #[.agg #[.int .i64 0, .int .i64 0, .int .i64 0, .int .i64 0, .int .i64 0], .bool false]) (by simp [results, Try.results47, go_sem, r0, r1, r2, r3, r4]) rfl ⟨rfl, ?_⟩
  exact (((((own_below hb hb2 (by simp)).setCell (by simp) _).setCell (by simp) _).setCell (by simp) _).setCell (by simp) _).setCell (by simp) _

/-- What code.Decode answers. -/
theorem decode_ok (v : Int) (w : World) (h0 : 0 ≤ v) (h1 : v ≤ 4294967295) (h : dck v = 0) :
    Calls Try.prog 47 #[.int .u32 v] w fun e w' => e = .returned (.tuple #[.agg #[.int .i64 (v / 16777216), .int .i64 (v / 1048576 % 16), .int .i64 (v / 65536 % 16), .int .i64 (dC (kind (v / 16777216)) (v % 65536)), .int .i64 (dM (kind (v / 16777216)) (v % 65536))], .bool true]) ∧ Below w.heap.size w w' := by
  unfold dck at h
  unfold dC dM at *
  by_cases hh : hasL (kind (v / 16777216)) 73 = true
  · simp only [hh, if_true] at h ⊢
    by_cases hf : lo (kind (v / 16777216)) ≤ (v % 65536) ∧ (v % 65536) ≤ hi (kind (v / 16777216))
    · simp only [hf, and_self, if_true] at h ⊢
      exact decode_u_ok v w h0 h1 hh (by show decide _ = true; simp [hf]) h
    · simp only [hf, if_false] at h ⊢
      exact decode_s_ok v w h0 h1 hh (by show decide _ = false; simp [hf]) h
  · have hh' : hasL (kind (v / 16777216)) 73 = false := by simpa using hh
    simp only [hh', Bool.false_eq_true, if_false] at h ⊢
    exact decode_c_ok v w h0 h1 hh' h
theorem decode_bad (v : Int) (w : World) (h0 : 0 ≤ v) (h1 : v ≤ 4294967295) (h : ¬ dck v = 0) :
    Calls Try.prog 47 #[.int .u32 v] w fun e w' => e = .returned (.tuple #[.agg #[.int .i64 0, .int .i64 0, .int .i64 0, .int .i64 0, .int .i64 0], .bool false]) ∧ Below w.heap.size w w' := by
  unfold dck at h
  unfold dC dM at *
  by_cases hh : hasL (kind (v / 16777216)) 73 = true
  · simp only [hh, if_true] at h
    by_cases hf : lo (kind (v / 16777216)) ≤ (v % 65536) ∧ (v % 65536) ≤ hi (kind (v / 16777216))
    · simp only [hf, and_self, if_true] at h
      exact decode_u_bad v w h0 h1 hh (by show decide _ = true; simp [hf]) _ rfl (by simpa using h)
    · simp only [hf, if_false] at h
      exact decode_s_bad v w h0 h1 hh (by show decide _ = false; simp [hf]) _ rfl (by simpa using h)
  · have hh' : hasL (kind (v / 16777216)) 73 = false := by simpa using hh
    simp only [hh', Bool.false_eq_true, if_false] at h
    exact decode_c_bad v w h0 h1 hh' _ rfl (by simpa using h)
end Go.Proofs.Ythbhlmbhnidbhaa.W
