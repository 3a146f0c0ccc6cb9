/- The contract of the reference's Decode. -/
import Derived.Test.YthbhlmbhnidbhaaRcheck
namespace Go.Proofs.Ythbhlmbhnidbhaa.M
/-- What the lower 16 bits are as C, and as Imm. -/
def dC (k : Nat) (low : Int) : Int := if hasL k 73 then 0 else low
def dM (k : Nat) (low : Int) : Int := if hasL k 73 then (if lo k ≤ low ∧ low ≤ hi k then low else low - 65536) else 0
/-- What is wrong with the instruction that 32 bits are. -/
def dck (v : Int) : Int := ckN (v / 16777216) (v / 1048576 % 16) (v / 65536 % 16) (dC (kind (v / 16777216)) (v % 65536)) (dM (kind (v / 16777216)) (v % 65536))
end Go.Proofs.Ythbhlmbhnidbhaa.M
namespace Go.Proofs.Ythbhlmbhnidbhaa.W
open Go.RowKit Go.Proofs.Ythbhlmbhnidbhaa.M
set_option linter.unusedVariables false

theorem own2 {w w1 w2 : World} {R : Array Value} {o1 o2 : Obj} {t : TypeId} (hb : Below (w.alloc (.cells R t)).heap.size (w.alloc (.cells R t)) w1)
    (hb2 : Below ((w1.alloc o1).alloc o2).heap.size ((w1.alloc o1).alloc o2) w2) (i : Nat) : w2.cell? ⟨w.heap.size, i, none⟩ = R[i]? := by
  have hz : w.heap.size < w1.heap.size := by have := hb.size; simp at this; omega
  rw [hb2.cell (p := ⟨w.heap.size, i, none⟩) (by simp; omega)]
  rw [World.cell?_alloc_past _ _ _ (by simp; omega), World.cell?_alloc_past _ _ _ hz]
  exact own1 hb i
theorem own2_below {w w1 w2 : World} {o o1 o2 : Obj} (hb : Below (w.alloc o).heap.size (w.alloc o) w1)
    (hb2 : Below ((w1.alloc o1).alloc o2).heap.size ((w1.alloc o1).alloc o2) w2) : Below w.heap.size w w2 := by
  have h1 := own1_below hb
  have := h1.size
  exact ((h1.alloc this _).alloc (by simp; omega) _).trans (hb2.mono (by simp; omega))

set_option maxRecDepth 100000 in
set_option maxHeartbeats 2000000 in
theorem rdecode_none (v : Int) (w : World) (h0 : 0 ≤ v) (h1 : v ≤ 4294967295) (hk : kind (v / 16777216) = 0) :
    Calls Try.prog 14 #[.int .u32 v] w fun e w' => e = .returned (.tuple #[.agg #[.int .i64 0, .int .i64 0, .int .i64 0, .int .i64 0, .int .i64 0], .bool false]) ∧ Below w.heap.size w w' := by
  go_enter Try.func14, Try.ntmps14
  go_wp2_with fail
  go_at_call 25
  refine (find_none _ _ hk).mono ?_
  rintro e w1 ⟨rfl, hb⟩
  obtain ⟨hce, hfr⟩ := bcell hb
  have hz : w.heap.size < w1.heap.size := by have := hb.size; simp at this; omega
  have hz1 : w.heap.size < w1.heap.size + 1 := by omega
  have hz2 : w.heap.size < w1.heap.size + 1 + 1 := by omega
  have hB := own1_below hb
  have r0 := own1 hb 0
  have r1 := own1 hb 1
  have r2 := own1 hb 2
  have r3 := own1 hb 3
  have r4 := own1 hb 4
  go_wp2_with fail
  refine bodyPost_ret (v := .tuple #[.agg #[.int .i64 0, .int .i64 0, .int .i64 0, .int .i64 0, .int .i64 0], .bool false]) (by simp [results, Try.results14, go_sem, r0, r1, r2, r3, r4, hz]) rfl ⟨rfl, ?_⟩
  exact (((((hB.setCell (by simp) _).setCell (by simp) _).setCell (by simp) _).setCell (by simp) _).setCell (by simp) _).alloc (by simp [World.setCell]; omega) _

set_option maxRecDepth 100000 in
set_option maxHeartbeats 2000000 in
theorem rdecode_c_ok (v : Int) (w : World) (h0 : 0 ≤ v) (h1 : v ≤ 4294967295) (hk : kind (v / 16777216) ≠ 0) (hh : hasL (kind (v / 16777216)) 73 = false) (H : Hid (ckN (v / 16777216) (v / 1048576 % 16) (v / 65536 % 16) (v % 65536) 0 = 0)) :
    Calls Try.prog 14 #[.int .u32 v] w fun e w' => e = .returned (.tuple #[.agg #[.int .i64 (v / 16777216), .int .i64 (v / 1048576 % 16), .int .i64 (v / 65536 % 16), .int .i64 (v % 65536), .int .i64 0], .bool true]) ∧ Below w.heap.size w w' := by
  have hc := rcheck_any (v / 16777216) (v / 1048576 % 16) (v / 65536 % 16) (v % 65536) 0
  rw [unhide H] at hc
  have hf := fun w' => find_some (v / 16777216) w' hk
  have hha := has_any (kind (v / 16777216)) 73
  rw [hh] at hha
  generalize kind (v / 16777216) = kd at *
  generalize nameOf (v / 16777216) = nm at *
  go_enter Try.func14, Try.ntmps14
  go_wp2_with fail
  go_at_call 25
  refine (hf _).mono ?_
  rintro e w1 ⟨rfl, hb⟩
  obtain ⟨hce, hfr⟩ := bcell hb
  have hz : w.heap.size < w1.heap.size := by have := hb.size; simp at this; omega
  have hz1 : w.heap.size < w1.heap.size + 1 := by omega
  have hz2 : w.heap.size < w1.heap.size + 1 + 1 := by omega
  have hB := own1_below hb
  go_wp2_with fail
  go_at_call 26
  refine (hha _ (by decide) (by decide)).mono ?_
  rintro e w' ⟨rfl, rfl⟩
  go_wp2_with fail
  go_at_call 24
  refine (hc _).mono ?_
  rintro e w2 ⟨rfl, hb2⟩
  obtain ⟨hce2, hfr2⟩ := bcell hb2
  have r0 := own2 hb hb2 0
  have r1 := own2 hb hb2 1
  have r2 := own2 hb hb2 2
  have r3 := own2 hb hb2 3
  have r4 := own2 hb hb2 4
  go_wp2_with fail
  refine bodyPost_ret (v := .tuple #[.agg #[.int .i64 (v / 16777216), .int .i64 (v / 1048576 % 16), .int .i64 (v / 65536 % 16), .int .i64 (v % 65536), .int .i64 0], .bool true]) (by simp [results, Try.results14, go_sem, r0, r1, r2, r3, r4]) rfl ⟨rfl, ?_⟩
  exact (((((own2_below hb hb2).setCell (by simp) _).setCell (by simp) _).setCell (by simp) _).setCell (by simp) _).setCell (by simp) _

set_option maxRecDepth 100000 in
set_option maxHeartbeats 2000000 in
theorem rdecode_c_bad (v : Int) (w : World) (h0 : 0 ≤ v) (h1 : v ≤ 4294967295) (hk : kind (v / 16777216) ≠ 0) (hh : hasL (kind (v / 16777216)) 73 = false) (ck : Int) (H : Hid (ckN (v / 16777216) (v / 1048576 % 16) (v / 65536 % 16) (v % 65536) 0 = ck)) (hck : (ck == 0) = false) :
    Calls Try.prog 14 #[.int .u32 v] w fun e w' => e = .returned (.tuple #[.agg #[.int .i64 0, .int .i64 0, .int .i64 0, .int .i64 0, .int .i64 0], .bool false]) ∧ Below w.heap.size w w' := by
  have hc := rcheck_any (v / 16777216) (v / 1048576 % 16) (v / 65536 % 16) (v % 65536) 0
  rw [unhide H] at hc
  have hf := fun w' => find_some (v / 16777216) w' hk
  have hha := has_any (kind (v / 16777216)) 73
  rw [hh] at hha
  generalize kind (v / 16777216) = kd at *
  generalize nameOf (v / 16777216) = nm at *
  go_enter Try.func14, Try.ntmps14
  go_wp2_with fail
  go_at_call 25
  refine (hf _).mono ?_
  rintro e w1 ⟨rfl, hb⟩
  obtain ⟨hce, hfr⟩ := bcell hb
  have hz : w.heap.size < w1.heap.size := by have := hb.size; simp at this; omega
  have hz1 : w.heap.size < w1.heap.size + 1 := by omega
  have hz2 : w.heap.size < w1.heap.size + 1 + 1 := by omega
  have hB := own1_below hb
  go_wp2_with fail
  go_at_call 26
  refine (hha _ (by decide) (by decide)).mono ?_
  rintro e w' ⟨rfl, rfl⟩
  go_wp2_with fail
  go_at_call 24
  refine (hc _).mono ?_
  rintro e w2 ⟨rfl, hb2⟩
  obtain ⟨hce2, hfr2⟩ := bcell hb2
  have r0 := own2 hb hb2 0
  have r1 := own2 hb hb2 1
  have r2 := own2 hb hb2 2
  have r3 := own2 hb hb2 3
  have r4 := own2 hb hb2 4
  go_wp2_with fail
  refine bodyPost_ret (v := .tuple #[.agg #[.int .i64 0, .int .i64 0, .int .i64 0, .int .i64 0, .int .i64 0], .bool false]) (by simp [results, Try.results14, go_sem, r0, r1, r2, r3, r4]) rfl ⟨rfl, ?_⟩
  exact (((((own2_below hb hb2).setCell (by simp) _).setCell (by simp) _).setCell (by simp) _).setCell (by simp) _).setCell (by simp) _

set_option maxRecDepth 100000 in
set_option maxHeartbeats 2000000 in
theorem rdecode_u_ok (v : Int) (w : World) (h0 : 0 ≤ v) (h1 : v ≤ 4294967295) (hk : kind (v / 16777216) ≠ 0) (hh : hasL (kind (v / 16777216)) 73 = true) (hg : sgn (kind (v / 16777216)) = false) (H : Hid (ckN (v / 16777216) (v / 1048576 % 16) (v / 65536 % 16) 0 (v % 65536) = 0)) :
    Calls Try.prog 14 #[.int .u32 v] w fun e w' => e = .returned (.tuple #[.agg #[.int .i64 (v / 16777216), .int .i64 (v / 1048576 % 16), .int .i64 (v / 65536 % 16), .int .i64 0, .int .i64 (v % 65536)], .bool true]) ∧ Below w.heap.size w w' := by
  have hc := rcheck_any (v / 16777216) (v / 1048576 % 16) (v / 65536 % 16) 0 (v % 65536)
  rw [unhide H] at hc
  have hf := fun w' => find_some (v / 16777216) w' hk
  have hha := has_any (kind (v / 16777216)) 73
  rw [hh] at hha
  generalize kind (v / 16777216) = kd at *
  generalize nameOf (v / 16777216) = nm at *
  go_enter Try.func14, Try.ntmps14
  go_wp2_with fail
  go_at_call 25
  refine (hf _).mono ?_
  rintro e w1 ⟨rfl, hb⟩
  obtain ⟨hce, hfr⟩ := bcell hb
  have hz : w.heap.size < w1.heap.size := by have := hb.size; simp at this; omega
  have hz1 : w.heap.size < w1.heap.size + 1 := by omega
  have hz2 : w.heap.size < w1.heap.size + 1 + 1 := by omega
  have hB := own1_below hb
  go_wp2_with fail
  go_at_call 26
  refine (hha _ (by decide) (by decide)).mono ?_
  rintro e w' ⟨rfl, rfl⟩
  go_wp2_with fail
  go_at_call 24
  refine (hc _).mono ?_
  rintro e w2 ⟨rfl, hb2⟩
  obtain ⟨hce2, hfr2⟩ := bcell hb2
  have r0 := own2 hb hb2 0
  have r1 := own2 hb hb2 1
  have r2 := own2 hb hb2 2
  have r3 := own2 hb hb2 3
  have r4 := own2 hb hb2 4
  go_wp2_with fail
  refine bodyPost_ret (v := .tuple #[.agg #[.int .i64 (v / 16777216), .int .i64 (v / 1048576 % 16), .int .i64 (v / 65536 % 16), .int .i64 0, .int .i64 (v % 65536)], .bool true]) (by simp [results, Try.results14, go_sem, r0, r1, r2, r3, r4]) rfl ⟨rfl, ?_⟩
  exact (((((own2_below hb hb2).setCell (by simp) _).setCell (by simp) _).setCell (by simp) _).setCell (by simp) _).setCell (by simp) _

set_option maxRecDepth 100000 in
set_option maxHeartbeats 2000000 in
theorem rdecode_u_bad (v : Int) (w : World) (h0 : 0 ≤ v) (h1 : v ≤ 4294967295) (hk : kind (v / 16777216) ≠ 0) (hh : hasL (kind (v / 16777216)) 73 = true) (hg : sgn (kind (v / 16777216)) = false) (ck : Int) (H : Hid (ckN (v / 16777216) (v / 1048576 % 16) (v / 65536 % 16) 0 (v % 65536) = ck)) (hck : (ck == 0) = false) :
    Calls Try.prog 14 #[.int .u32 v] w fun e w' => e = .returned (.tuple #[.agg #[.int .i64 0, .int .i64 0, .int .i64 0, .int .i64 0, .int .i64 0], .bool false]) ∧ Below w.heap.size w w' := by
  have hc := rcheck_any (v / 16777216) (v / 1048576 % 16) (v / 65536 % 16) 0 (v % 65536)
  rw [unhide H] at hc
  have hf := fun w' => find_some (v / 16777216) w' hk
  have hha := has_any (kind (v / 16777216)) 73
  rw [hh] at hha
  generalize kind (v / 16777216) = kd at *
  generalize nameOf (v / 16777216) = nm at *
  go_enter Try.func14, Try.ntmps14
  go_wp2_with fail
  go_at_call 25
  refine (hf _).mono ?_
  rintro e w1 ⟨rfl, hb⟩
  obtain ⟨hce, hfr⟩ := bcell hb
  have hz : w.heap.size < w1.heap.size := by have := hb.size; simp at this; omega
  have hz1 : w.heap.size < w1.heap.size + 1 := by omega
  have hz2 : w.heap.size < w1.heap.size + 1 + 1 := by omega
  have hB := own1_below hb
  go_wp2_with fail
  go_at_call 26
  refine (hha _ (by decide) (by decide)).mono ?_
  rintro e w' ⟨rfl, rfl⟩
  go_wp2_with fail
  go_at_call 24
  refine (hc _).mono ?_
  rintro e w2 ⟨rfl, hb2⟩
  obtain ⟨hce2, hfr2⟩ := bcell hb2
  have r0 := own2 hb hb2 0
  have r1 := own2 hb hb2 1
  have r2 := own2 hb hb2 2
  have r3 := own2 hb hb2 3
  have r4 := own2 hb hb2 4
  go_wp2_with fail
  refine bodyPost_ret (v := .tuple #[.agg #[.int .i64 0, .int .i64 0, .int .i64 0, .int .i64 0, .int .i64 0], .bool false]) (by simp [results, Try.results14, go_sem, r0, r1, r2, r3, r4]) rfl ⟨rfl, ?_⟩
  exact (((((own2_below hb hb2).setCell (by simp) _).setCell (by simp) _).setCell (by simp) _).setCell (by simp) _).setCell (by simp) _

set_option maxRecDepth 100000 in
set_option maxHeartbeats 2000000 in
theorem rdecode_w_ok (v : Int) (w : World) (h0 : 0 ≤ v) (h1 : v ≤ 4294967295) (hk : kind (v / 16777216) ≠ 0) (hh : hasL (kind (v / 16777216)) 73 = true) (hg : sgn (kind (v / 16777216)) = true) (hl : v % 65536 < 32768) (H : Hid (ckN (v / 16777216) (v / 1048576 % 16) (v / 65536 % 16) 0 (v % 65536) = 0)) :
    Calls Try.prog 14 #[.int .u32 v] w fun e w' => e = .returned (.tuple #[.agg #[.int .i64 (v / 16777216), .int .i64 (v / 1048576 % 16), .int .i64 (v / 65536 % 16), .int .i64 0, .int .i64 (v % 65536)], .bool true]) ∧ Below w.heap.size w w' := by
  have hc := rcheck_any (v / 16777216) (v / 1048576 % 16) (v / 65536 % 16) 0 (v % 65536)
  rw [unhide H] at hc
  have hf := fun w' => find_some (v / 16777216) w' hk
  have hha := has_any (kind (v / 16777216)) 73
  rw [hh] at hha
  generalize kind (v / 16777216) = kd at *
  generalize nameOf (v / 16777216) = nm at *
  go_enter Try.func14, Try.ntmps14
  go_wp2_with fail
  go_at_call 25
  refine (hf _).mono ?_
  rintro e w1 ⟨rfl, hb⟩
  obtain ⟨hce, hfr⟩ := bcell hb
  have hz : w.heap.size < w1.heap.size := by have := hb.size; simp at this; omega
  have hz1 : w.heap.size < w1.heap.size + 1 := by omega
  have hz2 : w.heap.size < w1.heap.size + 1 + 1 := by omega
  have hB := own1_below hb
  go_wp2_with fail
  go_at_call 26
  refine (hha _ (by decide) (by decide)).mono ?_
  rintro e w' ⟨rfl, rfl⟩
  go_wp2_with fail
  go_at_call 24
  refine (hc _).mono ?_
  rintro e w2 ⟨rfl, hb2⟩
  obtain ⟨hce2, hfr2⟩ := bcell hb2
  have r0 := own2 hb hb2 0
  have r1 := own2 hb hb2 1
  have r2 := own2 hb hb2 2
  have r3 := own2 hb hb2 3
  have r4 := own2 hb hb2 4
  go_wp2_with fail
  refine bodyPost_ret (v := .tuple #[.agg #[.int .i64 (v / 16777216), .int .i64 (v / 1048576 % 16), .int .i64 (v / 65536 % 16), .int .i64 0, .int .i64 (v % 65536)], .bool true]) (by simp [results, Try.results14, go_sem, r0, r1, r2, r3, r4]) rfl ⟨rfl, ?_⟩
  exact (((((own2_below hb hb2).setCell (by simp) _).setCell (by simp) _).setCell (by simp) _).setCell (by simp) _).setCell (by simp) _

set_option maxRecDepth 100000 in
set_option maxHeartbeats 2000000 in
theorem rdecode_w_bad (v : Int) (w : World) (h0 : 0 ≤ v) (h1 : v ≤ 4294967295) (hk : kind (v / 16777216) ≠ 0) (hh : hasL (kind (v / 16777216)) 73 = true) (hg : sgn (kind (v / 16777216)) = true) (hl : v % 65536 < 32768) (ck : Int) (H : Hid (ckN (v / 16777216) (v / 1048576 % 16) (v / 65536 % 16) 0 (v % 65536) = ck)) (hck : (ck == 0) = false) :
    Calls Try.prog 14 #[.int .u32 v] w fun e w' => e = .returned (.tuple #[.agg #[.int .i64 0, .int .i64 0, .int .i64 0, .int .i64 0, .int .i64 0], .bool false]) ∧ Below w.heap.size w w' := by
  have hc := rcheck_any (v / 16777216) (v / 1048576 % 16) (v / 65536 % 16) 0 (v % 65536)
  rw [unhide H] at hc
  have hf := fun w' => find_some (v / 16777216) w' hk
  have hha := has_any (kind (v / 16777216)) 73
  rw [hh] at hha
  generalize kind (v / 16777216) = kd at *
  generalize nameOf (v / 16777216) = nm at *
  go_enter Try.func14, Try.ntmps14
  go_wp2_with fail
  go_at_call 25
  refine (hf _).mono ?_
  rintro e w1 ⟨rfl, hb⟩
  obtain ⟨hce, hfr⟩ := bcell hb
  have hz : w.heap.size < w1.heap.size := by have := hb.size; simp at this; omega
  have hz1 : w.heap.size < w1.heap.size + 1 := by omega
  have hz2 : w.heap.size < w1.heap.size + 1 + 1 := by omega
  have hB := own1_below hb
  go_wp2_with fail
  go_at_call 26
  refine (hha _ (by decide) (by decide)).mono ?_
  rintro e w' ⟨rfl, rfl⟩
  go_wp2_with fail
  go_at_call 24
  refine (hc _).mono ?_
  rintro e w2 ⟨rfl, hb2⟩
  obtain ⟨hce2, hfr2⟩ := bcell hb2
  have r0 := own2 hb hb2 0
  have r1 := own2 hb hb2 1
  have r2 := own2 hb hb2 2
  have r3 := own2 hb hb2 3
  have r4 := own2 hb hb2 4
  go_wp2_with fail
  refine bodyPost_ret (v := .tuple #[.agg #[.int .i64 0, .int .i64 0, .int .i64 0, .int .i64 0, .int .i64 0], .bool false]) (by simp [results, Try.results14, go_sem, r0, r1, r2, r3, r4]) rfl ⟨rfl, ?_⟩
  exact (((((own2_below hb hb2).setCell (by simp) _).setCell (by simp) _).setCell (by simp) _).setCell (by simp) _).setCell (by simp) _

set_option maxRecDepth 100000 in
set_option maxHeartbeats 2000000 in
theorem rdecode_s_ok (v : Int) (w : World) (h0 : 0 ≤ v) (h1 : v ≤ 4294967295) (hk : kind (v / 16777216) ≠ 0) (hh : hasL (kind (v / 16777216)) 73 = true) (hg : sgn (kind (v / 16777216)) = true) (hl : 32768 ≤ v % 65536) (H : Hid (ckN (v / 16777216) (v / 1048576 % 16) (v / 65536 % 16) 0 (v % 65536 - 65536) = 0)) :
    Calls Try.prog 14 #[.int .u32 v] w fun e w' => e = .returned (.tuple #[.agg #[.int .i64 (v / 16777216), .int .i64 (v / 1048576 % 16), .int .i64 (v / 65536 % 16), .int .i64 0, .int .i64 (v % 65536 - 65536)], .bool true]) ∧ Below w.heap.size w w' := by
  have hc := rcheck_any (v / 16777216) (v / 1048576 % 16) (v / 65536 % 16) 0 (v % 65536 - 65536)
  rw [unhide H] at hc
  have hf := fun w' => find_some (v / 16777216) w' hk
  have hha := has_any (kind (v / 16777216)) 73
  rw [hh] at hha
  generalize kind (v / 16777216) = kd at *
  generalize nameOf (v / 16777216) = nm at *
  go_enter Try.func14, Try.ntmps14
  go_wp2_with fail
  go_at_call 25
  refine (hf _).mono ?_
  rintro e w1 ⟨rfl, hb⟩
  obtain ⟨hce, hfr⟩ := bcell hb
  have hz : w.heap.size < w1.heap.size := by have := hb.size; simp at this; omega
  have hz1 : w.heap.size < w1.heap.size + 1 := by omega
  have hz2 : w.heap.size < w1.heap.size + 1 + 1 := by omega
  have hB := own1_below hb
  go_wp2_with fail
  go_at_call 26
  refine (hha _ (by decide) (by decide)).mono ?_
  rintro e w' ⟨rfl, rfl⟩
  go_wp2_with fail
  go_at_call 24
  refine (hc _).mono ?_
  rintro e w2 ⟨rfl, hb2⟩
  obtain ⟨hce2, hfr2⟩ := bcell hb2
  have r0 := own2 hb hb2 0
  have r1 := own2 hb hb2 1
  have r2 := own2 hb hb2 2
  have r3 := own2 hb hb2 3
  have r4 := own2 hb hb2 4
  go_wp2_with fail
  refine bodyPost_ret (v := .tuple #[.agg #[.int .i64 (v / 16777216), .int .i64 (v / 1048576 % 16), .int .i64 (v / 65536 % 16), .int .i64 0, .int .i64 (v % 65536 - 65536)], .bool true]) (by simp [results, Try.results14, go_sem, r0, r1, r2, r3, r4]) rfl ⟨rfl, ?_⟩
  exact (((((own2_below hb hb2).setCell (by simp) _).setCell (by simp) _).setCell (by simp) _).setCell (by simp) _).setCell (by simp) _

set_option maxRecDepth 100000 in
set_option maxHeartbeats 2000000 in
theorem rdecode_s_bad (v : Int) (w : World) (h0 : 0 ≤ v) (h1 : v ≤ 4294967295) (hk : kind (v / 16777216) ≠ 0) (hh : hasL (kind (v / 16777216)) 73 = true) (hg : sgn (kind (v / 16777216)) = true) (hl : 32768 ≤ v % 65536) (ck : Int) (H : Hid (ckN (v / 16777216) (v / 1048576 % 16) (v / 65536 % 16) 0 (v % 65536 - 65536) = ck)) (hck : (ck == 0) = false) :
    Calls Try.prog 14 #[.int .u32 v] w fun e w' => e = .returned (.tuple #[.agg #[.int .i64 0, .int .i64 0, .int .i64 0, .int .i64 0, .int .i64 0], .bool false]) ∧ Below w.heap.size w w' := by
  have hc := rcheck_any (v / 16777216) (v / 1048576 % 16) (v / 65536 % 16) 0 (v % 65536 - 65536)
  rw [unhide H] at hc
  have hf := fun w' => find_some (v / 16777216) w' hk
  have hha := has_any (kind (v / 16777216)) 73
  rw [hh] at hha
  generalize kind (v / 16777216) = kd at *
  generalize nameOf (v / 16777216) = nm at *
  go_enter Try.func14, Try.ntmps14
  go_wp2_with fail
  go_at_call 25
  refine (hf _).mono ?_
  rintro e w1 ⟨rfl, hb⟩
  obtain ⟨hce, hfr⟩ := bcell hb
  have hz : w.heap.size < w1.heap.size := by have := hb.size; simp at this; omega
  have hz1 : w.heap.size < w1.heap.size + 1 := by omega
  have hz2 : w.heap.size < w1.heap.size + 1 + 1 := by omega
  have hB := own1_below hb
  go_wp2_with fail
  go_at_call 26
  refine (hha _ (by decide) (by decide)).mono ?_
  rintro e w' ⟨rfl, rfl⟩
  go_wp2_with fail
  go_at_call 24
  refine (hc _).mono ?_
  rintro e w2 ⟨rfl, hb2⟩
  obtain ⟨hce2, hfr2⟩ := bcell hb2
  have r0 := own2 hb hb2 0
  have r1 := own2 hb hb2 1
  have r2 := own2 hb hb2 2
  have r3 := own2 hb hb2 3
  have r4 := own2 hb hb2 4
  go_wp2_with fail
  refine bodyPost_ret (v := .tuple #[.agg #[.int .i64 0, .int .i64 0, .int .i64 0, .int .i64 0, .int .i64 0], .bool false]) (by simp [results, Try.results14, go_sem, r0, r1, r2, r3, r4]) rfl ⟨rfl, ?_⟩
  exact (((((own2_below hb hb2).setCell (by simp) _).setCell (by simp) _).setCell (by simp) _).setCell (by simp) _).setCell (by simp) _

theorem dM_low (k : Nat) (low : Int) (h7 : k ≤ 7) (hh : hasL k 73 = true) (h0 : 0 ≤ low) (h1 : low ≤ 65535) : (sgn k = true → 32768 ≤ low → dM k low = low - 65536) ∧ (sgn k = true → low < 32768 → dM k low = low) ∧ (sgn k = false → dM k low = low) := by
  unfold dM
  rw [if_pos hh]
  refine ⟨fun hs hl => ?_, fun hs hl => ?_, fun hs => ?_⟩
  · obtain ⟨e1, e2⟩ := sgn_lo k 73 h7 hs hh rfl
    rw [if_neg (by omega)]
  · obtain ⟨e1, e2⟩ := sgn_lo k 73 h7 hs hh rfl
    rw [if_pos (by omega)]
  · obtain ⟨e1, e2⟩ := sgn_hi k 73 h7 hs hh rfl
    rw [if_pos (by omega)]
theorem dC_low (k : Nat) (low : Int) : (hasL k 73 = true → dC k low = 0) ∧ (hasL k 73 = false → dC k low = low ∧ dM k low = 0) := by
  unfold dC dM
  exact ⟨fun h => by rw [if_pos h], fun h => by rw [h]; exact ⟨rfl, rfl⟩⟩
theorem rdecode_ok (v : Int) (w : World) (h0 : 0 ≤ v) (h1 : v ≤ 4294967295) (h : dck v = 0) :
    Calls Try.prog 14 #[.int .u32 v] w fun e w' => e = .returned (.tuple #[.agg #[.int .i64 (v / 16777216), .int .i64 (v / 1048576 % 16), .int .i64 (v / 65536 % 16), .int .i64 (dC (kind (v / 16777216)) (v % 65536)), .int .i64 (dM (kind (v / 16777216)) (v % 65536))], .bool true]) ∧ Below w.heap.size w w' := by
  by_cases hk : kind (v / 16777216) = 0
  · simp [dck, ckN, hk] at h
  unfold dck at h
  cases hh : hasL (kind (v / 16777216)) 73 with
  | false =>
    obtain ⟨e1, e2⟩ := (dC_low (kind (v / 16777216)) (v % 65536)).2 hh
    rw [e1, e2] at h ⊢
    exact rdecode_c_ok v w h0 h1 hk hh h
  | true =>
    have e1 := (dC_low (kind (v / 16777216)) (v % 65536)).1 hh
    obtain ⟨d1, d2, d3⟩ := dM_low (kind (v / 16777216)) (v % 65536) (kind_le _) hh (by omega) (by omega)
    rw [e1] at h ⊢
    cases hg : sgn (kind (v / 16777216)) with
    | false => rw [d3 hg] at h ⊢; exact rdecode_u_ok v w h0 h1 hk hh hg h
    | true =>
      by_cases hl : v % 65536 < 32768
      · rw [d2 hg hl] at h ⊢; exact rdecode_w_ok v w h0 h1 hk hh hg hl h
      · rw [d1 hg (by omega)] at h ⊢; exact rdecode_s_ok v w h0 h1 hk hh hg (by omega) h
theorem rdecode_bad (v : Int) (w : World) (h0 : 0 ≤ v) (h1 : v ≤ 4294967295) (h : ¬ dck v = 0) :
    Calls Try.prog 14 #[.int .u32 v] w fun e w' => e = .returned (.tuple #[.agg #[.int .i64 0, .int .i64 0, .int .i64 0, .int .i64 0, .int .i64 0], .bool false]) ∧ Below w.heap.size w w' := by
  by_cases hk : kind (v / 16777216) = 0
  · exact rdecode_none v w h0 h1 hk
  unfold dck at h
  cases hh : hasL (kind (v / 16777216)) 73 with
  | false =>
    obtain ⟨e1, e2⟩ := (dC_low (kind (v / 16777216)) (v % 65536)).2 hh
    rw [e1, e2] at h
    exact rdecode_c_bad v w h0 h1 hk hh _ rfl (by simpa using h)
  | true =>
    have e1 := (dC_low (kind (v / 16777216)) (v % 65536)).1 hh
    obtain ⟨d1, d2, d3⟩ := dM_low (kind (v / 16777216)) (v % 65536) (kind_le _) hh (by omega) (by omega)
    rw [e1] at h
    cases hg : sgn (kind (v / 16777216)) with
    | false => rw [d3 hg] at h; exact rdecode_u_bad v w h0 h1 hk hh hg _ rfl (by simpa using h)
    | true =>
      by_cases hl : v % 65536 < 32768
      · rw [d2 hg hl] at h; exact rdecode_w_bad v w h0 h1 hk hh hg hl _ rfl (by simpa using h)
      · rw [d1 hg (by omega)] at h; exact rdecode_s_bad v w h0 h1 hk hh hg (by omega) _ rfl (by simpa using h)
end Go.Proofs.Ythbhlmbhnidbhaa.W
