/- The contracts of the reference's wants, signOf, Bind, base. -/
import Derived.Test.YthcfianhdkolhaaDoorRfA
import Derived.Test.YthcfianhdkolhaaDoorSign
namespace Go.Proofs.YthcfianhdkolhaaDoor.T
open Go.RowKit Go.Proofs.YthcfianhdkolhaaDoor.S
set_option linter.unusedVariables false
set_option linter.unusedSimpArgs false
set_option maxRecDepth 100000 in
set_option maxHeartbeats 800000 in
theorem want_k1 (text : List UInt8) (num : Int) (ka : Option Addr) (n kc i : Nat) (hi : i < n) (hn : n ≤ 9223372036854775807) (w : World) : Calls Tryd.prog 21 #[.agg #[.int .i64 1, .string (str text), .int .i64 num, .slice ka n kc], .int .i64 i] w fun e w' => e = .returned (.tuple #[.int .i64 (wantN 1 n i).1, .int .i64 (wantN 1 n i).2]) ∧ Below w.heap.size w w' := by
  have HB : Hid (Below w.heap.size w (w.alloc (.cells #[.int .i64 1, .string (str text), .int .i64 num, .slice ka n kc] 24))) := (Below.refl _ _).alloc (Nat.le_refl _) _
  have hw1 : IntKind.i64.wrap ((n : Int) - 1) = (n : Int) - 1 := by rw [IntKind.wrap_i64]; omega
  have hw2 : IntKind.i64.wrap ((n : Int) - 1 - 1) = (n : Int) - 1 - 1 := by rw [IntKind.wrap_i64]; omega
  have hv : wantN 1 n i = (1, 0) := by rfl
  rw [hv]
  clear hv
  go_enter Tryd.func21, Tryd.ntmps21
  go_wp2_with fail
  go_ret2
  exact ⟨rfl, HB.out⟩
set_option maxRecDepth 100000 in
set_option maxHeartbeats 800000 in
theorem want_k2 (text : List UInt8) (num : Int) (ka : Option Addr) (n kc i : Nat) (hi : i < n) (hn : n ≤ 9223372036854775807) (w : World) : Calls Tryd.prog 21 #[.agg #[.int .i64 2, .string (str text), .int .i64 num, .slice ka n kc], .int .i64 i] w fun e w' => e = .returned (.tuple #[.int .i64 (wantN 2 n i).1, .int .i64 (wantN 2 n i).2]) ∧ Below w.heap.size w w' := by
  have HB : Hid (Below w.heap.size w (w.alloc (.cells #[.int .i64 2, .string (str text), .int .i64 num, .slice ka n kc] 24))) := (Below.refl _ _).alloc (Nat.le_refl _) _
  have hw1 : IntKind.i64.wrap ((n : Int) - 1) = (n : Int) - 1 := by rw [IntKind.wrap_i64]; omega
  have hw2 : IntKind.i64.wrap ((n : Int) - 1 - 1) = (n : Int) - 1 - 1 := by rw [IntKind.wrap_i64]; omega
  have hv : wantN 2 n i = (5, 3) := by rfl
  rw [hv]
  clear hv
  go_enter Tryd.func21, Tryd.ntmps21
  go_wp2_with fail
  go_ret2
  exact ⟨rfl, HB.out⟩
set_option maxRecDepth 100000 in
set_option maxHeartbeats 800000 in
theorem want_k3 (text : List UInt8) (num : Int) (ka : Option Addr) (n kc i : Nat) (hi : i < n) (hn : n ≤ 9223372036854775807) (w : World) : Calls Tryd.prog 21 #[.agg #[.int .i64 3, .string (str text), .int .i64 num, .slice ka n kc], .int .i64 i] w fun e w' => e = .returned (.tuple #[.int .i64 (wantN 3 n i).1, .int .i64 (wantN 3 n i).2]) ∧ Below w.heap.size w w' := by
  have HB : Hid (Below w.heap.size w (w.alloc (.cells #[.int .i64 3, .string (str text), .int .i64 num, .slice ka n kc] 24))) := (Below.refl _ _).alloc (Nat.le_refl _) _
  have hw1 : IntKind.i64.wrap ((n : Int) - 1) = (n : Int) - 1 := by rw [IntKind.wrap_i64]; omega
  have hw2 : IntKind.i64.wrap ((n : Int) - 1 - 1) = (n : Int) - 1 - 1 := by rw [IntKind.wrap_i64]; omega
  have hv : wantN 3 n i = (2, 0) := by rfl
  rw [hv]
  clear hv
  go_enter Tryd.func21, Tryd.ntmps21
  go_wp2_with fail
  go_ret2
  exact ⟨rfl, HB.out⟩
set_option maxRecDepth 100000 in
set_option maxHeartbeats 800000 in
theorem want_k5 (text : List UInt8) (num : Int) (ka : Option Addr) (n kc i : Nat) (hi : i < n) (hn : n ≤ 9223372036854775807) (w : World) : Calls Tryd.prog 21 #[.agg #[.int .i64 5, .string (str text), .int .i64 num, .slice ka n kc], .int .i64 i] w fun e w' => e = .returned (.tuple #[.int .i64 (wantN 5 n i).1, .int .i64 (wantN 5 n i).2]) ∧ Below w.heap.size w w' := by
  have HB : Hid (Below w.heap.size w (w.alloc (.cells #[.int .i64 5, .string (str text), .int .i64 num, .slice ka n kc] 24))) := (Below.refl _ _).alloc (Nat.le_refl _) _
  have hw1 : IntKind.i64.wrap ((n : Int) - 1) = (n : Int) - 1 := by rw [IntKind.wrap_i64]; omega
  have hw2 : IntKind.i64.wrap ((n : Int) - 1 - 1) = (n : Int) - 1 - 1 := by rw [IntKind.wrap_i64]; omega
  have hv : wantN 5 n i = (2, 0) := by rfl
  rw [hv]
  clear hv
  go_enter Tryd.func21, Tryd.ntmps21
  go_wp2_with fail
  go_ret2
  exact ⟨rfl, HB.out⟩
set_option maxRecDepth 100000 in
set_option maxHeartbeats 800000 in
theorem want_k8 (text : List UInt8) (num : Int) (ka : Option Addr) (n kc i : Nat) (hi : i < n) (hn : n ≤ 9223372036854775807) (w : World) : Calls Tryd.prog 21 #[.agg #[.int .i64 8, .string (str text), .int .i64 num, .slice ka n kc], .int .i64 i] w fun e w' => e = .returned (.tuple #[.int .i64 (wantN 8 n i).1, .int .i64 (wantN 8 n i).2]) ∧ Below w.heap.size w w' := by
  have HB : Hid (Below w.heap.size w (w.alloc (.cells #[.int .i64 8, .string (str text), .int .i64 num, .slice ka n kc] 24))) := (Below.refl _ _).alloc (Nat.le_refl _) _
  have hw1 : IntKind.i64.wrap ((n : Int) - 1) = (n : Int) - 1 := by rw [IntKind.wrap_i64]; omega
  have hw2 : IntKind.i64.wrap ((n : Int) - 1 - 1) = (n : Int) - 1 - 1 := by rw [IntKind.wrap_i64]; omega
  have hv : wantN 8 n i = (2, 0) := by rfl
  rw [hv]
  clear hv
  go_enter Tryd.func21, Tryd.ntmps21
  go_wp2_with fail
  go_ret2
  exact ⟨rfl, HB.out⟩
set_option maxRecDepth 100000 in
set_option maxHeartbeats 800000 in
theorem want_k12 (text : List UInt8) (num : Int) (ka : Option Addr) (n kc i : Nat) (hi : i < n) (hn : n ≤ 9223372036854775807) (w : World) : Calls Tryd.prog 21 #[.agg #[.int .i64 12, .string (str text), .int .i64 num, .slice ka n kc], .int .i64 i] w fun e w' => e = .returned (.tuple #[.int .i64 (wantN 12 n i).1, .int .i64 (wantN 12 n i).2]) ∧ Below w.heap.size w w' := by
  have HB : Hid (Below w.heap.size w (w.alloc (.cells #[.int .i64 12, .string (str text), .int .i64 num, .slice ka n kc] 24))) := (Below.refl _ _).alloc (Nat.le_refl _) _
  have hw1 : IntKind.i64.wrap ((n : Int) - 1) = (n : Int) - 1 := by rw [IntKind.wrap_i64]; omega
  have hw2 : IntKind.i64.wrap ((n : Int) - 1 - 1) = (n : Int) - 1 - 1 := by rw [IntKind.wrap_i64]; omega
  have hv : wantN 12 n i = (2, 0) := by rfl
  rw [hv]
  clear hv
  go_enter Tryd.func21, Tryd.ntmps21
  go_wp2_with fail
  go_ret2
  exact ⟨rfl, HB.out⟩
set_option maxRecDepth 100000 in
set_option maxHeartbeats 800000 in
theorem want_k13 (text : List UInt8) (num : Int) (ka : Option Addr) (n kc i : Nat) (hi : i < n) (hn : n ≤ 9223372036854775807) (w : World) : Calls Tryd.prog 21 #[.agg #[.int .i64 13, .string (str text), .int .i64 num, .slice ka n kc], .int .i64 i] w fun e w' => e = .returned (.tuple #[.int .i64 (wantN 13 n i).1, .int .i64 (wantN 13 n i).2]) ∧ Below w.heap.size w w' := by
  have HB : Hid (Below w.heap.size w (w.alloc (.cells #[.int .i64 13, .string (str text), .int .i64 num, .slice ka n kc] 24))) := (Below.refl _ _).alloc (Nat.le_refl _) _
  have hw1 : IntKind.i64.wrap ((n : Int) - 1) = (n : Int) - 1 := by rw [IntKind.wrap_i64]; omega
  have hw2 : IntKind.i64.wrap ((n : Int) - 1 - 1) = (n : Int) - 1 - 1 := by rw [IntKind.wrap_i64]; omega
  have hv : wantN 13 n i = (3, 0) := by rfl
  rw [hv]
  clear hv
  go_enter Tryd.func21, Tryd.ntmps21
  go_wp2_with fail
  go_ret2
  exact ⟨rfl, HB.out⟩
set_option maxRecDepth 100000 in
set_option maxHeartbeats 800000 in
theorem want_k4 (text : List UInt8) (num : Int) (ka : Option Addr) (n kc i : Nat) (hi : i < n) (hn : n ≤ 9223372036854775807) (w : World) : Calls Tryd.prog 21 #[.agg #[.int .i64 4, .string (str text), .int .i64 num, .slice ka n kc], .int .i64 i] w fun e w' => e = .returned (.tuple #[.int .i64 (wantN 4 n i).1, .int .i64 (wantN 4 n i).2]) ∧ Below w.heap.size w w' := by
  have HB : Hid (Below w.heap.size w (w.alloc (.cells #[.int .i64 4, .string (str text), .int .i64 num, .slice ka n kc] 24))) := (Below.refl _ _).alloc (Nat.le_refl _) _
  have hw1 : IntKind.i64.wrap ((n : Int) - 1) = (n : Int) - 1 := by rw [IntKind.wrap_i64]; omega
  have hw2 : IntKind.i64.wrap ((n : Int) - 1 - 1) = (n : Int) - 1 - 1 := by rw [IntKind.wrap_i64]; omega
  by_cases hc : i + 1 = n
  · have hq : ((i : Int) == (n : Int) - 1) = true := by simp; omega
    have hv : wantN 4 n i = (2, 0) := by unfold wantN; simp [hc]
    rw [hv]
    clear hv
    go_enter Tryd.func21, Tryd.ntmps21
    go_wp2_with fail
    go_ret2
    exact ⟨rfl, HB.out⟩
  · have hq : ((i : Int) == (n : Int) - 1) = false := by simp; omega
    have hv : wantN 4 n i = (5, 8) := by unfold wantN; simp [hc]
    rw [hv]
    clear hv
    go_enter Tryd.func21, Tryd.ntmps21
    go_wp2_with fail
    go_ret2
    exact ⟨rfl, HB.out⟩
set_option maxRecDepth 100000 in
set_option maxHeartbeats 800000 in
theorem want_k6 (text : List UInt8) (num : Int) (ka : Option Addr) (n kc i : Nat) (hi : i < n) (hn : n ≤ 9223372036854775807) (w : World) : Calls Tryd.prog 21 #[.agg #[.int .i64 6, .string (str text), .int .i64 num, .slice ka n kc], .int .i64 i] w fun e w' => e = .returned (.tuple #[.int .i64 (wantN 6 n i).1, .int .i64 (wantN 6 n i).2]) ∧ Below w.heap.size w w' := by
  have HB : Hid (Below w.heap.size w (w.alloc (.cells #[.int .i64 6, .string (str text), .int .i64 num, .slice ka n kc] 24))) := (Below.refl _ _).alloc (Nat.le_refl _) _
  have hw1 : IntKind.i64.wrap ((n : Int) - 1) = (n : Int) - 1 := by rw [IntKind.wrap_i64]; omega
  have hw2 : IntKind.i64.wrap ((n : Int) - 1 - 1) = (n : Int) - 1 - 1 := by rw [IntKind.wrap_i64]; omega
  by_cases hc : i = 0
  · have hq : ((i : Int) == 0) = true := by simp; omega
    have hv : wantN 6 n i = (2, 0) := by unfold wantN; simp [hc]
    rw [hv]
    clear hv
    go_enter Tryd.func21, Tryd.ntmps21
    go_wp2_with fail
    go_ret2
    exact ⟨rfl, HB.out⟩
  · have hq : ((i : Int) == 0) = false := by simp; omega
    have hv : wantN 6 n i = (4, -1) := by unfold wantN; simp [hc]
    rw [hv]
    clear hv
    go_enter Tryd.func21, Tryd.ntmps21
    go_wp2_with fail
    go_ret2
    exact ⟨rfl, HB.out⟩
set_option maxRecDepth 100000 in
set_option maxHeartbeats 800000 in
theorem want_k14 (text : List UInt8) (num : Int) (ka : Option Addr) (n kc i : Nat) (hi : i < n) (hn : n ≤ 9223372036854775807) (w : World) : Calls Tryd.prog 21 #[.agg #[.int .i64 14, .string (str text), .int .i64 num, .slice ka n kc], .int .i64 i] w fun e w' => e = .returned (.tuple #[.int .i64 (wantN 14 n i).1, .int .i64 (wantN 14 n i).2]) ∧ Below w.heap.size w w' := by
  have HB : Hid (Below w.heap.size w (w.alloc (.cells #[.int .i64 14, .string (str text), .int .i64 num, .slice ka n kc] 24))) := (Below.refl _ _).alloc (Nat.le_refl _) _
  have hw1 : IntKind.i64.wrap ((n : Int) - 1) = (n : Int) - 1 := by rw [IntKind.wrap_i64]; omega
  have hw2 : IntKind.i64.wrap ((n : Int) - 1 - 1) = (n : Int) - 1 - 1 := by rw [IntKind.wrap_i64]; omega
  by_cases hc : i = 0
  · have hq : ((i : Int) == 0) = true := by simp; omega
    have hv : wantN 14 n i = (2, 0) := by unfold wantN; simp [hc]
    rw [hv]
    clear hv
    go_enter Tryd.func21, Tryd.ntmps21
    go_wp2_with fail
    go_ret2
    exact ⟨rfl, HB.out⟩
  · have hq : ((i : Int) == 0) = false := by simp; omega
    have hv : wantN 14 n i = (4, 0) := by unfold wantN; simp [hc]
    rw [hv]
    clear hv
    go_enter Tryd.func21, Tryd.ntmps21
    go_wp2_with fail
    go_ret2
    exact ⟨rfl, HB.out⟩
set_option maxRecDepth 100000 in
set_option maxHeartbeats 800000 in
theorem want_k16 (text : List UInt8) (num : Int) (ka : Option Addr) (n kc i : Nat) (hi : i < n) (hn : n ≤ 9223372036854775807) (w : World) : Calls Tryd.prog 21 #[.agg #[.int .i64 16, .string (str text), .int .i64 num, .slice ka n kc], .int .i64 i] w fun e w' => e = .returned (.tuple #[.int .i64 (wantN 16 n i).1, .int .i64 (wantN 16 n i).2]) ∧ Below w.heap.size w w' := by
  have HB : Hid (Below w.heap.size w (w.alloc (.cells #[.int .i64 16, .string (str text), .int .i64 num, .slice ka n kc] 24))) := (Below.refl _ _).alloc (Nat.le_refl _) _
  have hw1 : IntKind.i64.wrap ((n : Int) - 1) = (n : Int) - 1 := by rw [IntKind.wrap_i64]; omega
  have hw2 : IntKind.i64.wrap ((n : Int) - 1 - 1) = (n : Int) - 1 - 1 := by rw [IntKind.wrap_i64]; omega
  by_cases hc : i = 0
  · have hq : ¬ (0 : Int) < i := by omega
    have hv : wantN 16 n i = (4, 0) := by unfold wantN; simp [hc]
    rw [hv]
    clear hv
    go_enter Tryd.func21, Tryd.ntmps21
    go_wp2_with fail
    go_ret2
    exact ⟨rfl, HB.out⟩
  · have hq : (0 : Int) < i := by omega
    have hv : wantN 16 n i = (5, 13) := by unfold wantN; simp [hc]
    rw [hv]
    clear hv
    go_enter Tryd.func21, Tryd.ntmps21
    go_wp2_with fail
    go_ret2
    exact ⟨rfl, HB.out⟩
set_option maxRecDepth 100000 in
set_option maxHeartbeats 800000 in
theorem want_k17 (text : List UInt8) (num : Int) (ka : Option Addr) (n kc i : Nat) (hi : i < n) (hn : n ≤ 9223372036854775807) (w : World) : Calls Tryd.prog 21 #[.agg #[.int .i64 17, .string (str text), .int .i64 num, .slice ka n kc], .int .i64 i] w fun e w' => e = .returned (.tuple #[.int .i64 (wantN 17 n i).1, .int .i64 (wantN 17 n i).2]) ∧ Below w.heap.size w w' := by
  have HB : Hid (Below w.heap.size w (w.alloc (.cells #[.int .i64 17, .string (str text), .int .i64 num, .slice ka n kc] 24))) := (Below.refl _ _).alloc (Nat.le_refl _) _
  have hw1 : IntKind.i64.wrap ((n : Int) - 1) = (n : Int) - 1 := by rw [IntKind.wrap_i64]; omega
  have hw2 : IntKind.i64.wrap ((n : Int) - 1 - 1) = (n : Int) - 1 - 1 := by rw [IntKind.wrap_i64]; omega
  by_cases hc : i = 0
  · have hq : ¬ (0 : Int) < i := by omega
    have hv : wantN 17 n i = (4, 0) := by unfold wantN; simp [hc]
    rw [hv]
    clear hv
    go_enter Tryd.func21, Tryd.ntmps21
    go_wp2_with fail
    go_ret2
    exact ⟨rfl, HB.out⟩
  · have hq : (0 : Int) < i := by omega
    have hv : wantN 17 n i = (5, 13) := by unfold wantN; simp [hc]
    rw [hv]
    clear hv
    go_enter Tryd.func21, Tryd.ntmps21
    go_wp2_with fail
    go_ret2
    exact ⟨rfl, HB.out⟩
set_option maxRecDepth 100000 in
set_option maxHeartbeats 800000 in
theorem want_k7 (text : List UInt8) (num : Int) (ka : Option Addr) (n kc i : Nat) (hi : i < n) (hn : n ≤ 9223372036854775807) (w : World) : Calls Tryd.prog 21 #[.agg #[.int .i64 7, .string (str text), .int .i64 num, .slice ka n kc], .int .i64 i] w fun e w' => e = .returned (.tuple #[.int .i64 (wantN 7 n i).1, .int .i64 (wantN 7 n i).2]) ∧ Below w.heap.size w w' := by
  have HB : Hid (Below w.heap.size w (w.alloc (.cells #[.int .i64 7, .string (str text), .int .i64 num, .slice ka n kc] 24))) := (Below.refl _ _).alloc (Nat.le_refl _) _
  have hw1 : IntKind.i64.wrap ((n : Int) - 1) = (n : Int) - 1 := by rw [IntKind.wrap_i64]; omega
  have hw2 : IntKind.i64.wrap ((n : Int) - 1 - 1) = (n : Int) - 1 - 1 := by rw [IntKind.wrap_i64]; omega
  by_cases hc : i + 1 = n
  · have hq : ((i : Int) == (n : Int) - 1) = true := by simp; omega
    have hv : wantN 7 n i = (5, 13) := by unfold wantN; simp [hc]
    rw [hv]
    clear hv
    go_enter Tryd.func21, Tryd.ntmps21
    go_wp2_with fail
    go_ret2
    exact ⟨rfl, HB.out⟩
  have hq : ((i : Int) == (n : Int) - 1) = false := by simp; omega
  by_cases hc2 : i + 2 = n
  · have hq2 : ((i : Int) == (n : Int) - 1 - 1) = true := by simp; omega
    have hv : wantN 7 n i = (2, 0) := by unfold wantN; simp [hc, hc2]
    rw [hv]
    clear hv
    go_enter Tryd.func21, Tryd.ntmps21
    go_wp2_with fail
    go_ret2
    exact ⟨rfl, HB.out⟩
  · have hq2 : ((i : Int) == (n : Int) - 1 - 1) = false := by simp; omega
    have hv : wantN 7 n i = (5, 8) := by unfold wantN; simp [hc, hc2]
    rw [hv]
    clear hv
    go_enter Tryd.func21, Tryd.ntmps21
    go_wp2_with fail
    go_ret2
    exact ⟨rfl, HB.out⟩
set_option maxRecDepth 100000 in
set_option maxHeartbeats 800000 in
theorem want_rest (kind : Int) (k1 : ¬ kind = 1) (k2 : ¬ kind = 2) (k3 : ¬ kind = 3) (k5 : ¬ kind = 5) (k8 : ¬ kind = 8) (k12 : ¬ kind = 12) (k4 : ¬ kind = 4) (k6 : ¬ kind = 6) (k7 : ¬ kind = 7) (k13 : ¬ kind = 13) (k14 : ¬ kind = 14) (k16 : ¬ kind = 16) (k17 : ¬ kind = 17) (text : List UInt8) (num : Int) (ka : Option Addr) (n kc i : Nat) (hi : i < n) (hn : n ≤ 9223372036854775807) (w : World) : Calls Tryd.prog 21 #[.agg #[.int .i64 kind, .string (str text), .int .i64 num, .slice ka n kc], .int .i64 i] w fun e w' => e = .returned (.tuple #[.int .i64 (wantN kind n i).1, .int .i64 (wantN kind n i).2]) ∧ Below w.heap.size w w' := by
  have HB : Hid (Below w.heap.size w (w.alloc (.cells #[.int .i64 kind, .string (str text), .int .i64 num, .slice ka n kc] 24))) := (Below.refl _ _).alloc (Nat.le_refl _) _
  have hw1 : IntKind.i64.wrap ((n : Int) - 1) = (n : Int) - 1 := by rw [IntKind.wrap_i64]; omega
  have hw2 : IntKind.i64.wrap ((n : Int) - 1 - 1) = (n : Int) - 1 - 1 := by rw [IntKind.wrap_i64]; omega
  have hv : wantN kind n i = (4, 0) := by
    unfold wantN
    repeat rw [if_neg (by omega)]
  rw [hv]
  have k1' : (kind == 1) = false := by simpa using k1
  have k2' : (kind == 2) = false := by simpa using k2
  have k3' : (kind == 3) = false := by simpa using k3
  have k5' : (kind == 5) = false := by simpa using k5
  have k8' : (kind == 8) = false := by simpa using k8
  have k12' : (kind == 12) = false := by simpa using k12
  have k4' : (kind == 4) = false := by simpa using k4
  have k6' : (kind == 6) = false := by simpa using k6
  have k7' : (kind == 7) = false := by simpa using k7
  have k13' : (kind == 13) = false := by simpa using k13
  have k14' : (kind == 14) = false := by simpa using k14
  have k16' : (kind == 16) = false := by simpa using k16
  have k17' : (kind == 17) = false := by simpa using k17
  clear hv k1 k2 k3 k5 k8 k12 k4 k6 k7 k13 k14 k16 k17
  go_enter Tryd.func21, Tryd.ntmps21
  go_wp2_with fail
  go_ret2
  exact ⟨rfl, HB.out⟩
theorem want_any (kind : Int) (text : List UInt8) (num : Int) (ka : Option Addr) (n kc i : Nat) (hi : i < n) (hn : n ≤ 9223372036854775807) (w : World) : Calls Tryd.prog 21 #[.agg #[.int .i64 kind, .string (str text), .int .i64 num, .slice ka n kc], .int .i64 i] w fun e w' => e = .returned (.tuple #[.int .i64 (wantN kind n i).1, .int .i64 (wantN kind n i).2]) ∧ Below w.heap.size w w' := by
  by_cases k1 : kind = 1
  · subst k1; exact want_k1 text num ka n kc i hi hn w
  by_cases k2 : kind = 2
  · subst k2; exact want_k2 text num ka n kc i hi hn w
  by_cases k3 : kind = 3
  · subst k3; exact want_k3 text num ka n kc i hi hn w
  by_cases k5 : kind = 5
  · subst k5; exact want_k5 text num ka n kc i hi hn w
  by_cases k8 : kind = 8
  · subst k8; exact want_k8 text num ka n kc i hi hn w
  by_cases k12 : kind = 12
  · subst k12; exact want_k12 text num ka n kc i hi hn w
  by_cases k4 : kind = 4
  · subst k4; exact want_k4 text num ka n kc i hi hn w
  by_cases k6 : kind = 6
  · subst k6; exact want_k6 text num ka n kc i hi hn w
  by_cases k7 : kind = 7
  · subst k7; exact want_k7 text num ka n kc i hi hn w
  by_cases k13 : kind = 13
  · subst k13; exact want_k13 text num ka n kc i hi hn w
  by_cases k14 : kind = 14
  · subst k14; exact want_k14 text num ka n kc i hi hn w
  by_cases k16 : kind = 16
  · subst k16; exact want_k16 text num ka n kc i hi hn w
  by_cases k17 : kind = 17
  · subst k17; exact want_k17 text num ka n kc i hi hn w
  exact want_rest kind k1 k2 k3 k5 k8 k12 k4 k6 k7 k13 k14 k16 k17 text num ka n kc i hi hn w
theorem sg_sign {j : Nat} (hj : j < 10) : sign (sgs.getD j []) = (lvN j, opN j) := sign_hit hj rfl
theorem opN_hit {j : Nat} (hj : j < 10) : isOp (opN j) ∧ opSign (opN j) = sgs.getD j [] ∧ opBind (opN j) = lvN j := by
  have : j = 0 ∨ j = 1 ∨ j = 2 ∨ j = 3 ∨ j = 4 ∨ j = 5 ∨ j = 6 ∨ j = 7 ∨ j = 8 ∨ j = 9 := by omega
  rcases this with rfl | rfl | rfl | rfl | rfl | rfl | rfl | rfl | rfl | rfl <;> exact ⟨by unfold isOp; decide, by decide, by decide⟩
theorem opN_miss {v : Int} (h : ∀ j, j < 10 → opN j ≠ v) : opSign v = [] ∧ opBind v = -1 := by
  have h0 : (12 : Int) ≠ v := h 0 (by omega)
  have h1 : (10 : Int) ≠ v := h 1 (by omega)
  have h2 : (1 : Int) ≠ v := h 2 (by omega)
  have h3 : (2 : Int) ≠ v := h 3 (by omega)
  have h4 : (8 : Int) ≠ v := h 4 (by omega)
  have h5 : (9 : Int) ≠ v := h 5 (by omega)
  have h6 : (3 : Int) ≠ v := h 6 (by omega)
  have h7 : (5 : Int) ≠ v := h 7 (by omega)
  have h8 : (6 : Int) ≠ v := h 8 (by omega)
  have h9 : (7 : Int) ≠ v := h 9 (by omega)
  constructor
  · unfold opSign
    repeat rw [if_neg (by omega)]
  · unfold opBind
    repeat rw [if_neg (by omega)]
theorem sg_cell (W : World) (b : Nat) (h : W.heap[b]? = some (.cells #[Value.string ⟨#[61, 61]⟩, Value.string ⟨#[60]⟩, Value.string ⟨#[43]⟩, Value.string ⟨#[45]⟩, Value.string ⟨#[124]⟩, Value.string ⟨#[94]⟩, Value.string ⟨#[42]⟩, Value.string ⟨#[47]⟩, Value.string ⟨#[37]⟩, Value.string ⟨#[38]⟩] 9 (0, 0))) (j : Nat) (hj : j < 10) : W.cell? ⟨b, j, none⟩ = some (.string (str (sgs.getD j []))) := by
  rw [cells_at h]
  have : j = 0 ∨ j = 1 ∨ j = 2 ∨ j = 3 ∨ j = 4 ∨ j = 5 ∨ j = 6 ∨ j = 7 ∨ j = 8 ∨ j = 9 := by omega
  rcases this with rfl | rfl | rfl | rfl | rfl | rfl | rfl | rfl | rfl | rfl <;> rfl
set_option maxRecDepth 100000 in
set_option maxHeartbeats 800000 in
theorem signOf_any (v : Int) (w : World) : Calls Tryd.prog 19 #[.int .i64 v] w fun e w' => e = .returned (.string (str (opSign v))) ∧ Below w.heap.size w w' := by
  have hsig := fun (s : List UInt8) (w : World) => sign_any s w
  go_enter Tryd.func19, Tryd.ntmps19
  go_wp2_with fail
  have hB0 : Below w.heap.size w (w.alloc (.cells #[Value.string ⟨#[61, 61]⟩, Value.string ⟨#[60]⟩, Value.string ⟨#[43]⟩, Value.string ⟨#[45]⟩, Value.string ⟨#[124]⟩, Value.string ⟨#[94]⟩, Value.string ⟨#[42]⟩, Value.string ⟨#[47]⟩, Value.string ⟨#[37]⟩, Value.string ⟨#[38]⟩] 9)) := (Below.refl _ _).alloc (Nat.le_refl _) _
  have hy0 := heap_new w #[Value.string ⟨#[61, 61]⟩, Value.string ⟨#[60]⟩, Value.string ⟨#[43]⟩, Value.string ⟨#[45]⟩, Value.string ⟨#[124]⟩, Value.string ⟨#[94]⟩, Value.string ⟨#[42]⟩, Value.string ⟨#[47]⟩, Value.string ⟨#[37]⟩, Value.string ⟨#[38]⟩] 9
  have hz0 : (w.alloc (.cells #[Value.string ⟨#[61, 61]⟩, Value.string ⟨#[60]⟩, Value.string ⟨#[43]⟩, Value.string ⟨#[45]⟩, Value.string ⟨#[124]⟩, Value.string ⟨#[94]⟩, Value.string ⟨#[42]⟩, Value.string ⟨#[47]⟩, Value.string ⟨#[37]⟩, Value.string ⟨#[38]⟩] 9)).heap.size = w.heap.size + 1 := by simp
  generalize w.alloc (.cells #[Value.string ⟨#[61, 61]⟩, Value.string ⟨#[60]⟩, Value.string ⟨#[43]⟩, Value.string ⟨#[45]⟩, Value.string ⟨#[124]⟩, Value.string ⟨#[94]⟩, Value.string ⟨#[42]⟩, Value.string ⟨#[47]⟩, Value.string ⟨#[37]⟩, Value.string ⟨#[38]⟩] 9) = W at *
  have HW : Hid (∀ w', Below W.heap.size W w' → Below w.heap.size w w') := fun w' hw => hB0.trans (hw.mono (by omega))
  have HY : Hid (∀ w', Below W.heap.size W w' → ∀ j, j < 10 → w'.cell? ⟨w.heap.size, j, none⟩ = some (.string (str (sgs.getD j [])))) := fun w' hw j hj => sg_cell w' _ ((hw.block w.heap.size (by omega)).trans hy0) j hj
  clear hB0 hy0 hz0
  go_loopw [4] (fun i wr => ∃ j : Nat, j ≤ 10 ∧ i = .int .i64 j ∧ Hid (Below W.heap.size W wr) ∧ Hid (∀ k, k < j → opN k ≠ v)) (fun i _ => 10 - (intOf i).toNat)
  case atStart => exact ⟨0, by omega, rfl, Below.refl _ _, fun k hk => by omega⟩
  case round =>
    obtain ⟨j, hj, rfl, HB, HM⟩ := hrel
    by_cases hlt : j < 10
    · have hlt' : (j : Int) < 10 := by omega
      have hidx : (0 : Int) ≤ j ∧ (j : Int) < 10 := by omega
      have hyj := HY.out wr HB.out j hlt
      have HYj : Hid (∀ w', Below W.heap.size W w' → w'.cell? ⟨w.heap.size, j, none⟩ = some (.string (str (sgs.getD j [])))) := fun w' hw => HY.out w' hw j hlt
      have hs := hsig (sgs.getD j []) wr
      rw [sg_sign hlt] at hs
      have HHit := hide (opN_hit hlt)
      have HMk : Hid (opN j ≠ v → ∀ k, k < j + 1 → opN k ≠ v) := fun hne k hk => by
        by_cases e : k = j
        · rw [e]; exact hne
        · exact HM.out k (by omega)
      generalize opN j = oj at *
      generalize lvN j = lj at *
      generalize sgs.getD j [] = sj at *
      go_wp2_with fail
      go_at_call 38
      refine hs.mono ?_
      rintro e w1 ⟨rfl, hg⟩
      have HB1 : Hid (Below W.heap.size W w1) := HB.out.trans ((below_grown hg).mono HB.out.size)
      have hyj1 := HYj.out w1 HB1.out
      clear hg hs hyj
      by_cases he : oj = v
      · have HE := hide he
        have he' : (oj == v) = true := by simpa using he
        clear he
        go_wp2_with fail
        go_ret
        exact ⟨by rw [← HE.out, HHit.out.2.1]; rfl, HW.out _ HB1.out⟩
      · have he' : (oj == v) = false := by simpa using he
        have HM1 := hide (HMk.out he)
        clear he
        go_wp2_with fail
        go_roundw
        case rel => exact ⟨j + 1, by omega, by go_num, HB1, HM1⟩
        case measure => simp [intOf]; omega
    · obtain rfl : j = 10 := by omega
      have HE := hide (opN_miss HM.out).1
      go_wp2_with fail
      go_ret
      exact ⟨by rw [HE.out]; rfl, HW.out _ HB.out⟩
set_option maxRecDepth 100000 in
set_option maxHeartbeats 800000 in
theorem bind_any (kind : Int) (text : List UInt8) (num : Int) (ka : Option Addr) (n kc : Nat) (kids : List Nd) (w : World) : Calls Tryd.prog 28 #[.agg #[.int .i64 kind, .string (str text), .int .i64 num, .slice ka n kc]] w fun e w' => e = .returned (.int .i64 (bindN (.mk kind text num kids))) ∧ Below w.heap.size w w' := by
  have hB0 : Below w.heap.size w (w.alloc (.cells #[.int .i64 kind, .string (str text), .int .i64 num, .slice ka n kc] 24)) := (Below.refl _ _).alloc (Nat.le_refl _) _
  by_cases k28 : kind = 28
  · subst k28
    have HB := hide hB0
    clear hB0
    go_enter Tryd.func28, Tryd.ntmps28
    go_wp2_with fail
    go_ret
    exact ⟨by simp [bindN], HB.out⟩
  have k28' : (kind == 28) = false := by simpa using k28
  by_cases k29 : kind = 29
  · subst k29
    have HB := hide hB0
    clear hB0
    go_enter Tryd.func28, Tryd.ntmps28
    go_wp2_with fail
    go_ret
    exact ⟨by simp [bindN], HB.out⟩
  have k29' : (kind == 29) = false := by simpa using k29
  by_cases k32 : kind = 32
  rotate_left
  · have k32' : (kind != 32) = true := by simpa using k32
    have HB := hide hB0
    have HBd : Hid (bindN (.mk kind text num kids) = 4) := by show _ = _; simp [bindN, k28, k29, k32]
    clear hB0 k28 k29 k32
    go_enter Tryd.func28, Tryd.ntmps28
    go_wp2_with fail
    go_ret
    exact ⟨by rw [HBd.out]; rfl, HB.out⟩
  subst k32
  have HBd : Hid (bindN (.mk 32 text num kids) = opBind num) := by show _ = _; simp [bindN]
  clear k28 k29 k28' k29'
  have hsig := fun (s : List UInt8) (w : World) => sign_any s w
  go_enter Tryd.func28, Tryd.ntmps28
  go_wp2_with fail
  have hB1 : Below w.heap.size w ((w.alloc (.cells #[.int .i64 32, .string (str text), .int .i64 num, .slice ka n kc] 24)).alloc (.cells #[Value.string ⟨#[61, 61]⟩, Value.string ⟨#[60]⟩, Value.string ⟨#[43]⟩, Value.string ⟨#[45]⟩, Value.string ⟨#[124]⟩, Value.string ⟨#[94]⟩, Value.string ⟨#[42]⟩, Value.string ⟨#[47]⟩, Value.string ⟨#[37]⟩, Value.string ⟨#[38]⟩] 9)) := hB0.alloc (by simp) _
  have hy0 := heap_new (w.alloc (.cells #[.int .i64 32, .string (str text), .int .i64 num, .slice ka n kc] 24)) #[Value.string ⟨#[61, 61]⟩, Value.string ⟨#[60]⟩, Value.string ⟨#[43]⟩, Value.string ⟨#[45]⟩, Value.string ⟨#[124]⟩, Value.string ⟨#[94]⟩, Value.string ⟨#[42]⟩, Value.string ⟨#[47]⟩, Value.string ⟨#[37]⟩, Value.string ⟨#[38]⟩] 9
  have hx0 : ∀ o, ((w.alloc (.cells #[.int .i64 32, .string (str text), .int .i64 num, .slice ka n kc] 24)).alloc (.cells #[Value.string ⟨#[61, 61]⟩, Value.string ⟨#[60]⟩, Value.string ⟨#[43]⟩, Value.string ⟨#[45]⟩, Value.string ⟨#[124]⟩, Value.string ⟨#[94]⟩, Value.string ⟨#[42]⟩, Value.string ⟨#[47]⟩, Value.string ⟨#[37]⟩, Value.string ⟨#[38]⟩] 9)).cell? ⟨w.heap.size, o, none⟩ = (#[Value.int .i64 32, .string (str text), .int .i64 num, .slice ka n kc])[o]? := fun o => (World.cell?_alloc_past _ _ _ (by simp)).trans (World.cell?_alloc_at _ _ _ _ rfl)
  have hz0 : ((w.alloc (.cells #[.int .i64 32, .string (str text), .int .i64 num, .slice ka n kc] 24)).alloc (.cells #[Value.string ⟨#[61, 61]⟩, Value.string ⟨#[60]⟩, Value.string ⟨#[43]⟩, Value.string ⟨#[45]⟩, Value.string ⟨#[124]⟩, Value.string ⟨#[94]⟩, Value.string ⟨#[42]⟩, Value.string ⟨#[47]⟩, Value.string ⟨#[37]⟩, Value.string ⟨#[38]⟩] 9)).heap.size = w.heap.size + 2 := by simp
  rw [show (w.alloc (.cells #[.int .i64 32, .string (str text), .int .i64 num, .slice ka n kc] 24)).heap.size = w.heap.size + 1 by simp] at hy0
  generalize (w.alloc (.cells #[.int .i64 32, .string (str text), .int .i64 num, .slice ka n kc] 24)).alloc (.cells #[Value.string ⟨#[61, 61]⟩, Value.string ⟨#[60]⟩, Value.string ⟨#[43]⟩, Value.string ⟨#[45]⟩, Value.string ⟨#[124]⟩, Value.string ⟨#[94]⟩, Value.string ⟨#[42]⟩, Value.string ⟨#[47]⟩, Value.string ⟨#[37]⟩, Value.string ⟨#[38]⟩] 9) = W at *
  have HW : Hid (∀ w', Below W.heap.size W w' → Below w.heap.size w w') := fun w' hw => hB1.trans (hw.mono (by omega))
  have HXc : Hid (∀ w', Below W.heap.size W w' → ∀ o, w'.cell? ⟨w.heap.size, o, none⟩ = (#[Value.int .i64 32, .string (str text), .int .i64 num, .slice ka n kc])[o]?) := fun w' hw o => (hw.cell (p := ⟨w.heap.size, o, none⟩) (by show w.heap.size < _; omega)).trans (hx0 o)
  have HY : Hid (∀ w', Below W.heap.size W w' → ∀ j, j < 10 → w'.cell? ⟨w.heap.size + 1, j, none⟩ = some (.string (str (sgs.getD j [])))) := fun w' hw j hj => sg_cell w' _ ((hw.block (w.heap.size + 1) (by omega)).trans hy0) j hj
  clear hB0 hB1 hy0 hz0 hx0
  go_loopw [4] (fun i wr => ∃ j : Nat, j ≤ 10 ∧ i = .int .i64 j ∧ Hid (Below W.heap.size W wr) ∧ Hid (∀ k, k < j → opN k ≠ num)) (fun i _ => 10 - (intOf i).toNat)
  case atStart => exact ⟨0, by omega, rfl, Below.refl _ _, fun k hk => by omega⟩
  case round =>
    obtain ⟨j, hj, rfl, HB, HM⟩ := hrel
    by_cases hlt : j < 10
    · have hlt' : (j : Int) < 10 := by omega
      have hidx : (0 : Int) ≤ j ∧ (j : Int) < 10 := by omega
      have hyj := HY.out wr HB.out j hlt
      have hs := hsig (sgs.getD j []) wr
      rw [sg_sign hlt] at hs
      have HHit := hide (opN_hit hlt)
      have HMk : Hid (opN j ≠ num → ∀ k, k < j + 1 → opN k ≠ num) := fun hne k hk => by
        by_cases e : k = j
        · rw [e]; exact hne
        · exact HM.out k (by omega)
      generalize opN j = oj at *
      generalize lvN j = lj at *
      generalize sgs.getD j [] = sj at *
      go_wp2_with fail
      go_at_call 38
      refine hs.mono ?_
      rintro e w1 ⟨rfl, hg⟩
      have HB1 : Hid (Below W.heap.size W w1) := HB.out.trans ((below_grown hg).mono HB.out.size)
      have hx1 := HXc.out w1 HB1.out
      clear hg hs hyj
      by_cases he : oj = num
      · have HE := hide he
        have he' : (oj == num) = true := by simpa using he
        clear he
        go_wp2_with fail
        go_ret
        exact ⟨by rw [HBd.out, ← HE.out, HHit.out.2.2]; rfl, HW.out _ HB1.out⟩
      · have he' : (oj == num) = false := by simpa using he
        have HM1 := hide (HMk.out he)
        clear he
        go_wp2_with fail
        go_roundw
        case rel => exact ⟨j + 1, by omega, by go_num, HB1, HM1⟩
        case measure => simp [intOf]; omega
    · obtain rfl : j = 10 := by omega
      have HE := hide (opN_miss HM.out).2
      go_wp2_with fail
      go_ret
      exact ⟨by rw [HBd.out, HE.out]; rfl, HW.out _ HB.out⟩
end Go.Proofs.YthcfianhdkolhaaDoor.T
