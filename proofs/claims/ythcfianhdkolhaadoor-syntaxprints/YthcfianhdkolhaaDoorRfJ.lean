/- The contract of the reference's Is: by kinds. -/
import Derived.Test.YthcfianhdkolhaaDoorRfE
namespace Go.Proofs.YthcfianhdkolhaaDoor.T
open Go.RowKit Go.Proofs.YthcfianhdkolhaaDoor.S
set_option linter.unusedVariables false
set_option linter.unusedSimpArgs false
set_option maxRecDepth 100000 in
set_option maxHeartbeats 2000000 in
theorem is_k21_false {w0 : World} (text : List UInt8) (num : Int) (kids : List Nd) (ih : ∀ x, x ∈ kids → IsR w0 x) (w : World) (v : Value) (hb : Below w0.heap.size w0 w) (hv : NdO w0 (.mk 21 text num kids) v) : Calls Tryd.prog 9 #[v, .bool false] w fun e w' => e = .returned (.bool (isN (.mk 21 text num kids) false)) ∧ Below w.heap.size w w' := by
  obtain ⟨ka, kc, rfl, t1, n1, n2, l1, l2, hR⟩ := hv.part
  have hB0 : Below w.heap.size w (w.alloc (.cells #[.int .i64 21, .string (str text), .int .i64 num, .slice ka kids.length kc] 24)) := (Below.refl _ _).alloc (Nat.le_refl _) _
  have HN0 : Hid ((w.alloc (.cells #[.int .i64 21, .string (str text), .int .i64 num, .slice ka kids.length kc] 24)).heap[w.heap.size]? = some (.cells #[.int .i64 21, .string (str text), .int .i64 num, .slice ka kids.length kc] 24 (0, 0))) := heap_new _ _ _
  have HR := hide hR
  have HIh := hide ih
  have HB0 := hide hB0
  have hnm := fun w => name_any (str text) w t1
  rw [bytes_str] at hnm
  have hte := txt_empty text
  have hof := of_k21 (w.alloc (.cells #[.int .i64 21, .string (str text), .int .i64 num, .slice ka kids.length kc] 24))
  clear hv hR ih hB0
  have hsh : shpN 21 = some (false, -1, 0, 0) := rfl
  go_enter Tryd.func9, Tryd.ntmps9
  go_wp2_with fail
  go_at_call 17
  refine hof.mono ?_
  rintro e w1 ⟨rfl, hb1⟩
  unfold shpV
  simp only
  have HBc : Hid (Below w.heap.size w (w1.alloc (.cells #[.bool false, .int .i64 (-1), .int .i64 0, .int .i64 0] 41))) := (HB0.out.trans (hb1.mono (by simp))).alloc (Nat.le_trans HB0.out.size (Nat.le_trans hb1.size (Nat.le_refl _))) _
  have HNc : Hid ((w1.alloc (.cells #[.bool false, .int .i64 (-1), .int .i64 0, .int .i64 0] 41)).heap[w.heap.size]? = some (.cells #[.int .i64 21, .string (str text), .int .i64 num, .slice ka kids.length kc] 24 (0, 0))) := (Below.heap_alloc _ _ _ (by have := hb1.size; simp at this; omega)).trans ((hb1.block w.heap.size (by simp)).trans HN0.out)
  have HSc : Hid ((w1.alloc (.cells #[.bool false, .int .i64 (-1), .int .i64 0, .int .i64 0] 41)).heap[w1.heap.size]? = some (.cells #[.bool false, .int .i64 (-1), .int .i64 0, .int .i64 0] 41 (0, 0))) := heap_new _ _ _
  have hn := cells_at HNc.out
  have hs := cells_at HSc.out
  clear hb1 hof
  clear hnm
  by_cases c2 : (0 : Int) < kids.length
  · have HF : Hid (isN (.mk 21 text num kids) false = false) := loc_no hsh (by omega)
    go_wp2_with fail
    go_ret
    exact ⟨by rw [HF.out]; rfl, HBc.out⟩
  by_cases c5 : text = []
  rotate_left
  · rw [decide_eq_false c5] at hte
    have HF : Hid (isN (.mk 21 text num kids) false = false) := loc_no hsh (fun h => c5 (txt_f h.2.1))
    go_wp2_with fail
    go_ret
    exact ⟨by rw [HF.out]; rfl, HBc.out⟩
  rw [decide_eq_true c5] at hte
  have HTx : Hid (text = []) := c5
  clear c5
  have hk0 : kids.length = 0 := by omega
  have hl0 : ¬ (0 : Int) < kids.length := c2
  have HLc : Hid (∀ m, absN false num = m → (0 ≤ m ∧ (((21 : Int) = 21) → m ≤ 2147483647) → isN (.mk 21 text num kids) false = true) ∧ (¬ (0 ≤ m ∧ (((21 : Int) = 21) → m ≤ 2147483647)) → isN (.mk 21 text num kids) false = false)) := fun m hm => by
    constructor
    · rintro ⟨h1, h2⟩
      exact (isN_iff _ _ _ _ _).2 ⟨(loc_iff hsh).2 ⟨⟨by omega, fun _ => by omega⟩, by rw [HTx.out]; rfl, by rw [hm]; exact ⟨h1, fun e => absurd e (by decide), fun _ => h2 rfl⟩, fun e => absurd e (by decide), fun e => absurd e (by decide), fun e => absurd e (by decide)⟩, fun j hj => by omega⟩
    · intro h
      refine loc_no hsh (fun hh => h ?_)
      have := hh.2.2.1
      rw [hm] at this
      exact ⟨this.1, fun _ => this.2.2 rfl⟩
  have HAb : Hid (absN false num = num) := abs_f num
  by_cases c3 : num < 0
  · have HF : Hid (isN (.mk 21 text num kids) false = false) := (HLc.out (num) HAb.out).2 (by omega)
    go_wp2_with fail
    go_ret
    exact ⟨by rw [HF.out]; rfl, HBc.out⟩
  by_cases c4 : 2147483647 < num
  · have HF : Hid (isN (.mk 21 text num kids) false = false) := (HLc.out (num) HAb.out).2 (fun h => by have := h.2 rfl; omega)
    go_wp2_with fail
    go_ret
    exact ⟨by rw [HF.out]; rfl, HBc.out⟩
  have HF : Hid (isN (.mk 21 text num kids) false = true) := (HLc.out (num) HAb.out).1 ⟨by omega, fun _ => by omega⟩
  go_wp2_with fail
  go_loopw [8] (fun i' wr => i' = .int .i64 0 ∧ wr = (w1.alloc (.cells #[.bool false, .int .i64 (-1), .int .i64 0, .int .i64 0] 41))) (fun _ _ => 0)
  case atStart => exact ⟨rfl, rfl⟩
  case round =>
    obtain ⟨rfl, rfl⟩ := hrel
    go_wp2_with fail
    go_ret
    exact ⟨by rw [HF.out]; rfl, HBc.out⟩
set_option maxRecDepth 100000 in
set_option maxHeartbeats 2000000 in
theorem is_k21_true {w0 : World} (text : List UInt8) (num : Int) (kids : List Nd) (ih : ∀ x, x ∈ kids → IsR w0 x) (w : World) (v : Value) (hb : Below w0.heap.size w0 w) (hv : NdO w0 (.mk 21 text num kids) v) : Calls Tryd.prog 9 #[v, .bool true] w fun e w' => e = .returned (.bool (isN (.mk 21 text num kids) true)) ∧ Below w.heap.size w w' := by
  obtain ⟨ka, kc, rfl, t1, n1, n2, l1, l2, hR⟩ := hv.part
  have hB0 : Below w.heap.size w (w.alloc (.cells #[.int .i64 21, .string (str text), .int .i64 num, .slice ka kids.length kc] 24)) := (Below.refl _ _).alloc (Nat.le_refl _) _
  have HN0 : Hid ((w.alloc (.cells #[.int .i64 21, .string (str text), .int .i64 num, .slice ka kids.length kc] 24)).heap[w.heap.size]? = some (.cells #[.int .i64 21, .string (str text), .int .i64 num, .slice ka kids.length kc] 24 (0, 0))) := heap_new _ _ _
  have HR := hide hR
  have HIh := hide ih
  have HB0 := hide hB0
  have hnm := fun w => name_any (str text) w t1
  rw [bytes_str] at hnm
  have hte := txt_empty text
  have hof := of_k21 (w.alloc (.cells #[.int .i64 21, .string (str text), .int .i64 num, .slice ka kids.length kc] 24))
  clear hv hR ih hB0
  have hsh : shpN 21 = some (false, -1, 0, 0) := rfl
  go_enter Tryd.func9, Tryd.ntmps9
  go_wp2_with fail
  go_at_call 17
  refine hof.mono ?_
  rintro e w1 ⟨rfl, hb1⟩
  unfold shpV
  simp only
  have HBc : Hid (Below w.heap.size w (w1.alloc (.cells #[.bool false, .int .i64 (-1), .int .i64 0, .int .i64 0] 41))) := (HB0.out.trans (hb1.mono (by simp))).alloc (Nat.le_trans HB0.out.size (Nat.le_trans hb1.size (Nat.le_refl _))) _
  have HNc : Hid ((w1.alloc (.cells #[.bool false, .int .i64 (-1), .int .i64 0, .int .i64 0] 41)).heap[w.heap.size]? = some (.cells #[.int .i64 21, .string (str text), .int .i64 num, .slice ka kids.length kc] 24 (0, 0))) := (Below.heap_alloc _ _ _ (by have := hb1.size; simp at this; omega)).trans ((hb1.block w.heap.size (by simp)).trans HN0.out)
  have HSc : Hid ((w1.alloc (.cells #[.bool false, .int .i64 (-1), .int .i64 0, .int .i64 0] 41)).heap[w1.heap.size]? = some (.cells #[.bool false, .int .i64 (-1), .int .i64 0, .int .i64 0] 41 (0, 0))) := heap_new _ _ _
  have hn := cells_at HNc.out
  have hs := cells_at HSc.out
  clear hb1 hof
  clear hnm
  by_cases c2 : (0 : Int) < kids.length
  · have HF : Hid (isN (.mk 21 text num kids) true = false) := loc_no hsh (by omega)
    go_wp2_with fail
    go_ret
    exact ⟨by rw [HF.out]; rfl, HBc.out⟩
  by_cases c5 : text = []
  rotate_left
  · rw [decide_eq_false c5] at hte
    have HF : Hid (isN (.mk 21 text num kids) true = false) := loc_no hsh (fun h => c5 (txt_f h.2.1))
    go_wp2_with fail
    go_ret
    exact ⟨by rw [HF.out]; rfl, HBc.out⟩
  rw [decide_eq_true c5] at hte
  have HTx : Hid (text = []) := c5
  clear c5
  have hk0 : kids.length = 0 := by omega
  have hl0 : ¬ (0 : Int) < kids.length := c2
  have HLc : Hid (∀ m, absN true num = m → (0 ≤ m ∧ (((21 : Int) = 21) → m ≤ 2147483647) → isN (.mk 21 text num kids) true = true) ∧ (¬ (0 ≤ m ∧ (((21 : Int) = 21) → m ≤ 2147483647)) → isN (.mk 21 text num kids) true = false)) := fun m hm => by
    constructor
    · rintro ⟨h1, h2⟩
      exact (isN_iff _ _ _ _ _).2 ⟨(loc_iff hsh).2 ⟨⟨by omega, fun _ => by omega⟩, by rw [HTx.out]; rfl, by rw [hm]; exact ⟨h1, fun e => absurd e (by decide), fun _ => h2 rfl⟩, fun e => absurd e (by decide), fun e => absurd e (by decide), fun e => absurd e (by decide)⟩, fun j hj => by omega⟩
    · intro h
      refine loc_no hsh (fun hh => h ?_)
      have := hh.2.2.1
      rw [hm] at this
      exact ⟨this.1, fun _ => this.2.2 rfl⟩
  by_cases hneg : num < 0
  · by_cases hmin : num = -9223372036854775808
    · have hwn : IntKind.i64.wrap (-num) = num := by rw [hmin]; decide
      have HAb : Hid (absN true num = num) := by show _ = _; unfold absN neg64; rw [if_pos ⟨rfl, hneg⟩, if_pos hmin]
      have HF : Hid (isN (.mk 21 text num kids) true = false) := (HLc.out num HAb.out).2 (by omega)
      clear hmin
      go_wp2_with fail
      go_ret
      exact ⟨by rw [HF.out]; rfl, HBc.out⟩
    · have hwn : IntKind.i64.wrap (-num) = -num := by rw [IntKind.wrap_i64]; omega
      have HAb : Hid (absN true num = -num) := by show _ = _; unfold absN neg64; rw [if_pos ⟨rfl, hneg⟩, if_neg hmin]
      have hnn : ¬ -num < 0 := by omega
      clear hmin
      by_cases c4 : 2147483647 < -num
      · have HF : Hid (isN (.mk 21 text num kids) true = false) := (HLc.out (-num) HAb.out).2 (fun h => by have := h.2 rfl; omega)
        go_wp2_with fail
        go_ret
        exact ⟨by rw [HF.out]; rfl, HBc.out⟩
      have HF : Hid (isN (.mk 21 text num kids) true = true) := (HLc.out (-num) HAb.out).1 ⟨by omega, fun _ => by omega⟩
      go_wp2_with fail
      go_loopw [8] (fun i' wr => i' = .int .i64 0 ∧ wr = (w1.alloc (.cells #[.bool false, .int .i64 (-1), .int .i64 0, .int .i64 0] 41))) (fun _ _ => 0)
      case atStart => exact ⟨rfl, rfl⟩
      case round =>
        obtain ⟨rfl, rfl⟩ := hrel
        go_wp2_with fail
        go_ret
        exact ⟨by rw [HF.out]; rfl, HBc.out⟩
  · have HAb : Hid (absN true num = num) := by show _ = _; unfold absN; rw [if_neg (fun h => hneg h.2)]
    have hneg' : ¬ num < 0 := hneg
    by_cases c4 : 2147483647 < num
    · have HF : Hid (isN (.mk 21 text num kids) true = false) := (HLc.out (num) HAb.out).2 (fun h => by have := h.2 rfl; omega)
      go_wp2_with fail
      go_ret
      exact ⟨by rw [HF.out]; rfl, HBc.out⟩
    have HF : Hid (isN (.mk 21 text num kids) true = true) := (HLc.out (num) HAb.out).1 ⟨by omega, fun _ => by omega⟩
    go_wp2_with fail
    go_loopw [8] (fun i' wr => i' = .int .i64 0 ∧ wr = (w1.alloc (.cells #[.bool false, .int .i64 (-1), .int .i64 0, .int .i64 0] 41))) (fun _ _ => 0)
    case atStart => exact ⟨rfl, rfl⟩
    case round =>
      obtain ⟨rfl, rfl⟩ := hrel
      go_wp2_with fail
      go_ret
      exact ⟨by rw [HF.out]; rfl, HBc.out⟩
set_option maxRecDepth 100000 in
set_option maxHeartbeats 2000000 in
theorem is_k22_false {w0 : World} (text : List UInt8) (num : Int) (kids : List Nd) (ih : ∀ x, x ∈ kids → IsR w0 x) (w : World) (v : Value) (hb : Below w0.heap.size w0 w) (hv : NdO w0 (.mk 22 text num kids) v) : Calls Tryd.prog 9 #[v, .bool false] w fun e w' => e = .returned (.bool (isN (.mk 22 text num kids) false)) ∧ Below w.heap.size w w' := by
  obtain ⟨ka, kc, rfl, t1, n1, n2, l1, l2, hR⟩ := hv.part
  have hB0 : Below w.heap.size w (w.alloc (.cells #[.int .i64 22, .string (str text), .int .i64 num, .slice ka kids.length kc] 24)) := (Below.refl _ _).alloc (Nat.le_refl _) _
  have HN0 : Hid ((w.alloc (.cells #[.int .i64 22, .string (str text), .int .i64 num, .slice ka kids.length kc] 24)).heap[w.heap.size]? = some (.cells #[.int .i64 22, .string (str text), .int .i64 num, .slice ka kids.length kc] 24 (0, 0))) := heap_new _ _ _
  have HR := hide hR
  have HIh := hide ih
  have HB0 := hide hB0
  have hnm := fun w => name_any (str text) w t1
  rw [bytes_str] at hnm
  have hte := txt_empty text
  have hof := of_k22 (w.alloc (.cells #[.int .i64 22, .string (str text), .int .i64 num, .slice ka kids.length kc] 24))
  clear hv hR ih hB0
  have hsh : shpN 22 = some (false, -1, 0, 0) := rfl
  go_enter Tryd.func9, Tryd.ntmps9
  go_wp2_with fail
  go_at_call 17
  refine hof.mono ?_
  rintro e w1 ⟨rfl, hb1⟩
  unfold shpV
  simp only
  have HBc : Hid (Below w.heap.size w (w1.alloc (.cells #[.bool false, .int .i64 (-1), .int .i64 0, .int .i64 0] 41))) := (HB0.out.trans (hb1.mono (by simp))).alloc (Nat.le_trans HB0.out.size (Nat.le_trans hb1.size (Nat.le_refl _))) _
  have HNc : Hid ((w1.alloc (.cells #[.bool false, .int .i64 (-1), .int .i64 0, .int .i64 0] 41)).heap[w.heap.size]? = some (.cells #[.int .i64 22, .string (str text), .int .i64 num, .slice ka kids.length kc] 24 (0, 0))) := (Below.heap_alloc _ _ _ (by have := hb1.size; simp at this; omega)).trans ((hb1.block w.heap.size (by simp)).trans HN0.out)
  have HSc : Hid ((w1.alloc (.cells #[.bool false, .int .i64 (-1), .int .i64 0, .int .i64 0] 41)).heap[w1.heap.size]? = some (.cells #[.bool false, .int .i64 (-1), .int .i64 0, .int .i64 0] 41 (0, 0))) := heap_new _ _ _
  have hn := cells_at HNc.out
  have hs := cells_at HSc.out
  clear hb1 hof
  clear hnm
  by_cases c2 : (0 : Int) < kids.length
  · have HF : Hid (isN (.mk 22 text num kids) false = false) := loc_no hsh (by omega)
    go_wp2_with fail
    go_ret
    exact ⟨by rw [HF.out]; rfl, HBc.out⟩
  by_cases c5 : text = []
  rotate_left
  · rw [decide_eq_false c5] at hte
    have HF : Hid (isN (.mk 22 text num kids) false = false) := loc_no hsh (fun h => c5 (txt_f h.2.1))
    go_wp2_with fail
    go_ret
    exact ⟨by rw [HF.out]; rfl, HBc.out⟩
  rw [decide_eq_true c5] at hte
  have HTx : Hid (text = []) := c5
  clear c5
  have hk0 : kids.length = 0 := by omega
  have hl0 : ¬ (0 : Int) < kids.length := c2
  have HLc : Hid (∀ m, absN false num = m → (0 ≤ m ∧ (((22 : Int) = 21) → m ≤ 2147483647) → isN (.mk 22 text num kids) false = true) ∧ (¬ (0 ≤ m ∧ (((22 : Int) = 21) → m ≤ 2147483647)) → isN (.mk 22 text num kids) false = false)) := fun m hm => by
    constructor
    · rintro ⟨h1, h2⟩
      exact (isN_iff _ _ _ _ _).2 ⟨(loc_iff hsh).2 ⟨⟨by omega, fun _ => by omega⟩, by rw [HTx.out]; rfl, by rw [hm]; exact ⟨h1, fun e => absurd e (by decide), fun e => absurd e (by decide)⟩, fun e => absurd e (by decide), fun e => absurd e (by decide), fun e => absurd e (by decide)⟩, fun j hj => by omega⟩
    · intro h
      refine loc_no hsh (fun hh => h ?_)
      have := hh.2.2.1
      rw [hm] at this
      exact ⟨this.1, fun e => absurd e (by decide)⟩
  have HAb : Hid (absN false num = num) := abs_f num
  by_cases c3 : num < 0
  · have HF : Hid (isN (.mk 22 text num kids) false = false) := (HLc.out (num) HAb.out).2 (by omega)
    go_wp2_with fail
    go_ret
    exact ⟨by rw [HF.out]; rfl, HBc.out⟩
  have HF : Hid (isN (.mk 22 text num kids) false = true) := (HLc.out (num) HAb.out).1 ⟨by omega, fun e => absurd e (by decide)⟩
  go_wp2_with fail
  go_loopw [8] (fun i' wr => i' = .int .i64 0 ∧ wr = (w1.alloc (.cells #[.bool false, .int .i64 (-1), .int .i64 0, .int .i64 0] 41))) (fun _ _ => 0)
  case atStart => exact ⟨rfl, rfl⟩
  case round =>
    obtain ⟨rfl, rfl⟩ := hrel
    go_wp2_with fail
    go_ret
    exact ⟨by rw [HF.out]; rfl, HBc.out⟩
set_option maxRecDepth 100000 in
set_option maxHeartbeats 2000000 in
theorem is_k22_true {w0 : World} (text : List UInt8) (num : Int) (kids : List Nd) (ih : ∀ x, x ∈ kids → IsR w0 x) (w : World) (v : Value) (hb : Below w0.heap.size w0 w) (hv : NdO w0 (.mk 22 text num kids) v) : Calls Tryd.prog 9 #[v, .bool true] w fun e w' => e = .returned (.bool (isN (.mk 22 text num kids) true)) ∧ Below w.heap.size w w' := by
  obtain ⟨ka, kc, rfl, t1, n1, n2, l1, l2, hR⟩ := hv.part
  have hB0 : Below w.heap.size w (w.alloc (.cells #[.int .i64 22, .string (str text), .int .i64 num, .slice ka kids.length kc] 24)) := (Below.refl _ _).alloc (Nat.le_refl _) _
  have HN0 : Hid ((w.alloc (.cells #[.int .i64 22, .string (str text), .int .i64 num, .slice ka kids.length kc] 24)).heap[w.heap.size]? = some (.cells #[.int .i64 22, .string (str text), .int .i64 num, .slice ka kids.length kc] 24 (0, 0))) := heap_new _ _ _
  have HR := hide hR
  have HIh := hide ih
  have HB0 := hide hB0
  have hnm := fun w => name_any (str text) w t1
  rw [bytes_str] at hnm
  have hte := txt_empty text
  have hof := of_k22 (w.alloc (.cells #[.int .i64 22, .string (str text), .int .i64 num, .slice ka kids.length kc] 24))
  clear hv hR ih hB0
  have hsh : shpN 22 = some (false, -1, 0, 0) := rfl
  go_enter Tryd.func9, Tryd.ntmps9
  go_wp2_with fail
  go_at_call 17
  refine hof.mono ?_
  rintro e w1 ⟨rfl, hb1⟩
  unfold shpV
  simp only
  have HBc : Hid (Below w.heap.size w (w1.alloc (.cells #[.bool false, .int .i64 (-1), .int .i64 0, .int .i64 0] 41))) := (HB0.out.trans (hb1.mono (by simp))).alloc (Nat.le_trans HB0.out.size (Nat.le_trans hb1.size (Nat.le_refl _))) _
  have HNc : Hid ((w1.alloc (.cells #[.bool false, .int .i64 (-1), .int .i64 0, .int .i64 0] 41)).heap[w.heap.size]? = some (.cells #[.int .i64 22, .string (str text), .int .i64 num, .slice ka kids.length kc] 24 (0, 0))) := (Below.heap_alloc _ _ _ (by have := hb1.size; simp at this; omega)).trans ((hb1.block w.heap.size (by simp)).trans HN0.out)
  have HSc : Hid ((w1.alloc (.cells #[.bool false, .int .i64 (-1), .int .i64 0, .int .i64 0] 41)).heap[w1.heap.size]? = some (.cells #[.bool false, .int .i64 (-1), .int .i64 0, .int .i64 0] 41 (0, 0))) := heap_new _ _ _
  have hn := cells_at HNc.out
  have hs := cells_at HSc.out
  clear hb1 hof
  clear hnm
  by_cases c2 : (0 : Int) < kids.length
  · have HF : Hid (isN (.mk 22 text num kids) true = false) := loc_no hsh (by omega)
    go_wp2_with fail
    go_ret
    exact ⟨by rw [HF.out]; rfl, HBc.out⟩
  by_cases c5 : text = []
  rotate_left
  · rw [decide_eq_false c5] at hte
    have HF : Hid (isN (.mk 22 text num kids) true = false) := loc_no hsh (fun h => c5 (txt_f h.2.1))
    go_wp2_with fail
    go_ret
    exact ⟨by rw [HF.out]; rfl, HBc.out⟩
  rw [decide_eq_true c5] at hte
  have HTx : Hid (text = []) := c5
  clear c5
  have hk0 : kids.length = 0 := by omega
  have hl0 : ¬ (0 : Int) < kids.length := c2
  have HLc : Hid (∀ m, absN true num = m → (0 ≤ m ∧ (((22 : Int) = 21) → m ≤ 2147483647) → isN (.mk 22 text num kids) true = true) ∧ (¬ (0 ≤ m ∧ (((22 : Int) = 21) → m ≤ 2147483647)) → isN (.mk 22 text num kids) true = false)) := fun m hm => by
    constructor
    · rintro ⟨h1, h2⟩
      exact (isN_iff _ _ _ _ _).2 ⟨(loc_iff hsh).2 ⟨⟨by omega, fun _ => by omega⟩, by rw [HTx.out]; rfl, by rw [hm]; exact ⟨h1, fun e => absurd e (by decide), fun e => absurd e (by decide)⟩, fun e => absurd e (by decide), fun e => absurd e (by decide), fun e => absurd e (by decide)⟩, fun j hj => by omega⟩
    · intro h
      refine loc_no hsh (fun hh => h ?_)
      have := hh.2.2.1
      rw [hm] at this
      exact ⟨this.1, fun e => absurd e (by decide)⟩
  by_cases hneg : num < 0
  · by_cases hmin : num = -9223372036854775808
    · have hwn : IntKind.i64.wrap (-num) = num := by rw [hmin]; decide
      have HAb : Hid (absN true num = num) := by show _ = _; unfold absN neg64; rw [if_pos ⟨rfl, hneg⟩, if_pos hmin]
      have HF : Hid (isN (.mk 22 text num kids) true = false) := (HLc.out num HAb.out).2 (by omega)
      clear hmin
      go_wp2_with fail
      go_ret
      exact ⟨by rw [HF.out]; rfl, HBc.out⟩
    · have hwn : IntKind.i64.wrap (-num) = -num := by rw [IntKind.wrap_i64]; omega
      have HAb : Hid (absN true num = -num) := by show _ = _; unfold absN neg64; rw [if_pos ⟨rfl, hneg⟩, if_neg hmin]
      have hnn : ¬ -num < 0 := by omega
      clear hmin
      have HF : Hid (isN (.mk 22 text num kids) true = true) := (HLc.out (-num) HAb.out).1 ⟨by omega, fun e => absurd e (by decide)⟩
      go_wp2_with fail
      go_loopw [8] (fun i' wr => i' = .int .i64 0 ∧ wr = (w1.alloc (.cells #[.bool false, .int .i64 (-1), .int .i64 0, .int .i64 0] 41))) (fun _ _ => 0)
      case atStart => exact ⟨rfl, rfl⟩
      case round =>
        obtain ⟨rfl, rfl⟩ := hrel
        go_wp2_with fail
        go_ret
        exact ⟨by rw [HF.out]; rfl, HBc.out⟩
  · have HAb : Hid (absN true num = num) := by show _ = _; unfold absN; rw [if_neg (fun h => hneg h.2)]
    have hneg' : ¬ num < 0 := hneg
    have HF : Hid (isN (.mk 22 text num kids) true = true) := (HLc.out (num) HAb.out).1 ⟨by omega, fun e => absurd e (by decide)⟩
    go_wp2_with fail
    go_loopw [8] (fun i' wr => i' = .int .i64 0 ∧ wr = (w1.alloc (.cells #[.bool false, .int .i64 (-1), .int .i64 0, .int .i64 0] 41))) (fun _ _ => 0)
    case atStart => exact ⟨rfl, rfl⟩
    case round =>
      obtain ⟨rfl, rfl⟩ := hrel
      go_wp2_with fail
      go_ret
      exact ⟨by rw [HF.out]; rfl, HBc.out⟩
end Go.Proofs.YthcfianhdkolhaaDoor.T
