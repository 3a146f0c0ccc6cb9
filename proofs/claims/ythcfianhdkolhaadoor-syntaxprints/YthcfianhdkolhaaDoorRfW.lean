/- The contract of the reference's Show: by kinds. -/
import Derived.Test.YthcfianhdkolhaaDoorRfL
import Derived.Test.YthcfianhdkolhaaDoorRfK
namespace Go.Proofs.YthcfianhdkolhaaDoor.T
open Go.RowKit Go.Proofs.YthcfianhdkolhaaDoor.S
set_option linter.unusedVariables false
set_option linter.unusedSimpArgs false
set_option maxRecDepth 100000 in
set_option maxHeartbeats 4000000 in
theorem show_k21_pos {w0 : World} (text : List UInt8) (num : Int) (ht : text.length ≤ 16) (u : Nat) (hu : num = (u : Int)) (hu2 : u ≤ 9223372036854775807) : ShN w0 (.mk 21 text num []) := by
  intro w v hb hv
  obtain ⟨ka, kc, rfl, t1, n1, n2, l1, l2, hR⟩ := hv.part
  have htx : (str text).size ≤ 16 := ht
  clear hv
  have hlo := fun w => long_any u u w (Nat.le_refl _) hu2
  have hdl := dec_len20 u hu2
  have hds : (str (decN u)).size ≤ 21 := hdl
  simp only [List.length_nil]
  have hB0 : Below w.heap.size w (w.alloc (.cells #[.int .i64 21, .string (str text), .int .i64 num, .slice ka 0 kc] 24)) := (Below.refl _ _).alloc (Nat.le_refl _) _
  have hz0 : (w.alloc (.cells #[.int .i64 21, .string (str text), .int .i64 num, .slice ka 0 kc] 24)).heap.size = w.heap.size + 1 := by simp
  have hN0 := heap_new w #[.int .i64 21, .string (str text), .int .i64 num, .slice ka 0 kc] 24
  have hbW := hb.trans (hB0.mono hb.size)
  have HE : Hid ((⟨#[]⟩ : ByteArray) ++ str (decN u) = str (jx (shT (.mk 21 text num [])))) := by
    show _ = _
    rw [hu, sh_n21, jx_one]
    apply ByteArray.ext
    apply Array.toList_inj.1
    simp [str, rawT]
  have hn0 : ¬ num < 0 := by omega
  have HB0 := hide hB0
  have HN0 := hide hN0
  subst hu
  clear hb hR ht hB0 hbW hN0
  generalize str (decN u) = ds at *
  go_enter Tryd.func10, Tryd.ntmps10
  go_wp2_with fail
  go_at_call 26
  refine (hlo _).mono ?_
  rintro e w1 ⟨rfl, hb1⟩
  have HB1 : Hid (Below w.heap.size w w1) := HB0.out.trans (hb1.mono (by omega))
  have hn1 := cells_at ((hb1.block w.heap.size (by omega)).trans HN0.out)
  have hpa : ((⟨#[]⟩ : ByteArray) ++ ds).size = 0 + ds.size := ByteArray.size_append
  clear hb1 hlo
  go_wp2_with fail
  go_ret
  exact ⟨by rw [← HE.out]; rfl, HB1.out⟩
set_option maxRecDepth 100000 in
set_option maxHeartbeats 4000000 in
theorem show_k21_neg {w0 : World} (text : List UInt8) (num : Int) (ht : text.length ≤ 16) (u : Nat) (hu : num = -(u : Int)) (hu1 : 1 ≤ u) (hu2 : u ≤ 9223372036854775807) : ShN w0 (.mk 21 text num []) := by
  intro w v hb hv
  obtain ⟨ka, kc, rfl, t1, n1, n2, l1, l2, hR⟩ := hv.part
  have htx : (str text).size ≤ 16 := ht
  clear hv
  have hlo := fun w => long_any u u w (Nat.le_refl _) hu2
  have hdl := dec_len20 u hu2
  have hds : (str (decN u)).size ≤ 21 := hdl
  simp only [List.length_nil]
  have hB0 : Below w.heap.size w (w.alloc (.cells #[.int .i64 21, .string (str text), .int .i64 num, .slice ka 0 kc] 24)) := (Below.refl _ _).alloc (Nat.le_refl _) _
  have hz0 : (w.alloc (.cells #[.int .i64 21, .string (str text), .int .i64 num, .slice ka 0 kc] 24)).heap.size = w.heap.size + 1 := by simp
  have hN0 := heap_new w #[.int .i64 21, .string (str text), .int .i64 num, .slice ka 0 kc] 24
  have hbW := hb.trans (hB0.mono hb.size)
  have HE : Hid ((⟨#[45, 32]⟩ : ByteArray) ++ str (decN u) = str (jx (shT (.mk 21 text num [])))) := by
    show _ = _
    rw [sh_neg (by omega) (by omega), show -num = (u : Int) by omega, sh_n21, jx_cons (by simp), jx_one]
    apply ByteArray.ext
    apply Array.toList_inj.1
    simp [str, rawT]
  have hn0 : num < 0 := by omega
  have hwn : IntKind.i64.wrap (-num) = (u : Int) := by rw [IntKind.wrap_i64]; omega
  have HB0 := hide hB0
  have HN0 := hide hN0

  clear hb hR ht hB0 hbW hN0 hu
  generalize str (decN u) = ds at *
  go_enter Tryd.func10, Tryd.ntmps10
  go_wp2_with fail
  go_at_call 26
  refine (hlo _).mono ?_
  rintro e w1 ⟨rfl, hb1⟩
  have HB1 : Hid (Below w.heap.size w w1) := HB0.out.trans (hb1.mono (by omega))
  have hn1 := cells_at ((hb1.block w.heap.size (by omega)).trans HN0.out)
  have hpa : ((⟨#[45, 32]⟩ : ByteArray) ++ ds).size = 2 + ds.size := ByteArray.size_append
  clear hb1 hlo
  go_wp2_with fail
  go_ret
  exact ⟨by rw [← HE.out]; rfl, HB1.out⟩
set_option maxRecDepth 100000 in
set_option maxHeartbeats 4000000 in
theorem show_k22_pos {w0 : World} (text : List UInt8) (num : Int) (ht : text.length ≤ 16) (u : Nat) (hu : num = (u : Int)) (hu2 : u ≤ 9223372036854775807) : ShN w0 (.mk 22 text num []) := by
  intro w v hb hv
  obtain ⟨ka, kc, rfl, t1, n1, n2, l1, l2, hR⟩ := hv.part
  have htx : (str text).size ≤ 16 := ht
  clear hv
  have hlo := fun w => long_any u u w (Nat.le_refl _) hu2
  have hdl := dec_len20 u hu2
  have hds : (str (decN u)).size ≤ 21 := hdl
  simp only [List.length_nil]
  have hB0 : Below w.heap.size w (w.alloc (.cells #[.int .i64 22, .string (str text), .int .i64 num, .slice ka 0 kc] 24)) := (Below.refl _ _).alloc (Nat.le_refl _) _
  have hz0 : (w.alloc (.cells #[.int .i64 22, .string (str text), .int .i64 num, .slice ka 0 kc] 24)).heap.size = w.heap.size + 1 := by simp
  have hN0 := heap_new w #[.int .i64 22, .string (str text), .int .i64 num, .slice ka 0 kc] 24
  have hbW := hb.trans (hB0.mono hb.size)
  have HE : Hid ((⟨#[]⟩ : ByteArray) ++ str (decN u) ++ (⟨#[76]⟩ : ByteArray) = str (jx (shT (.mk 22 text num [])))) := by
    show _ = _
    rw [hu, sh_n22, jx_one]
    apply ByteArray.ext
    apply Array.toList_inj.1
    simp [str, rawT]
  have hn0 : ¬ num < 0 := by omega
  have HB0 := hide hB0
  have HN0 := hide hN0
  subst hu
  clear hb hR ht hB0 hbW hN0
  generalize str (decN u) = ds at *
  go_enter Tryd.func10, Tryd.ntmps10
  go_wp2_with fail
  go_at_call 26
  refine (hlo _).mono ?_
  rintro e w1 ⟨rfl, hb1⟩
  have HB1 : Hid (Below w.heap.size w w1) := HB0.out.trans (hb1.mono (by omega))
  have hn1 := cells_at ((hb1.block w.heap.size (by omega)).trans HN0.out)
  have hpa : ((⟨#[]⟩ : ByteArray) ++ ds).size = 0 + ds.size := ByteArray.size_append
  clear hb1 hlo
  go_wp2_with fail
  go_ret
  exact ⟨by rw [← HE.out]; rfl, HB1.out⟩
set_option maxRecDepth 100000 in
set_option maxHeartbeats 4000000 in
theorem show_k22_neg {w0 : World} (text : List UInt8) (num : Int) (ht : text.length ≤ 16) (u : Nat) (hu : num = -(u : Int)) (hu1 : 1 ≤ u) (hu2 : u ≤ 9223372036854775807) : ShN w0 (.mk 22 text num []) := by
  intro w v hb hv
  obtain ⟨ka, kc, rfl, t1, n1, n2, l1, l2, hR⟩ := hv.part
  have htx : (str text).size ≤ 16 := ht
  clear hv
  have hlo := fun w => long_any u u w (Nat.le_refl _) hu2
  have hdl := dec_len20 u hu2
  have hds : (str (decN u)).size ≤ 21 := hdl
  simp only [List.length_nil]
  have hB0 : Below w.heap.size w (w.alloc (.cells #[.int .i64 22, .string (str text), .int .i64 num, .slice ka 0 kc] 24)) := (Below.refl _ _).alloc (Nat.le_refl _) _
  have hz0 : (w.alloc (.cells #[.int .i64 22, .string (str text), .int .i64 num, .slice ka 0 kc] 24)).heap.size = w.heap.size + 1 := by simp
  have hN0 := heap_new w #[.int .i64 22, .string (str text), .int .i64 num, .slice ka 0 kc] 24
  have hbW := hb.trans (hB0.mono hb.size)
  have HE : Hid ((⟨#[45, 32]⟩ : ByteArray) ++ str (decN u) ++ (⟨#[76]⟩ : ByteArray) = str (jx (shT (.mk 22 text num [])))) := by
    show _ = _
    rw [sh_neg (by omega) (by omega), show -num = (u : Int) by omega, sh_n22, jx_cons (by simp), jx_one]
    apply ByteArray.ext
    apply Array.toList_inj.1
    simp [str, rawT]
  have hn0 : num < 0 := by omega
  have hwn : IntKind.i64.wrap (-num) = (u : Int) := by rw [IntKind.wrap_i64]; omega
  have HB0 := hide hB0
  have HN0 := hide hN0

  clear hb hR ht hB0 hbW hN0 hu
  generalize str (decN u) = ds at *
  go_enter Tryd.func10, Tryd.ntmps10
  go_wp2_with fail
  go_at_call 26
  refine (hlo _).mono ?_
  rintro e w1 ⟨rfl, hb1⟩
  have HB1 : Hid (Below w.heap.size w w1) := HB0.out.trans (hb1.mono (by omega))
  have hn1 := cells_at ((hb1.block w.heap.size (by omega)).trans HN0.out)
  have hpa : ((⟨#[45, 32]⟩ : ByteArray) ++ ds).size = 2 + ds.size := ByteArray.size_append
  clear hb1 hlo
  go_wp2_with fail
  go_ret
  exact ⟨by rw [← HE.out]; rfl, HB1.out⟩
end Go.Proofs.YthcfianhdkolhaaDoor.T
