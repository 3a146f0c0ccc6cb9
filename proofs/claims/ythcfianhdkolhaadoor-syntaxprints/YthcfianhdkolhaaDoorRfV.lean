/- The contract of the reference's Show: by kinds. -/
import Derived.Test.YthcfianhdkolhaaDoorRfL
import Derived.Test.YthcfianhdkolhaaDoorRfK
namespace Go.Proofs.YthcfianhdkolhaaDoor.T
open Go.RowKit Go.Proofs.YthcfianhdkolhaaDoor.S
set_option linter.unusedVariables false
set_option linter.unusedSimpArgs false
set_option maxRecDepth 100000 in
set_option maxHeartbeats 4000000 in
theorem show_k9 {w0 : World} (text : List UInt8) (num : Int) (ht : text.length ≤ 16) : ShN w0 (.mk 9 text num []) := by
  intro w v hb hv
  obtain ⟨ka, kc, rfl, t1, n1, n2, l1, l2, hR⟩ := hv.part
  have htx : (str text).size ≤ 16 := ht
  clear hv
  have HB : Hid (Below w.heap.size w (w.alloc (.cells #[.int .i64 9, .string (str text), .int .i64 num, .slice ka 0 kc] 24))) := (Below.refl _ _).alloc (Nat.le_refl _) _
  have HE : Hid ((⟨#[105, 110, 116]⟩ : ByteArray) = str (jx (shT (.mk 9 text num [])))) := by
    show _ = _
    rw [sh_ty9, jx_one]
    apply ByteArray.ext
    apply Array.toList_inj.1
    simp [str, raw_wd, raw_sg]
  clear hb hR ht
  simp only [List.length_nil]
  go_enter Tryd.func10, Tryd.ntmps10
  go_wp2_with fail
  go_ret
  exact ⟨by rw [← HE.out]; rfl, HB.out⟩
set_option maxRecDepth 100000 in
set_option maxHeartbeats 4000000 in
theorem show_k10 {w0 : World} (text : List UInt8) (num : Int) (ht : text.length ≤ 16) : ShN w0 (.mk 10 text num []) := by
  intro w v hb hv
  obtain ⟨ka, kc, rfl, t1, n1, n2, l1, l2, hR⟩ := hv.part
  have htx : (str text).size ≤ 16 := ht
  clear hv
  have HB : Hid (Below w.heap.size w (w.alloc (.cells #[.int .i64 10, .string (str text), .int .i64 num, .slice ka 0 kc] 24))) := (Below.refl _ _).alloc (Nat.le_refl _) _
  have HE : Hid ((⟨#[108, 111, 110, 103]⟩ : ByteArray) = str (jx (shT (.mk 10 text num [])))) := by
    show _ = _
    rw [sh_ty10, jx_one]
    apply ByteArray.ext
    apply Array.toList_inj.1
    simp [str, raw_wd, raw_sg]
  clear hb hR ht
  simp only [List.length_nil]
  go_enter Tryd.func10, Tryd.ntmps10
  go_wp2_with fail
  go_ret
  exact ⟨by rw [← HE.out]; rfl, HB.out⟩
set_option maxRecDepth 100000 in
set_option maxHeartbeats 4000000 in
theorem show_k11 {w0 : World} (text : List UInt8) (num : Int) (ht : text.length ≤ 16) : ShN w0 (.mk 11 text num []) := by
  intro w v hb hv
  obtain ⟨ka, kc, rfl, t1, n1, n2, l1, l2, hR⟩ := hv.part
  have htx : (str text).size ≤ 16 := ht
  clear hv
  have HB : Hid (Below w.heap.size w (w.alloc (.cells #[.int .i64 11, .string (str text), .int .i64 num, .slice ka 0 kc] 24))) := (Below.refl _ _).alloc (Nat.le_refl _) _
  have HE : Hid (str text = str (jx (shT (.mk 11 text num [])))) := by
    show _ = _
    rw [sh_ty11, jx_one]
    apply ByteArray.ext
    apply Array.toList_inj.1
    simp [str, raw_wd, raw_sg]
  clear hb hR ht
  simp only [List.length_nil]
  go_enter Tryd.func10, Tryd.ntmps10
  go_wp2_with fail
  go_ret
  exact ⟨by rw [← HE.out]; rfl, HB.out⟩
set_option maxRecDepth 100000 in
set_option maxHeartbeats 4000000 in
theorem show_k23 {w0 : World} (text : List UInt8) (num : Int) (ht : text.length ≤ 16) : ShN w0 (.mk 23 text num []) := by
  intro w v hb hv
  obtain ⟨ka, kc, rfl, t1, n1, n2, l1, l2, hR⟩ := hv.part
  have htx : (str text).size ≤ 16 := ht
  clear hv
  have HB : Hid (Below w.heap.size w (w.alloc (.cells #[.int .i64 23, .string (str text), .int .i64 num, .slice ka 0 kc] 24))) := (Below.refl _ _).alloc (Nat.le_refl _) _
  have HE : Hid (str text = str (jx (shT (.mk 23 text num [])))) := by
    show _ = _
    rw [sh_e23, jx_one]
    apply ByteArray.ext
    apply Array.toList_inj.1
    simp [str, raw_wd, raw_sg]
  clear hb hR ht
  simp only [List.length_nil]
  go_enter Tryd.func10, Tryd.ntmps10
  go_wp2_with fail
  go_ret
  exact ⟨by rw [← HE.out]; rfl, HB.out⟩
set_option maxRecDepth 100000 in
set_option maxHeartbeats 4000000 in
theorem show_k26 {w0 : World} (text : List UInt8) (num : Int) (ht : text.length ≤ 16) : ShN w0 (.mk 26 text num []) := by
  intro w v hb hv
  obtain ⟨ka, kc, rfl, t1, n1, n2, l1, l2, hR⟩ := hv.part
  have htx : (str text).size ≤ 16 := ht
  clear hv
  have HB : Hid (Below w.heap.size w (w.alloc (.cells #[.int .i64 26, .string (str text), .int .i64 num, .slice ka 0 kc] 24))) := (Below.refl _ _).alloc (Nat.le_refl _) _
  have HE : Hid ((⟨#[38, 32]⟩ : ByteArray) ++ str text = str (jx (shT (.mk 26 text num [])))) := by
    show _ = _
    rw [sh_e26, jx_cons (by simp), jx_one]
    apply ByteArray.ext
    apply Array.toList_inj.1
    simp [str, raw_wd, raw_sg]
  clear hb hR ht
  simp only [List.length_nil]
  go_enter Tryd.func10, Tryd.ntmps10
  go_wp2_with fail
  go_ret
  exact ⟨by rw [← HE.out]; rfl, HB.out⟩
set_option maxRecDepth 100000 in
set_option maxHeartbeats 4000000 in
theorem show_k33 {w0 : World} (text : List UInt8) (num : Int) (ht : text.length ≤ 16) : ShN w0 (.mk 33 text num []) := by
  intro w v hb hv
  obtain ⟨ka, kc, rfl, t1, n1, n2, l1, l2, hR⟩ := hv.part
  have htx : (str text).size ≤ 16 := ht
  clear hv
  have HB : Hid (Below w.heap.size w (w.alloc (.cells #[.int .i64 33, .string (str text), .int .i64 num, .slice ka 0 kc] 24))) := (Below.refl _ _).alloc (Nat.le_refl _) _
  have HE : Hid ((⟨#[99, 111, 117, 110, 116]⟩ : ByteArray) = str (jx (shT (.mk 33 text num [])))) := by
    show _ = _
    rw [sh_e33, jx_one]
    apply ByteArray.ext
    apply Array.toList_inj.1
    simp [str, raw_wd, raw_sg]
  clear hb hR ht
  simp only [List.length_nil]
  go_enter Tryd.func10, Tryd.ntmps10
  go_wp2_with fail
  go_ret
  exact ⟨by rw [← HE.out]; rfl, HB.out⟩
set_option maxRecDepth 100000 in
set_option maxHeartbeats 4000000 in
theorem show_k18 {w0 : World} (text : List UInt8) (num : Int) (x : Nd) (ht : text.length ≤ 16) (hx : ShN w0 x) (ex : shT x ≠ []) (bdx : (jx (shT x)).length ≤ 9200000000000) : ShN w0 (.mk 18 text num [x]) := by
  intro w v hb hv
  obtain ⟨ka, kc, rfl, t1, n1, n2, l1, l2, hR⟩ := hv.part
  have htx : (str text).size ≤ 16 := ht
  clear hv
  obtain ⟨ga, oa, ka, xa, na, aa, ma, ca, hkaa, hga, qa0, qa1, qa2, qa3, hnda⟩ := hR.kid0
  have Ha := hide hnda
  have Ha0 := hide qa0
  have Ha1 := hide qa1
  have Ha2 := hide qa2
  have Ha3 := hide qa3
  clear qa0 qa1 qa2 qa3 hnda hga
  subst hkaa
  have hca : ∀ w', Below w0.heap.size w0 w' → Calls Tryd.prog 10 #[.agg #[.int .i64 ka, .string xa, .int .i64 na, .slice aa ma ca]] w' fun e w'' => e = .returned (.string (str (jx (shT x)))) ∧ Below w'.heap.size w' w'' := fun w' h => hx w' _ h Ha.out
  have hB0 : Below w.heap.size w (w.alloc (.cells #[.int .i64 18, .string (str text), .int .i64 num, .slice (some ⟨ga, oa, none⟩) 1 kc] 24)) := (Below.refl _ _).alloc (Nat.le_refl _) _
  have hz0 : (w.alloc (.cells #[.int .i64 18, .string (str text), .int .i64 num, .slice (some ⟨ga, oa, none⟩) 1 kc] 24)).heap.size = w.heap.size + 1 := by simp
  have hN0 := heap_new w #[.int .i64 18, .string (str text), .int .i64 num, .slice (some ⟨ga, oa, none⟩) 1 kc] 24
  have hbW := hb.trans (hB0.mono hb.size)
  have hsx : (str (jx (shT x))).size ≤ 9300000000000 := by show (jx (shT x)).length ≤ _; omega
  generalize hgx : str (jx (shT x)) = sx at *
  have HGx := hide hgx
  clear hgx
  have HE : Hid ((⟨#[114, 101, 116, 117, 114, 110, 32]⟩ : ByteArray) ++ sx ++ (⟨#[32, 59]⟩ : ByteArray) = str (jx (shT (.mk 18 text num [x])))) := by
    show _ = _
    rw [sh_s18, jx_app (by simp) (by simp), jx_app (by simp) ex, jx_one, jx_one]
    rw [← HGx.out]
    apply ByteArray.ext
    apply Array.toList_inj.1
    simp [str, raw_wd, raw_sg]
  have ea0 := below_cell hbW Ha0.out
  have ea1 := below_cell hbW Ha1.out
  have ea2 := below_cell hbW Ha2.out
  have ea3 := below_cell hbW Ha3.out
  have hcw := hca _ hbW
  have HB0 := hide hB0
  clear hb hR hx ht hN0 hca hB0 hbW
  go_enter Tryd.func10, Tryd.ntmps10
  go_wp2_with fail
  go_at_call 10
  refine hcw.mono ?_
  rintro e w1 ⟨rfl, hb1⟩
  have HB1 : Hid (Below w.heap.size w w1) := HB0.out.trans (hb1.mono (by omega))
  clear hb1 hcw
  go_wp2_with fail
  go_ret
  exact ⟨by rw [← HE.out]; rfl, HB1.out⟩
set_option maxRecDepth 100000 in
set_option maxHeartbeats 4000000 in
theorem show_k19 {w0 : World} (text : List UInt8) (num : Int) (x : Nd) (ht : text.length ≤ 16) (hx : ShN w0 x) (ex : shT x ≠ []) (bdx : (jx (shT x)).length ≤ 9200000000000) : ShN w0 (.mk 19 text num [x]) := by
  intro w v hb hv
  obtain ⟨ka, kc, rfl, t1, n1, n2, l1, l2, hR⟩ := hv.part
  have htx : (str text).size ≤ 16 := ht
  clear hv
  obtain ⟨ga, oa, ka, xa, na, aa, ma, ca, hkaa, hga, qa0, qa1, qa2, qa3, hnda⟩ := hR.kid0
  have Ha := hide hnda
  have Ha0 := hide qa0
  have Ha1 := hide qa1
  have Ha2 := hide qa2
  have Ha3 := hide qa3
  clear qa0 qa1 qa2 qa3 hnda hga
  subst hkaa
  have hca : ∀ w', Below w0.heap.size w0 w' → Calls Tryd.prog 10 #[.agg #[.int .i64 ka, .string xa, .int .i64 na, .slice aa ma ca]] w' fun e w'' => e = .returned (.string (str (jx (shT x)))) ∧ Below w'.heap.size w' w'' := fun w' h => hx w' _ h Ha.out
  have hB0 : Below w.heap.size w (w.alloc (.cells #[.int .i64 19, .string (str text), .int .i64 num, .slice (some ⟨ga, oa, none⟩) 1 kc] 24)) := (Below.refl _ _).alloc (Nat.le_refl _) _
  have hz0 : (w.alloc (.cells #[.int .i64 19, .string (str text), .int .i64 num, .slice (some ⟨ga, oa, none⟩) 1 kc] 24)).heap.size = w.heap.size + 1 := by simp
  have hN0 := heap_new w #[.int .i64 19, .string (str text), .int .i64 num, .slice (some ⟨ga, oa, none⟩) 1 kc] 24
  have hbW := hb.trans (hB0.mono hb.size)
  have hsx : (str (jx (shT x))).size ≤ 9300000000000 := by show (jx (shT x)).length ≤ _; omega
  generalize hgx : str (jx (shT x)) = sx at *
  have HGx := hide hgx
  clear hgx
  have HE : Hid ((⟨#[112, 117, 116, 32, 40, 32]⟩ : ByteArray) ++ sx ++ (⟨#[32, 41, 32, 59]⟩ : ByteArray) = str (jx (shT (.mk 19 text num [x])))) := by
    show _ = _
    rw [sh_s19, jx_app (by simp) (by simp), jx_app (by simp) (by simp), jx_app (by simp) ex, jx_cons (by simp), jx_one, jx_one, jx_one]
    rw [← HGx.out]
    apply ByteArray.ext
    apply Array.toList_inj.1
    simp [str, raw_wd, raw_sg]
  have ea0 := below_cell hbW Ha0.out
  have ea1 := below_cell hbW Ha1.out
  have ea2 := below_cell hbW Ha2.out
  have ea3 := below_cell hbW Ha3.out
  have hcw := hca _ hbW
  have HB0 := hide hB0
  clear hb hR hx ht hN0 hca hB0 hbW
  go_enter Tryd.func10, Tryd.ntmps10
  go_wp2_with fail
  go_at_call 10
  refine hcw.mono ?_
  rintro e w1 ⟨rfl, hb1⟩
  have HB1 : Hid (Below w.heap.size w w1) := HB0.out.trans (hb1.mono (by omega))
  clear hb1 hcw
  go_wp2_with fail
  go_ret
  exact ⟨by rw [← HE.out]; rfl, HB1.out⟩
set_option maxRecDepth 100000 in
set_option maxHeartbeats 4000000 in
theorem show_k20 {w0 : World} (text : List UInt8) (num : Int) (x : Nd) (ht : text.length ≤ 16) (hx : ShN w0 x) (ex : shT x ≠ []) (bdx : (jx (shT x)).length ≤ 9200000000000) : ShN w0 (.mk 20 text num [x]) := by
  intro w v hb hv
  obtain ⟨ka, kc, rfl, t1, n1, n2, l1, l2, hR⟩ := hv.part
  have htx : (str text).size ≤ 16 := ht
  clear hv
  obtain ⟨ga, oa, ka, xa, na, aa, ma, ca, hkaa, hga, qa0, qa1, qa2, qa3, hnda⟩ := hR.kid0
  have Ha := hide hnda
  have Ha0 := hide qa0
  have Ha1 := hide qa1
  have Ha2 := hide qa2
  have Ha3 := hide qa3
  clear qa0 qa1 qa2 qa3 hnda hga
  subst hkaa
  have hca : ∀ w', Below w0.heap.size w0 w' → Calls Tryd.prog 10 #[.agg #[.int .i64 ka, .string xa, .int .i64 na, .slice aa ma ca]] w' fun e w'' => e = .returned (.string (str (jx (shT x)))) ∧ Below w'.heap.size w' w'' := fun w' h => hx w' _ h Ha.out
  have hB0 : Below w.heap.size w (w.alloc (.cells #[.int .i64 20, .string (str text), .int .i64 num, .slice (some ⟨ga, oa, none⟩) 1 kc] 24)) := (Below.refl _ _).alloc (Nat.le_refl _) _
  have hz0 : (w.alloc (.cells #[.int .i64 20, .string (str text), .int .i64 num, .slice (some ⟨ga, oa, none⟩) 1 kc] 24)).heap.size = w.heap.size + 1 := by simp
  have hN0 := heap_new w #[.int .i64 20, .string (str text), .int .i64 num, .slice (some ⟨ga, oa, none⟩) 1 kc] 24
  have hbW := hb.trans (hB0.mono hb.size)
  have hsx : (str (jx (shT x))).size ≤ 9300000000000 := by show (jx (shT x)).length ≤ _; omega
  generalize hgx : str (jx (shT x)) = sx at *
  have HGx := hide hgx
  clear hgx
  have HE : Hid (sx ++ (⟨#[32, 59]⟩ : ByteArray) = str (jx (shT (.mk 20 text num [x])))) := by
    show _ = _
    rw [sh_s20, jx_app ex (by simp), jx_one]
    rw [← HGx.out]
    apply ByteArray.ext
    apply Array.toList_inj.1
    simp [str, raw_wd, raw_sg]
  have ea0 := below_cell hbW Ha0.out
  have ea1 := below_cell hbW Ha1.out
  have ea2 := below_cell hbW Ha2.out
  have ea3 := below_cell hbW Ha3.out
  have hcw := hca _ hbW
  have HB0 := hide hB0
  clear hb hR hx ht hN0 hca hB0 hbW
  go_enter Tryd.func10, Tryd.ntmps10
  go_wp2_with fail
  go_at_call 10
  refine hcw.mono ?_
  rintro e w1 ⟨rfl, hb1⟩
  have HB1 : Hid (Below w.heap.size w w1) := HB0.out.trans (hb1.mono (by omega))
  clear hb1 hcw
  go_wp2_with fail
  go_ret
  exact ⟨by rw [← HE.out]; rfl, HB1.out⟩
end Go.Proofs.YthcfianhdkolhaaDoor.T

namespace Go.Proofs.YthcfianhdkolhaaDoor.T
open Go.RowKit Go.Proofs.YthcfianhdkolhaaDoor.S
set_option linter.unusedVariables false
set_option linter.unusedSimpArgs false
set_option maxRecDepth 100000 in
set_option maxHeartbeats 4000000 in
theorem show_k30 {w0 : World} (text : List UInt8) (num : Int) (x : Nd) (ht : text.length ≤ 16) (hx : ShN w0 x) (ex : shT x ≠ []) (bdx : (jx (shT x)).length ≤ 9200000000000) : ShN w0 (.mk 30 text num [x]) := by
  intro w v hb hv
  obtain ⟨ka, kc, rfl, t1, n1, n2, l1, l2, hR⟩ := hv.part
  have htx : (str text).size ≤ 16 := ht
  clear hv
  obtain ⟨ga, oa, ka, xa, na, aa, ma, ca, hkaa, hga, qa0, qa1, qa2, qa3, hnda⟩ := hR.kid0
  have Ha := hide hnda
  have Ha0 := hide qa0
  have Ha1 := hide qa1
  have Ha2 := hide qa2
  have Ha3 := hide qa3
  clear qa0 qa1 qa2 qa3 hnda hga
  subst hkaa
  have hca : ∀ w', Below w0.heap.size w0 w' → Calls Tryd.prog 10 #[.agg #[.int .i64 ka, .string xa, .int .i64 na, .slice aa ma ca]] w' fun e w'' => e = .returned (.string (str (jx (shT x)))) ∧ Below w'.heap.size w' w'' := fun w' h => hx w' _ h Ha.out
  have hB0 : Below w.heap.size w (w.alloc (.cells #[.int .i64 30, .string (str text), .int .i64 num, .slice (some ⟨ga, oa, none⟩) 1 kc] 24)) := (Below.refl _ _).alloc (Nat.le_refl _) _
  have hz0 : (w.alloc (.cells #[.int .i64 30, .string (str text), .int .i64 num, .slice (some ⟨ga, oa, none⟩) 1 kc] 24)).heap.size = w.heap.size + 1 := by simp
  have hN0 := heap_new w #[.int .i64 30, .string (str text), .int .i64 num, .slice (some ⟨ga, oa, none⟩) 1 kc] 24
  have hbW := hb.trans (hB0.mono hb.size)
  have hsx : (str (jx (shT x))).size ≤ 9300000000000 := by show (jx (shT x)).length ≤ _; omega
  generalize hgx : str (jx (shT x)) = sx at *
  have HGx := hide hgx
  clear hgx
  have HE : Hid ((⟨#[105, 110, 116, 32, 40, 32]⟩ : ByteArray) ++ sx ++ (⟨#[32, 41]⟩ : ByteArray) = str (jx (shT (.mk 30 text num [x])))) := by
    show _ = _
    rw [sh_e30, jx_app (by simp) (by simp), jx_app (by simp) ex, jx_cons (by simp), jx_one, jx_one]
    rw [← HGx.out]
    apply ByteArray.ext
    apply Array.toList_inj.1
    simp [str, raw_wd, raw_sg]
  have ea0 := below_cell hbW Ha0.out
  have ea1 := below_cell hbW Ha1.out
  have ea2 := below_cell hbW Ha2.out
  have ea3 := below_cell hbW Ha3.out
  have hcw := hca _ hbW
  have HB0 := hide hB0
  clear hb hR hx ht hN0 hca hB0 hbW
  go_enter Tryd.func10, Tryd.ntmps10
  go_wp2_with fail
  go_at_call 10
  refine hcw.mono ?_
  rintro e w1 ⟨rfl, hb1⟩
  have HB1 : Hid (Below w.heap.size w w1) := HB0.out.trans (hb1.mono (by omega))
  clear hb1 hcw
  go_wp2_with fail
  go_ret
  exact ⟨by rw [← HE.out]; rfl, HB1.out⟩
set_option maxRecDepth 100000 in
set_option maxHeartbeats 4000000 in
theorem show_k31 {w0 : World} (text : List UInt8) (num : Int) (x : Nd) (ht : text.length ≤ 16) (hx : ShN w0 x) (ex : shT x ≠ []) (bdx : (jx (shT x)).length ≤ 9200000000000) : ShN w0 (.mk 31 text num [x]) := by
  intro w v hb hv
  obtain ⟨ka, kc, rfl, t1, n1, n2, l1, l2, hR⟩ := hv.part
  have htx : (str text).size ≤ 16 := ht
  clear hv
  obtain ⟨ga, oa, ka, xa, na, aa, ma, ca, hkaa, hga, qa0, qa1, qa2, qa3, hnda⟩ := hR.kid0
  have Ha := hide hnda
  have Ha0 := hide qa0
  have Ha1 := hide qa1
  have Ha2 := hide qa2
  have Ha3 := hide qa3
  clear qa0 qa1 qa2 qa3 hnda hga
  subst hkaa
  have hca : ∀ w', Below w0.heap.size w0 w' → Calls Tryd.prog 10 #[.agg #[.int .i64 ka, .string xa, .int .i64 na, .slice aa ma ca]] w' fun e w'' => e = .returned (.string (str (jx (shT x)))) ∧ Below w'.heap.size w' w'' := fun w' h => hx w' _ h Ha.out
  have hB0 : Below w.heap.size w (w.alloc (.cells #[.int .i64 31, .string (str text), .int .i64 num, .slice (some ⟨ga, oa, none⟩) 1 kc] 24)) := (Below.refl _ _).alloc (Nat.le_refl _) _
  have hz0 : (w.alloc (.cells #[.int .i64 31, .string (str text), .int .i64 num, .slice (some ⟨ga, oa, none⟩) 1 kc] 24)).heap.size = w.heap.size + 1 := by simp
  have hN0 := heap_new w #[.int .i64 31, .string (str text), .int .i64 num, .slice (some ⟨ga, oa, none⟩) 1 kc] 24
  have hbW := hb.trans (hB0.mono hb.size)
  have hsx : (str (jx (shT x))).size ≤ 9300000000000 := by show (jx (shT x)).length ≤ _; omega
  generalize hgx : str (jx (shT x)) = sx at *
  have HGx := hide hgx
  clear hgx
  have HE : Hid ((⟨#[108, 111, 110, 103, 32, 40, 32]⟩ : ByteArray) ++ sx ++ (⟨#[32, 41]⟩ : ByteArray) = str (jx (shT (.mk 31 text num [x])))) := by
    show _ = _
    rw [sh_e31, jx_app (by simp) (by simp), jx_app (by simp) ex, jx_cons (by simp), jx_one, jx_one]
    rw [← HGx.out]
    apply ByteArray.ext
    apply Array.toList_inj.1
    simp [str, raw_wd, raw_sg]
  have ea0 := below_cell hbW Ha0.out
  have ea1 := below_cell hbW Ha1.out
  have ea2 := below_cell hbW Ha2.out
  have ea3 := below_cell hbW Ha3.out
  have hcw := hca _ hbW
  have HB0 := hide hB0
  clear hb hR hx ht hN0 hca hB0 hbW
  go_enter Tryd.func10, Tryd.ntmps10
  go_wp2_with fail
  go_at_call 10
  refine hcw.mono ?_
  rintro e w1 ⟨rfl, hb1⟩
  have HB1 : Hid (Below w.heap.size w w1) := HB0.out.trans (hb1.mono (by omega))
  clear hb1 hcw
  go_wp2_with fail
  go_ret
  exact ⟨by rw [← HE.out]; rfl, HB1.out⟩
set_option maxRecDepth 100000 in
set_option maxHeartbeats 4000000 in
theorem show_k34 {w0 : World} (text : List UInt8) (num : Int) (x : Nd) (ht : text.length ≤ 16) (hx : ShN w0 x) (ex : shT x ≠ []) (bdx : (jx (shT x)).length ≤ 9200000000000) : ShN w0 (.mk 34 text num [x]) := by
  intro w v hb hv
  obtain ⟨ka, kc, rfl, t1, n1, n2, l1, l2, hR⟩ := hv.part
  have htx : (str text).size ≤ 16 := ht
  clear hv
  obtain ⟨ga, oa, ka, xa, na, aa, ma, ca, hkaa, hga, qa0, qa1, qa2, qa3, hnda⟩ := hR.kid0
  have Ha := hide hnda
  have Ha0 := hide qa0
  have Ha1 := hide qa1
  have Ha2 := hide qa2
  have Ha3 := hide qa3
  clear qa0 qa1 qa2 qa3 hnda hga
  subst hkaa
  have hca : ∀ w', Below w0.heap.size w0 w' → Calls Tryd.prog 10 #[.agg #[.int .i64 ka, .string xa, .int .i64 na, .slice aa ma ca]] w' fun e w'' => e = .returned (.string (str (jx (shT x)))) ∧ Below w'.heap.size w' w'' := fun w' h => hx w' _ h Ha.out
  have hB0 : Below w.heap.size w (w.alloc (.cells #[.int .i64 34, .string (str text), .int .i64 num, .slice (some ⟨ga, oa, none⟩) 1 kc] 24)) := (Below.refl _ _).alloc (Nat.le_refl _) _
  have hz0 : (w.alloc (.cells #[.int .i64 34, .string (str text), .int .i64 num, .slice (some ⟨ga, oa, none⟩) 1 kc] 24)).heap.size = w.heap.size + 1 := by simp
  have hN0 := heap_new w #[.int .i64 34, .string (str text), .int .i64 num, .slice (some ⟨ga, oa, none⟩) 1 kc] 24
  have hbW := hb.trans (hB0.mono hb.size)
  have hsx : (str (jx (shT x))).size ≤ 9300000000000 := by show (jx (shT x)).length ≤ _; omega
  generalize hgx : str (jx (shT x)) = sx at *
  have HGx := hide hgx
  clear hgx
  have HE : Hid ((⟨#[101, 120, 116, 114, 97, 32, 40, 32]⟩ : ByteArray) ++ sx ++ (⟨#[32, 41]⟩ : ByteArray) = str (jx (shT (.mk 34 text num [x])))) := by
    show _ = _
    rw [sh_e34, jx_app (by simp) (by simp), jx_app (by simp) ex, jx_cons (by simp), jx_one, jx_one]
    rw [← HGx.out]
    apply ByteArray.ext
    apply Array.toList_inj.1
    simp [str, raw_wd, raw_sg]
  have ea0 := below_cell hbW Ha0.out
  have ea1 := below_cell hbW Ha1.out
  have ea2 := below_cell hbW Ha2.out
  have ea3 := below_cell hbW Ha3.out
  have hcw := hca _ hbW
  have HB0 := hide hB0
  clear hb hR hx ht hN0 hca hB0 hbW
  go_enter Tryd.func10, Tryd.ntmps10
  go_wp2_with fail
  go_at_call 10
  refine hcw.mono ?_
  rintro e w1 ⟨rfl, hb1⟩
  have HB1 : Hid (Below w.heap.size w w1) := HB0.out.trans (hb1.mono (by omega))
  clear hb1 hcw
  go_wp2_with fail
  go_ret
  exact ⟨by rw [← HE.out]; rfl, HB1.out⟩
set_option maxRecDepth 100000 in
set_option maxHeartbeats 4000000 in
theorem show_k28 {w0 : World} (text : List UInt8) (num : Int) (x : Nd) (ht : text.length ≤ 16) (hx : ShN w0 x) (ex : shT x ≠ []) (bdx : (jx (shT x)).length ≤ 9200000000000) : ShN w0 (.mk 28 text num [x]) := by
  intro w v hb hv
  obtain ⟨ka, kc, rfl, t1, n1, n2, l1, l2, hR⟩ := hv.part
  have htx : (str text).size ≤ 16 := ht
  clear hv
  obtain ⟨ga, oa, ka, xa, na, aa, ma, ca, hkaa, hga, qa0, qa1, qa2, qa3, hnda⟩ := hR.kid0
  have Ha := hide hnda
  have Ha0 := hide qa0
  have Ha1 := hide qa1
  have Ha2 := hide qa2
  have Ha3 := hide qa3
  clear qa0 qa1 qa2 qa3 hnda hga
  subst hkaa
  have hcA : ∀ w', Below w0.heap.size w0 w' → Calls Tryd.prog 27 #[.agg #[.int .i64 ka, .string xa, .int .i64 na, .slice aa ma ca], .int .i64 3] w' fun e w'' => e = .returned (.string (str (jx (atT (bindN x) 3 (shT x))))) ∧ Below w'.heap.size w' w'' := fun w' h => at_any x hx ex 3 w' _ h Ha.out (by omega)
  have bA : (jx (atT (bindN x) 3 (shT x))).length ≤ 9200000000004 := by rw [jx_at _ _ _ ex]; split <;> (try simp only [List.length_append, List.length_cons, List.length_nil]) <;> omega
  have hB0 : Below w.heap.size w (w.alloc (.cells #[.int .i64 28, .string (str text), .int .i64 num, .slice (some ⟨ga, oa, none⟩) 1 kc] 24)) := (Below.refl _ _).alloc (Nat.le_refl _) _
  have hz0 : (w.alloc (.cells #[.int .i64 28, .string (str text), .int .i64 num, .slice (some ⟨ga, oa, none⟩) 1 kc] 24)).heap.size = w.heap.size + 1 := by simp
  have hN0 := heap_new w #[.int .i64 28, .string (str text), .int .i64 num, .slice (some ⟨ga, oa, none⟩) 1 kc] 24
  have hbW := hb.trans (hB0.mono hb.size)
  have hsA : (str (jx (atT (bindN x) 3 (shT x)))).size ≤ 9300000000000 := by show (jx (atT (bindN x) 3 (shT x))).length ≤ _; omega
  generalize hgA : str (jx (atT (bindN x) 3 (shT x))) = sA at *
  have HGA := hide hgA
  clear hgA
  have HE : Hid ((⟨#[45, 32]⟩ : ByteArray) ++ sA = str (jx (shT (.mk 28 text num [x])))) := by
    show _ = _
    rw [sh_e28, jx_cons (at_ne ex)]
    rw [← HGA.out]
    apply ByteArray.ext
    apply Array.toList_inj.1
    simp [str, raw_wd, raw_sg]
  have ea0 := below_cell hbW Ha0.out
  have ea1 := below_cell hbW Ha1.out
  have ea2 := below_cell hbW Ha2.out
  have ea3 := below_cell hbW Ha3.out
  have hcw := hcA _ hbW
  have HB0 := hide hB0
  clear hb hR hx ht hN0 hcA hB0 hbW
  go_enter Tryd.func10, Tryd.ntmps10
  go_wp2_with fail
  go_at_call 27
  refine hcw.mono ?_
  rintro e w1 ⟨rfl, hb1⟩
  have HB1 : Hid (Below w.heap.size w w1) := HB0.out.trans (hb1.mono (by omega))
  clear hb1 hcw
  go_wp2_with fail
  go_ret
  exact ⟨by rw [← HE.out]; rfl, HB1.out⟩
set_option maxRecDepth 100000 in
set_option maxHeartbeats 4000000 in
theorem show_k29 {w0 : World} (text : List UInt8) (num : Int) (x : Nd) (ht : text.length ≤ 16) (hx : ShN w0 x) (ex : shT x ≠ []) (bdx : (jx (shT x)).length ≤ 9200000000000) : ShN w0 (.mk 29 text num [x]) := by
  intro w v hb hv
  obtain ⟨ka, kc, rfl, t1, n1, n2, l1, l2, hR⟩ := hv.part
  have htx : (str text).size ≤ 16 := ht
  clear hv
  obtain ⟨ga, oa, ka, xa, na, aa, ma, ca, hkaa, hga, qa0, qa1, qa2, qa3, hnda⟩ := hR.kid0
  have Ha := hide hnda
  have Ha0 := hide qa0
  have Ha1 := hide qa1
  have Ha2 := hide qa2
  have Ha3 := hide qa3
  clear qa0 qa1 qa2 qa3 hnda hga
  subst hkaa
  have hcA : ∀ w', Below w0.heap.size w0 w' → Calls Tryd.prog 27 #[.agg #[.int .i64 ka, .string xa, .int .i64 na, .slice aa ma ca], .int .i64 3] w' fun e w'' => e = .returned (.string (str (jx (atT (bindN x) 3 (shT x))))) ∧ Below w'.heap.size w' w'' := fun w' h => at_any x hx ex 3 w' _ h Ha.out (by omega)
  have bA : (jx (atT (bindN x) 3 (shT x))).length ≤ 9200000000004 := by rw [jx_at _ _ _ ex]; split <;> (try simp only [List.length_append, List.length_cons, List.length_nil]) <;> omega
  have hB0 : Below w.heap.size w (w.alloc (.cells #[.int .i64 29, .string (str text), .int .i64 num, .slice (some ⟨ga, oa, none⟩) 1 kc] 24)) := (Below.refl _ _).alloc (Nat.le_refl _) _
  have hz0 : (w.alloc (.cells #[.int .i64 29, .string (str text), .int .i64 num, .slice (some ⟨ga, oa, none⟩) 1 kc] 24)).heap.size = w.heap.size + 1 := by simp
  have hN0 := heap_new w #[.int .i64 29, .string (str text), .int .i64 num, .slice (some ⟨ga, oa, none⟩) 1 kc] 24
  have hbW := hb.trans (hB0.mono hb.size)
  have hsA : (str (jx (atT (bindN x) 3 (shT x)))).size ≤ 9300000000000 := by show (jx (atT (bindN x) 3 (shT x))).length ≤ _; omega
  generalize hgA : str (jx (atT (bindN x) 3 (shT x))) = sA at *
  have HGA := hide hgA
  clear hgA
  have HE : Hid ((⟨#[33, 32]⟩ : ByteArray) ++ sA = str (jx (shT (.mk 29 text num [x])))) := by
    show _ = _
    rw [sh_e29, jx_cons (at_ne ex)]
    rw [← HGA.out]
    apply ByteArray.ext
    apply Array.toList_inj.1
    simp [str, raw_wd, raw_sg]
  have ea0 := below_cell hbW Ha0.out
  have ea1 := below_cell hbW Ha1.out
  have ea2 := below_cell hbW Ha2.out
  have ea3 := below_cell hbW Ha3.out
  have hcw := hcA _ hbW
  have HB0 := hide hB0
  clear hb hR hx ht hN0 hcA hB0 hbW
  go_enter Tryd.func10, Tryd.ntmps10
  go_wp2_with fail
  go_at_call 27
  refine hcw.mono ?_
  rintro e w1 ⟨rfl, hb1⟩
  have HB1 : Hid (Below w.heap.size w w1) := HB0.out.trans (hb1.mono (by omega))
  clear hb1 hcw
  go_wp2_with fail
  go_ret
  exact ⟨by rw [← HE.out]; rfl, HB1.out⟩
set_option maxRecDepth 100000 in
set_option maxHeartbeats 4000000 in
theorem show_k1 {w0 : World} (text : List UInt8) (num : Int) (l : List Nd) (ht : text.length ≤ 16) (hl : ∀ y, y ∈ l → ShN w0 y) (el : ∀ y, y ∈ l → shT y ≠ []) (hl7 : l.length ≤ 700) (bj : (Lib.join (l.map fun x => jx (shT x)) [32]).length ≤ 9200000000000) : ShN w0 (.mk 1 text num l) := by
  intro w v hb hv
  obtain ⟨ka, kc, rfl, t1, n1, n2, l1, l2, hR⟩ := hv.part
  have htx : (str text).size ≤ 16 := ht
  clear hv
  have hmm : (l.map shT).map jx = l.map fun x => jx (shT x) := by rw [List.map_map]; rfl
  have hnn : ∀ t, t ∈ l.map shT → t ≠ [] := fun t ht => by obtain ⟨x, hx, rfl⟩ := List.mem_map.1 ht; exact el x hx
  have HSd2 : Hid (∀ w', Below w0.heap.size w0 w' → Calls Tryd.prog 24 #[.slice ka l.length kc] w' fun e w'' => (∃ v, e = .returned v ∧ w''.ownsRow w'.heap.size 9 1 v l.length (strs (l.map fun x => jx (shT x)))) ∧ Below w'.heap.size w' w'') := fun w' h => shown_any l hl w' h ka kc hR hl7
  have HJn : Hid (∀ w' ob v, w'.ownsRow ob 9 1 v l.length (strs (l.map fun x => jx (shT x))) → Calls Tryd.prog 23 #[v, .string ⟨#[32]⟩] w' fun e w'' => e = .returned (.string (str (Lib.join (l.map fun x => jx (shT x)) [32]))) ∧ w'' = w') := fun w' ob v h => joined_any (l.map fun x => jx (shT x)) ob v [32] w' (by rw [List.length_map]; exact h) (by rw [List.length_map]; omega) (by omega) (by simp)
  have hB0 : Below w.heap.size w (w.alloc (.cells #[.int .i64 1, .string (str text), .int .i64 num, .slice ka l.length kc] 24)) := (Below.refl _ _).alloc (Nat.le_refl _) _
  have hz0 : (w.alloc (.cells #[.int .i64 1, .string (str text), .int .i64 num, .slice ka l.length kc] 24)).heap.size = w.heap.size + 1 := by simp
  have hN0 := heap_new w #[.int .i64 1, .string (str text), .int .i64 num, .slice ka l.length kc] 24
  have hbW := hb.trans (hB0.mono hb.size)
  have hsj : (str (Lib.join (l.map fun x => jx (shT x)) [32])).size ≤ 9300000000000 := by show (Lib.join (l.map fun x => jx (shT x)) [32]).length ≤ _; omega
  generalize hgj : str (Lib.join (l.map fun x => jx (shT x)) [32]) = sj at *
  have HGj := hide hgj
  clear hgj
  have HE : Hid (sj = str (jx (shT (.mk 1 text num l)))) := by
    show _ = _
    rw [sh_u, jx_flat _ hnn, hmm, ← HGj.out]
  have hcw := HSd2.out _ hbW
  have HB0 := hide hB0
  clear hb hR hl el ht hmm hnn hN0 hB0 hbW
  go_enter Tryd.func10, Tryd.ntmps10
  go_wp2_with fail
  go_at_call 24
  refine hcw.mono ?_
  rintro e w1 ⟨⟨vr, rfl, hor⟩, hb1⟩
  have HB1 : Hid (Below w.heap.size w w1) := HB0.out.trans (hb1.mono (by omega))
  have hjc := HJn.out _ _ _ hor
  clear hb1 hcw hor
  go_wp2_with fail
  go_at_call 23
  refine hjc.mono ?_
  rintro e w2 ⟨rfl, hw2⟩
  subst hw2
  go_wp2_with fail
  go_ret
  exact ⟨by rw [← HE.out]; rfl, HB1.out⟩
set_option maxRecDepth 100000 in
set_option maxHeartbeats 4000000 in
theorem show_k13 {w0 : World} (text : List UInt8) (num : Int) (l : List Nd) (ht : text.length ≤ 16) (hl : ∀ y, y ∈ l → ShN w0 y) (el : ∀ y, y ∈ l → shT y ≠ []) (hl7 : l.length ≤ 700) (bj : (Lib.join (l.map fun x => jx (shT x)) [32]).length ≤ 9200000000000) : ShN w0 (.mk 13 text num l) := by
  intro w v hb hv
  obtain ⟨ka, kc, rfl, t1, n1, n2, l1, l2, hR⟩ := hv.part
  have htx : (str text).size ≤ 16 := ht
  clear hv
  by_cases hl0 : l = []
  · subst hl0
    have HB : Hid (Below w.heap.size w (w.alloc (.cells #[.int .i64 13, .string (str text), .int .i64 num, .slice ka 0 kc] 24))) := (Below.refl _ _).alloc (Nat.le_refl _) _
    have HE : Hid ((⟨#[123, 32, 125]⟩ : ByteArray) = str (jx (shT (.mk 13 text num [])))) := by
      show _ = _
      rw [sh_block]
      rfl
    clear hb hR hl el ht bj
    simp only [List.length_nil]
    go_enter Tryd.func10, Tryd.ntmps10
    go_wp2_with fail
    go_ret
    exact ⟨by rw [← HE.out]; rfl, HB.out⟩
  have hlp : 0 < l.length := List.length_pos_iff.2 hl0
  have hww : IntKind.i64.wrap ((l.length : Int) - 1) = (l.length : Int) - 1 := by rw [IntKind.wrap_i64]; omega
  have hlt : ¬ (l.length : Int) - 1 < 0 := by omega
  have hlt2 : ¬ (l.length : Int) < 1 := by omega
  have hmm : (l.map shT).map jx = l.map fun x => jx (shT x) := by rw [List.map_map]; rfl
  have hnn : ∀ t, t ∈ l.map shT → t ≠ [] := fun t ht => by obtain ⟨x, hx, rfl⟩ := List.mem_map.1 ht; exact el x hx
  have HSd2 : Hid (∀ w', Below w0.heap.size w0 w' → Calls Tryd.prog 24 #[.slice ka l.length kc] w' fun e w'' => (∃ v, e = .returned v ∧ w''.ownsRow w'.heap.size 9 1 v l.length (strs (l.map fun x => jx (shT x)))) ∧ Below w'.heap.size w' w'') := fun w' h => shown_any l hl w' h ka kc hR hl7
  have HJn : Hid (∀ w' ob v, w'.ownsRow ob 9 1 v l.length (strs (l.map fun x => jx (shT x))) → Calls Tryd.prog 23 #[v, .string ⟨#[32]⟩] w' fun e w'' => e = .returned (.string (str (Lib.join (l.map fun x => jx (shT x)) [32]))) ∧ w'' = w') := fun w' ob v h => joined_any (l.map fun x => jx (shT x)) ob v [32] w' (by rw [List.length_map]; exact h) (by rw [List.length_map]; omega) (by omega) (by simp)
  have hfn : (l.map shT).flatten ≠ [] := by
    cases l with
    | nil => exact absurd rfl hl0
    | cons y r => simp [el y (by simp)]
  have hB0 : Below w.heap.size w (w.alloc (.cells #[.int .i64 13, .string (str text), .int .i64 num, .slice ka l.length kc] 24)) := (Below.refl _ _).alloc (Nat.le_refl _) _
  have hz0 : (w.alloc (.cells #[.int .i64 13, .string (str text), .int .i64 num, .slice ka l.length kc] 24)).heap.size = w.heap.size + 1 := by simp
  have hN0 := heap_new w #[.int .i64 13, .string (str text), .int .i64 num, .slice ka l.length kc] 24
  have hbW := hb.trans (hB0.mono hb.size)
  have hsj : (str (Lib.join (l.map fun x => jx (shT x)) [32])).size ≤ 9300000000000 := by show (Lib.join (l.map fun x => jx (shT x)) [32]).length ≤ _; omega
  generalize hgj : str (Lib.join (l.map fun x => jx (shT x)) [32]) = sj at *
  have HGj := hide hgj
  clear hgj
  have HE : Hid ((⟨#[123, 32]⟩ : ByteArray) ++ sj ++ (⟨#[32, 125]⟩ : ByteArray) = str (jx (shT (.mk 13 text num l)))) := by
    show _ = _
    rw [sh_block, jx_app (by simp) (by simp), jx_app (by simp) hfn, jx_flat _ hnn, hmm, jx_one, jx_one]
    rw [← HGj.out]
    apply ByteArray.ext
    apply Array.toList_inj.1
    simp [str, raw_wd, raw_sg]
  have hcw := HSd2.out _ hbW
  have HB0 := hide hB0
  clear hb hR hl el ht hmm hnn hN0 hB0 hbW hfn hl0
  go_enter Tryd.func10, Tryd.ntmps10
  go_wp2_with fail
  go_at_call 24
  refine hcw.mono ?_
  rintro e w1 ⟨⟨vr, rfl, hor⟩, hb1⟩
  have HB1 : Hid (Below w.heap.size w w1) := HB0.out.trans (hb1.mono (by omega))
  have hjc := HJn.out _ _ _ hor
  clear hb1 hcw hor
  go_wp2_with fail
  go_at_call 23
  refine hjc.mono ?_
  rintro e w2 ⟨rfl, hw2⟩
  subst hw2
  go_wp2_with fail
  go_ret
  exact ⟨by rw [← HE.out]; rfl, HB1.out⟩
end Go.Proofs.YthcfianhdkolhaaDoor.T
