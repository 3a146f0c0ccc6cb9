/- The contracts of machine.Run and machine.Shown, by what played leaves. -/
import Derived.Test.YtofhiooodgopeaaPok
namespace Go.Proofs.Ytofhiooodgopeaa.V
open Go.RowKit Go.Proofs.Ytofhiooodgopeaa.M
set_option linter.unusedVariables false
set_option linter.unusedSimpArgs false

/-- From a block on all that was there is as it was. -/
def Above (B : Nat) (w0 w1 : World) : Prop := ∀ k, B ≤ k → k < w0.heap.size → w1.heap[k]? = w0.heap[k]?
theorem ext_at (C : Array Value) (off n j : Nat) (v : Value) (h : (C.extract off (off + n)).toList[j]? = some v) : C.toList[off + j]? = some v := by
  rw [Array.getElem?_toList] at *
  rw [Array.getElem?_extract] at h
  split at h
  · exact h
  · cases h
theorem info27 : (Try.prog.info? 27).map (·.size) = some 4 := by kernel_rfl
theorem info33 : (Try.prog.info? 33).map (·.size) = some 17 := by kernel_rfl
abbrev zz27 : Array Value := #[.int .i64 0, .int .i32 0, .slice none 0 0, .int .i64 0]
abbrev zz33 : Array Value := #[.int .i32 0, .int .i32 0, .int .i32 0, .int .i32 0, .int .i32 0, .int .i32 0, .int .i32 0, .int .i32 0, .int .i32 0, .int .i32 0, .int .i32 0, .int .i32 0, .int .i32 0, .int .i32 0, .int .i32 0, .int .i32 0, .int .i64 0]

set_option maxRecDepth 100000 in
set_option maxHeartbeats 1000000 in
theorem run_gen (ca da : Option Addr) (nc cc nd cd : Nat) (M fuel er : Int) {Res : Array Value → World → Prop} (w : World) (hRes : ∀ C w0 w1, Above (w.heap.size + 2) w0 w1 → Res C w0 → Res C w1)
    (hp : ∀ w', Below w.heap.size w w' → w'.heap.size = w.heap.size + 2 → Calls Try.prog 14 #[.agg #[.slice ca nc cc, .slice da nd cd, .int .i64 M], .int .i64 fuel] w' fun e w'' => ∃ C : Array Value, C.size = 24 ∧ C.all (·.oneCell') = true ∧ e = .returned (.tuple #[.agg C, .int .i64 er]) ∧ Res C w'' ∧ Below w'.heap.size w' w'') :
    Calls Try.prog 5 #[.agg #[.slice ca nc cc, .slice da nd cd, .int .i64 M], .int .i64 fuel] w fun e w' => ∃ C : Array Value, C.size = 24 ∧ e = .returned (.tuple #[.agg (C.extract 17 21), .int .i64 er]) ∧ Res C w' ∧ Below w.heap.size w w' := by
  have HP := hide hp
  have HRs := hide hRes
  clear hp hRes
  go_enter Try.func5, Try.ntmps5
  go_wp2_with fail
  go_at_call 14
  refine (HP.out _ (((Below.refl _ _).alloc (Nat.le_refl _) _).alloc (by simp) _) (by simp)).mono ?_
  rintro e w1 ⟨C, hC, h1, rfl, hR, hb1⟩
  have hq : w1.heap[w.heap.size + 1]? = some (.cells zz27 27 (0, 0)) := (hb1.block (w.heap.size + 1) (by simp)).trans (al_new _ _ _ (by simp))
  have hB : Below w.heap.size w w1 := (((Below.refl _ _).alloc (Nat.le_refl _) _).alloc (by simp) _).trans (hb1.mono (by simp; omega))
  have hz1 : w.heap.size + 1 < w1.heap.size := by have := hb1.size; simp at this; omega
  have hth : (w1.alloc (.cells z24 50)).there w1.heap.size 0 C.size := there_block (al_new w1 (.cells z24 50) w1.heap.size rfl) _ (by rw [hC]; rfl)
  have HT1 := hide hth
  have hi1 : (Try.prog.info? 50).map (·.size) = some C.size := by rw [hC]; exact info50
  have hrg : ((w1.alloc (.cells z24 50)).setCells w1.heap.size 0 C.toList).rangeAt w1.heap.size 17 (C.extract 17 21).toList := fun j v hv => by
    have hh := World.rangeAt_setCells_same (w1.alloc (.cells z24 50)) w1.heap.size 0 C.toList (by simpa using hth)
    have hj : j < 4 := by
      have := (List.getElem?_eq_some_iff.1 hv).1
      simp [hC] at this
      exact this
    have h2 := hh (17 + j) v (ext_at C 17 4 j v hv)
    simpa using h2
  have hq2 : ((w1.alloc (.cells z24 50)).setCells w1.heap.size 0 C.toList).heap[w.heap.size + 1]? = some (.cells zz27 27 (0, 0)) := (setCells_other w1.heap.size (w.heap.size + 1) (by omega) _ _ _).trans ((al_old _ _ _ hz1).trans hq)
  have hone : ∀ v ∈ (C.extract 17 21).toList, v.oneCell' = true := by
    rw [Array.all_eq_true_iff_forall_mem] at h1
    intro v hv
    refine h1 v ?_
    obtain ⟨i, hi, rfl⟩ := Array.mem_iff_getElem.1 (Array.mem_toList_iff.1 hv)
    rw [Array.getElem_extract]
    exact Array.getElem_mem _
  have hpl : (C.extract 17 21).toList.length = 4 := by simp [hC]
  have hpe : (C.extract 17 21).toList.toArray = C.extract 17 21 := Array.toArray_toList
  generalize (C.extract 17 21).toList = P at *
  have HRg := hide hrg
  have HT2 : Hid (((w1.alloc (.cells z24 50)).setCells w1.heap.size 0 C.toList).there (w.heap.size + 1) 0 P.toArray.size) := there_block hq2 _ (by simp [hpl])
  have hi2 : (Try.prog.info? 27).map (·.size) = some P.toArray.size := by rw [List.size_toArray, hpl]; exact info27
  have hi3 : (Try.prog.info? 27).map (·.size) = some P.length := by rw [hpl]; exact info27
  have HH := hide (And.intro h1 (And.intro (all_oneCell_toArray hone) (And.intro hi1 (And.intro hi2 hi3))))
  have HRes := hide hR
  have HPE := hide hpe
  have HPL := hide hpl
  clear hb1 HP hq hq2 hrg hth h1 hone hi1 hi2 hi3 hR hpe hpl
  go_wp2_with (first | (refine wpList_store_mid rfl 50 (.tmp 6) (.tmp 12) rfl w1.heap.size 0 C rfl rfl ?_ HH.out.2.2.1 HH.out.1 ?_; exact HT1.out) | (refine wpList_load_mid rfl 27 (.tmp 14) rfl w1.heap.size 17 rfl P _ ?_ Try.underlying27 rfl HH.out.2.2.2.2 ?_; exact HRg.out) | (refine wpList_store_mid rfl 27 (.tmp 4) (.tmp 15) rfl (w.heap.size + 1) 0 P.toArray rfl rfl ?_ HH.out.2.2.2.1 HH.out.2.1 ?_; exact HT2.out))
  have hR6 := World.rangeAt_setCells_same ((w1.alloc (.cells z24 50)).setCells w1.heap.size 0 C.toList) (w.heap.size + 1) 0 P (by have := HT2.out; rw [List.size_toArray] at this; exact this)
  have hrun := run_loadVar_mid (P := Try.prog) (((w1.alloc (.cells z24 50)).setCells w1.heap.size 0 C.toList).setCells (w.heap.size + 1) 0 P) (w.heap.size + 1) 0 27 P _ hR6 Try.underlying27 rfl HH.out.2.2.2.2
  refine bodyPost_ret (v := .tuple #[.agg P.toArray, .int .i64 er]) (results_cell_tmp Try.results5 _ rfl _ hrun) rfl ⟨C, hC, by rw [HPE.out], ?_, ?_⟩
  · refine HRs.out _ _ _ (fun k h1 h2 => ?_) HRes.out
    exact (setCells_other (w.heap.size + 1) k (by omega) _ _ _).trans ((setCells_other w1.heap.size k (by omega) _ _ _).trans (al_old _ _ _ h2))
  · exact setCells_below (w.heap.size + 1) (by omega) _ 0 _ (setCells_below w1.heap.size hB.size _ 0 _ (hB.alloc hB.size _))

set_option maxRecDepth 100000 in
set_option maxHeartbeats 1000000 in
theorem shown_gen (ca da : Option Addr) (nc cc nd cd : Nat) (M fuel er : Int) {Res : Array Value → World → Prop} (w : World) (hRes : ∀ C w0 w1, Above (w.heap.size + 2) w0 w1 → Res C w0 → Res C w1)
    (hp : ∀ w', Below w.heap.size w w' → w'.heap.size = w.heap.size + 2 → Calls Try.prog 14 #[.agg #[.slice ca nc cc, .slice da nd cd, .int .i64 M], .int .i64 fuel] w' fun e w'' => ∃ C : Array Value, C.size = 24 ∧ C.all (·.oneCell') = true ∧ e = .returned (.tuple #[.agg C, .int .i64 er]) ∧ Res C w'' ∧ Below w'.heap.size w' w'') :
    Calls Try.prog 6 #[.agg #[.slice ca nc cc, .slice da nd cd, .int .i64 M], .int .i64 fuel] w fun e w' => ∃ C : Array Value, C.size = 24 ∧ e = .returned (.tuple #[.agg (C.extract 0 17), .int .i64 er]) ∧ Res C w' ∧ Below w.heap.size w w' := by
  have HP := hide hp
  have HRs := hide hRes
  clear hp hRes
  go_enter Try.func6, Try.ntmps6
  go_wp2_with fail
  go_at_call 14
  refine (HP.out _ (((Below.refl _ _).alloc (Nat.le_refl _) _).alloc (by simp) _) (by simp)).mono ?_
  rintro e w1 ⟨C, hC, h1, rfl, hR, hb1⟩
  have hq : w1.heap[w.heap.size + 1]? = some (.cells zz33 33 (0, 0)) := (hb1.block (w.heap.size + 1) (by simp)).trans (al_new _ _ _ (by simp))
  have hB : Below w.heap.size w w1 := (((Below.refl _ _).alloc (Nat.le_refl _) _).alloc (by simp) _).trans (hb1.mono (by simp; omega))
  have hz1 : w.heap.size + 1 < w1.heap.size := by have := hb1.size; simp at this; omega
  have hth : (w1.alloc (.cells z24 50)).there w1.heap.size 0 C.size := there_block (al_new w1 (.cells z24 50) w1.heap.size rfl) _ (by rw [hC]; rfl)
  have HT1 := hide hth
  have hi1 : (Try.prog.info? 50).map (·.size) = some C.size := by rw [hC]; exact info50
  have hrg : ((w1.alloc (.cells z24 50)).setCells w1.heap.size 0 C.toList).rangeAt w1.heap.size 0 (C.extract 0 17).toList := fun j v hv => by
    have hh := World.rangeAt_setCells_same (w1.alloc (.cells z24 50)) w1.heap.size 0 C.toList (by simpa using hth)
    have hj : j < 17 := by
      have := (List.getElem?_eq_some_iff.1 hv).1
      simp [hC] at this
      exact this
    have h2 := hh (0 + j) v (ext_at C 0 17 j v hv)
    simpa using h2
  have hq2 : ((w1.alloc (.cells z24 50)).setCells w1.heap.size 0 C.toList).heap[w.heap.size + 1]? = some (.cells zz33 33 (0, 0)) := (setCells_other w1.heap.size (w.heap.size + 1) (by omega) _ _ _).trans ((al_old _ _ _ hz1).trans hq)
  have hone : ∀ v ∈ (C.extract 0 17).toList, v.oneCell' = true := by
    rw [Array.all_eq_true_iff_forall_mem] at h1
    intro v hv
    refine h1 v ?_
    obtain ⟨i, hi, rfl⟩ := Array.mem_iff_getElem.1 (Array.mem_toList_iff.1 hv)
    rw [Array.getElem_extract]
    exact Array.getElem_mem _
  have hpl : (C.extract 0 17).toList.length = 17 := by simp [hC]
  have hpe : (C.extract 0 17).toList.toArray = C.extract 0 17 := Array.toArray_toList
  generalize (C.extract 0 17).toList = P at *
  have HRg := hide hrg
  have HT2 : Hid (((w1.alloc (.cells z24 50)).setCells w1.heap.size 0 C.toList).there (w.heap.size + 1) 0 P.toArray.size) := there_block hq2 _ (by simp [hpl])
  have hi2 : (Try.prog.info? 33).map (·.size) = some P.toArray.size := by rw [List.size_toArray, hpl]; exact info33
  have hi3 : (Try.prog.info? 33).map (·.size) = some P.length := by rw [hpl]; exact info33
  have HH := hide (And.intro h1 (And.intro (all_oneCell_toArray hone) (And.intro hi1 (And.intro hi2 hi3))))
  have HRes := hide hR
  have HPE := hide hpe
  have HPL := hide hpl
  clear hb1 HP hq hq2 hrg hth h1 hone hi1 hi2 hi3 hR hpe hpl
  go_wp2_with (first | (refine wpList_store_mid rfl 50 (.tmp 6) (.tmp 12) rfl w1.heap.size 0 C rfl rfl ?_ HH.out.2.2.1 HH.out.1 ?_; exact HT1.out) | (refine wpList_load_mid rfl 33 (.tmp 14) rfl w1.heap.size 0 rfl P _ ?_ Try.underlying33 rfl HH.out.2.2.2.2 ?_; exact HRg.out) | (refine wpList_store_mid rfl 33 (.tmp 4) (.tmp 15) rfl (w.heap.size + 1) 0 P.toArray rfl rfl ?_ HH.out.2.2.2.1 HH.out.2.1 ?_; exact HT2.out))
  have hR6 := World.rangeAt_setCells_same ((w1.alloc (.cells z24 50)).setCells w1.heap.size 0 C.toList) (w.heap.size + 1) 0 P (by have := HT2.out; rw [List.size_toArray] at this; exact this)
  have hrun := run_loadVar_mid (P := Try.prog) (((w1.alloc (.cells z24 50)).setCells w1.heap.size 0 C.toList).setCells (w.heap.size + 1) 0 P) (w.heap.size + 1) 0 33 P _ hR6 Try.underlying33 rfl HH.out.2.2.2.2
  refine bodyPost_ret (v := .tuple #[.agg P.toArray, .int .i64 er]) (results_cell_tmp Try.results6 _ rfl _ hrun) rfl ⟨C, hC, by rw [HPE.out], ?_, ?_⟩
  · refine HRs.out _ _ _ (fun k h1 h2 => ?_) HRes.out
    exact (setCells_other (w.heap.size + 1) k (by omega) _ _ _).trans ((setCells_other w1.heap.size k (by omega) _ _ _).trans (al_old _ _ _ h2))
  · exact setCells_below (w.heap.size + 1) (by omega) _ 0 _ (setCells_below w1.heap.size hB.size _ 0 _ (hB.alloc hB.size _))
end Go.Proofs.Ytofhiooodgopeaa.V
