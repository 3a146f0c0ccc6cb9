/- The contract of code.Read. -/
import Derived.Test.YtplenmhkhaoapaaDoorPar
namespace Go.Proofs.YtplenmhkhaoapaaDoor.W
open Go.RowKit Go.Proofs.YtplenmhkhaoapaaDoor.M
set_option linter.unusedVariables false

/-- What code.Read answers, k being the Op of the text's first word. -/
def RdPost (s : List UInt8) (k : Nat) (e : Ending) : Prop :=
  (∃ a b c m, parse (fl (kind (k : Int))).data.toList (cutR s) 0 0 0 0 = some (a, b, c, m) ∧ ckN k a b c m = 0 ∧ textL k a b c m = s ∧ e = .returned (.tuple #[.agg #[.int .i64 k, .int .i64 a, .int .i64 b, .int .i64 c, .int .i64 m], .int .i64 0]))
  ∨ ((∀ a b c m, parse (fl (kind (k : Int))).data.toList (cutR s) 0 0 0 0 = some (a, b, c, m) → ckN k a b c m = 0 → textL k a b c m ≠ s) ∧ e = .returned (.tuple #[.agg #[.int .i64 0, .int .i64 0, .int .i64 0, .int .i64 0, .int .i64 0], .int .i64 2]))

theorem St.start {w x1 x2 : World} {k kd : Nat} (b1 : Below (w.alloc (.cells (ic 0 0 0 0 0) 23)).heap.size (w.alloc (.cells (ic 0 0 0 0 0) 23)) x1) (b2 : Below (x1.alloc (.cells (ic k 0 0 0 0) 23)).heap.size (x1.alloc (.cells (ic k 0 0 0 0) 23)) x2) :
    St w x1.heap.size x2.heap.size k 0 0 0 0 kd 0 (x2.iter (fl kd) 0) ∧ w.heap.size < x1.heap.size ∧ x1.heap.size < x2.heap.size := by
  have s1 := b1.size
  have s2 := b2.size
  simp at s1 s2
  have B2 : Below x2.heap.size x2 (x2.iter (fl kd) 0) := below_iter x2 (fl kd) 0
  refine ⟨⟨?_, ?_, World.iter_heap x2 (fl kd) 0, ?_⟩, by omega, by omega⟩
  · rw [B2.block _ (by omega), b2.block _ (by simp; omega), Below.heap_alloc _ _ _ (by omega), b1.block _ (by simp)]
    exact heap_alloc_new w _
  · rw [B2.block _ (by omega), b2.block _ (by simp)]
    exact heap_alloc_new x1 _
  · have e1 : Below w.heap.size w x1 := ((Below.refl _ _).alloc (Nat.le_refl _) _).trans (b1.mono (by simp))
    exact ((e1.alloc (by omega) _).trans (b2.mono (by simp; omega))).trans (B2.mono (by omega))

set_option maxRecDepth 100000 in
set_option maxHeartbeats 2000000 in
theorem read_any (s : ByteArray) (w : World) (G : GlobE w) (hs : s.size ≤ 140737488355328) :
    Calls Tryd.prog 10 #[.string s] w fun e w' => ∃ k : Nat, k ≤ 25 ∧ (∀ j : Nat, j < 26 → nameOf (j : Int) = ⟨(cutW s.data.toList).toArray⟩ → k = j) ∧ Below w.heap.size w w' ∧ RdPost s.data.toList k e := by
  have hsl : s.data.toList.length = s.size := by rw [Array.length_toList]; rfl
  have HSL := hide hsl
  clear hsl
  have hg7 := G.size
  go_enter Tryd.func10, Tryd.ntmps10
  go_wp2_with fail
  go_at_call 23
  refine (cut_any s _ (by omega)).mono ?_
  rintro e x1 ⟨fd, rfl, b1⟩
  have hB1 : Below w.heap.size w x1 := ((Below.refl _ _).alloc (Nat.le_refl _) _).trans (b1.mono (by simp))
  have G1 := G.below hB1 hg7
  go_wp2_with fail
  go_at_call 24
  refine (named_any _ _ G1.toGlob).mono ?_
  rintro e x1' ⟨k, rfl, hx1', hk25, hkj⟩
  subst hx1'
  have HKJ := hide hkj
  clear hkj
  have hrow := row_any (k : Int)
  obtain ⟨kd, hkd⟩ : ∃ kd, kind (k : Int) = kd := ⟨_, rfl⟩
  rw [hkd] at hrow
  have HKD := hide hkd
  clear hkd
  go_wp2_with fail
  go_at_call 15
  refine (hrow _).mono ?_
  rintro e x2 ⟨p, q, rfl, hcl, b2⟩
  obtain ⟨S0, hl1, hl2⟩ := St.start (kd := kd) b1 b2
  clear hcl b1 b2 hB1 G1
  generalize hbi : x1'.heap.size = bi at *
  generalize hit : x2.heap.size = it at *
  have HRL : (cutR s.data.toList).length ≤ 140737488355328 := by have := (cut_len s.data.toList).2; have := unhide HSL; omega
  go_wp2_with fail
  go_loopw [5] (fun rv wr => ∃ (ix : Nat) (a b c m : Int) (rest : List UInt8), ix ≤ (fl kd).size ∧ rv = .string ⟨rest.toArray⟩ ∧ rest.length ≤ 140737488355328 ∧ Hid (parse ((fl kd).data.toList.drop ix) rest a b c m = parse (fl kd).data.toList (cutR s.data.toList) 0 0 0 0) ∧ St w bi it k a b c m kd ix wr) (fun _ wr => (fl kd).size - wr.iterPos it)
  case atStart => exact ⟨0, 0, 0, 0, 0, _, by omega, rfl, HRL, rfl, S0⟩
  case round =>
    obtain ⟨ix, a, b, c, m, rest, hix, rfl, hrl, HP, S⟩ := hrel
    clear HRL S0 hbi hit
    have hit := S.itr
    by_cases hp : ix < (fl kd).size
    · have ha := fl_ascii kd ix hp
      have hnx : ∀ ty, (Instr.next (.pointer (some ⟨it, 0, none⟩)) true ty).run Tryd.prog wr = _ := fun ty => Lib.run_next_ascii_at wr it (fl kd) ix ty hit hp ha
      have S1 := S.next hl1 hl2
      have HD : Hid ((fl kd).data.toList.drop ix = ((fl kd)[ix]'hp) :: (fl kd).data.toList.drop (ix + 1)) := List.drop_eq_getElem_cons (by simpa using hp)
      generalize ((fl kd)[ix]'hp) = r at *
      have hwl := word_len r rest
      have hcl := (cut_len rest).2
      have hmax : (⟨rest.toArray⟩ : ByteArray).size ≤ 9223372036854775806 := by rw [size_of_list]; omega
      have hcut : ∀ w', Calls Tryd.prog 23 #[.string ⟨rest.toArray⟩, .string ⟨#[32]⟩] w' fun e w'' => ∃ f, e = .returned (.tuple #[.string ⟨(cutW rest).toArray⟩, .string ⟨(cutR rest).toArray⟩, .bool f]) ∧ Below w'.heap.size w' w'' := fun w' => cut_any ⟨rest.toArray⟩ w' hmax
      have HW : Hid (wordOf r rest = if (r.toNat : Int) = 73 then cutW rest else Lib.trimPrefix (cutW rest) [114]) := rfl
      have HPK : Hid (∀ v, Lib.atoiAll (wordOf r rest) = .ok v → parse ((fl kd).data.toList.drop ix) rest a b c m = parse ((fl kd).data.toList.drop (ix + 1)) (cutR rest) (if (r.toNat : Int) = 65 then v else a) (if (r.toNat : Int) = 66 then v else b) (if (r.toNat : Int) = 67 then v else c) (if (r.toNat : Int) = 65 ∨ (r.toNat : Int) = 66 ∨ (r.toNat : Int) = 67 then m else v)) := fun v hv => by
        rw [unhide HD]
        exact parse_ok hv
      have HPB : Hid ((∀ v, Lib.atoiAll (wordOf r rest) ≠ .ok v) → parse ((fl kd).data.toList.drop ix) rest a b c m = none) := fun hv => by
        rw [unhide HD]
        exact parse_bad hv
      clear hmax HD
      generalize cutR rest = rest' at *
      have hcwl := (cut_len rest).1
      generalize cutW rest = cw at *
      by_cases h73 : (r.toNat : Int) = 73
      · have H73 := hide h73
        have h73' : ((r.toNat : Int) == 73) = true := by simpa using h73
        have HWO : Hid (wordOf r rest = cw) := by show _ = _; rw [unhide HW]; simp [h73]
        clear h73 HW
        by_cases hok : ∃ v, Lib.atoiAll cw = .ok v
        · obtain ⟨v, hv⟩ := hok
          obtain ⟨f, hf, -⟩ := fv_cell (k : Int) a b c m (r.toNat : Int)
          have HF := hide hf
          have HPP := hide (unhide HPK v (by rw [unhide HWO]; exact hv))
          have hat := fun w' => atoi_ok cw v w' (by omega) hv
          clear hf hv
          go_wp2_with fail
          go_at_call 23
          refine (hcut _).mono ?_
          rintro e y1 ⟨fd1, rfl, c1⟩
          have S2 := S1.below c1
          go_wp2_with fail
          go_at_call 26
          refine (hat _).mono ?_
          rintro e y2 ⟨rfl, c2⟩
          have S3 := S2.below c2
          have q0 : y2.cell? ⟨bi, 0, none⟩ = some (.int .i64 k) := by rw [Lib.cell_of_heap S3.ins]; rfl
          have qf : ∃ u, y2.cell? ⟨bi, f, none⟩ = some (.int .i64 u) := by
            obtain ⟨f', hf', hc'⟩ := fv_cell (k : Int) a b c m (r.toNat : Int)
            obtain rfl : f' = f := hf'.symm.trans (unhide HF)
            exact ⟨_, by rw [Lib.cell_of_heap S3.ins]; exact hc'⟩
          obtain ⟨u, qf⟩ := qf
          have qz : y2.frozen? ⟨bi, f, none⟩ = false := Lib.frozen_of_heap S3.ins f
          go_wp2_with fail
          go_at_call 19
          refine (field_at _ _ f _ _ q0 (unhide HF)).mono ?_
          rintro e y3 ⟨rfl, hy3⟩
          subst hy3
          have S4 := S3.store (v := v) hl1 hl2 (r.toNat : Int) f (unhide HF)
          go_wp2_with fail
          go_roundw
          case rel => exact ⟨ix + 1, _, _, _, _, rest', by omega, rfl, by omega, (unhide HPP).symm.trans (unhide HP), S4⟩
          case measure =>
            simp only [World.iterPos, S4.itr, hit]
            omega
        · have hno : ∀ v, Lib.atoiAll cw ≠ .ok v := fun v hv => hok ⟨v, hv⟩
          have HPP := hide (unhide HPB (by rw [unhide HWO]; exact hno))
          have hat := fun w' G' => atoi_bad cw w' G' (by omega) hno
          clear hok hno
          go_wp2_with fail
          go_at_call 23
          refine (hcut _).mono ?_
          rintro e y1 ⟨fd1, rfl, c1⟩
          have S2 := S1.below c1
          have G2 := G.below S2.bel hg7
          go_wp2_with fail
          go_at_call 26
          refine (hat _ G2).mono ?_
          rintro e y2 ⟨vv, N, rfl, c2⟩
          have S3 := S2.below c2
          have r0 : y2.cell? ⟨w.heap.size, 0, none⟩ = some (.int .i64 0) := by rw [Lib.cell_of_heap S3.res]; rfl
          have r1 : y2.cell? ⟨w.heap.size, 1, none⟩ = some (.int .i64 0) := by rw [Lib.cell_of_heap S3.res]; rfl
          have r2 : y2.cell? ⟨w.heap.size, 2, none⟩ = some (.int .i64 0) := by rw [Lib.cell_of_heap S3.res]; rfl
          have r3 : y2.cell? ⟨w.heap.size, 3, none⟩ = some (.int .i64 0) := by rw [Lib.cell_of_heap S3.res]; rfl
          have r4 : y2.cell? ⟨w.heap.size, 4, none⟩ = some (.int .i64 0) := by rw [Lib.cell_of_heap S3.res]; rfl
          have rf0 : y2.frozen? ⟨w.heap.size, 0, none⟩ = false := Lib.frozen_of_heap S3.res 0
          have rf1 : y2.frozen? ⟨w.heap.size, 1, none⟩ = false := Lib.frozen_of_heap S3.res 1
          have rf2 : y2.frozen? ⟨w.heap.size, 2, none⟩ = false := Lib.frozen_of_heap S3.res 2
          have rf3 : y2.frozen? ⟨w.heap.size, 3, none⟩ = false := Lib.frozen_of_heap S3.res 3
          have rf4 : y2.frozen? ⟨w.heap.size, 4, none⟩ = false := Lib.frozen_of_heap S3.res 4
          go_wp2_with fail
          refine bodyPost_ret (v := .tuple #[.agg #[.int .i64 0, .int .i64 0, .int .i64 0, .int .i64 0, .int .i64 0], .int .i64 2]) (by simp [results, Tryd.results10, go_sem, r0, r1, r2, r3, r4]) rfl ⟨k, hk25, unhide HKJ, ?_, Or.inr ⟨?_, rfl⟩⟩
          · exact ((((S3.bel.setCell (by simp) _).setCell (by simp) _).setCell (by simp) _).setCell (by simp) _).setCell (by simp) _
          · intro a' b' c' m' h1
            rw [unhide HKD, ← unhide HP, unhide HPP] at h1
            cases h1
      · have H73 := hide h73
        have h73' : ((r.toNat : Int) == 73) = false := by simpa using h73
        have HWO : Hid (wordOf r rest = Lib.trimPrefix cw [114]) := by show _ = _; rw [unhide HW]; simp [h73]
        have htl := trim_len cw [114]
        clear h73 HW
        by_cases hok : ∃ v, Lib.atoiAll (Lib.trimPrefix cw [114]) = .ok v
        · obtain ⟨v, hv⟩ := hok
          obtain ⟨f, hf, -⟩ := fv_cell (k : Int) a b c m (r.toNat : Int)
          have HF := hide hf
          have HPP := hide (unhide HPK v (by rw [unhide HWO]; exact hv))
          have hat := fun w' => atoi_ok (Lib.trimPrefix cw [114]) v w' (by omega) hv
          clear hf hv
          go_wp2_with fail
          go_at_call 23
          refine (hcut _).mono ?_
          rintro e y1 ⟨fd1, rfl, c1⟩
          have S2 := S1.below c1
          go_wp2_with fail
          go_at_call 25
          refine (Tryd.strings_TrimPrefix _ _ _).mono ?_
          rintro e y1' ⟨rfl, hy1'⟩
          subst hy1'
          go_wp2_with fail
          go_at_call 26
          refine (hat _).mono ?_
          rintro e y2 ⟨rfl, c2⟩
          have S3 := S2.below c2
          have q0 : y2.cell? ⟨bi, 0, none⟩ = some (.int .i64 k) := by rw [Lib.cell_of_heap S3.ins]; rfl
          have qf : ∃ u, y2.cell? ⟨bi, f, none⟩ = some (.int .i64 u) := by
            obtain ⟨f', hf', hc'⟩ := fv_cell (k : Int) a b c m (r.toNat : Int)
            obtain rfl : f' = f := hf'.symm.trans (unhide HF)
            exact ⟨_, by rw [Lib.cell_of_heap S3.ins]; exact hc'⟩
          obtain ⟨u, qf⟩ := qf
          have qz : y2.frozen? ⟨bi, f, none⟩ = false := Lib.frozen_of_heap S3.ins f
          go_wp2_with fail
          go_at_call 19
          refine (field_at _ _ f _ _ q0 (unhide HF)).mono ?_
          rintro e y3 ⟨rfl, hy3⟩
          subst hy3
          have S4 := S3.store (v := v) hl1 hl2 (r.toNat : Int) f (unhide HF)
          go_wp2_with fail
          go_roundw
          case rel => exact ⟨ix + 1, _, _, _, _, rest', by omega, rfl, by omega, (unhide HPP).symm.trans (unhide HP), S4⟩
          case measure =>
            simp only [World.iterPos, S4.itr, hit]
            omega
        · have hno : ∀ v, Lib.atoiAll (Lib.trimPrefix cw [114]) ≠ .ok v := fun v hv => hok ⟨v, hv⟩
          have HPP := hide (unhide HPB (by rw [unhide HWO]; exact hno))
          have hat := fun w' G' => atoi_bad (Lib.trimPrefix cw [114]) w' G' (by omega) hno
          clear hok hno
          go_wp2_with fail
          go_at_call 23
          refine (hcut _).mono ?_
          rintro e y1 ⟨fd1, rfl, c1⟩
          have S2 := S1.below c1
          have G2 := G.below S2.bel hg7
          go_wp2_with fail
          go_at_call 25
          refine (Tryd.strings_TrimPrefix _ _ _).mono ?_
          rintro e y1' ⟨rfl, hy1'⟩
          subst hy1'
          go_wp2_with fail
          go_at_call 26
          refine (hat _ G2).mono ?_
          rintro e y2 ⟨vv, N, rfl, c2⟩
          have S3 := S2.below c2
          have r0 : y2.cell? ⟨w.heap.size, 0, none⟩ = some (.int .i64 0) := by rw [Lib.cell_of_heap S3.res]; rfl
          have r1 : y2.cell? ⟨w.heap.size, 1, none⟩ = some (.int .i64 0) := by rw [Lib.cell_of_heap S3.res]; rfl
          have r2 : y2.cell? ⟨w.heap.size, 2, none⟩ = some (.int .i64 0) := by rw [Lib.cell_of_heap S3.res]; rfl
          have r3 : y2.cell? ⟨w.heap.size, 3, none⟩ = some (.int .i64 0) := by rw [Lib.cell_of_heap S3.res]; rfl
          have r4 : y2.cell? ⟨w.heap.size, 4, none⟩ = some (.int .i64 0) := by rw [Lib.cell_of_heap S3.res]; rfl
          have rf0 : y2.frozen? ⟨w.heap.size, 0, none⟩ = false := Lib.frozen_of_heap S3.res 0
          have rf1 : y2.frozen? ⟨w.heap.size, 1, none⟩ = false := Lib.frozen_of_heap S3.res 1
          have rf2 : y2.frozen? ⟨w.heap.size, 2, none⟩ = false := Lib.frozen_of_heap S3.res 2
          have rf3 : y2.frozen? ⟨w.heap.size, 3, none⟩ = false := Lib.frozen_of_heap S3.res 3
          have rf4 : y2.frozen? ⟨w.heap.size, 4, none⟩ = false := Lib.frozen_of_heap S3.res 4
          go_wp2_with fail
          refine bodyPost_ret (v := .tuple #[.agg #[.int .i64 0, .int .i64 0, .int .i64 0, .int .i64 0, .int .i64 0], .int .i64 2]) (by simp [results, Tryd.results10, go_sem, r0, r1, r2, r3, r4]) rfl ⟨k, hk25, unhide HKJ, ?_, Or.inr ⟨?_, rfl⟩⟩
          · exact ((((S3.bel.setCell (by simp) _).setCell (by simp) _).setCell (by simp) _).setCell (by simp) _).setCell (by simp) _
          · intro a' b' c' m' h1
            rw [unhide HKD, ← unhide HP, unhide HPP] at h1
            cases h1
    · have hk2 : ix = (fl kd).size := by omega
      have hnx : ∀ ty, (Instr.next (.pointer (some ⟨it, 0, none⟩)) true ty).run Tryd.prog wr = _ := fun ty => Lib.run_next_end_at wr it (fl kd) ix ty hit hp
      have HPE : Hid (parse (fl kd).data.toList (cutR s.data.toList) 0 0 0 0 = some (a, b, c, m)) := by
        show _ = _
        rw [← unhide HP, hk2, List.drop_of_length_le (by rw [Array.length_toList]; exact Nat.le_refl _), parse]
      have i0 : wr.cell? ⟨bi, 0, none⟩ = some (.int .i64 k) := by rw [Lib.cell_of_heap S.ins]; rfl
      have i1 : wr.cell? ⟨bi, 1, none⟩ = some (.int .i64 a) := by rw [Lib.cell_of_heap S.ins]; rfl
      have i2 : wr.cell? ⟨bi, 2, none⟩ = some (.int .i64 b) := by rw [Lib.cell_of_heap S.ins]; rfl
      have i3 : wr.cell? ⟨bi, 3, none⟩ = some (.int .i64 c) := by rw [Lib.cell_of_heap S.ins]; rfl
      have i4 : wr.cell? ⟨bi, 4, none⟩ = some (.int .i64 m) := by rw [Lib.cell_of_heap S.ins]; rfl
      by_cases hck : ckN k a b c m = 0
      · have htx := text_ok k a b c m wr (G.toGlob.below S.bel hg7) hck
        by_cases htl : textL k a b c m = s.data.toList
        · have heq : (⟨(textL k a b c m).toArray⟩ : ByteArray) = s := by rw [htl]
          rw [heq] at htx
          have HE := hide (And.intro hck htl)
          clear heq hck htl
          go_wp2_with fail
          go_at_call 8
          refine htx.mono ?_
          rintro e y ⟨rfl, cb⟩
          have S2 := S.below cb
          obtain ⟨hce, hfr⟩ := bcell cb
          have hzi : bi < wr.heap.size := lt_of_heap S.ins
          have r0 : y.cell? ⟨w.heap.size, 0, none⟩ = some (.int .i64 0) := by rw [Lib.cell_of_heap S2.res]; rfl
          have r1 : y.cell? ⟨w.heap.size, 1, none⟩ = some (.int .i64 0) := by rw [Lib.cell_of_heap S2.res]; rfl
          have r2 : y.cell? ⟨w.heap.size, 2, none⟩ = some (.int .i64 0) := by rw [Lib.cell_of_heap S2.res]; rfl
          have r3 : y.cell? ⟨w.heap.size, 3, none⟩ = some (.int .i64 0) := by rw [Lib.cell_of_heap S2.res]; rfl
          have r4 : y.cell? ⟨w.heap.size, 4, none⟩ = some (.int .i64 0) := by rw [Lib.cell_of_heap S2.res]; rfl
          have rf0 : y.frozen? ⟨w.heap.size, 0, none⟩ = false := Lib.frozen_of_heap S2.res 0
          have rf1 : y.frozen? ⟨w.heap.size, 1, none⟩ = false := Lib.frozen_of_heap S2.res 1
          have rf2 : y.frozen? ⟨w.heap.size, 2, none⟩ = false := Lib.frozen_of_heap S2.res 2
          have rf3 : y.frozen? ⟨w.heap.size, 3, none⟩ = false := Lib.frozen_of_heap S2.res 3
          have rf4 : y.frozen? ⟨w.heap.size, 4, none⟩ = false := Lib.frozen_of_heap S2.res 4
          have j0 : y.cell? ⟨bi, 0, none⟩ = some (.int .i64 k) := by rw [Lib.cell_of_heap S2.ins]; rfl
          have j1 : y.cell? ⟨bi, 1, none⟩ = some (.int .i64 a) := by rw [Lib.cell_of_heap S2.ins]; rfl
          have j2 : y.cell? ⟨bi, 2, none⟩ = some (.int .i64 b) := by rw [Lib.cell_of_heap S2.ins]; rfl
          have j3 : y.cell? ⟨bi, 3, none⟩ = some (.int .i64 c) := by rw [Lib.cell_of_heap S2.ins]; rfl
          have j4 : y.cell? ⟨bi, 4, none⟩ = some (.int .i64 m) := by rw [Lib.cell_of_heap S2.ins]; rfl
          clear hce hfr
          go_wp2_with fail
          refine bodyPost_ret (v := .tuple #[.agg #[.int .i64 k, .int .i64 a, .int .i64 b, .int .i64 c, .int .i64 m], .int .i64 0]) (by simp [results, Tryd.results10, go_sem, r0, r1, r2, r3, r4]) rfl ⟨k, hk25, unhide HKJ, ?_, Or.inl ⟨a, b, c, m, ?_, (unhide HE).1, (unhide HE).2, rfl⟩⟩
          · exact ((((S2.bel.setCell (by simp) _).setCell (by simp) _).setCell (by simp) _).setCell (by simp) _).setCell (by simp) _
          · rw [unhide HKD]; exact unhide HPE
        · have hne : ¬ (⟨(textL k a b c m).toArray⟩ : ByteArray) = s := by
            intro e
            exact htl (by rw [← e])
          have hne' := str_ne hne
          have HE := hide htl
          clear hne hck htl
          generalize (⟨(textL k a b c m).toArray⟩ : ByteArray) = tx at *
          go_wp2_with fail
          go_at_call 8
          refine htx.mono ?_
          rintro e y ⟨rfl, cb⟩
          have S2 := S.below cb
          have r0 : y.cell? ⟨w.heap.size, 0, none⟩ = some (.int .i64 0) := by rw [Lib.cell_of_heap S2.res]; rfl
          have r1 : y.cell? ⟨w.heap.size, 1, none⟩ = some (.int .i64 0) := by rw [Lib.cell_of_heap S2.res]; rfl
          have r2 : y.cell? ⟨w.heap.size, 2, none⟩ = some (.int .i64 0) := by rw [Lib.cell_of_heap S2.res]; rfl
          have r3 : y.cell? ⟨w.heap.size, 3, none⟩ = some (.int .i64 0) := by rw [Lib.cell_of_heap S2.res]; rfl
          have r4 : y.cell? ⟨w.heap.size, 4, none⟩ = some (.int .i64 0) := by rw [Lib.cell_of_heap S2.res]; rfl
          have rf0 : y.frozen? ⟨w.heap.size, 0, none⟩ = false := Lib.frozen_of_heap S2.res 0
          have rf1 : y.frozen? ⟨w.heap.size, 1, none⟩ = false := Lib.frozen_of_heap S2.res 1
          have rf2 : y.frozen? ⟨w.heap.size, 2, none⟩ = false := Lib.frozen_of_heap S2.res 2
          have rf3 : y.frozen? ⟨w.heap.size, 3, none⟩ = false := Lib.frozen_of_heap S2.res 3
          have rf4 : y.frozen? ⟨w.heap.size, 4, none⟩ = false := Lib.frozen_of_heap S2.res 4
          go_wp2_with fail
          refine bodyPost_ret (v := .tuple #[.agg #[.int .i64 0, .int .i64 0, .int .i64 0, .int .i64 0, .int .i64 0], .int .i64 2]) (by simp [results, Tryd.results10, go_sem, r0, r1, r2, r3, r4]) rfl ⟨k, hk25, unhide HKJ, ?_, Or.inr ⟨?_, rfl⟩⟩
          · exact ((((S2.bel.setCell (by simp) _).setCell (by simp) _).setCell (by simp) _).setCell (by simp) _).setCell (by simp) _
          · intro a' b' c' m' h1 h2 h3
            rw [unhide HKD, unhide HPE] at h1
            injection h1 with h1
            simp only [Prod.mk.injEq] at h1
            obtain ⟨rfl, rfl, rfl, rfl⟩ := h1
            exact unhide HE h3
      · obtain ⟨ck, hckd⟩ : ∃ ck, ckN k a b c m = ck := ⟨_, rfl⟩
        have HE := hide hck
        rw [hckd] at hck
        have hck' : (ck == 0) = false := by simpa using hck
        have htx := text_bad k a b c m ck wr hckd hck'
        have HCK := hide hckd
        clear hckd
        go_wp2_with fail
        go_at_call 8
        refine htx.mono ?_
        rintro e y ⟨rfl, cb⟩
        have S2 := S.below cb
        have r0 : y.cell? ⟨w.heap.size, 0, none⟩ = some (.int .i64 0) := by rw [Lib.cell_of_heap S2.res]; rfl
        have r1 : y.cell? ⟨w.heap.size, 1, none⟩ = some (.int .i64 0) := by rw [Lib.cell_of_heap S2.res]; rfl
        have r2 : y.cell? ⟨w.heap.size, 2, none⟩ = some (.int .i64 0) := by rw [Lib.cell_of_heap S2.res]; rfl
        have r3 : y.cell? ⟨w.heap.size, 3, none⟩ = some (.int .i64 0) := by rw [Lib.cell_of_heap S2.res]; rfl
        have r4 : y.cell? ⟨w.heap.size, 4, none⟩ = some (.int .i64 0) := by rw [Lib.cell_of_heap S2.res]; rfl
        have rf0 : y.frozen? ⟨w.heap.size, 0, none⟩ = false := Lib.frozen_of_heap S2.res 0
        have rf1 : y.frozen? ⟨w.heap.size, 1, none⟩ = false := Lib.frozen_of_heap S2.res 1
        have rf2 : y.frozen? ⟨w.heap.size, 2, none⟩ = false := Lib.frozen_of_heap S2.res 2
        have rf3 : y.frozen? ⟨w.heap.size, 3, none⟩ = false := Lib.frozen_of_heap S2.res 3
        have rf4 : y.frozen? ⟨w.heap.size, 4, none⟩ = false := Lib.frozen_of_heap S2.res 4
        go_wp2_with fail
        refine bodyPost_ret (v := .tuple #[.agg #[.int .i64 0, .int .i64 0, .int .i64 0, .int .i64 0, .int .i64 0], .int .i64 2]) (by simp [results, Tryd.results10, go_sem, r0, r1, r2, r3, r4]) rfl ⟨k, hk25, unhide HKJ, ?_, Or.inr ⟨?_, rfl⟩⟩
        · exact ((((S2.bel.setCell (by simp) _).setCell (by simp) _).setCell (by simp) _).setCell (by simp) _).setCell (by simp) _
        · intro a' b' c' m' h1 h2 h3
          rw [unhide HKD, unhide HPE] at h1
          injection h1 with h1
          simp only [Prod.mk.injEq] at h1
          obtain ⟨rfl, rfl, rfl, rfl⟩ := h1
          exact unhide HE h2
end Go.Proofs.YtplenmhkhaoapaaDoor.W
