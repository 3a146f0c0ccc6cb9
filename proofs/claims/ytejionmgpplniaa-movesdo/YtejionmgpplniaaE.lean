/- The contract of the reference's Row. -/
import Derived.Test.YtejionmgpplniaaD
namespace Go.Proofs.Ytejionmgpplniaa.T
open Go.RowKit
set_option linter.unusedVariables false
set_option linter.unusedSimpArgs false
/-- What is at places behind a row of moves, one by one. -/
def rowL (L : List (Lc × Lc)) : List (Lc × Lc) := L.foldl (fun out m => out ++ [(m.2, atN out m.1)]) []
theorem rowL_snoc (L : List (Lc × Lc)) (m : Lc × Lc) : rowL (L ++ [m]) = rowL L ++ [(m.2, atN (rowL L) m.1)] := by unfold rowL; rw [List.foldl_append]; rfl
theorem rowL_len (L : List (Lc × Lc)) : ∀ k, k ≤ L.length → (rowL (L.take k)).length = k
  | 0, _ => by simp [rowL]
  | k + 1, h => by
    rw [(List.take_append_getElem (show k < L.length by omega)).symm, rowL_snoc]
    simp [rowL_len L k (by omega)]
set_option maxRecDepth 100000 in
set_option maxHeartbeats 2000000 in
theorem row_any (v : Value) (L : List (Lc × Lc)) (w : World) (hL : Prs w v L) (hl : L.length ≤ 1000) :
    Calls Try.prog 7 #[v] w fun e w' => ∃ u, e = .returned u ∧ w'.ownsRow w.heap.size 41 4 u L.length (prV (rowL L)) ∧ Below w.heap.size w w' := by
  obtain ⟨a, c, rfl, H⟩ := hL
  have HH := hide H
  clear H
  go_enter Try.func7, Try.ntmps7
  go_wp2_with fail
  go_loopw [3, 4] (fun u i wr => ∃ k : Nat, k ≤ L.length ∧ i = .int .i64 k ∧ Hid (Fr w.heap.size w wr [.row u 41 4 k (prV (rowL (L.take k)))])) (fun _ i _ => L.length - (intOf i).toNat)
  case atStart => exact ⟨0, Nat.zero_le _, rfl, (Fr.start w).nil 41 4⟩
  case round =>
    obtain ⟨k, hk, rfl, HF⟩ := hrel
    by_cases hlt : k < L.length
    · have hlt' : (k : Int) < L.length := by omega
      have hidx : (0 : Int) ≤ k ∧ (k : Int) < L.length := by omega
      obtain ⟨g, o, rfl, hg, E⟩ := HH.out (by omega)
      obtain ⟨d0, d1, d2, d3⟩ := E k hlt
      have hb := HF.out.below
      have e0 := (hb.cell (p := ⟨g, o + k * 4, none⟩) hg).trans d0
      have e1 := (hb.cell (p := ⟨g, o + k * 4 + 1, none⟩) hg).trans d1
      have HD : Hid (∀ w', Below w.heap.size w w' → w'.cell? ⟨g, o + k * 4 + 2, none⟩ = some (.bool L[k].2.1) ∧ w'.cell? ⟨g, o + k * 4 + 3, none⟩ = some (.int .i64 L[k].2.2)) := fun w' hb => ⟨(hb.cell (p := ⟨g, o + k * 4 + 2, none⟩) hg).trans d2, (hb.cell (p := ⟨g, o + k * 4 + 3, none⟩) hg).trans d3⟩
      clear E d0 d1 d2 d3 hb
      have HT : Hid (rowL (L.take (k + 1)) = rowL (L.take k) ++ [(L[k].2, atN (rowL (L.take k)) L[k].1)]) := by show _ = _; rw [(List.take_append_getElem hlt).symm, rowL_snoc]
      have hlen := rowL_len L k hk
      have HP : Hid (Prs wr u3 (rowL (L.take k))) := Prs.of (ob := w.heap.size) (e := 41) (by rw [hlen]; exact HF.out.get (i := 0) rfl)
      generalize L[k] = y at *
      obtain ⟨⟨s1, x1⟩, ⟨s2, x2⟩⟩ := y
      simp only at e0 e1 HD HT
      have HC := hide (at_any u3 (rowL (L.take k)) s1 x1 wr HP.out (by omega))
      clear HP hlen
      generalize atN (rowL (L.take k)) (s1, x1) = r at *
      obtain ⟨r1, r2⟩ := r
      simp only at HC
      go_wp2_with fail
      go_at_call 8
      refine HC.out.mono ?_
      rintro e w1 ⟨rfl, hb1⟩
      replace HF := hide ((HF.out.call hb1).alloc rfl #[.bool r1, .int .i64 r2] 31)
      clear hb1 HC e0 e1
      obtain ⟨e2, e3⟩ := HD.out _ HF.out.below
      have xc := HF.out.cell 0 rfl
      go_wp2_with fail
      generalize hxb : w1.heap.size = xb at *
      generalize hwa : w1.alloc _ = wa at *
      clear hxb hwa
      have HA := ((HF.out.alloc rfl #[.bool s2, .int .i64 x2, .bool r1, .int .i64 r2] 41).drew)
      go_region_law (refine Fr.stepOne 27 info41 Try.underlying27 rfl (by decide) (by decide) HA 1 (v := u3) (n := k) rfl (by omega) (.tmp 19) (.tmp 27) rfl rfl rfl rfl rfl rfl ?_; intro g7 cap7 w7 h7 _; have HF7 := hide h7; clear h7)
      all_goals
        go_wp2_with fail
        go_roundw
        case rel => exact ⟨k + 1, by omega, by go_num, by rw [HT.out, prV_snoc]; exact HF7.out.tail⟩
        case measure => simp [intOf]; omega
    · obtain rfl : k = L.length := by omega
      have hlt' : ¬ (L.length : Int) < L.length := by omega
      go_wp2_with fail
      go_ret
      refine ⟨_, rfl, ?_, HF.out.below⟩
      have hx := HF.out.get (i := 0) rfl
      rw [List.take_length] at hx
      exact hx
end Go.Proofs.Ytejionmgpplniaa.T
