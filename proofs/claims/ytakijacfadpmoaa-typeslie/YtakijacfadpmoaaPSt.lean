/- The contract of the program's structText. -/
import Derived.Test.YtakijacfadpmoaaPWords
import Derived.Test.YtakijacfadpmoaaText
namespace Go.Proofs.Ytakijacfadpmoaa.T
open Go.RowKit
set_option linter.unusedVariables false
set_option linter.unusedSimpArgs false
variable {kind : Int} {name : ByteArray} {nn : Nat} {names : Nat → ByteArray} {pn : Nat} {parts : Nat → Ty} {many : Bool}
set_option maxRecDepth 100000 in
set_option maxHeartbeats 2000000 in
theorem ptext_struct (d : Nat) (hd3 : d ≤ 3) (ih : Hid (∀ i, i < pn → ∀ v w, TyV w (parts i) v → Calls Try.prog 24 #[v] w fun e w' => e = .returned (.string (strOf (textT (parts i)))) ∧ Below w.heap.size w w')) (hm : mayN (d + 1) (.mk 3 name nn names pn parts many) = true) (v : Value) (w : World)
    (hv : TyV w (.mk 3 name nn names pn parts many) v) : Calls Try.prog 32 #[v] w fun e w' => e = .returned (.string (strOf (textT (.mk 3 name nn names pn parts many)))) ∧ Below w.heap.size w w' := by
  have F := may_facts hm
  obtain ⟨na, nc, pa, pc, rfl, hS, q1, q2, q3, q4, q5, q6, q7, HP⟩ := hv.part
  have hB0 : Below w.heap.size w (w.alloc (.cells #[.int .i64 3, .string name, .slice na nn nc, .slice pa pn pc, .bool many] 25)) := (Below.refl _ _).alloc (Nat.le_refl _) _
  have HT := hide hv
  have HS := hide hS
  clear hv hS hm
  have HLn : Hid (∀ i, i < pn → (textT (parts i)).length ≤ 22800) := fun i hi => Nat.le_trans (text_len (F.2.2.1 i hi)) (lenB_le hd3)
  obtain ⟨hp7, hn16, HN16, rfl⟩ : pn ≤ 7 ∧ name.size ≤ 16 ∧ Hid (∀ i, i < pn → (names i).size ≤ 16) ∧ nn = pn := by
    rcases F.2.2.2 with ⟨_, _, a2, _, _, e, a6, _⟩ | ⟨e, _⟩ | ⟨e, _⟩ | ⟨e, _⟩
    · exact ⟨F.1, name_len a2, fun i hi => name_len (a6 i hi), e⟩
    all_goals omega
  clear F
  have HE : Hid (textT (.mk 3 name nn names nn parts many) = [115, 116, 114, 117, 99, 116, 32] ++ bytes name ++ [123] ++ ((List.range nn).flatMap fun i => textT (parts i) ++ [32] ++ bytes (names i) ++ [59]) ++ [125]) := by
    show _ = _
    rw [textT_mk, if_neg (by decide), if_neg (by decide), if_pos rfl]
  go_enter Try.func32, Try.ntmps32
  go_wp2_with fail
  have hx0 : ∀ o, (w.alloc (.cells #[Value.int .i64 3, .string name, .slice na nn nc, .slice pa nn pc, .bool many] 25)).cell? ⟨w.heap.size, o, none⟩ = (#[Value.int .i64 3, .string name, .slice na nn nc, .slice pa nn pc, .bool many])[o]? := fun o => World.cell?_alloc_at _ _ _ _ rfl
  have hz0 : (w.alloc (.cells #[Value.int .i64 3, .string name, .slice na nn nc, .slice pa nn pc, .bool many] 25)).heap.size = w.heap.size + 1 := by simp
  generalize w.alloc (.cells #[Value.int .i64 3, .string name, .slice na nn nc, .slice pa nn pc, .bool many] 25) = W at *
  have HW : Hid (∀ w', Below W.heap.size W w' → Below w.heap.size w w') := fun w' hw => hB0.trans (hw.mono (by omega))
  have HXc : Hid (∀ w', Below W.heap.size W w' → ∀ o, w'.cell? ⟨w.heap.size, o, none⟩ = (#[Value.int .i64 3, .string name, .slice na nn nc, .slice pa nn pc, .bool many])[o]?) := fun w' hw o => (hw.cell (p := ⟨w.heap.size, o, none⟩) (by show w.heap.size < _; omega)).trans (hx0 o)
  clear hx0 hz0 hB0
  go_loopw [3, 13] (fun s i wr => ∃ (k : Nat) (x : ByteArray), k ≤ nn ∧ x.size ≤ 30 + k * 30000 ∧ s = .string x ∧ i = .int .i64 k ∧ Hid (Below W.heap.size W wr) ∧ Hid (bytes x = [115, 116, 114, 117, 99, 116, 32] ++ bytes name ++ [123] ++ ((List.range k).flatMap fun i => textT (parts i) ++ [32] ++ bytes (names i) ++ [59]))) (fun _ i _ => nn - (intOf i).toNat)
  case atStart => exact ⟨0, _, Nat.zero_le _, by rw [← size_bytes, bytes_append, bytes_append, List.length_append, List.length_append, size_bytes name]; show 7 + name.size + 1 ≤ _; omega, rfl, rfl, Below.refl _ _, by show _ = _; rw [bytes_append, bytes_append]; simp; rfl⟩
  case round =>
    obtain ⟨k, x, hk, hxs, rfl, rfl, HB, HX⟩ := hrel
    have hx1 := HXc.out wr HB.out
    by_cases hlt : k < nn
    · have hlt' : (k : Int) < nn := by omega
      have hidx : (0 : Int) ≤ k ∧ (k : Int) < nn := by omega
      obtain ⟨b, o, rfl, hb, hc⟩ := HP.out (by omega)
      obtain ⟨c0, c1, c2, c3, c4, g0, g1, g2, g3, g4, g5⟩ := hc k hlt
      obtain ⟨kd, nm, xa, xn, xc, ya, yn, yc, my, rfl, rfl, rfl, rfl, rfl⟩ := g5.shape
      have hcal := fun w' (hw : Below W.heap.size W w') => ih.out k hlt _ w' (g5.below (HW.out w' hw))
      have e0 : wr.cell? ⟨b, o + k * 5, none⟩ = some (.int .i64 kd) := ((HW.out _ HB.out).cell (p := ⟨b, o + k * 5, none⟩) hb).trans g0
      have e1 : wr.cell? ⟨b, o + k * 5 + 1, none⟩ = some (.string nm) := ((HW.out _ HB.out).cell (p := ⟨b, o + k * 5 + 1, none⟩) hb).trans g1
      have e2 : wr.cell? ⟨b, o + k * 5 + 2, none⟩ = some (.slice xa xn xc) := ((HW.out _ HB.out).cell (p := ⟨b, o + k * 5 + 2, none⟩) hb).trans g2
      have e3 : wr.cell? ⟨b, o + k * 5 + 3, none⟩ = some (.slice ya yn yc) := ((HW.out _ HB.out).cell (p := ⟨b, o + k * 5 + 3, none⟩) hb).trans g3
      have e4 : wr.cell? ⟨b, o + k * 5 + 4, none⟩ = some (.bool my) := ((HW.out _ HB.out).cell (p := ⟨b, o + k * 5 + 4, none⟩) hb).trans g4
      clear g0 g1 g2 g3 g4 g5 hc
      obtain ⟨b', o', rfl, hb', hc'⟩ := HS.out (by omega)
      have HC' := hide hc'
      clear hc'
      have hts := HLn.out k hlt
      have hns := HN16.out k hlt
      generalize hte : textT (parts k) = te at *
      have hts2 : (strOf te).size ≤ 22800 := hts
      have HTe := hide hte
      clear hte
      go_wp2_with fail
      have HBa : Hid (Below W.heap.size W (wr.alloc (.cells #[Value.int .i64 kd, .string nm, .slice xa xn xc, .slice ya yn yc, .bool my] 25))) := HB.out.alloc HB.out.size _
      have hpx : ∀ o, (wr.alloc (.cells #[Value.int .i64 kd, .string nm, .slice xa xn xc, .slice ya yn yc, .bool my] 25)).cell? ⟨wr.heap.size, o, none⟩ = (#[Value.int .i64 kd, .string nm, .slice xa xn xc, .slice ya yn yc, .bool my])[o]? := fun o => World.cell?_alloc_at _ _ _ _ rfl
      have hzx : (wr.alloc (.cells #[Value.int .i64 kd, .string nm, .slice xa xn xc, .slice ya yn yc, .bool my] 25)).heap.size = wr.heap.size + 1 := by simp
      have HSb : Hid (∀ w', Below (wr.heap.size + 1) (wr.alloc (.cells #[Value.int .i64 kd, .string nm, .slice xa xn xc, .slice ya yn yc, .bool my] 25)) w' → (fun w' => (∀ oo, w'.cell? ⟨w.heap.size, oo, none⟩ = (#[Value.int .i64 3, .string name, .slice (some ⟨b', o', none⟩) nn nc, .slice (some ⟨b, o, none⟩) nn pc, .bool many])[oo]?) ∧ (∀ o, w'.cell? ⟨wr.heap.size, o, none⟩ = (#[Value.int .i64 kd, .string nm, .slice xa xn xc, .slice ya yn yc, .bool my])[o]?) ∧ w'.cell? ⟨b', o' + k, none⟩ = some (.string (names k))) w') := fun w' hw =>
        ⟨HXc.out w' (HBa.out.trans (hw.mono (by have := HB.out.size; omega))), fun o => (hw.cell (p := ⟨wr.heap.size, o, none⟩) (by show wr.heap.size < _; omega)).trans (hpx o), ((HW.out _ (HBa.out.trans (hw.mono (by have := HB.out.size; omega)))).cell (p := ⟨b', o' + k, none⟩) hb').trans (HC'.out k hlt)⟩
      clear hx1 e0 e1 e2 e3 e4
      have HBd : Hid (Below (wr.heap.size + 1) (wr.alloc (.cells #[Value.int .i64 kd, .string nm, .slice xa xn xc, .slice ya yn yc, .bool my] 25)) (wr.alloc (.cells #[Value.int .i64 kd, .string nm, .slice xa xn xc, .slice ya yn yc, .bool my] 25)).drew) := (Below.refl _ _).drew
      refine wp_region_held_drew (S := (fun w' => (∀ oo, w'.cell? ⟨w.heap.size, oo, none⟩ = (#[Value.int .i64 3, .string name, .slice (some ⟨b', o', none⟩) nn nc, .slice (some ⟨b, o, none⟩) nn pc, .bool many])[oo]?) ∧ (∀ o, w'.cell? ⟨wr.heap.size, o, none⟩ = (#[Value.int .i64 kd, .string nm, .slice xa xn xc, .slice ya yn yc, .bool my])[o]?) ∧ w'.cell? ⟨b', o' + k, none⟩ = some (.string (names k)))) (by kernel_rfl) (HSb.out _ HBd.out) (fun hHeld => ?_)
      refine wpAnyH_take (i := 0) (v := ?_) rfl (by kernel_rfl) (by kernel_rfl) (by kernel_rfl) (fun _ _ _ h => h) (Or.inl ⟨by rfl, ?_⟩) (by assumption) ?_
      rotate_left
      · (intro w hSw; (try dsimp only at hSw); go_simp) <;> with_reducible rfl
      (simp only [Act.put, List.getElem_toArray, List.getElem_cons_zero, List.getElem_cons_succ, List.setIfInBounds_toArray, List.set_cons_zero, List.set_cons_succ])
      refine wpAnyH_take (i := 1) (v := ?_) rfl (by kernel_rfl) (by kernel_rfl) (by kernel_rfl) (fun _ _ _ h => h) (Or.inl ⟨by rfl, ?_⟩) (by assumption) ?_
      rotate_left
      · (intro w hSw; (try dsimp only at hSw); go_simp) <;> with_reducible rfl
      (simp only [Act.put, List.getElem_toArray, List.getElem_cons_zero, List.getElem_cons_succ, List.setIfInBounds_toArray, List.set_cons_zero, List.set_cons_succ])
      refine wpAnyH_take (i := 4) (v := ?_) rfl (by kernel_rfl) (by kernel_rfl) (by kernel_rfl) (fun _ _ _ h => h) (Or.inl ⟨by rfl, ?_⟩) (by assumption) ?_
      rotate_left
      · (intro w hSw; (try dsimp only at hSw); go_simp) <;> with_reducible rfl
      (simp only [Act.put, List.getElem_toArray, List.getElem_cons_zero, List.getElem_cons_succ, List.setIfInBounds_toArray, List.set_cons_zero, List.set_cons_succ])
      refine wpAnyH_take (i := 5) (v := ?_) rfl (by kernel_rfl) (by kernel_rfl) (by kernel_rfl) (fun _ _ _ h => h) (Or.inl ⟨by rfl, ?_⟩) (by assumption) ?_
      rotate_left
      · (intro w hSw; (try dsimp only at hSw); go_simp) <;> with_reducible rfl
      (simp only [Act.put, List.getElem_toArray, List.getElem_cons_zero, List.getElem_cons_succ, List.setIfInBounds_toArray, List.set_cons_zero, List.set_cons_succ])
      refine wpAnyH_take (i := 6) (v := ?_) rfl (by kernel_rfl) (by kernel_rfl) (by kernel_rfl) (fun _ _ _ h => h) (Or.inl ⟨by rfl, ?_⟩) (by assumption) ?_
      rotate_left
      · (intro w hSw; (try dsimp only at hSw); go_simp) <;> with_reducible rfl
      (simp only [Act.put, List.getElem_toArray, List.getElem_cons_zero, List.getElem_cons_succ, List.setIfInBounds_toArray, List.set_cons_zero, List.set_cons_succ])
      refine wpAnyH_take (i := 7) (v := ?_) rfl (by kernel_rfl) (by kernel_rfl) (by kernel_rfl) (fun _ _ _ h => h) (Or.inl ⟨by rfl, ?_⟩) (by assumption) ?_
      rotate_left
      · (intro w hSw; (try dsimp only at hSw); go_simp) <;> with_reducible rfl
      (simp only [Act.put, List.getElem_toArray, List.getElem_cons_zero, List.getElem_cons_succ, List.setIfInBounds_toArray, List.set_cons_zero, List.set_cons_succ])
      refine wpAnyH_take (i := 8) (v := ?_) rfl (by kernel_rfl) (by kernel_rfl) (by kernel_rfl) (fun _ _ _ h => h) (Or.inl ⟨by rfl, ?_⟩) (by assumption) ?_
      rotate_left
      · (intro w hSw; (try dsimp only at hSw); go_simp) <;> with_reducible rfl
      (simp only [Act.put, List.getElem_toArray, List.getElem_cons_zero, List.getElem_cons_succ, List.setIfInBounds_toArray, List.set_cons_zero, List.set_cons_succ])
      refine wpAnyH_ready (rs := [2]) (by kernel_rfl) (by simp) ?_
      refine AllReadyH.cons rfl (fun K hK => ?_) AllReadyH.nil
      go_simp
      refine (hcal _ (HBa.out.drew)).mono ?_
      rintro e w1 ⟨rfl, hb1⟩
      have hb2 : Below (wr.heap.size + 1) (wr.alloc (.cells #[Value.int .i64 kd, .string nm, .slice xa xn xc, .slice ya yn yc, .bool my] 25)) w1 := HBd.out.trans (hb1.mono (by have : (wr.alloc (.cells #[Value.int .i64 kd, .string nm, .slice xa xn xc, .slice ya yn yc, .bool my] 25)).drew.heap.size = wr.heap.size + 1 := hzx; omega))
      have HB1 : Hid (Below W.heap.size W w1) := HBa.out.trans (hb2.mono (by have := HB.out.size; omega))
      refine hK.out _ _ (HSb.out _ hb2) (fun hHeld1 => ?_)
      clear hK K hb1 hb2
      (try (simp only [Act.put, List.getElem_toArray, List.getElem_cons_zero, List.getElem_cons_succ, List.setIfInBounds_toArray, List.set_cons_zero, List.set_cons_succ]))
      refine wpAnyH_take (i := 3) (v := ?_) rfl (by kernel_rfl) (by kernel_rfl) (by kernel_rfl) (fun _ _ _ h => h) (Or.inl ⟨by rfl, ?_⟩) (by assumption) ?_
      rotate_left
      · (intro w hSw; (try dsimp only at hSw); go_simp; rw [if_neg (by omega)]) <;> with_reducible rfl
      (simp only [Act.put, List.getElem_toArray, List.getElem_cons_zero, List.getElem_cons_succ, List.setIfInBounds_toArray, List.set_cons_zero, List.set_cons_succ])
      refine wpAnyH_take (i := 9) (v := ?_) rfl (by kernel_rfl) (by kernel_rfl) (by kernel_rfl) (fun _ _ _ h => h) (Or.inl ⟨by rfl, ?_⟩) (by assumption) ?_
      rotate_left
      · (intro w hSw; (try dsimp only at hSw); go_simp; rw [if_neg (by omega)]) <;> with_reducible rfl
      (simp only [Act.put, List.getElem_toArray, List.getElem_cons_zero, List.getElem_cons_succ, List.setIfInBounds_toArray, List.set_cons_zero, List.set_cons_succ])
      refine wpAnyH_take (i := 10) (v := ?_) rfl (by kernel_rfl) (by kernel_rfl) (by kernel_rfl) (fun _ _ _ h => h) (Or.inl ⟨by rfl, ?_⟩) (by assumption) ?_
      rotate_left
      · (intro w hSw; (try dsimp only at hSw); go_simp; rw [if_neg (by omega)]) <;> with_reducible rfl
      (simp only [Act.put, List.getElem_toArray, List.getElem_cons_zero, List.getElem_cons_succ, List.setIfInBounds_toArray, List.set_cons_zero, List.set_cons_succ])
      refine wpAnyH_take (i := 11) (v := ?_) rfl (by kernel_rfl) (by kernel_rfl) (by kernel_rfl) (fun _ _ _ h => h) (Or.inl ⟨by rfl, ?_⟩) (by assumption) ?_
      rotate_left
      · (intro w hSw; (try dsimp only at hSw); go_simp; rw [if_neg (by omega)]) <;> with_reducible rfl
      (simp only [Act.put, List.getElem_toArray, List.getElem_cons_zero, List.getElem_cons_succ, List.setIfInBounds_toArray, List.set_cons_zero, List.set_cons_succ])
      refine wpAnyH_take (i := 12) (v := ?_) rfl (by kernel_rfl) (by kernel_rfl) (by kernel_rfl) (fun _ _ _ h => h) (Or.inl ⟨by rfl, ?_⟩) (by assumption) ?_
      rotate_left
      · (intro w hSw; (try dsimp only at hSw); go_simp) <;> with_reducible rfl
      (simp only [Act.put, List.getElem_toArray, List.getElem_cons_zero, List.getElem_cons_succ, List.setIfInBounds_toArray, List.set_cons_zero, List.set_cons_succ])
      refine wpAnyH_done (by kernel_rfl) ?_ _
      go_wp2_with fail
      go_roundw
      case rel =>
        refine ⟨k + 1, _, by omega, ?_, rfl, by go_num, HB1, ?_⟩
        · rw [← size_bytes, bytes_append, bytes_append, bytes_append, bytes_append]
          simp only [List.length_append, size_bytes]
          have u1 : (⟨#[32]⟩ : ByteArray).size = 1 := rfl
          have u2 : (⟨#[59]⟩ : ByteArray).size = 1 := rfl
          omega
        show bytes _ = _
        rw [bytes_append, bytes_append, bytes_append, bytes_append, HX.out, List.range_succ, List.flatMap_append, List.flatMap_singleton, HTe.out, bytes_strOf]
        simp only [List.append_assoc]
        rfl
      case measure => simp [intOf]; omega
    · obtain rfl : k = nn := by omega
      have hlt' : ¬ (k : Int) < k := by omega
      go_wp2_with fail
      go_ret
      refine ⟨?_, HW.out _ HB.out⟩
      show Ending.returned (.string (x ++ (⟨#[125]⟩ : ByteArray))) = _
      rw [HE.out, ← HX.out]
      rw [show x ++ (⟨#[125]⟩ : ByteArray) = strOf (bytes x ++ [125]) from bytes_inj (by rw [bytes_append]; rfl)]
end Go.Proofs.Ytakijacfadpmoaa.T
