/- The contracts of the reference's Find. -/
import Derived.Test.YthbhlmbhnidbhaaRows2
namespace Go.Proofs.Ythbhlmbhnidbhaa.W
open Go.RowKit Go.Proofs.Ythbhlmbhnidbhaa.M
set_option linter.unusedVariables false

theorem tab_cells {w1 : World} {g : Nat} (h : ∀ j, j < 25 * 4 → w1.cell? ⟨g, j, none⟩ = (cellsOf tab)[j]?) (k : Nat) (hk : k < 25) :
    ∃ o, (tab[k]'(by rw [tab_length]; exact hk)).1 = o ∧ w1.cell? ⟨g, k * 4, none⟩ = some (.int .i64 o) ∧ w1.cell? ⟨g, k * 4 + 1, none⟩ = some (.string (nameOf o)) ∧ w1.cell? ⟨g, k * 4 + 2, none⟩ = some (.string (fl (kind o))) ∧ w1.cell? ⟨g, k * 4 + 3, none⟩ = some (.bool (sgn (kind o))) ∧ kind o ≠ 0 := by
  obtain ⟨hr, hn⟩ := tab_row k hk
  refine ⟨_, rfl, ?_, ?_, ?_, ?_, hn⟩
  · rw [h _ (by omega), show k * 4 = 4 * k + 0 by omega, cellsOf_at tab k (by rw [tab_length]; exact hk) 0 (by omega)]; rfl
  · rw [h _ (by omega), show k * 4 + 1 = 4 * k + 1 by omega, cellsOf_at tab k (by rw [tab_length]; exact hk) 1 (by omega), hr]; rfl
  · rw [h _ (by omega), show k * 4 + 2 = 4 * k + 2 by omega, cellsOf_at tab k (by rw [tab_length]; exact hk) 2 (by omega), hr]; rfl
  · rw [h _ (by omega), show k * 4 + 3 = 4 * k + 3 by omega, cellsOf_at tab k (by rw [tab_length]; exact hk) 3 (by omega), hr]; rfl
theorem own1 {w w1 : World} {R : Array Value} {t : TypeId} (hb : Below (w.alloc (.cells R t)).heap.size (w.alloc (.cells R t)) w1) (i : Nat) : w1.cell? ⟨w.heap.size, i, none⟩ = R[i]? :=
  (hb.cell (p := ⟨w.heap.size, i, none⟩) (by simp)).trans (World.cell?_alloc_at _ _ _ _ rfl)
theorem own1_below {w w1 : World} {o : Obj} (hb : Below (w.alloc o).heap.size (w.alloc o) w1) : Below w.heap.size w w1 :=
  ((Below.refl _ _).alloc (Nat.le_refl _) _).trans (hb.mono (by simp))

set_option maxRecDepth 100000 in
set_option maxHeartbeats 2000000 in
theorem find_some (op : Int) (w : World) (hk : kind op ≠ 0) :
    Calls Try.prog 25 #[.int .i64 op] w fun e w' => e = .returned (.tuple #[.agg #[.int .i64 op, .string (nameOf op), .string (fl (kind op)), .bool (sgn (kind op))], .bool true]) ∧ Below w.heap.size w w' := by
  have HK := hide hk
  clear hk
  go_enter Try.func25, Try.ntmps25
  go_wp2_with fail
  go_at_call 41
  refine (rows_any _).mono ?_
  rintro e w1 ⟨v, rfl, hown, hb⟩
  obtain ⟨g, cap, rfl⟩ : ∃ g cap, v = .slice (some ⟨g, 0, none⟩) 25 cap := by
    rcases hown.2 with ⟨_, h⟩ | ⟨g, cap, cur, h, _⟩
    · omega
    · exact ⟨g, cap, h⟩
  have HT := hide (tab_cells fun j hj => hown.cellAt j hj)
  have hBw := own1_below hb
  obtain ⟨hce, hfr⟩ := bcell hb
  have r0 := own1 hb 0
  have r1 := own1 hb 1
  have r2 := own1 hb 2
  have r3 := own1 hb 3
  clear hown hce
  go_wp2_with fail
  go_loop [5] (fun i => ∃ k : Nat, k ≤ 25 ∧ i = .int .i64 k ∧ Hid (∀ j, (hj : j < k) → (hj2 : j < 25) → (tab[j]'(by rw [tab_length]; exact hj2)).1 ≠ op)) (fun i => 25 - (intOf i).toNat)
  case atStart => exact ⟨0, by omega, rfl, fun j hj => by omega⟩
  case round =>
    obtain ⟨k, hk25, rfl, hall⟩ := hrel
    by_cases hlt : k < 25
    · obtain ⟨o, ho, c0, c1, c2, c3, hn⟩ := unhide HT k hlt
      have HO := hide ho
      clear ho
      by_cases he : o = op
      · subst he
        clear hn
        go_wp2
        refine bodyPost_ret (v := .tuple #[.agg #[.int .i64 o, .string (nameOf o), .string (fl (kind o)), .bool (sgn (kind o))], .bool true]) (by simp [results, Try.results25, go_sem, r0, r1, r2, r3]) rfl ⟨rfl, ?_⟩
        exact (((hBw.setCell (Nat.le_refl _) _).setCell (Nat.le_refl _) _).setCell (Nat.le_refl _) _).setCell (Nat.le_refl _) _
      · have he' : (o == op) = false := by simpa using he
        have HE := hide he
        clear he hn
        go_wp2
        go_round
        case rel => exact ⟨k + 1, by omega, by go_num, fun j hj hj2 => by
          by_cases e : j = k
          · subst e; rw [unhide HO]; exact unhide HE
          · exact unhide hall j (by omega) hj2⟩
        case measure => simp [intOf]; omega
    · have hk : k = 25 := by omega
      subst hk
      obtain ⟨j, hj, e⟩ := tab_has op (unhide HK)
      exact absurd e (unhide hall j hj hj)

set_option maxRecDepth 100000 in
set_option maxHeartbeats 2000000 in
theorem find_none (op : Int) (w : World) (hk : kind op = 0) :
    Calls Try.prog 25 #[.int .i64 op] w fun e w' => e = .returned (.tuple #[.agg #[.int .i64 0, .string ⟨#[]⟩, .string ⟨#[]⟩, .bool false], .bool false]) ∧ Below w.heap.size w w' := by
  have HK := hide hk
  clear hk
  go_enter Try.func25, Try.ntmps25
  go_wp2_with fail
  go_at_call 41
  refine (rows_any _).mono ?_
  rintro e w1 ⟨v, rfl, hown, hb⟩
  obtain ⟨g, cap, rfl⟩ : ∃ g cap, v = .slice (some ⟨g, 0, none⟩) 25 cap := by
    rcases hown.2 with ⟨_, h⟩ | ⟨g, cap, cur, h, _⟩
    · omega
    · exact ⟨g, cap, h⟩
  have HT := hide (tab_cells fun j hj => hown.cellAt j hj)
  have hBw := own1_below hb
  obtain ⟨hce, hfr⟩ := bcell hb
  have r0 := own1 hb 0
  have r1 := own1 hb 1
  have r2 := own1 hb 2
  have r3 := own1 hb 3
  clear hown hce
  go_wp2_with fail
  go_loop [5] (fun i => ∃ k : Nat, k ≤ 25 ∧ i = .int .i64 k ∧ Hid (∀ j, (hj : j < k) → (hj2 : j < 25) → (tab[j]'(by rw [tab_length]; exact hj2)).1 ≠ op)) (fun i => 25 - (intOf i).toNat)
  case atStart => exact ⟨0, by omega, rfl, fun j hj => by omega⟩
  case round =>
    obtain ⟨k, hk25, rfl, hall⟩ := hrel
    by_cases hlt : k < 25
    · obtain ⟨o, ho, c0, c1, c2, c3, hn⟩ := unhide HT k hlt
      have HO := hide ho
      clear ho
      by_cases he : o = op
      · exact absurd (unhide HK) (he ▸ hn)
      · have he' : (o == op) = false := by simpa using he
        have HE := hide he
        clear he hn
        go_wp2
        go_round
        case rel => exact ⟨k + 1, by omega, by go_num, fun j hj hj2 => by
          by_cases e : j = k
          · subst e; rw [unhide HO]; exact unhide HE
          · exact unhide hall j (by omega) hj2⟩
        case measure => simp [intOf]; omega
    · have hk : k = 25 := by omega
      subst hk
      go_wp2
      refine bodyPost_ret (v := .tuple #[.agg #[.int .i64 0, .string ⟨#[]⟩, .string ⟨#[]⟩, .bool false], .bool false]) (by simp [results, Try.results25, go_sem, r0, r1, r2, r3]) rfl ⟨rfl, ?_⟩
      exact (((hBw.setCell (Nat.le_refl _) _).setCell (Nat.le_refl _) _).setCell (Nat.le_refl _) _).setCell (Nat.le_refl _) _

end Go.Proofs.Ythbhlmbhnidbhaa.W
