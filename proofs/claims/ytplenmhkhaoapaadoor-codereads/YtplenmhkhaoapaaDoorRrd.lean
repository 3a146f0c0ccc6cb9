/- The contract of the reference's Read. -/
import Derived.Test.YtplenmhkhaoapaaDoorComp2
namespace Go.Proofs.YtplenmhkhaoapaaDoor.M
theorem Comp.full' {sl : List UInt8} {o : Int} {p : Nat} {ok : Bool} {a b c m : Int} (h : Comp sl o (fl (kind o)).size p ok a b c m) {A B C M : Int} (hck : ckN o A B C M = 0) (htx : textL o A B C M = sl) : ok = true ∧ a = A ∧ b = B ∧ c = C ∧ m = M := by
  obtain ⟨h1, _⟩ := ck_facts hck
  obtain ⟨n, rfl⟩ : ∃ n : Nat, o = (n : Int) := ⟨o.toNat, by omega⟩
  exact Comp.full h hck htx
end Go.Proofs.YtplenmhkhaoapaaDoor.M
namespace Go.Proofs.YtplenmhkhaoapaaDoor.W
open Go.RowKit Go.Proofs.YtplenmhkhaoapaaDoor.M
set_option linter.unusedVariables false

/-- The state of its outer loop: the result's cells, the table's rows. -/
structure Ot (w : World) (g : Nat) (wr : World) : Prop where
  res : wr.heap[w.heap.size]? = some (.cells (ic 0 0 0 0 0) 23 (0, 0))
  rows : ∀ j, j < 25 * 4 → wr.cell? ⟨g, j, none⟩ = (cellsOf tab)[j]?
  gl : g < wr.heap.size
  bel : Below w.heap.size w wr
theorem Ot.below {w : World} {g : Nat} {wr wr' : World} (s : Ot w g wr) (hb : Below wr.heap.size wr wr') : Ot w g wr' :=
  ⟨(hb.block _ (lt_of_heap s.res)).trans s.res, fun j hj => (hb.cell (p := ⟨g, j, none⟩) s.gl).trans (s.rows j hj), Nat.lt_of_lt_of_le s.gl hb.size, s.bel.trans (hb.mono s.bel.size)⟩
/-- .. and of its inner loop: the instruction besides. -/
structure In (w : World) (g bx : Nat) (o a b c m : Int) (wi : World) : Prop extends Ot w g wi where
  ins : wi.heap[bx]? = some (.cells (ic o a b c m) 23 (0, 0))
theorem In.start {w : World} {g : Nat} {wr : World} (s : Ot w g wr) (o : Int) : In w g wr.heap.size o 0 0 0 0 (wr.alloc (.cells (ic o 0 0 0 0) 23)) :=
  ⟨s.below ((Below.refl _ _).alloc (Nat.le_refl _) _), heap_alloc_new wr _⟩
theorem In.drew {w : World} {g bx : Nat} {o a b c m : Int} {wi : World} (s : In w g bx o a b c m wi) : In w g bx o a b c m wi.drew :=
  ⟨⟨s.res, s.rows, s.gl, s.bel.drew⟩, s.ins⟩
theorem In.put {w : World} {g bx : Nat} {o a b c m v : Int} {wi : World} {cs : Array Value} (s : In w g bx o a b c m wi) (h1 : w.heap.size < bx) (h2 : g ≠ bx) (f : Nat) {a' b' c' m' : Int} (hf : (ic o a b c m).setIfInBounds f (.int .i64 v) = ic o a' b' c' m') :
    In w g bx o a' b' c' m' (wi.setCell ⟨bx, f, none⟩ (.int .i64 v)) := by
  refine ⟨⟨(Below.heap_setCell _ _ _ _ (by simp; omega)).trans s.res, fun j hj => ?_, by simpa [World.setCell] using s.gl, s.bel.setCell (by simp; omega) _⟩, ?_⟩
  · rw [World.cell?_setCell_other (h := fun e => h2 (congrArg Addr.block e).symm)]
    exact s.rows j hj
  · rw [← hf]
    simp [World.setCell, Array.getElem?_modify, s.ins]

theorem In.c0 {w : World} {g bx : Nat} {o a b c m : Int} {wi : World} (s : In w g bx o a b c m wi) : wi.cell? ⟨bx, 0, none⟩ = some (.int .i64 o) := by rw [Lib.cell_of_heap s.ins]; rfl
theorem In.c1 {w : World} {g bx : Nat} {o a b c m : Int} {wi : World} (s : In w g bx o a b c m wi) : wi.cell? ⟨bx, 1, none⟩ = some (.int .i64 a) := by rw [Lib.cell_of_heap s.ins]; rfl
theorem In.c2 {w : World} {g bx : Nat} {o a b c m : Int} {wi : World} (s : In w g bx o a b c m wi) : wi.cell? ⟨bx, 2, none⟩ = some (.int .i64 b) := by rw [Lib.cell_of_heap s.ins]; rfl
theorem In.c3 {w : World} {g bx : Nat} {o a b c m : Int} {wi : World} (s : In w g bx o a b c m wi) : wi.cell? ⟨bx, 3, none⟩ = some (.int .i64 c) := by rw [Lib.cell_of_heap s.ins]; rfl
theorem In.c4 {w : World} {g bx : Nat} {o a b c m : Int} {wi : World} (s : In w g bx o a b c m wi) : wi.cell? ⟨bx, 4, none⟩ = some (.int .i64 m) := by rw [Lib.cell_of_heap s.ins]; rfl
theorem In.fz {w : World} {g bx : Nat} {o a b c m : Int} {wi : World} (s : In w g bx o a b c m wi) (f : Nat) : wi.frozen? ⟨bx, f, none⟩ = false := Lib.frozen_of_heap s.ins f
theorem number_at (s : ByteArray) (q C V : Nat) (x : Int) (t : Bool) (w : World) (hs : s.size ≤ 140737488355328) (hq : q ≤ s.size) (hx : x = q) (hV : numV 6 (s.data.toList.drop q) 0 = V) (hC : numC 6 (s.data.toList.drop q) = C) (ht : decide (0 < C) = t) :
    Calls Tryd.prog 28 #[.string s, .int .i64 x] w fun e w' => e = .returned (.tuple #[.int .i64 V, .int .i64 ((q + C : Nat) : Int), .bool t]) ∧ w' = w := by
  subst hx hV hC ht
  exact number_any s q w hs hq
theorem fails_succ {s : List UInt8} {i : Nat} {o : Int} {hlt : i < 25} (h : Hid (∀ j, (hj : j < i) → (hj2 : j < 25) → ∀ A B C M, ckN (tab[j]'(by rw [tab_length]; exact hj2)).1 A B C M = 0 → textL (tab[j]'(by rw [tab_length]; exact hj2)).1 A B C M ≠ s))
    (ho : Hid ((tab[i]'(by rw [tab_length]; exact hlt)).1 = o)) (hf : Hid (∀ A B C M, ckN o A B C M = 0 → textL o A B C M ≠ s)) :
    Hid (∀ j, (hj : j < i + 1) → (hj2 : j < 25) → ∀ A B C M, ckN (tab[j]'(by rw [tab_length]; exact hj2)).1 A B C M = 0 → textL (tab[j]'(by rw [tab_length]; exact hj2)).1 A B C M ≠ s) := by
  intro j hj hj2 A B C M h1
  by_cases e : j = i
  · subst e
    rw [unhide ho] at h1 ⊢
    exact unhide hf A B C M h1
  · exact unhide h j (by omega) hj2 A B C M h1

set_option maxRecDepth 100000 in
set_option maxHeartbeats 2000000 in
theorem rread_any (s : ByteArray) (w : World) (hs : s.size ≤ 140737488355328) :
    Calls Tryd.prog 11 #[.string s] w fun e w' => Below w.heap.size w w' ∧ ((∃ o a b c m, ckN o a b c m = 0 ∧ textL o a b c m = s.data.toList ∧ e = .returned (.tuple #[.agg #[.int .i64 o, .int .i64 a, .int .i64 b, .int .i64 c, .int .i64 m], .int .i64 0])) ∨ ((∀ o a b c m, ckN o a b c m = 0 → textL o a b c m ≠ s.data.toList) ∧ e = .returned rdBad)) := by
  go_enter Tryd.func11, Tryd.ntmps11
  go_wp2_with fail
  go_at_call 27
  refine (rows_any _).mono ?_
  rintro e w1 ⟨v, rfl, hown, hb⟩
  obtain ⟨g, cap, rfl⟩ : ∃ g cap, v = .slice (some ⟨g, 0, none⟩) 25 cap := by
    rcases hown.2 with ⟨_, h⟩ | ⟨g, cap, cur, h, _⟩
    · omega
    · exact ⟨g, cap, h⟩
  have hgl := hown.lt g rfl
  have S0 : Ot w g w1 := by
    refine ⟨?_, fun j hj => hown.cellAt j hj, hgl.2, own1_below hb⟩
    rw [hb.block _ (by simp)]
    exact heap_alloc_new w _
  have hgw : w.heap.size < g := by have := hgl.1; simp at this; omega
  clear hown hgl hb
  go_wp2_with fail
  go_loopw [5] (fun iv wr => ∃ i : Nat, i ≤ 25 ∧ iv = .int .i64 i ∧ Ot w g wr ∧ Hid (∀ j, (hj : j < i) → (hj2 : j < 25) → ∀ A B C M, ckN (tab[j]'(by rw [tab_length]; exact hj2)).1 A B C M = 0 → textL (tab[j]'(by rw [tab_length]; exact hj2)).1 A B C M ≠ s.data.toList)) (fun iv _ => 25 - (intOf iv).toNat)
  case atStart => exact ⟨0, by omega, rfl, S0, fun j hj => by omega⟩
  case round =>
    obtain ⟨i, hi25, rfl, S, hall⟩ := hrel
    clear S0
    by_cases hlt : i < 25
    · obtain ⟨o, ho, c0, c1, c2, c3, hkn⟩ := tab_cells S.rows i hlt
      have HO := hide ho
      clear ho
      have hgl := S.gl
      have hnl := name_len o
      obtain ⟨nm, hnm⟩ : ∃ nm, nameOf o = nm := ⟨_, rfl⟩
      rw [hnm] at c1 hnl
      have HNM := hide hnm
      obtain ⟨kd, hkd⟩ : ∃ kd, kind o = kd := ⟨_, rfl⟩
      rw [hkd] at c2 c3
      have HKD := hide hkd
      clear hnm hkd
      have hmx := mixed
      by_cases hshort : s.size < nm.size
      · have hshort' : ((s.size : Int)) < (nm.size : Int) := by omega
        have I1 := (In.start S o).toOt
        have FA : Hid (∀ A B C M, ckN o A B C M = 0 → textL o A B C M ≠ s.data.toList) := fun A B C M hck htx => by
          have h1 := (text_prefix htx).1
          rw [unhide HNM, Array.length_toList] at h1
          have h2 : s.data.size = s.size := rfl
          omega
        go_wp2_with fail
        go_region_o
        go_wp2_with fail
        go_roundw
        case rel => exact ⟨i + 1, by omega, by go_num, ⟨I1.res, I1.rows, I1.gl, I1.bel.drew⟩, fails_succ (hlt := hlt) hall HO FA⟩
        case measure => simp [intOf]; omega
      · have hle : (nm.size : Int) ≤ (s.size : Int) := by omega
        have hge : ¬ ((s.size : Int) < (nm.size : Int)) := by omega
        have hge0 : (0 : Int) ≤ (nm.size : Int) := by omega
        have hex : (s.extract 0 nm.size).data.toList = s.data.toList.take nm.size := by rw [Lib.extract_eq]; simp
        have HEX := hide hex
        clear hex
        by_cases hpre : s.extract 0 nm.size = nm
        · have hpre' := (str_eq _ _).2 hpre
          clear hpre HEX
          have I0 := (In.start S o).drew
          have hbw : w.heap.size < wr.heap.size := lt_of_heap S.res
          have hbg : g ≠ wr.heap.size := by omega
          have HC0 : Hid (Comp s.data.toList o 0 nm.size true 0 0 0 0) := Comp.start _ _ _ (by rw [unhide HNM])
          go_wp2_with fail
          go_region_o
          go_wp2_with fail
          generalize wr.heap.size = bx at *
          go_loopw [7, 8, 9] (fun pv okv kv wi => ∃ (k p : Nat) (ok : Bool) (a b c m : Int), k ≤ (fl kd).size ∧ p ≤ s.size ∧ pv = .int .i64 p ∧ okv = .bool ok ∧ kv = .int .i64 k ∧ In w g bx o a b c m wi ∧ Hid (Comp s.data.toList o k p ok a b c m)) (fun _ _ kv _ => (fl kd).size - (intOf kv).toNat)
          case atStart => exact ⟨0, nm.size, true, 0, 0, 0, 0, by omega, by omega, rfl, rfl, rfl, I0, HC0⟩
          case round =>
            obtain ⟨k, p, ok, a, b, c, m, hk, hp, rfl, rfl, rfl, I, HC⟩ := hrel
            clear I0 HC0 c0 c1 c2 c3 hpre' hle hge hge0 hshort
            obtain ⟨o', ho', d0, d1, d2, d3, _⟩ := tab_cells I.rows i hlt
            obtain rfl : o' = o := ho'.symm.trans (unhide HO)
            rw [unhide HNM] at d1
            rw [unhide HKD] at d2 d3
            clear ho'
            by_cases hkk : k < (fl kd).size
            · cases ok with
              | true => 
                have hfs : (fl kd).size ≤ 3 := by unfold fl; split <;> decide
                have hlet := fl_letter kd k hkk
                have hsl : s.data.toList.length = s.size := by rw [Array.length_toList]; rfl
                rcases hlet with hr | hr | hr | hr
                · have hri : ((((fl kd)[k]'hkk).toNat : Int)) = 65 := by omega
                  obtain ⟨q, hq⟩ : ∃ q, q = min (p + 2) s.data.toList.length := ⟨_, rfl⟩
                  have HN := hide (Comp.regA (unhide HKD) (unhide HC) hkk hr q hq)
                  have hqs : q ≤ s.size := by omega
                  obtain ⟨V, hV⟩ : ∃ V, numV 6 (s.data.toList.drop q) 0 = V := ⟨_, rfl⟩
                  obtain ⟨C, hC⟩ : ∃ C, numC 6 (s.data.toList.drop q) = C := ⟨_, rfl⟩
                  obtain ⟨t, ht⟩ : ∃ t, decide (0 < C) = t := ⟨_, rfl⟩
                  have hVb : V ≤ 999999 := by have := numV_le 6 (s.data.toList.drop q) 0; rw [hV] at this; omega
                  have hCb : q + C ≤ s.size := by have := numC_le 6 (s.data.toList.drop q); rw [hC, List.length_drop] at this; omega
                  have hmn : min ((p : Int) + 1 + 1) (s.size : Int) = (q : Int) := by omega
                  have hnum := fun w' => number_at s q C V _ t w' hs hqs hmn hV hC ht
                  rw [hV, hC, ht] at HN
                  clear hV hC ht hq hmn hsl
                  have fz := I.fz 1
                  have jf := I.c1
                  go_wp2_with fail
                  go_at_call 28
                  refine (hnum _).mono ?_
                  rintro e x1 ⟨rfl, hx1⟩
                  subst hx1
                  have I5 := I.put (cs := #[]) (v := (V : Int)) hbw hbg 1 rfl
                  go_wp2_with fail
                  go_roundw
                  case rel => exact ⟨k + 1, q + C, t, _, _, _, _, by omega, hCb, by go_num, rfl, by go_num, I5, HN⟩
                  case measure => simp [intOf]; omega
                · have hri : ((((fl kd)[k]'hkk).toNat : Int)) = 66 := by omega
                  obtain ⟨q, hq⟩ : ∃ q, q = min (p + 2) s.data.toList.length := ⟨_, rfl⟩
                  have HN := hide (Comp.regB (unhide HKD) (unhide HC) hkk hr q hq)
                  have hqs : q ≤ s.size := by omega
                  obtain ⟨V, hV⟩ : ∃ V, numV 6 (s.data.toList.drop q) 0 = V := ⟨_, rfl⟩
                  obtain ⟨C, hC⟩ : ∃ C, numC 6 (s.data.toList.drop q) = C := ⟨_, rfl⟩
                  obtain ⟨t, ht⟩ : ∃ t, decide (0 < C) = t := ⟨_, rfl⟩
                  have hVb : V ≤ 999999 := by have := numV_le 6 (s.data.toList.drop q) 0; rw [hV] at this; omega
                  have hCb : q + C ≤ s.size := by have := numC_le 6 (s.data.toList.drop q); rw [hC, List.length_drop] at this; omega
                  have hmn : min ((p : Int) + 1 + 1) (s.size : Int) = (q : Int) := by omega
                  have hnum := fun w' => number_at s q C V _ t w' hs hqs hmn hV hC ht
                  rw [hV, hC, ht] at HN
                  clear hV hC ht hq hmn hsl
                  have fz := I.fz 2
                  have jf := I.c2
                  go_wp2_with fail
                  go_at_call 28
                  refine (hnum _).mono ?_
                  rintro e x1 ⟨rfl, hx1⟩
                  subst hx1
                  have I5 := I.put (cs := #[]) (v := (V : Int)) hbw hbg 2 rfl
                  go_wp2_with fail
                  go_roundw
                  case rel => exact ⟨k + 1, q + C, t, _, _, _, _, by omega, hCb, by go_num, rfl, by go_num, I5, HN⟩
                  case measure => simp [intOf]; omega
                · have hri : ((((fl kd)[k]'hkk).toNat : Int)) = 67 := by omega
                  obtain ⟨q, hq⟩ : ∃ q, q = min (p + 2) s.data.toList.length := ⟨_, rfl⟩
                  have HN := hide (Comp.regC (unhide HKD) (unhide HC) hkk hr q hq)
                  have hqs : q ≤ s.size := by omega
                  obtain ⟨V, hV⟩ : ∃ V, numV 6 (s.data.toList.drop q) 0 = V := ⟨_, rfl⟩
                  obtain ⟨C, hC⟩ : ∃ C, numC 6 (s.data.toList.drop q) = C := ⟨_, rfl⟩
                  obtain ⟨t, ht⟩ : ∃ t, decide (0 < C) = t := ⟨_, rfl⟩
                  have hVb : V ≤ 999999 := by have := numV_le 6 (s.data.toList.drop q) 0; rw [hV] at this; omega
                  have hCb : q + C ≤ s.size := by have := numC_le 6 (s.data.toList.drop q); rw [hC, List.length_drop] at this; omega
                  have hmn : min ((p : Int) + 1 + 1) (s.size : Int) = (q : Int) := by omega
                  have hnum := fun w' => number_at s q C V _ t w' hs hqs hmn hV hC ht
                  rw [hV, hC, ht] at HN
                  clear hV hC ht hq hmn hsl
                  have fz := I.fz 3
                  have jf := I.c3
                  go_wp2_with fail
                  go_at_call 28
                  refine (hnum _).mono ?_
                  rintro e x1 ⟨rfl, hx1⟩
                  subst hx1
                  have I5 := I.put (cs := #[]) (v := (V : Int)) hbw hbg 3 rfl
                  go_wp2_with fail
                  go_roundw
                  case rel => exact ⟨k + 1, q + C, t, _, _, _, _, by omega, hCb, by go_num, rfl, by go_num, I5, HN⟩
                  case measure => simp [intOf]; omega
                · have hri : ((((fl kd)[k]'hkk).toNat : Int)) = 73 := by omega
                  by_cases hlt1 : p + 1 < s.size
                  · have hdr : (s.data.toList.drop (p + 1)).head? = some (s[p + 1]'hlt1) := by
                      rw [List.drop_eq_getElem_cons (by simpa using hlt1)]; rfl
                    have hlt1' : (p : Int) + 1 < (s.size : Int) := by omega
                    by_cases h45 : (s[p + 1]'hlt1).toNat = 45
                    · have h45b : (s[p + 1]'hlt1) = 45 := UInt8.toNat_inj.1 h45
                      have h45i : (((s[p + 1]'hlt1).toNat : Int)) = 45 := by omega
                      have hnn : (s.data.toList.drop (p + 1)).head? = some 45 := by rw [hdr, h45b]
                      obtain ⟨q, hq⟩ : ∃ q, q = min (p + 2) s.data.toList.length := ⟨_, rfl⟩
                      have HN := hide (Comp.immN (unhide HKD) (unhide HC) hkk hr hnn q hq)
                      have hqs : q ≤ s.size := by omega
                      obtain ⟨V, hV⟩ : ∃ V, numV 6 (s.data.toList.drop q) 0 = V := ⟨_, rfl⟩
                      obtain ⟨C, hC⟩ : ∃ C, numC 6 (s.data.toList.drop q) = C := ⟨_, rfl⟩
                      obtain ⟨t, ht⟩ : ∃ t, decide (0 < C) = t := ⟨_, rfl⟩
                      have hVb : V ≤ 999999 := by have := numV_le 6 (s.data.toList.drop q) 0; rw [hV] at this; omega
                      have hCb : q + C ≤ s.size := by have := numC_le 6 (s.data.toList.drop q); rw [hC, List.length_drop] at this; omega
                      have hmn : min ((p : Int) + 1 + 1) (s.size : Int) = (q : Int) := by omega
                      have hnum := fun w' => number_at s q C V _ t w' hs hqs hmn hV hC ht
                      rw [hV, hC, ht] at HN
                      clear hV hC ht hq hmn hsl
                      have fz := I.fz 4
                      have jf := I.c4
                      go_wp2_with fail
                      go_at_call 28
                      refine (hnum _).mono ?_
                      rintro e x1 ⟨rfl, hx1⟩
                      subst hx1
                      have I5 := I.put (cs := #[]) (v := (-(V : Int))) hbw hbg 4 rfl
                      go_wp2_with fail
                      go_roundw
                      case rel => exact ⟨k + 1, q + C, t, _, _, _, _, by omega, hCb, by go_num, rfl, by go_num, I5, HN⟩
                      case measure => simp [intOf]; omega
                    · have h45b : ¬ (s[p + 1]'hlt1) = 45 := fun e => h45 (by rw [e]; rfl)
                      have h45i : ((((s[p + 1]'hlt1).toNat : Int)) == 45) = false := by simp; omega
                      have hnn : (s.data.toList.drop (p + 1)).head? ≠ some 45 := by rw [hdr]; simpa using h45b
                      obtain ⟨q, hq⟩ : ∃ q, q = min (p + 1) s.data.toList.length := ⟨_, rfl⟩
                      have HN := hide (Comp.immP (unhide HKD) (unhide HC) hkk hr hnn q hq)
                      have hqs : q ≤ s.size := by omega
                      obtain ⟨V, hV⟩ : ∃ V, numV 6 (s.data.toList.drop q) 0 = V := ⟨_, rfl⟩
                      obtain ⟨C, hC⟩ : ∃ C, numC 6 (s.data.toList.drop q) = C := ⟨_, rfl⟩
                      obtain ⟨t, ht⟩ : ∃ t, decide (0 < C) = t := ⟨_, rfl⟩
                      have hVb : V ≤ 999999 := by have := numV_le 6 (s.data.toList.drop q) 0; rw [hV] at this; omega
                      have hCb : q + C ≤ s.size := by have := numC_le 6 (s.data.toList.drop q); rw [hC, List.length_drop] at this; omega
                      have hmn : min ((p : Int) + 1) (s.size : Int) = (q : Int) := by omega
                      have hnum := fun w' => number_at s q C V _ t w' hs hqs hmn hV hC ht
                      rw [hV, hC, ht] at HN
                      clear hV hC ht hq hmn hsl
                      have fz := I.fz 4
                      have jf := I.c4
                      go_wp2_with fail
                      go_at_call 28
                      refine (hnum _).mono ?_
                      rintro e x1 ⟨rfl, hx1⟩
                      subst hx1
                      have I5 := I.put (cs := #[]) (v := (V : Int)) hbw hbg 4 rfl
                      go_wp2_with fail
                      go_roundw
                      case rel => exact ⟨k + 1, q + C, t, _, _, _, _, by omega, hCb, by go_num, rfl, by go_num, I5, HN⟩
                      case measure => simp [intOf]; omega
                  · have hlt1' : ¬ (p : Int) + 1 < (s.size : Int) := by omega
                    have hnn : (s.data.toList.drop (p + 1)).head? ≠ some 45 := by
                      rw [List.drop_of_length_le (by omega)]; simp
                    obtain ⟨q, hq⟩ : ∃ q, q = min (p + 1) s.data.toList.length := ⟨_, rfl⟩
                    have HN := hide (Comp.immP (unhide HKD) (unhide HC) hkk hr hnn q hq)
                    have hqs : q ≤ s.size := by omega
                    obtain ⟨V, hV⟩ : ∃ V, numV 6 (s.data.toList.drop q) 0 = V := ⟨_, rfl⟩
                    obtain ⟨C, hC⟩ : ∃ C, numC 6 (s.data.toList.drop q) = C := ⟨_, rfl⟩
                    obtain ⟨t, ht⟩ : ∃ t, decide (0 < C) = t := ⟨_, rfl⟩
                    have hVb : V ≤ 999999 := by have := numV_le 6 (s.data.toList.drop q) 0; rw [hV] at this; omega
                    have hCb : q + C ≤ s.size := by have := numC_le 6 (s.data.toList.drop q); rw [hC, List.length_drop] at this; omega
                    have hmn : min ((p : Int) + 1) (s.size : Int) = (q : Int) := by omega
                    have hnum := fun w' => number_at s q C V _ t w' hs hqs hmn hV hC ht
                    rw [hV, hC, ht] at HN
                    clear hV hC ht hq hmn hsl
                    have fz := I.fz 4
                    have jf := I.c4
                    go_wp2_with fail
                    go_at_call 28
                    refine (hnum _).mono ?_
                    rintro e x1 ⟨rfl, hx1⟩
                    subst hx1
                    have I5 := I.put (cs := #[]) (v := (V : Int)) hbw hbg 4 rfl
                    go_wp2_with fail
                    go_roundw
                    case rel => exact ⟨k + 1, q + C, t, _, _, _, _, by omega, hCb, by go_num, rfl, by go_num, I5, HN⟩
                    case measure => simp [intOf]; omega
              | false =>
                have FA : Hid (∀ A B C M, ckN o' A B C M = 0 → textL o' A B C M ≠ s.data.toList) := fun A B C M g1 g2 => by
                  have := (unhide HC A B C M g1 g2).1
                  cases this
                have j0 := I.c0
                have j1 := I.c1
                have j2 := I.c2
                have j3 := I.c3
                have j4 := I.c4
                by_cases hck : ckN o' a b c m = 0
                · have htx := fun w' => rtext_ok o' a b c m w' hck
                  clear hck
                  generalize (⟨(textL o' a b c m).toArray⟩ : ByteArray) = tx at *
                  go_wp2_with fail
                  go_at_call 9
                  refine (htx _).mono ?_
                  rintro e y ⟨rfl, cb⟩
                  have O2 := I.toOt.below cb
                  go_wp2_with fail
                  go_roundw
                  case rel => exact ⟨i + 1, by omega, by go_num, O2, fails_succ (hlt := hlt) hall HO FA⟩
                  case measure => simp [intOf]; omega
                · obtain ⟨ck, hckd⟩ : ∃ ck, ckN o' a b c m = ck := ⟨_, rfl⟩
                  rw [hckd] at hck
                  have hck' : (ck == 0) = false := by simpa using hck
                  have htx := fun w' => rtext_bad o' a b c m ck w' hckd hck'
                  clear hckd
                  go_wp2_with fail
                  go_at_call 9
                  refine (htx _).mono ?_
                  rintro e y ⟨rfl, cb⟩
                  have O2 := I.toOt.below cb
                  go_wp2_with fail
                  go_roundw
                  case rel => exact ⟨i + 1, by omega, by go_num, O2, fails_succ (hlt := hlt) hall HO FA⟩
                  case measure => simp [intOf]; omega
            · have hk2 : k = (fl kd).size := by omega
              cases ok with
              | true =>
                have FC : Hid (∀ A B C M, ckN o' A B C M = 0 → textL o' A B C M = s.data.toList → true = true ∧ a = A ∧ b = B ∧ c = C ∧ m = M) := fun A B C M g1 g2 => by
                  have h1 := unhide HC
                  rw [hk2, ← unhide HKD] at h1
                  exact h1.full' g1 g2
                have j0 := I.c0
                have j1 := I.c1
                have j2 := I.c2
                have j3 := I.c3
                have j4 := I.c4
                by_cases hck : ckN o' a b c m = 0
                · have htx := fun w' => rtext_ok o' a b c m w' hck
                  by_cases htl : textL o' a b c m = s.data.toList
                  · have heq : (⟨(textL o' a b c m).toArray⟩ : ByteArray) = s := by rw [htl]
                    rw [heq] at htx
                    have HE := hide (And.intro hck htl)
                    clear heq hck htl
                    go_wp2_with fail
                    go_at_call 9
                    refine (htx _).mono ?_
                    rintro e y ⟨rfl, cb⟩
                    have O2 := I.toOt.below cb
                    have I2 : y.heap[bx]? = some (.cells (ic o' a b c m) 23 (0, 0)) := (cb.block _ (lt_of_heap I.ins)).trans I.ins
                    have r0 : y.cell? ⟨w.heap.size, 0, none⟩ = some (.int .i64 0) := by rw [Lib.cell_of_heap O2.res]; rfl
                    have r1 : y.cell? ⟨w.heap.size, 1, none⟩ = some (.int .i64 0) := by rw [Lib.cell_of_heap O2.res]; rfl
                    have r2 : y.cell? ⟨w.heap.size, 2, none⟩ = some (.int .i64 0) := by rw [Lib.cell_of_heap O2.res]; rfl
                    have r3 : y.cell? ⟨w.heap.size, 3, none⟩ = some (.int .i64 0) := by rw [Lib.cell_of_heap O2.res]; rfl
                    have r4 : y.cell? ⟨w.heap.size, 4, none⟩ = some (.int .i64 0) := by rw [Lib.cell_of_heap O2.res]; rfl
                    have rf0 : y.frozen? ⟨w.heap.size, 0, none⟩ = false := Lib.frozen_of_heap O2.res 0
                    have rf1 : y.frozen? ⟨w.heap.size, 1, none⟩ = false := Lib.frozen_of_heap O2.res 1
                    have rf2 : y.frozen? ⟨w.heap.size, 2, none⟩ = false := Lib.frozen_of_heap O2.res 2
                    have rf3 : y.frozen? ⟨w.heap.size, 3, none⟩ = false := Lib.frozen_of_heap O2.res 3
                    have rf4 : y.frozen? ⟨w.heap.size, 4, none⟩ = false := Lib.frozen_of_heap O2.res 4
                    have k0 : y.cell? ⟨bx, 0, none⟩ = some (.int .i64 o') := by rw [Lib.cell_of_heap I2]; rfl
                    have k1 : y.cell? ⟨bx, 1, none⟩ = some (.int .i64 a) := by rw [Lib.cell_of_heap I2]; rfl
                    have k2 : y.cell? ⟨bx, 2, none⟩ = some (.int .i64 b) := by rw [Lib.cell_of_heap I2]; rfl
                    have k3 : y.cell? ⟨bx, 3, none⟩ = some (.int .i64 c) := by rw [Lib.cell_of_heap I2]; rfl
                    have k4 : y.cell? ⟨bx, 4, none⟩ = some (.int .i64 m) := by rw [Lib.cell_of_heap I2]; rfl
                    go_wp2_with fail
                    refine bodyPost_ret (v := .tuple #[.agg #[.int .i64 o', .int .i64 a, .int .i64 b, .int .i64 c, .int .i64 m], .int .i64 0]) (by simp [results, Tryd.results11, go_sem, r0, r1, r2, r3, r4]) rfl ⟨?_, Or.inl ⟨o', a, b, c, m, (unhide HE).1, (unhide HE).2, rfl⟩⟩
                    exact ((((O2.bel.setCell (by simp) _).setCell (by simp) _).setCell (by simp) _).setCell (by simp) _).setCell (by simp) _
                  · have hne : ¬ (⟨(textL o' a b c m).toArray⟩ : ByteArray) = s := fun e => htl (by rw [← e])
                    have hne' := str_ne hne
                    have FA : Hid (∀ A B C M, ckN o' A B C M = 0 → textL o' A B C M ≠ s.data.toList) := fun A B C M g1 g2 => by
                      obtain ⟨_, rfl, rfl, rfl, rfl⟩ := unhide FC A B C M g1 g2
                      exact htl g2
                    clear hne hck htl
                    generalize (⟨(textL o' a b c m).toArray⟩ : ByteArray) = tx at *
                    go_wp2_with fail
                    go_at_call 9
                    refine (htx _).mono ?_
                    rintro e y ⟨rfl, cb⟩
                    have O2 := I.toOt.below cb
                    go_wp2_with fail
                    go_roundw
                    case rel => exact ⟨i + 1, by omega, by go_num, O2, fails_succ (hlt := hlt) hall HO FA⟩
                    case measure => simp [intOf]; omega
                · obtain ⟨ck, hckd⟩ : ∃ ck, ckN o' a b c m = ck := ⟨_, rfl⟩
                  have FA : Hid (∀ A B C M, ckN o' A B C M = 0 → textL o' A B C M ≠ s.data.toList) := fun A B C M g1 g2 => by
                    obtain ⟨_, rfl, rfl, rfl, rfl⟩ := unhide FC A B C M g1 g2
                    exact hck g1
                  rw [hckd] at hck
                  have hck' : (ck == 0) = false := by simpa using hck
                  have htx := fun w' => rtext_bad o' a b c m ck w' hckd hck'
                  clear hckd
                  go_wp2_with fail
                  go_at_call 9
                  refine (htx _).mono ?_
                  rintro e y ⟨rfl, cb⟩
                  have O2 := I.toOt.below cb
                  go_wp2_with fail
                  go_roundw
                  case rel => exact ⟨i + 1, by omega, by go_num, O2, fails_succ (hlt := hlt) hall HO FA⟩
                  case measure => simp [intOf]; omega
              | false =>
                have FA : Hid (∀ A B C M, ckN o' A B C M = 0 → textL o' A B C M ≠ s.data.toList) := fun A B C M g1 g2 => by
                  have := (unhide HC A B C M g1 g2).1
                  cases this
                have j0 := I.c0
                have j1 := I.c1
                have j2 := I.c2
                have j3 := I.c3
                have j4 := I.c4
                by_cases hck : ckN o' a b c m = 0
                · have htx := fun w' => rtext_ok o' a b c m w' hck
                  clear hck
                  generalize (⟨(textL o' a b c m).toArray⟩ : ByteArray) = tx at *
                  go_wp2_with fail
                  go_at_call 9
                  refine (htx _).mono ?_
                  rintro e y ⟨rfl, cb⟩
                  have O2 := I.toOt.below cb
                  go_wp2_with fail
                  go_roundw
                  case rel => exact ⟨i + 1, by omega, by go_num, O2, fails_succ (hlt := hlt) hall HO FA⟩
                  case measure => simp [intOf]; omega
                · obtain ⟨ck, hckd⟩ : ∃ ck, ckN o' a b c m = ck := ⟨_, rfl⟩
                  rw [hckd] at hck
                  have hck' : (ck == 0) = false := by simpa using hck
                  have htx := fun w' => rtext_bad o' a b c m ck w' hckd hck'
                  clear hckd
                  go_wp2_with fail
                  go_at_call 9
                  refine (htx _).mono ?_
                  rintro e y ⟨rfl, cb⟩
                  have O2 := I.toOt.below cb
                  go_wp2_with fail
                  go_roundw
                  case rel => exact ⟨i + 1, by omega, by go_num, O2, fails_succ (hlt := hlt) hall HO FA⟩
                  case measure => simp [intOf]; omega
        · have hpre' := str_ne hpre
          have I1 := (In.start S o).toOt
          have FA : Hid (∀ A B C M, ckN o A B C M = 0 → textL o A B C M ≠ s.data.toList) := fun A B C M hck htx => by
            have h1 := (text_prefix htx).2
            rw [unhide HNM, ← unhide HEX] at h1
            apply hpre
            cases hx : s.extract 0 nm.size; cases hy : nm
            rw [hx, hy] at h1
            simpa using h1
          clear hpre
          go_wp2_with fail
          go_region_o
          go_wp2_with fail
          go_roundw
          case rel => exact ⟨i + 1, by omega, by go_num, ⟨I1.res, I1.rows, I1.gl, I1.bel.drew⟩, fails_succ (hlt := hlt) hall HO FA⟩
          case measure => simp [intOf]; omega
    · have hi2 : i = 25 := by omega
      subst hi2
      have r0 : wr.cell? ⟨w.heap.size, 0, none⟩ = some (.int .i64 0) := by rw [Lib.cell_of_heap S.res]; rfl
      have r1 : wr.cell? ⟨w.heap.size, 1, none⟩ = some (.int .i64 0) := by rw [Lib.cell_of_heap S.res]; rfl
      have r2 : wr.cell? ⟨w.heap.size, 2, none⟩ = some (.int .i64 0) := by rw [Lib.cell_of_heap S.res]; rfl
      have r3 : wr.cell? ⟨w.heap.size, 3, none⟩ = some (.int .i64 0) := by rw [Lib.cell_of_heap S.res]; rfl
      have r4 : wr.cell? ⟨w.heap.size, 4, none⟩ = some (.int .i64 0) := by rw [Lib.cell_of_heap S.res]; rfl
      have rf : ∀ k, wr.frozen? ⟨w.heap.size, k, none⟩ = false := fun k => Lib.frozen_of_heap S.res k
      have hB := S.bel
      go_wp2_with fail
      refine bodyPost_ret (v := rdBad) (by simp [results, Tryd.results11, go_sem, r0, r1, r2, r3, r4]) rfl ⟨?_, Or.inr ⟨?_, rfl⟩⟩
      · exact ((((hB.setCell (by simp) _).setCell (by simp) _).setCell (by simp) _).setCell (by simp) _).setCell (by simp) _
      · intro o A B C M hck htx
        have hk : kind o ≠ 0 := by
          intro e
          simp [ckN, e] at hck
        obtain ⟨j, hj, e⟩ := tab_has o hk
        exact unhide hall j hj hj A B C M (by rw [e]; exact hck) (by rw [e]; exact htx)
end Go.Proofs.YtplenmhkhaoapaaDoor.W
