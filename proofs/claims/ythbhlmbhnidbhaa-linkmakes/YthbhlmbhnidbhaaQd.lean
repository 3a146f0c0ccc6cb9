/- The contract of the program's fill. -/
import Derived.Test.YthbhlmbhnidbhaaQa
import Derived.Test.YthbhlmbhnidbhaaMb
namespace Go.Proofs.Ythbhlmbhnidbhaa.T
open Go.RowKit Go.Proofs.Ythbhlmbhnidbhaa.M
set_option linter.unusedVariables false
set_option linter.unusedSimpArgs false

set_option maxRecDepth 100000 in
set_option maxHeartbeats 4000000 in
theorem fill_any (L : List Sy) (kd : Int) (wd : Nat) (v : Value) (w : World) (hv : RowV syC 7 w v L) (hw : wd ≤ 16000) (hkd : In64 kd) : Calls Try.prog 43 #[v, .int .i64 kd, .int .i64 wd] w fun e w' => e = .returned (.bool (fillB L kd wd)) ∧ Below w.heap.size w w' := by
  have hm : maxLen = 9223372036854775807 := rfl
  obtain ⟨a, c, rfl, hle, hc, H⟩ := hv
  have HX : Hid (∀ k, k ≤ L.length → fillSt L kd wd k = none → fillB L kd wd = false) := fun k hk h => by
    unfold fillB
    rw [fillSt_none h _ hk]
    rfl
  have HZ : Hid (∀ x, fillSt L kd wd L.length = some x → fillB L kd wd = decide (x = wd)) := fun x hx => by
    unfold fillB
    rw [hx]
    simp
  obtain ⟨n, HN⟩ : ∃ n, Hid (L.length = n) := ⟨_, rfl⟩
  have HE0 : Hid (0 < n → ∃ g oo, a = some ⟨g, oo, none⟩ ∧ Hid (∀ w', Below w.heap.size w w' → ∀ j (hj : j < L.length), _)) := fun h => by
    obtain ⟨g, oo, r, hg, E⟩ := H (by rw [HN.out]; exact h)
    exact ⟨g, oo, r, fun w' hw => sy_cells hg E hw⟩
  clear H
  have hn : n ≤ 9223372036854775807 := by rw [← HN.out]; omega
  rw [HN.out]
  rw [HN.out] at HX HZ
  generalize fillB L kd wd = R at *
  unfold In64 at hkd
  clear hle hc
  have HB0 := hide (Below.refl w.heap.size w)
  go_enter Try.func43, Try.ntmps43
  go_wp2_with fail
  generalize hbq : w.heap.size = bq at *
  have HBQ : Hid (w.heap.size = bq) := hbq
  clear hbq
  go_loopw [7, 12] (fun x i wr => ∃ (k : Nat) (nx : Int), k ≤ n ∧ x = .int .i64 nx ∧ i = .int .i64 k ∧ Hid (fillSt L kd wd k = some nx) ∧ Hid (Below bq w wr)) (fun _ i _ => n - (intOf i).toNat)
  case atStart => exact ⟨0, 0, Nat.zero_le _, rfl, rfl, rfl, HB0⟩
  case round =>
    clear HB0
    obtain ⟨k, nx, hk, rfl, rfl, HK, HB⟩ := hrel
    obtain ⟨x0, x1⟩ := fillSt_bnd (by omega) HK.out
    by_cases hlt : k < n
    · have hlt' : (k : Int) < n := by omega
      have hidx : (0 : Int) ≤ k ∧ (k : Int) < n := by omega
      have hkl : k < L.length := by rw [HN.out]; exact hlt
      obtain ⟨g, oo, rfl, HE⟩ := HE0.out (by omega)
      clear HE0
      obtain ⟨e0, e1, e2, e3, e4, e5, e6, b1, b2, b3, b4, b5, b6⟩ := HE.out _ HB.out k hkl
      clear HE
      have hsz : bq ≤ wr.heap.size := by rw [← HBQ.out]; exact HB.out.size
      have HF := hide ((Fr.start wr).alloc (q := wr.heap.size) rfl #[.string L[k].name, .int .i64 L[k].kind, .bool L[k].stat, .int .i64 L[k].pl, .int .i64 L[k].size, .string L[k].sign, .int .i64 L[k].frame] 59)
      have c0 := HF.out.cell 0 rfl
      have HB1 := hide (HB.out.trans (HF.out.below.mono hsz))
      have HSt : Hid (fillSt L kd wd (k + 1) = if L[k].kind = kd then (if L[k].pl = nx ∧ 1 ≤ L[k].size ∧ L[k].size ≤ wd - nx then some (nx + L[k].size) else none) else some nx) := fillSt_succ hkl HK.out
      have HXk := hide (HX.out (k + 1) (by omega))
      clear HX HZ HK HB
      unfold In64 at *
      generalize L[k].name = nm at *
      generalize L[k].kind = kk at *
      generalize L[k].stat = st at *
      generalize L[k].pl = pl at *
      generalize L[k].size = sz at *
      generalize L[k].sign = sg at *
      generalize L[k].frame = fr at *
      by_cases q1 : kk = kd
      case neg =>
        go_wp2_with fail
        go_roundw
        case rel => exact ⟨k + 1, nx, by omega, rfl, by go_num, HSt.out.trans (by simp [q1]), HB1⟩
        case measure => simp [intOf]; omega
      subst q1
      by_cases q2 : pl = nx
      case neg =>
        obtain rfl := HXk.out (HSt.out.trans (by rw [if_pos rfl, if_neg (by omega)]))
        go_wp2_with fail
        go_ret
        exact ⟨rfl, by rw [HBQ.out]; exact HB1.out⟩
      subst q2
      by_cases q3 : 1 ≤ sz
      case neg =>
        have q3' : sz < 1 := by omega
        obtain rfl := HXk.out (HSt.out.trans (by rw [if_pos rfl, if_neg (by omega)]))
        go_wp2_with fail
        go_ret
        exact ⟨rfl, by rw [HBQ.out]; exact HB1.out⟩
      have q3' : ¬ sz < 1 := by omega
      by_cases q4 : sz ≤ (wd : Int) - pl
      case neg =>
        have q4' : (wd : Int) - pl < sz := by omega
        obtain rfl := HXk.out (HSt.out.trans (by rw [if_pos rfl, if_neg (by omega)]))
        go_wp2_with fail
        go_ret
        exact ⟨rfl, by rw [HBQ.out]; exact HB1.out⟩
      have q4' : ¬ (wd : Int) - pl < sz := by omega
      have HSq : Hid (fillSt L kk wd (k + 1) = some (pl + sz)) := HSt.out.trans (by rw [if_pos rfl, if_pos (by omega)])
      clear HSt HXk
      go_wp2_with fail
      go_roundw
      case rel => exact ⟨k + 1, pl + sz, by omega, by go_num, by go_num, HSq, HB1⟩
      case measure => simp [intOf]; omega
    · obtain rfl : k = n := by omega
      have hlt' : ¬ (k : Int) < k := by omega
      have HZk := hide (HZ.out nx HK.out)
      clear HZ HX HK
      go_wp2_with fail
      go_ret
      exact ⟨by rw [HZk.out]; by_cases h : nx = wd <;> simp [h], by rw [HBQ.out]; exact HB.out⟩
end Go.Proofs.Ythbhlmbhnidbhaa.T
