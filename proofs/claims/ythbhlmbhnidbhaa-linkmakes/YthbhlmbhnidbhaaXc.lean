/- The contracts of the linker's count, form. -/
import Derived.Test.YthbhlmbhnidbhaaXb
import Derived.Test.YthbhlmbhnidbhaaQf
namespace Go.Proofs.Ythbhlmbhnidbhaa.T
open Go.RowKit Go.Proofs.Ythbhlmbhnidbhaa.M
set_option linter.unusedVariables false
set_option linter.unusedSimpArgs false
def trV (t : Int × Int × Int) : Value := .agg #[.int .i64 t.1, .int .i64 t.2.1, .int .i64 t.2.2]
theorem Fr.tr {n0 : Nat} {w0 w : World} {L : List Rs} (h : Fr n0 w0 w L) (i : Nat) {q : Nat} (hi : L[i]? = some (.blk q #[.int .i64 0, .int .i64 0, .int .i64 0] 30)) (t0 t1 t2 : Int) : Fr n0 w0 (((w.setCell ⟨q, 0, none⟩ (.int .i64 t0)).setCell ⟨q, 1, none⟩ (.int .i64 t1)).setCell ⟨q, 2, none⟩ (.int .i64 t2)) (L.set i (.blk q #[.int .i64 t0, .int .i64 t1, .int .i64 t2] 30)) := by
  have hl : i < L.length := (List.getElem?_eq_some_iff.1 hi).1
  have h1 := h.set i hi 0 (.int .i64 t0)
  have h2 := h1.set i (q := q) (cs := #[.int .i64 t0, .int .i64 0, .int .i64 0]) (T := 30) (by rw [List.getElem?_set_self hl]; rfl) 1 (.int .i64 t1)
  have h3 := h2.set i (q := q) (cs := #[.int .i64 t0, .int .i64 t1, .int .i64 0]) (T := 30) (by rw [List.getElem?_set_self (by simpa using hl)]; rfl) 2 (.int .i64 t2)
  simpa using h3
def countT (n : Nat) : Int × Int × Int := if n < 1 ∨ 4 < n then (0, 1, 0) else (0, 0, 0)
theorem LS.look {n0 : Nat} {W w : World} {b mb : Nat} {a : Option Addr} {n c : Nat} {mem : Int} {CO DA : List Int} {ST : List (Int × Int)} {RG : List Rg} {k : Nat} {f : ByteArray → Option (Nat × Nat)} {L : List Rs} (h : LS n0 W w b mb a n c mem CO DA ST RG k f L) : w.cell? ⟨b, 3, none⟩ = some (.slice a n c) ∧ w.cell? ⟨b, 4, none⟩ = some (.map (some mb)) := by
  obtain ⟨ca, cc, da, dc, sa, sc, ra, rc, h⟩ := h.cells
  exact ⟨h 3, h 4⟩
set_option maxRecDepth 100000 in
theorem count_any {W w : World} {b mb : Nat} {a : Option Addr} {n c : Nat} {mem : Int} {CO DA : List Int} {ST : List (Int × Int)} {RG : List Rg} {k : Nat} {f : ByteArray → Option (Nat × Nat)} {L : List Rs} (h : LS W.heap.size W w b mb a n c mem CO DA ST RG k f L) (hn : n ≤ 9223372036854775807) : Calls Try.prog 15 #[.pointer (some ⟨b, 0, none⟩)] w fun e w' => e = .returned (trV (countT n)) ∧ Below w.heap.size w w' := by
  have HB := hide ((Fr.start w).alloc (q := w.heap.size) rfl #[.int .i64 0, .int .i64 0, .int .i64 0] 30)
  obtain ⟨c3, c4⟩ := (h.call HB.out.below).look
  have f0 := HB.out.frz 0 rfl
  clear h
  by_cases h1 : (n : Int) < 1
  · skip
    have hT : countT n = (0, 1, 0) := by unfold countT; simp; omega
    rw [hT]
    clear hT
    have HG := hide ((Fr.start w).alloc (q := w.heap.size) rfl #[.int .i64 0, .int .i64 1, .int .i64 0] 30)
    go_enter Try.func15, Try.ntmps15
    go_wp2_with fail
    refine bodyPost_ret (rtT Try.results15 rfl (HG.out.get (i := 0) rfl).2 rfl) rfl ?_
    exact ⟨rfl, HG.out.below⟩
  by_cases h2 : (4 : Int) < n
  · skip
    have hT : countT n = (0, 1, 0) := by unfold countT; simp; omega
    rw [hT]
    clear hT
    have HG := hide ((Fr.start w).alloc (q := w.heap.size) rfl #[.int .i64 0, .int .i64 1, .int .i64 0] 30)
    go_enter Try.func15, Try.ntmps15
    go_wp2_with fail
    refine bodyPost_ret (rtT Try.results15 rfl (HG.out.get (i := 0) rfl).2 rfl) rfl ?_
    exact ⟨rfl, HG.out.below⟩
  · skip
    have hT : countT n = (0, 0, 0) := by unfold countT; simp; omega
    rw [hT]
    clear hT
    have HG := hide ((Fr.start w).alloc (q := w.heap.size) rfl #[.int .i64 0, .int .i64 0, .int .i64 0] 30)
    go_enter Try.func15, Try.ntmps15
    go_wp2_with fail
    refine bodyPost_ret (rtT Try.results15 rfl (HG.out.get (i := 0) rfl).2 rfl) rfl ?_
    exact ⟨rfl, HG.out.below⟩
def formT (l : List Ob) : Int × Int × Int := match l.findIdx? (fun o => !mayO o) with | some u => ((u : Int), 2, 0) | none => (0, 0, 0)
set_option maxRecDepth 100000 in
set_option maxHeartbeats 2000000 in
theorem form_any {W w : World} {b mb : Nat} {a : Option Addr} {n c : Nat} {mem : Int} {CO DA : List Int} {ST : List (Int × Int)} {RG : List Rg} {k : Nat} {f : ByteArray → Option (Nat × Nat)} {L : List Rs} (l : List Ob) (hO : Obs W (.slice a n c) l) (h : LS W.heap.size W w b mb a n c mem CO DA ST RG k f L) : Calls Try.prog 16 #[.pointer (some ⟨b, 0, none⟩)] w fun e w' => e = .returned (trV (formT l)) ∧ Below w.heap.size w w' := by
  have HL : Hid (∀ w', Below w.heap.size w w' → Below W.heap.size W w' ∧ w'.cell? ⟨b, 3, none⟩ = some (.slice a n c)) := fun w' hb => ⟨(h.call hb).below, (h.call hb).look.1⟩
  obtain ⟨hnl, hlc, hc63, HA⟩ := hO.at
  have HA := hide HA
  have HN : Hid (l.length = n) := hnl.symm
  have HYes : Hid (∀ u (hu : u < l.length), mayO l[u] = false → (∀ v (hv : v < l.length), v < u → mayO l[v] = true) → formT l = ((u : Int), 2, 0)) := fun u hu h1 h2 => by
    unfold formT
    rw [find_yes (p := fun o => !mayO o) hu (by simp [h1]) (fun j hj => by simp [h2 j (by omega) hj])]
  have HNo : Hid ((∀ v (hv : v < l.length), mayO l[v] = true) → formT l = (0, 0, 0)) := fun h1 => by
    unfold formT
    rw [find_no (p := fun o => !mayO o) (fun j hj => by simp [h1 j hj])]
  have HF := hide ((Fr.start w).alloc (q := w.heap.size) rfl #[.int .i64 0, .int .i64 0, .int .i64 0] 30)
  generalize formT l = T at *
  obtain ⟨-, c3⟩ := HL.out _ HF.out.below
  clear h hO hnl
  go_enter Try.func16, Try.ntmps16
  go_wp2_with fail
  clear c3
  generalize hbq : w.heap.size = bq at *
  have HBQ := hide hbq
  clear hbq
  go_loopw [10] (fun i wr => ∃ u : Nat, u ≤ n ∧ i = .int .i64 u ∧ Hid (Fr bq w wr [.blk bq #[.int .i64 0, .int .i64 0, .int .i64 0] 30]) ∧ Hid (∀ v (hv : v < l.length), v < u → mayO l[v] = true)) (fun i _ => n - (intOf i).toNat)
  case atStart => exact ⟨0, Nat.zero_le _, rfl, HF, fun v _ hv => absurd hv (by omega)⟩
  case round =>
    clear HF
    obtain ⟨u, hu, rfl, HF, HQ⟩ := hrel
    by_cases hlt : u < n
    · have hlt' : (u : Int) < n := by omega
      have hidx : (0 : Int) ≤ u ∧ (u : Int) < n := by omega
      have hul : u < l.length := by rw [HN.out]; exact hlt
      obtain ⟨g, oo, rfl, HE⟩ := HA.out (by omega)
      obtain ⟨oca, occ, oda, odc, osa, osc, ora, orc, e0, e1, e2, e3, HO⟩ := HE.out _ (HL.out _ HF.out.below).1 u hul
      have HFa := hide (HF.out.alloc (q := wr.heap.size) rfl #[.slice oca l[u].code.length occ, .slice oda l[u].data.length odc, .slice osa l[u].syms.length osc, .slice ora l[u].rels.length orc] 57)
      have q0 := HFa.out.cell 0 rfl
      have HM := hide (pmay_any l[u] _ _ (HO.below ((Below.refl _ _).alloc (Nat.le_refl _) (.cells #[.slice oca l[u].code.length occ, .slice oda l[u].data.length odc, .slice osa l[u].syms.length osc, .slice ora l[u].rels.length orc] 57))))
      have HYu := hide (fun h => HYes.out u hul h HQ.out)
      have HQu : Hid (mayO l[u] = true → ∀ v (hv : v < l.length), v < u + 1 → mayO l[v] = true) := fun h v hv hvu => by
        by_cases q : v = u
        · subst q; exact h
        · exact HQ.out v hv (by omega)
      clear HQ HE HO HYes HNo
      generalize mayO l[u] = M at *
      generalize l[u].code.length = nc at *
      generalize l[u].data.length = nd at *
      generalize l[u].syms.length = ns at *
      generalize l[u].rels.length = nr at *
      go_wp2_with fail
      go_at_call 27
      refine HM.out.mono ?_
      rintro e w1 ⟨rfl, hb⟩
      replace HFa := hide (HFa.out.call hb)
      clear hb HM q0
      have f0 := HFa.out.frz 1 rfl
      have q1 := HFa.out.cell 1 rfl
      cases M with
      | true =>
        have HQn := hide (HQu.out rfl)
        clear HQu
        go_wp2_with fail
        go_roundw
        case rel => exact ⟨u + 1, by omega, by go_num, HFa.out.tail, HQn⟩
        case measure => simp [intOf]; omega
      | false =>
        obtain rfl := HYu.out rfl
        have HG := hide (HFa.out.tr 1 rfl u 2 0)
        go_wp2_with fail
        refine bodyPost_ret (rtT Try.results16 rfl (HG.out.get (i := 1) rfl).2 rfl) rfl ?_
        exact ⟨rfl, by rw [HBQ.out]; exact HG.out.below⟩
    · have hlt' : ¬ (u : Int) < n := by omega
      obtain rfl := HNo.out fun v hv => HQ.out v hv (by have := HN.out; omega)
      have f0 := HF.out.frz 0 rfl
      have q1 := HF.out.cell 0 rfl
      have HG := hide (HF.out.tr 0 rfl 0 0 0)
      go_wp2_with fail
      refine bodyPost_ret (rtT Try.results16 rfl (HG.out.get (i := 0) rfl).2 rfl) rfl ?_
      exact ⟨rfl, by rw [HBQ.out]; exact HG.out.below⟩
end Go.Proofs.Ythbhlmbhnidbhaa.T
