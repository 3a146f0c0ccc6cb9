/- Objects in a row; where names are at home, as plain things; the contracts of the reference's own, Home, Before. -/
import Derived.Test.YthbhlmbhnidbhaaMb
namespace Go.Proofs.Ythbhlmbhnidbhaa.T
open Go.RowKit Go.Proofs.Ythbhlmbhnidbhaa.M
set_option linter.unusedVariables false
set_option linter.unusedSimpArgs false
def obC (w : World) (o : Ob) (cs : List Value) : Prop := ∃ cv dv sv rv, cs = [cv, dv, sv, rv] ∧ ObV w o (.agg #[cv, dv, sv, rv])
abbrev Obs (w : World) (v : Value) (l : List Ob) : Prop := RowV obC 4 w v l
theorem Obs.below {w w' : World} {v : Value} {l : List Ob} (h : Obs w v l) (hb : Below w.heap.size w w') : Obs w' v l :=
  RowV.below (w := w) (w' := w') (fun _ _ ⟨cv, dv, sv, rv, e, h⟩ => ⟨cv, dv, sv, rv, e, h.below hb⟩) h hb
theorem Obs.at {w : World} {a : Option Addr} {n c : Nat} {l : List Ob} (h : Obs w (.slice a n c) l) : n = l.length ∧ n ≤ c ∧ c ≤ 9223372036854775807 ∧ (0 < n → ∃ g oo, a = some ⟨g, oo, none⟩ ∧ Hid (∀ w', Below w.heap.size w w' → ∀ j (hj : j < l.length), ∃ ca cc da dc sa sc ra rc, w'.cell? ⟨g, oo + j * 4, none⟩ = some (.slice ca l[j].code.length cc) ∧ w'.cell? ⟨g, oo + j * 4 + 1, none⟩ = some (.slice da l[j].data.length dc) ∧ w'.cell? ⟨g, oo + j * 4 + 2, none⟩ = some (.slice sa l[j].syms.length sc) ∧ w'.cell? ⟨g, oo + j * 4 + 3, none⟩ = some (.slice ra l[j].rels.length rc) ∧ Hid (ObV w' l[j] (.agg #[.slice ca l[j].code.length cc, .slice da l[j].data.length dc, .slice sa l[j].syms.length sc, .slice ra l[j].rels.length rc])))) := by
  obtain ⟨a', c', e, h1, h2, H⟩ := h
  cases e
  refine ⟨rfl, h1, h2, fun h0 => ?_⟩
  obtain ⟨g, oo, e1, hg, E⟩ := H h0
  refine ⟨g, oo, e1, fun w' hw j hj => ?_⟩
  obtain ⟨cs, ⟨cv, dv, sv, rv, rfl, hv⟩, q⟩ := E j hj
  have hv' := hv.below hw
  obtain ⟨cv', dv', sv', rv', e, ⟨ca, cc, rfl, -⟩, ⟨da, dc, rfl, -⟩, ⟨sa, sc, rfl, -⟩, ⟨ra, rc, rfl, -⟩⟩ := hv
  simp at e
  obtain ⟨rfl, rfl, rfl, rfl⟩ := e
  have key : ∀ i u, ([.slice ca l[j].code.length cc, .slice da l[j].data.length dc, .slice sa l[j].syms.length sc, .slice ra l[j].rels.length rc] : List Value)[i]? = some u → w'.cell? ⟨g, oo + j * 4 + i, none⟩ = some u := fun i u hu => (hw.cell (p := ⟨g, oo + j * 4 + i, none⟩) hg).trans (q i u hu)
  exact ⟨ca, cc, da, dc, sa, sc, ra, rc, key 0 _ rfl, key 1 _ rfl, key 2 _ rfl, key 3 _ rfl, hv'⟩
/-- The symbols of an object. -/
theorem ObV.syms {w : World} {o : Ob} {ca da sa ra : Option Addr} {nc cc nd dc ns sc nr rc : Nat} (h : ObV w o (.agg #[.slice ca nc cc, .slice da nd dc, .slice sa ns sc, .slice ra nr rc])) : ns = o.syms.length ∧ ns ≤ 9223372036854775807 ∧ (0 < ns → ∃ g oo, sa = some ⟨g, oo, none⟩ ∧ Hid (∀ w', Below w.heap.size w w' → ∀ j (hj : j < o.syms.length), w'.cell? ⟨g, oo + j * 7, none⟩ = some (.string o.syms[j].name) ∧ w'.cell? ⟨g, oo + j * 7 + 1, none⟩ = some (.int .i64 o.syms[j].kind) ∧ w'.cell? ⟨g, oo + j * 7 + 2, none⟩ = some (.bool o.syms[j].stat) ∧ w'.cell? ⟨g, oo + j * 7 + 3, none⟩ = some (.int .i64 o.syms[j].pl) ∧ w'.cell? ⟨g, oo + j * 7 + 4, none⟩ = some (.int .i64 o.syms[j].size) ∧ w'.cell? ⟨g, oo + j * 7 + 5, none⟩ = some (.string o.syms[j].sign) ∧ w'.cell? ⟨g, oo + j * 7 + 6, none⟩ = some (.int .i64 o.syms[j].frame))) := by
  obtain ⟨cv', dv', sv', rv', e, -, -, ⟨sa', sc', rfl, h1, h2, H⟩, -⟩ := h
  simp at e
  obtain ⟨-, -, ⟨rfl, rfl, rfl⟩, -⟩ := e
  refine ⟨rfl, by omega, fun h0 => ?_⟩
  obtain ⟨g, oo, e1, hg, E⟩ := H h0
  refine ⟨g, oo, e1, fun w' hw j hj => ?_⟩
  obtain ⟨r0, r1, r2, r3, r4, r5, r6, -⟩ := sy_cells hg E hw j hj
  exact ⟨r0, r1, r2, r3, r4, r5, r6⟩
def ownB (s : Sy) : Bool := decide (s.kind = 1) || decide (s.kind = 2)
def opens (name : ByteArray) (s : Sy) : Bool := ownB s && !s.stat && decide (s.name = name)
/-- The first object that has a name openly, and its symbol's number. -/
def homeGo (name : ByteArray) : List Ob → Nat → Int × Int
  | [], _ => (-1, 0)
  | o :: r, u => match o.syms.findIdx? (opens name) with
    | some i => ((u : Int), (i : Int))
    | none => homeGo name r (u + 1)
def homeO (l : List Ob) (name : ByteArray) : Int × Int := homeGo name l 0
theorem homeGo_yes (name : ByteArray) : ∀ (l : List Ob) (u0 u i : Nat) (hu : u < l.length), l[u].syms.findIdx? (opens name) = some i → (∀ v (hv : v < u), (l[v]'(by omega)).syms.findIdx? (opens name) = none) → homeGo name l u0 = (((u0 + u : Nat) : Int), (i : Int))
  | [], u0, u, i, hu, _, _ => absurd hu (by simp)
  | o :: r, u0, 0, i, hu, h, hn => by
    unfold homeGo
    simp only [List.getElem_cons_zero] at h
    rw [h]
    simp
  | o :: r, u0, u + 1, i, hu, h, hn => by
    have h0 := hn 0 (by omega)
    simp only [List.getElem_cons_zero] at h0
    unfold homeGo
    rw [h0]
    simp only
    rw [homeGo_yes name r (u0 + 1) u i (by simpa using hu) h (fun v hv => hn (v + 1) (by omega))]
    congr 2
    omega
theorem homeGo_no (name : ByteArray) : ∀ (l : List Ob) (u0 : Nat), (∀ v (hv : v < l.length), l[v].syms.findIdx? (opens name) = none) → homeGo name l u0 = (-1, 0)
  | [], _, _ => rfl
  | o :: r, u0, hn => by
    have h0 := hn 0 (by simp)
    simp only [List.getElem_cons_zero] at h0
    unfold homeGo
    rw [h0]
    exact homeGo_no name r (u0 + 1) fun v hv => hn (v + 1) (by simpa using hv)
theorem find_yes {α : Type} {p : α → Bool} {L : List α} {i : Nat} (hi : i < L.length) (h : p L[i] = true) (hn : ∀ j (hj : j < i), p (L[j]'(by omega)) = false) : L.findIdx? p = some i := by
  rw [List.findIdx?_eq_some_iff_getElem]
  exact ⟨hi, h, fun j hj => by simpa using hn j hj⟩
theorem find_no {α : Type} {p : α → Bool} {L : List α} (h : ∀ j (hj : j < L.length), p L[j] = false) : L.findIdx? p = none := by
  rw [List.findIdx?_eq_none_iff]
  intro x hx
  obtain ⟨j, hj, rfl⟩ := List.getElem_of_mem hx
  exact h j hj
theorem own_any (nm : ByteArray) (kd : Int) (st : Bool) (pl sz : Int) (sg : ByteArray) (fr : Int) (w : World) : Calls Try.prog 23 #[.agg #[.string nm, .int .i64 kd, .bool st, .int .i64 pl, .int .i64 sz, .string sg, .int .i64 fr]] w fun e w' => e = .returned (.bool (decide (kd = 1) || decide (kd = 2))) ∧ Below w.heap.size w w' := by
  have HF := hide ((Fr.start w).alloc rfl #[.string nm, .int .i64 kd, .bool st, .int .i64 pl, .int .i64 sz, .string sg, .int .i64 fr] 59)
  by_cases h1 : kd = 1
  · subst h1
    go_enter Try.func23, Try.ntmps23
    go_wp2_with fail
    go_ret
    exact ⟨by simp, HF.out.below⟩
  · have h1' : (kd == 1) = false := by simpa using h1
    by_cases h2 : kd = 2
    · subst h2
      go_enter Try.func23, Try.ntmps23
      go_wp2_with fail
      go_ret
      exact ⟨by simp, HF.out.below⟩
    · have h2' : (kd == 2) = false := by simpa using h2
      go_enter Try.func23, Try.ntmps23
      go_wp2_with fail
      go_ret
      exact ⟨by simp [h1, h2], HF.out.below⟩
set_option maxRecDepth 100000 in
set_option maxHeartbeats 2000000 in
theorem home_any (a : Option Addr) (n c : Nat) (l : List Ob) (name : ByteArray) (w : World) (hv : Obs w (.slice a n c) l) : Calls Try.prog 9 #[.slice a n c, .string name] w fun e w' => e = .returned (.tuple #[.int .i64 (homeO l name).1, .int .i64 (homeO l name).2]) ∧ Below w.heap.size w w' := by
  obtain ⟨hnl, hlc, hc63, HA⟩ := hv.at
  have HA := hide HA
  have HN : Hid (l.length = n) := hnl.symm
  clear hnl
  have HYes : Hid (∀ (u i : Nat) (hu : u < l.length), l[u].syms.findIdx? (opens name) = some i → (∀ v (hv : v < u), (l[v]'(by omega)).syms.findIdx? (opens name) = none) → homeO l name = ((u : Int), (i : Int))) := fun u i hu h hn => by
    have := homeGo_yes name l 0 u i hu h hn
    unfold homeO
    rw [this]
    simp
  have HNo : Hid ((∀ v (hv : v < l.length), l[v].syms.findIdx? (opens name) = none) → homeO l name = (-1, 0)) := homeGo_no name l 0
  obtain ⟨R, HR⟩ : ∃ R, Hid (homeO l name = R) := ⟨_, rfl⟩
  rw [HR.out] at HYes HNo
  rw [HR.out]
  clear hv HR
  have HF := hide (Fr.start w)
  go_enter Try.func9, Try.ntmps9
  go_wp2_with fail
  go_loopw [6] (fun i wr => ∃ u : Nat, u ≤ n ∧ i = .int .i64 u ∧ Hid (Fr w.heap.size w wr []) ∧ Hid (∀ v (hv : v < l.length), v < u → l[v].syms.findIdx? (opens name) = none)) (fun i _ => n - (intOf i).toNat)
  case atStart => exact ⟨0, Nat.zero_le _, rfl, HF, fun v _ hv => absurd hv (by omega)⟩
  case round =>
    clear HF
    obtain ⟨u, hu, rfl, HF, HQ⟩ := hrel
    by_cases hlt : u < n
    · have hlt' : (u : Int) < n := by omega
      have hidx : (0 : Int) ≤ u ∧ (u : Int) < n := by omega
      have hul : u < l.length := by rw [HN.out]; exact hlt
      obtain ⟨g, oo, rfl, HE⟩ := HA.out (by omega)
      have HYu := hide (fun (i : Nat) h => HYes.out u i hul h (fun v hv => HQ.out v (by omega) hv))
      have HQu : Hid (l[u].syms.findIdx? (opens name) = none → ∀ v (hv : v < l.length), v < u + 1 → l[v].syms.findIdx? (opens name) = none) := fun h v hv hvu => by
        by_cases q : v = u
        · subst q; exact h
        · exact HQ.out v hv (by omega)
      have HEu := hide (fun w' hw => HE.out w' hw u hul)
      generalize l[u] = O at *
      clear HE HQ
      go_wp2_with fail
      go_loopw [7] (fun i wr => ∃ k : Nat, k ≤ O.syms.length ∧ i = .int .i64 k ∧ Hid (Fr w.heap.size w wr []) ∧ Hid (∀ j (hj : j < O.syms.length), j < k → opens name O.syms[j] = false)) (fun i _ => O.syms.length - (intOf i).toNat)
      case atStart => exact ⟨0, Nat.zero_le _, rfl, HF, fun v _ hv => absurd hv (by omega)⟩
      case round =>
        clear HF
        obtain ⟨k, hk, rfl, HF, HJ⟩ := hrel
        obtain ⟨ca, cc, da, dc, sa, sc, ra, rc, e0, e1, e2, e3, HO⟩ := HEu.out _ HF.out.below
        obtain ⟨-, hs63, HS⟩ := HO.out.syms
        by_cases hk2 : k < O.syms.length
        · have hk2' : (k : Int) < O.syms.length := by omega
          have hidx2 : (0 : Int) ≤ k ∧ (k : Int) < O.syms.length := by omega
          obtain ⟨gs, os, rfl, HSE⟩ := HS (by omega)
          obtain ⟨r0, r1, r2, r3, r4, r5, r6⟩ := HSE.out _ (Below.refl _ _) k hk2
          have HYk : Hid (opens name O.syms[k] = true → R = ((u : Int), (k : Int))) := fun h => HYu.out k (find_yes hk2 h fun j hj => HJ.out j (by omega) hj)
          have HJk : Hid (opens name O.syms[k] = false → ∀ j (hj : j < O.syms.length), j < k + 1 → opens name O.syms[j] = false) := fun h j hj hjk => by
            by_cases q : j = k
            · subst q; exact h
            · exact HJ.out j hj (by omega)
          generalize O.syms[k] = S at *
          obtain ⟨nm, kd, st, pl, sz, sg, fr⟩ := S
          simp only at r0 r1 r2 r3 r4 r5 r6
          have HOp : Hid (opens name ⟨nm, kd, st, pl, sz, sg, fr⟩ = ((decide (kd = 1) || decide (kd = 2)) && !st && decide (nm = name))) := rfl
          have HFa := hide (HF.out.alloc (q := wr.heap.size) rfl #[.string nm, .int .i64 kd, .bool st, .int .i64 pl, .int .i64 sz, .string sg, .int .i64 fr] 59)
          have HOw := hide (own_any nm kd st pl sz sg fr (wr.alloc (.cells #[.string nm, .int .i64 kd, .bool st, .int .i64 pl, .int .i64 sz, .string sg, .int .i64 fr] 59)))
          generalize hK : (decide (kd = 1) || decide (kd = 2)) = K at *
          clear hK HJ HYu HS HSE HO
          go_wp2_with fail
          go_at_call 23
          refine HOw.out.mono ?_
          rintro e w1 ⟨rfl, hb⟩
          replace HFa := hide (HFa.out.call hb)
          have s0 := HFa.out.cell 0 rfl
          clear hb HOw
          cases K
          · have HJn := hide (HJk.out (HOp.out.trans (by simp)))
            go_wp2_with fail
            go_roundw
            case rel => exact ⟨k + 1, by omega, by go_num, HFa.out.tail, HJn⟩
            case measure => simp [intOf]; omega
          · cases st
            · by_cases hq : nm = name
              · subst hq
                obtain rfl := HYk.out (HOp.out.trans (by simp))
                go_wp2_with fail
                go_ret2
                exact ⟨rfl, HFa.out.below⟩
              · have hq' : (nm.toList == name.toList) = false := by rw [str_eq]; simpa using hq
                have HJn := hide (HJk.out (HOp.out.trans (by simp [hq])))
                go_wp2_with fail
                go_roundw
                case rel => exact ⟨k + 1, by omega, by go_num, HFa.out.tail, HJn⟩
                case measure => simp [intOf]; omega
            · have HJn := hide (HJk.out (HOp.out.trans (by simp)))
              go_wp2_with fail
              go_roundw
              case rel => exact ⟨k + 1, by omega, by go_num, HFa.out.tail, HJn⟩
              case measure => simp [intOf]; omega
        · have hk2' : ¬ (k : Int) < O.syms.length := by omega
          have HQn := hide (HQu.out (find_no fun j hj => HJ.out j hj (by omega)))
          clear HQu HYu HJ HS HO
          go_wp2_with fail
          go_roundw
          case rel => exact ⟨u + 1, by omega, by go_num, HF, HQn⟩
          case measure => simp [intOf]; omega
    · have hlt' : ¬ (u : Int) < n := by omega
      obtain rfl := HNo.out fun v hv => HQ.out v hv (by have := HN.out; omega)
      go_wp2_with fail
      go_ret2
      exact ⟨rfl, HF.out.below⟩
end Go.Proofs.Ythbhlmbhnidbhaa.T
