/- The contracts of the reference's Before and Address. -/
import Derived.Test.YthbhlmbhnidbhaaLk
namespace Go.Proofs.Ythbhlmbhnidbhaa.T
open Go.RowKit Go.Proofs.Ythbhlmbhnidbhaa.M
set_option linter.unusedVariables false
set_option linter.unusedSimpArgs false
def cS (l : List Ob) (u : Nat) : Nat := ((l.take u).map (·.code.length)).sum
def dS (l : List Ob) (u : Nat) : Nat := ((l.take u).map (·.data.length)).sum
theorem cS_next {l : List Ob} {u : Nat} (hu : u < l.length) : cS l (u + 1) = cS l u + l[u].code.length := by
  unfold cS
  rw [List.take_succ_eq_append_getElem hu, List.map_append, List.sum_append]
  rfl
theorem dS_next {l : List Ob} {u : Nat} (hu : u < l.length) : dS l (u + 1) = dS l u + l[u].data.length := by
  unfold dS
  rw [List.take_succ_eq_append_getElem hu, List.map_append, List.sum_append]
  rfl
/-- Objects that may be, not too many. -/
def Oks (l : List Ob) : Prop := l.length ≤ 4 ∧ ∀ o, o ∈ l → mayO o = true
theorem Oks.len {l : List Ob} (h : Oks l) (u : Nat) (hu : u < l.length) : l[u].code.length ≤ 6000 ∧ l[u].data.length ≤ 16000 ∧ l[u].syms.length ≤ 400 ∧ l[u].rels.length ≤ 6000 := by
  have h := h.2 _ (List.getElem_mem hu)
  unfold mayO at h
  simp at h
  omega
theorem Oks.sums {l : List Ob} (h : Oks l) : ∀ u, u ≤ l.length → cS l u ≤ 6000 * u ∧ dS l u ≤ 16000 * u
  | 0, _ => by simp [cS, dS]
  | u + 1, hu => by
    have := h.sums u (by omega)
    have := h.len u (by omega)
    rw [cS_next (by omega), dS_next (by omega)]
    omega
set_option maxRecDepth 100000 in
set_option maxHeartbeats 2000000 in
theorem before_any (a : Option Addr) (n c : Nat) (l : List Ob) (v : Nat) (w : World) (hv : Obs w (.slice a n c) l) (hO : Oks l) (hu : v ≤ n) : Calls Try.prog 13 #[.slice a n c, .int .i64 v] w fun e w' => e = .returned (.tuple #[.int .i64 (cS l v), .int .i64 (dS l v)]) ∧ w' = w := by
  obtain ⟨hnl, hlc, hc63, HA⟩ := hv.at
  have HA := hide HA
  have HN : Hid (l.length = n) := hnl.symm
  have h4 : n ≤ 4 := by have := hO.1; omega
  have HS := hide (fun u hu => hO.sums u hu)
  have HL := hide (fun u hu => hO.len u hu)
  have HC1 : Hid (∀ u (hu : u < l.length), cS l (u + 1) = cS l u + l[u].code.length) := fun u hu => cS_next hu
  have HD1 : Hid (∀ u (hu : u < l.length), dS l (u + 1) = dS l u + l[u].data.length) := fun u hu => dS_next hu
  have HC0 : Hid (cS l 0 = 0) := rfl
  have HD0 : Hid (dS l 0 = 0) := rfl
  obtain ⟨RC, HRC⟩ : ∃ R, Hid (cS l v = R) := ⟨_, rfl⟩
  obtain ⟨RD, HRD⟩ : ∃ R, Hid (dS l v = R) := ⟨_, rfl⟩
  rw [HRC.out, HRD.out]
  generalize cS l = C at *
  generalize dS l = D at *
  clear hnl hv hO
  go_enter Try.func13, Try.ntmps13
  go_wp2_with fail
  go_loopw [6, 7, 8] (fun x y i wr => ∃ u : Nat, u ≤ v ∧ x = .int .i64 (C u) ∧ y = .int .i64 (D u) ∧ i = .int .i64 u ∧ wr = w) (fun _ _ i _ => v - (intOf i).toNat)
  case atStart => exact ⟨0, Nat.zero_le _, by rw [HC0.out]; rfl, by rw [HD0.out]; rfl, rfl, rfl⟩
  case round =>
    obtain ⟨u, hu2, rfl, rfl, rfl, rfl⟩ := hrel
    by_cases hlt : u < v
    · have hlt' : (u : Int) < v := by omega
      have hidx : (0 : Int) ≤ u ∧ (u : Int) < n := by omega
      have hul : u < l.length := by rw [HN.out]; omega
      obtain ⟨g, oo, rfl, HE⟩ := HA.out (by omega)
      obtain ⟨ca, cc, da, dc, sa, sc, ra, rc, e0, e1, -⟩ := HE.out _ (Below.refl _ _) u hul
      have hs := HS.out u (by omega)
      have hl := HL.out u hul
      have hc1 := hide (HC1.out u hul)
      have hd1 := hide (HD1.out u hul)
      generalize l[u].code.length = x at *
      generalize l[u].data.length = y at *
      generalize hcu : C u = p at *
      generalize hdu : D u = q at *
      obtain ⟨s1, s2⟩ := hs
      obtain ⟨t1, t2, -⟩ := hl
      clear HE HA HS HL HC1 HD1
      go_wp2_with fail
      go_roundw
      case rel => exact ⟨u + 1, by omega, by rw [hc1.out]; simp, by rw [hd1.out]; simp, by go_num, by simp⟩
      case measure => simp [intOf]; omega
    · have hlt' : ¬ (u : Int) < v := by omega
      obtain rfl : u = v := by omega
      obtain rfl := HRC.out
      obtain rfl := HRD.out
      go_wp2_with fail
      go_ret2
      exact ⟨rfl, rfl⟩
/-- The address of a symbol that stands here. -/
def adrS (l : List Ob) (u : Nat) (s : Sy) : Int := if s.kind = 1 then 2 + cS l u + s.pl else 2 + cS l l.length + dS l u + s.pl
set_option maxRecDepth 100000 in
set_option maxHeartbeats 2000000 in
theorem address_own (a : Option Addr) (n c : Nat) (l : List Ob) (u i : Nat) (w : World) (hv : Obs w (.slice a n c) l) (hO : Oks l) (hu : u < l.length) (hi : i < l[u].syms.length) (hown : ownB l[u].syms[i] = true) : Calls Try.prog 10 #[.slice a n c, .int .i64 u, .int .i64 i] w fun e w' => e = .returned (.int .i64 (adrS l u l[u].syms[i])) ∧ Below w.heap.size w w' := by
  have HB := hide (fun (w' : World) (hb : Below w.heap.size w w') (v : Nat) (h : v ≤ n) => before_any a n c l v w' (hv.below hb) hO h)
  obtain ⟨hnl, hlc, hc63, HA⟩ := hv.at
  have h4 : n ≤ 4 := by have := hO.1; omega
  have hS1 := hO.sums u (by omega)
  have hS2 := hO.sums l.length (Nat.le_refl _)
  have hN4 := (mayO_n4 (hO.2 _ (List.getElem_mem hu)) i hi).2.1
  have HAdr : Hid (adrS l u l[u].syms[i] = if l[u].syms[i].kind = 1 then 2 + cS l u + l[u].syms[i].pl else 2 + cS l l.length + dS l u + l[u].syms[i].pl) := rfl
  rw [HAdr.out]
  obtain ⟨g, oo, rfl, HE⟩ := HA (by omega)
  obtain ⟨ca, cc, da, dc, sa, sc, ra, rc, e0, e1, e2, e3, HO⟩ := HE.out _ (Below.refl _ _) u hu
  obtain ⟨-, -, HSy⟩ := HO.out.syms
  obtain ⟨gs, os, rfl, HSE⟩ := HSy (by omega)
  obtain ⟨r0, r1, r2, r3, r4, r5, r6⟩ := HSE.out _ (Below.refl _ _) i hi
  have hidx : (0 : Int) ≤ u ∧ (u : Int) < n := by omega
  have hidx2 : (0 : Int) ≤ i ∧ (i : Int) < l[u].syms.length := by omega
  have HLN : Hid (l.length = n) := hnl.symm
  rw [HLN.out] at hS2
  rw [HLN.out]
  clear HAdr HE HO HSy HSE hO hv hnl HA
  generalize l[u].syms[i] = S at *
  obtain ⟨nm, kd, st, pl, sz, sg, fr⟩ := S
  simp only at hown hN4 r0 r1 r2 r3 r4 r5 r6 ⊢
  unfold ownB at hown
  simp only at hown
  unfold N4 at hN4
  obtain ⟨p0, p1⟩ := hN4
  obtain ⟨q1, q2⟩ := hS1
  obtain ⟨q3, q4⟩ := hS2
  have HF := hide ((Fr.start w).alloc (q := w.heap.size) rfl #[.string nm, .int .i64 kd, .bool st, .int .i64 pl, .int .i64 sz, .string sg, .int .i64 fr] 59)
  have HOw := hide (own_any nm kd st pl sz sg fr (w.alloc (.cells #[.string nm, .int .i64 kd, .bool st, .int .i64 pl, .int .i64 sz, .string sg, .int .i64 fr] 59)))
  rw [hown] at HOw
  have HBu := hide (fun w' hb => HB.out w' hb u (by omega))
  have HBn := hide (fun w' hb => HB.out w' hb n (Nat.le_refl _))
  generalize cS l u = C1 at *
  generalize dS l u = D1 at *
  generalize cS l n = C2 at *
  generalize dS l n = D2 at *
  clear HB hown
  by_cases hk : kd = 1
  · subst hk
    rw [if_pos rfl]
    go_enter Try.func10, Try.ntmps10
    go_wp2_with fail
    go_at_call 23
    refine HOw.out.mono ?_
    rintro e w1 ⟨rfl, hb⟩
    replace HF := hide (HF.out.call hb)
    have s0 := HF.out.cell 0 rfl
    clear hb HOw
    go_wp2_with fail
    go_at_call 13
    refine (HBu.out _ HF.out.below).mono ?_
    rintro e w2 ⟨rfl, rfl⟩
    go_wp2_with fail
    go_ret
    exact ⟨rfl, HF.out.below⟩
  · have hk' : (kd == 1) = false := by simpa using hk
    rw [if_neg hk]
    go_enter Try.func10, Try.ntmps10
    go_wp2_with fail
    go_at_call 23
    refine HOw.out.mono ?_
    rintro e w1 ⟨rfl, hb⟩
    replace HF := hide (HF.out.call hb)
    have s0 := HF.out.cell 0 rfl
    clear hb HOw
    go_wp2_with fail
    go_at_call 13
    refine (HBu.out _ HF.out.below).mono ?_
    rintro e w2 ⟨rfl, rfl⟩
    go_wp2_with fail
    go_at_call 13
    refine (HBn.out _ HF.out.below).mono ?_
    rintro e w2 ⟨rfl, rfl⟩
    go_wp2_with fail
    go_ret
    exact ⟨rfl, HF.out.below⟩
set_option maxRecDepth 100000 in
set_option maxHeartbeats 2000000 in
theorem address_out (a : Option Addr) (n c : Nat) (l : List Ob) (u i v k : Nat) (w : World) (hv : Obs w (.slice a n c) l) (hO : Oks l) (hu : u < l.length) (hi : i < l[u].syms.length) (hout : ownB l[u].syms[i] = false) (hh : homeO l l[u].syms[i].name = ((v : Int), (k : Int))) (hvl : v < l.length) (hk : k < l[v].syms.length) (hown : ownB l[v].syms[k] = true) : Calls Try.prog 10 #[.slice a n c, .int .i64 u, .int .i64 i] w fun e w' => e = .returned (.int .i64 (adrS l v l[v].syms[k])) ∧ Below w.heap.size w w' := by
  have HAd := hide (fun (w' : World) (hb : Below w.heap.size w w') => address_own a n c l v k w' (hv.below hb) hO hvl hk hown)
  have HHm := hide (fun (w' : World) (hb : Below w.heap.size w w') => home_any a n c l l[u].syms[i].name w' (hv.below hb))
  rw [hh] at HHm
  obtain ⟨hnl, hlc, hc63, HA⟩ := hv.at
  obtain ⟨g, oo, rfl, HE⟩ := HA (by omega)
  obtain ⟨ca, cc, da, dc, sa, sc, ra, rc, e0, e1, e2, e3, HO⟩ := HE.out _ (Below.refl _ _) u hu
  obtain ⟨-, hs63, HSy⟩ := HO.out.syms
  obtain ⟨gs, os, rfl, HSE⟩ := HSy (by omega)
  obtain ⟨r0, r1, r2, r3, r4, r5, r6⟩ := HSE.out _ (Below.refl _ _) i hi
  have hidx : (0 : Int) ≤ u ∧ (u : Int) < n := by omega
  have hidx2 : (0 : Int) ≤ i ∧ (i : Int) < l[u].syms.length := by omega
  generalize adrS l v l[v].syms[k] = R at *
  clear HE HO HSy HSE hO hv HA hown hk hh hnl
  generalize l[u].syms[i] = S at *
  obtain ⟨nm, kd, st, pl, sz, sg, fr⟩ := S
  simp only at hout r0 r1 r2 r3 r4 r5 r6 HHm
  unfold ownB at hout
  simp only at hout
  have HF := hide ((Fr.start w).alloc (q := w.heap.size) rfl #[.string nm, .int .i64 kd, .bool st, .int .i64 pl, .int .i64 sz, .string sg, .int .i64 fr] 59)
  have HOw := hide (own_any nm kd st pl sz sg fr (w.alloc (.cells #[.string nm, .int .i64 kd, .bool st, .int .i64 pl, .int .i64 sz, .string sg, .int .i64 fr] 59)))
  rw [hout] at HOw
  clear hout
  go_enter Try.func10, Try.ntmps10
  go_wp2_with fail
  go_at_call 23
  refine HOw.out.mono ?_
  rintro e w1 ⟨rfl, hb⟩
  replace HF := hide (HF.out.call hb)
  have s0 := HF.out.cell 0 rfl
  clear hb HOw
  go_wp2_with fail
  go_at_call 9
  refine (HHm.out _ HF.out.below).mono ?_
  rintro e w2 ⟨rfl, hb⟩
  replace HF := hide (HF.out.call hb)
  clear hb HHm s0
  go_wp2_with fail
  go_at_call 10
  refine (HAd.out _ HF.out.below).mono ?_
  rintro e w3 ⟨rfl, hb⟩
  replace HF := hide (HF.out.call hb)
  clear hb
  go_wp2_with fail
  go_ret
  exact ⟨rfl, HF.out.below⟩
end Go.Proofs.Ythbhlmbhnidbhaa.T
