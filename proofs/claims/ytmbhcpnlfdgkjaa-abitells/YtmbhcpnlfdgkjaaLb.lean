/- The law AbiTells, given what the program's Places answers. -/
import Derived.Test.YtmbhcpnlfdgkjaaPh
import Derived.Test.YtmbhcpnlfdgkjaaLi
namespace Go.Proofs.Ytmbhcpnlfdgkjaa.T
open Go.RowKit
set_option linter.unusedVariables false
set_option linter.unusedSimpArgs false
/-- What the program's Places is to answer. -/
def Pr9 : Prop := ∀ (T : Ty) (v : Value) (ba : Option Addr) (bn bc : Nat) (bs : Nat → Ty) (w : World), TyV w T v → Tys w (.slice ba bn bc) bn bs → Calls Try.prog 5 #[v, .slice ba bn bc] w (PostP w T bn bs)
variable {w w' : World}
theorem Locs.below {v : Value} {L : List Lo} (h : Locs w v L) (hb : Below w.heap.size w w') : Locs w' v L := by
  obtain ⟨a, c, rfl, H⟩ := h
  refine ⟨a, c, rfl, fun h0 => ?_⟩
  obtain ⟨g, o, e1, e2, e3⟩ := H h0
  exact ⟨g, o, e1, Nat.lt_of_lt_of_le e2 hb.size, fun j hj => ⟨(hb.cell (p := ⟨g, o + j * 2, none⟩) e2).trans (e3 j hj).1, (hb.cell (p := ⟨g, o + j * 2 + 1, none⟩) e2).trans (e3 j hj).2⟩⟩
theorem Ints.below {v : Value} {L : List Nat} (h : Ints w v L) (hb : Below w.heap.size w w') : Ints w' v L := by
  obtain ⟨a, c, rfl, H⟩ := h
  refine ⟨a, c, rfl, fun h0 => ?_⟩
  obtain ⟨g, o, e1, e2, e3⟩ := H h0
  exact ⟨g, o, e1, Nat.lt_of_lt_of_le e2 hb.size, fun j hj => (hb.cell (p := ⟨g, o + j, none⟩) e2).trans (e3 j hj)⟩
theorem Bools.below {v : Value} {L : List Bool} (h : Bools w v L) (hb : Below w.heap.size w w') : Bools w' v L := by
  obtain ⟨a, c, rfl, H⟩ := h
  refine ⟨a, c, rfl, fun h0 => ?_⟩
  obtain ⟨g, o, e1, e2, e3⟩ := H h0
  exact ⟨g, o, e1, Nat.lt_of_lt_of_le e2 hb.size, fun j hj => (hb.cell (p := ⟨g, o + j, none⟩) e2).trans (e3 j hj)⟩
theorem Rows'.below {v : Value} {L : List (List Lo)} (h : Rows' w v L) (hb : Below w.heap.size w w') : Rows' w' v L := by
  obtain ⟨a, c, rfl, H⟩ := h
  refine ⟨a, c, rfl, fun h0 => ?_⟩
  obtain ⟨g, o, e1, e2, e3⟩ := H h0
  refine ⟨g, o, e1, Nat.lt_of_lt_of_le e2 hb.size, fun j hj => ?_⟩
  obtain ⟨u, k1, k2⟩ := e3 j hj
  exact ⟨u, (hb.cell (p := ⟨g, o + j, none⟩) e2).trans k1, k2.below hb⟩
theorem Tys.below {v : Value} {n : Nat} {ts : Nat → Ty} (h : Tys w v n ts) (hb : Below w.heap.size w w') : Tys w' v n ts := by
  obtain ⟨a, c, rfl, h1, h2, H⟩ := h
  refine ⟨a, c, rfl, h1, h2, fun h0 => ?_⟩
  obtain ⟨b, o, e1, e2, e3⟩ := H h0
  refine ⟨b, o, e1, Nat.lt_of_lt_of_le e2 hb.size, fun j hj => ?_⟩
  obtain ⟨k0, k1, k2, k3, k4, g0, g1, g2, g3, g4, g5⟩ := e3 j hj
  exact ⟨k0, k1, k2, k3, k4, (hb.cell (p := ⟨b, o + j * 5, none⟩) e2).trans g0, (hb.cell (p := ⟨b, o + j * 5 + 1, none⟩) e2).trans g1, (hb.cell (p := ⟨b, o + j * 5 + 2, none⟩) e2).trans g2, (hb.cell (p := ⟨b, o + j * 5 + 3, none⟩) e2).trans g3, (hb.cell (p := ⟨b, o + j * 5 + 4, none⟩) e2).trans g4, g5.below hb⟩
theorem below_drewN' (w : World) (n : Nat) : Below w.heap.size w (w.drewN n) := below_drewN (Below.refl _ _) n
/-- What is kept of an answer: how it looks, and its rows. -/
structure Ans (w : World) (P : Pl) (a1 a2 a3 : Option Addr) (c1 c2 c3 : Nat) : Prop where
  rows : Rows' w (.slice a1 P.params.length c1) P.params
  cops : Bools w (.slice a2 P.copied.length c2) P.copied
  ress : Ints w (.slice a3 P.results.length c3) P.results
theorem PlV.ans {P : Pl} {v : Value} (h : PlV w P v) : ∃ a1 a2 a3 c1 c2 c3, v = .agg #[.int .i64 P.result, .int .i64 P.count, .slice a1 P.params.length c1, .slice a2 P.copied.length c2, .slice a3 P.results.length c3, .int .i64 P.area, .int .i64 P.extra] ∧ Ans w P a1 a2 a3 c1 c2 c3 := by
  obtain ⟨vp, vc, vr, rfl, h1, h2, h3⟩ := h
  obtain ⟨a1, c1, rfl, H1⟩ := h1
  obtain ⟨a2, c2, rfl, H2⟩ := h2
  obtain ⟨a3, c3, rfl, H3⟩ := h3
  exact ⟨a1, a2, a3, c1, c2, c3, rfl, ⟨_, _, rfl, H1⟩, ⟨_, _, rfl, H2⟩, ⟨_, _, rfl, H3⟩⟩
theorem Ans.below {P : Pl} {a1 a2 a3 : Option Addr} {c1 c2 c3 : Nat} (h : Ans w P a1 a2 a3 c1 c2 c3) (hb : Below w.heap.size w w') : Ans w' P a1 a2 a3 c1 c2 c3 := ⟨h.rows.below hb, h.cops.below hb, h.ress.below hb⟩
theorem pl_small (T : Ty) (bn : Nat) (bs : Nat → Ty) : (plR T bn bs).results.length ≤ 2 ∧ (plR T bn bs).copied.length = (plR T bn bs).params.length ∧ (plR T bn bs).params.length ≤ 6 ∧ ∀ j (h : j < (plR T bn bs).params.length), (plR T bn bs).params[j].length ≤ 4 := by
  unfold plR
  split
  · next h =>
    have hp : pnT T ≤ 7 := by
      unfold errP at h
      split at h
      · cases h
      · next h1 =>
        simp at h1
        obtain ⟨_, _, _, _, _, _, rfl, _, h7, _⟩ := good_facts h1.1 h1.2
        exact h7
    refine ⟨?_, ?_, ?_, ?_⟩
    · simp only [plT]; split; simp; split <;> simp
    · simp [plT]
    · simp [plT]; omega
    · intro j hj
      simp only [plT, List.getElem_map, step_len]
      exact par_le
  · simp [Pl0]
set_option maxRecDepth 100000 in
set_option maxHeartbeats 2000000 in
theorem tell_any (HP : Pr9) (T : Ty) (v : Value) (ba : Option Addr) (bn bc : Nat) (bs : Nat → Ty) (w : World) (hv : TyV w T v) (hbs : Tys w (.slice ba bn bc) bn bs) : Calls Try.prog 3 #[v, .slice ba bn bc] w fun e w' => e = .returned (.bool true) ∧ Below w.heap.size w w' := by
  obtain ⟨hs1, hs2, hs3, hs4⟩ := pl_small T bn bs
  have C1 : Hid (∀ w', Below w.heap.size w w' → Calls Try.prog 5 #[v, .slice ba bn bc] w' (PostP w' T bn bs)) := fun w' hb => HP T v ba bn bc bs w' (hv.below hb) (hbs.below hb)
  have C2 : Hid (∀ w', Below w.heap.size w w' → Calls Try.prog 6 #[v, .slice ba bn bc] w' (PostP w' T bn bs)) := fun w' hb => places_any T v ba bn bc bs w' (hv.below hb) (hbs.below hb)
  unfold PostP at C1 C2
  rcases T with _ | ⟨kind, name, nn, names, pn, parts, many⟩
  · exact (TyV_leaf hv).elim
  obtain ⟨na, nc, pa, pc, rfl, -⟩ := hv.part
  generalize plR (.mk kind name nn names pn parts many) bn bs = P at *
  generalize errP (.mk kind name nn names pn parts many) bn bs = E at *
  have HS4 := hide hs4
  have HF := hide ((Fr.start w).alloc rfl #[.int .i64 kind, .string name, .slice na nn nc, .slice pa pn pc, .bool many] 25)
  clear hv hbs HP hs4
  obtain ⟨r, c, prm, cop, res, area, extra⟩ := P
  simp only at hs1 hs2 hs3 HS4
  have HS2 := hide hs2
  clear hs2
  go_enter Try.func3, Try.ntmps3
  go_wp2_with fail
  go_at_call 5
  refine (C1.out _ HF.out.below).mono ?_
  rintro e w1 ⟨v1, rfl, h1, hb⟩
  obtain ⟨x1, x2, x3, y1, y2, y3, rfl, A1⟩ := h1.ans
  replace HF := hide ((HF.out.call hb).alloc rfl #[.int .i64 r, .int .i64 c, .slice x1 prm.length y1, .slice x2 cop.length y2, .slice x3 res.length y3, .int .i64 area, .int .i64 extra] 30)
  have HA1 := hide (A1.below ((Below.refl _ _).alloc (Nat.le_refl _) (.cells #[.int .i64 r, .int .i64 c, .slice x1 prm.length y1, .slice x2 cop.length y2, .slice x3 res.length y3, .int .i64 area, .int .i64 extra] 30)))
  clear h1 hb A1
  have c1 := HF.out.cell 1 rfl
  go_wp2_with fail
  go_at_call 6
  refine (C2.out _ HF.out.below).mono ?_
  rintro e w2 ⟨v2, rfl, h2, hb⟩
  obtain ⟨p1, p2, p3, q1, q2, q3, rfl, A2⟩ := h2.ans
  have hba : Below w2.heap.size w2 (w2.alloc (.cells #[.int .i64 r, .int .i64 c, .slice p1 prm.length q1, .slice p2 cop.length q2, .slice p3 res.length q3, .int .i64 area, .int .i64 extra] 30)) := (Below.refl _ _).alloc (Nat.le_refl _) _
  replace HF := hide ((HF.out.call hb).alloc rfl #[.int .i64 r, .int .i64 c, .slice p1 prm.length q1, .slice p2 cop.length q2, .slice p3 res.length q3, .int .i64 area, .int .i64 extra] 30)
  replace HA1 := hide ((HA1.out.below hb).below hba)
  have HA2 := hide (A2.below hba)
  clear h2 hb A2 hba c1 C1 C2
  have c1 := HF.out.cell 1 rfl
  have c0 := HF.out.cell 0 rfl
  go_wp2_with fail
  go_at_call 7
  refine (ints_same _ _ res _ (by omega) HA1.out.ress HA2.out.ress).mono ?_
  rintro e w3 ⟨rfl, m, rfl⟩
  replace HF := hide (HF.out.call (below_drewN' _ m))
  replace HA1 := hide (HA1.out.below (below_drewN' _ m))
  replace HA2 := hide (HA2.out.below (below_drewN' _ m))
  clear c1 c0
  generalize (w2.alloc _).drewN m = w3 at *
  generalize hb1 : w1.heap.size = b1 at *
  generalize hb2 : w2.heap.size = b2 at *
  clear hb1 hb2
  have c1 := HF.out.cell 1 rfl
  have c0 := HF.out.cell 0 rfl
  go_wp2_with fail
  clear c1 c0
  go_loopw [9] (fun i wr => ∃ k : Nat, k ≤ prm.length ∧ i = .int .i64 k ∧ Hid (Fr w.heap.size w wr [.blk b2 #[.int .i64 r, .int .i64 c, .slice p1 prm.length q1, .slice p2 cop.length q2, .slice p3 res.length q3, .int .i64 area, .int .i64 extra] 30, .blk b1 #[.int .i64 r, .int .i64 c, .slice x1 prm.length y1, .slice x2 cop.length y2, .slice x3 res.length y3, .int .i64 area, .int .i64 extra] 30, .blk w.heap.size #[.int .i64 kind, .string name, .slice na nn nc, .slice pa pn pc, .bool many] 25]) ∧ Hid (Ans wr ⟨r, c, prm, cop, res, area, extra⟩ x1 x2 x3 y1 y2 y3 ∧ Ans wr ⟨r, c, prm, cop, res, area, extra⟩ p1 p2 p3 q1 q2 q3)) (fun i _ => prm.length - (intOf i).toNat)
  case atStart => exact ⟨0, Nat.zero_le _, rfl, HF, HA1.out, HA2.out⟩
  case round =>
    clear HF HA1 HA2
    obtain ⟨k, hk, rfl, HF, HA⟩ := hrel
    have c1 := HF.out.cell 1 rfl
    have c0 := HF.out.cell 0 rfl
    by_cases hlt : k < prm.length
    · have hlt' : (k : Int) < prm.length := by omega
      have hlc : k < cop.length := by have := HS2.out; omega
      have hidx : (0 : Int) ≤ k ∧ (k : Int) < prm.length := by omega
      have hidx2 : (0 : Int) ≤ k ∧ (k : Int) < cop.length := by omega
      obtain ⟨A1, A2⟩ := HA.out
      have r1 := A1.rows
      have r2 := A2.rows
      have s1 := A1.cops
      have s2 := A2.cops
      obtain ⟨_, _, e1, H1⟩ := r1
      cases e1
      obtain ⟨_, _, e2, H2⟩ := r2
      cases e2
      obtain ⟨_, _, e3, H3⟩ := s1
      cases e3
      obtain ⟨_, _, e4, H4⟩ := s2
      cases e4
      obtain ⟨g1, o1, rfl, -, H1⟩ := H1 (by show 0 < prm.length; omega)
      obtain ⟨g2, o2, rfl, -, H2⟩ := H2 (by show 0 < prm.length; omega)
      obtain ⟨g3, o3, rfl, -, H3⟩ := H3 (by show 0 < cop.length; omega)
      obtain ⟨g4, o4, rfl, -, H4⟩ := H4 (by show 0 < cop.length; omega)
      obtain ⟨u1, d1, L1⟩ := H1 k hlt
      obtain ⟨u2, d2, L2⟩ := H2 k hlt
      have d3 := H3 k hlc
      have d4 := H4 k hlc
      have hl4 := HS4.out k hlt
      have HL1 : Hid (Locs wr u1 prm[k]) := L1
      have HL2 : Hid (Locs wr u2 prm[k]) := L2
      replace d3 : wr.cell? ⟨g3, o3 + k, none⟩ = some (.bool cop[k]) := d3
      replace d4 : wr.cell? ⟨g4, o4 + k, none⟩ = some (.bool cop[k]) := d4
      obtain ⟨l1, z1, rfl, -⟩ := L1
      obtain ⟨l2, z2, rfl, -⟩ := L2
      clear H1 H2 H3 H4 A1 A2
      replace d1 : wr.cell? ⟨g1, o1 + k, none⟩ = some (.slice l1 prm[k].length z1) := d1
      replace d2 : wr.cell? ⟨g2, o2 + k, none⟩ = some (.slice l2 prm[k].length z2) := d2
      have HCL : Hid (∀ n, Calls Try.prog 8 #[.slice l1 prm[k].length z1, .slice l2 prm[k].length z2] (wr.drewN n) fun e w' => e = .returned (.bool true) ∧ ∃ m, w' = (wr.drewN n).drewN m) := fun n => locs_same _ _ prm[k] _ (by omega) (HL1.out.below (below_drewN' _ n)) (HL2.out.below (below_drewN' _ n))
      generalize prm[k].length = pl at *
      generalize cop[k] = cb at *
      clear hl4 HL1 HL2
      go_wp2_with fail
      go_quiet (first | (go_at_call 8; refine Calls.quiet_of (HCL.out _)))
      generalize nq = q
      go_wp2_with fail
      go_roundw
      case rel => exact ⟨k + 1, by omega, by go_num, HF.out.call (below_drewN' _ q), HA.out.1.below (below_drewN' _ q), HA.out.2.below (below_drewN' _ q)⟩
      case measure => simp [intOf]; omega
    · have hlt' : ¬ (k : Int) < prm.length := by omega
      go_wp2_with fail
      go_ret
      exact ⟨rfl, HF.out.below⟩
end Go.Proofs.Ytmbhcpnlfdgkjaa.T
