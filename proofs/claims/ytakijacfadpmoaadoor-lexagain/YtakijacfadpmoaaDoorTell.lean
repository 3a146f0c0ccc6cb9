/- LexTells answers true. -/
import Derived.Test.YtakijacfadpmoaaDoorPScan
namespace Go.Proofs.YtakijacfadpmoaaDoor.T
open Go.RowKit
set_option linter.unusedVariables false
set_option linter.unusedSimpArgs false
theorem toks_at : ∀ (L : List Tok) (j : Nat) (k : Tok), L[j]? = some k → (toks L)[j * 3]? = some (.int .i64 k.kind) ∧ (toks L)[j * 3 + 1]? = some (.string k.text) ∧ (toks L)[j * 3 + 2]? = some (.int .i64 k.at_)
  | [], j, k, h => by simp at h
  | x :: L, 0, k, h => by
    simp at h
    subst h
    exact ⟨rfl, rfl, rfl⟩
  | x :: L, j + 1, k, h => by
    have h' : L[j]? = some k := by simpa using h
    have ih := toks_at L j k h'
    have e : toks (x :: L) = [.int .i64 x.kind, .string x.text, .int .i64 x.at_] ++ toks L := rfl
    rw [e, show (j + 1) * 3 = 3 + j * 3 by omega]
    exact ⟨by rw [List.getElem?_append_right (by simp)]; simpa using ih.1, by rw [List.getElem?_append_right (by simp; omega)]; simpa [show 3 + j * 3 + 1 - 3 = j * 3 + 1 by omega] using ih.2.1, by rw [List.getElem?_append_right (by simp; omega)]; simpa [show 3 + j * 3 + 2 - 3 = j * 3 + 2 by omega] using ih.2.2⟩
/-- What a row of tokens looks like, and its cells. -/
theorem own_toks {w : World} {ob : Nat} {v : Value} {L : List Tok} (h : w.ownsRow ob 29 3 v L.length (toks L)) : ∃ a c, v = .slice a L.length c ∧ (0 < L.length → ∃ g, a = some ⟨g, 0, none⟩ ∧ g < w.heap.size ∧ ∀ j k, L[j]? = some k → w.cell? ⟨g, j * 3, none⟩ = some (.int .i64 k.kind) ∧ w.cell? ⟨g, j * 3 + 1, none⟩ = some (.string k.text) ∧ w.cell? ⟨g, j * 3 + 2, none⟩ = some (.int .i64 k.at_)) := by
  rcases h.2 with ⟨rfl, h0⟩ | ⟨g, cap, cur, rfl, hg, hh, _, _, hs, ht⟩
  · exact ⟨none, 0, by rw [h0], fun h => by omega⟩
  · refine ⟨_, cap, rfl, fun _ => ⟨g, rfl, (Array.getElem?_eq_some_iff.1 hh).1, fun j k hk => ?_⟩⟩
    have hj : j < L.length := (List.getElem?_eq_some_iff.1 hk).1
    have hc : ∀ i, i < L.length * 3 → w.cell? ⟨g, i, none⟩ = (toks L)[i]? := fun i hi => by
      rw [← ht, List.getElem?_take_of_lt hi, Array.getElem?_toList]
      simp [World.cell?, hh]
    rw [hc _ (by omega), hc _ (by omega), hc _ (by omega)]
    exact toks_at L j k hk
theorem scanN_len (t : ByteArray) : ∀ n i note l, (scanN t n i note l).1.length ≤ l.length + n
  | 0, _, _, l => Nat.le_refl _
  | n + 1, i, note, l => by
    rw [scanN_succ]
    split
    · split
      · have := scanN_len t n (i + 1) (note2 note (byteAt t i)) l; omega
      · split
        · have := scanN_len t n (look t i).next note (l ++ [⟨(look t i).kind, (look t i).text, i⟩])
          rw [List.length_append] at this
          simp at this
          omega
        · simp
    · simp
theorem scan_len (t : ByteArray) : (scan t).1.length ≤ 4000 := by
  unfold scan
  split
  · simp
  · have := scanN_len t t.size 0 false []
    simp at this
    omega
set_option maxRecDepth 100000 in
set_option maxHeartbeats 2000000 in
theorem lex_tell (t : ByteArray) (w : World) (G : Gl w) (hm : t.size ≤ 9223372036854775807) : Calls Tryd.prog 3 #[.string t] w fun e w' => e = .returned (.bool true) ∧ Below w.heap.size w w' := by
  have h5 := fun w' (Gw : Gl w') => pscan_any t w' Gw hm
  have HG := hide G
  clear G
  have h6 := fun w' => scan_any t w' hm
  have hlen := scan_len t
  generalize hsc : scan t = R at *
  obtain ⟨L, c, p⟩ := R
  have HSc := hide hsc
  clear hsc
  simp only at h5 h6 hlen
  go_enter Tryd.func3, Tryd.ntmps3
  go_wp2_with fail
  go_at_call 5
  refine (h5 _ HG.out).mono ?_
  rintro e w1 ⟨l1, rfl, ho1, hb1⟩
  obtain ⟨a1, c1, rfl, H1⟩ := own_toks ho1
  have G1 := hide H1
  have HB1 := hide hb1
  clear ho1 hb1 H1
  go_wp2_with fail
  go_at_call 6
  refine (h6 _).mono ?_
  rintro e w2 ⟨l2, rfl, ho2, hb2⟩
  obtain ⟨a2, c2, rfl, H2⟩ := own_toks ho2
  have hz1 : w1.heap.size < w2.heap.size := by have := hb2.size; simp at this; omega
  have y1 : ∀ o, w2.cell? ⟨w1.heap.size, o, none⟩ = (#[Value.int .i64 c, .int .i64 p])[o]? := fun o => (hb2.cell (p := ⟨w1.heap.size, o, none⟩) (by simp)).trans (World.cell?_alloc_at _ _ _ _ rfl)
  have hB12 : Below w1.heap.size w1 w2 := ((Below.refl _ _).alloc (Nat.le_refl _) _).trans (hb2.mono (by simp))
  have hB3 : Below w2.heap.size w2 (w2.alloc (.cells #[.int .i64 c, .int .i64 p] 25)) := (Below.refl _ _).alloc (Nat.le_refl _) _
  have HB3 : Hid (Below w.heap.size w (w2.alloc (.cells #[.int .i64 c, .int .i64 p] 25))) := (HB1.out.trans (hB12.mono HB1.out.size)).trans (hB3.mono (Nat.le_trans HB1.out.size hB12.size))
  have HC1 : Hid (0 < L.length → ∃ g, a1 = some ⟨g, 0, none⟩ ∧ g < w2.heap.size ∧ ∀ j k, L[j]? = some k → w2.cell? ⟨g, j * 3, none⟩ = some (.int .i64 k.kind) ∧ w2.cell? ⟨g, j * 3 + 1, none⟩ = some (.string k.text) ∧ w2.cell? ⟨g, j * 3 + 2, none⟩ = some (.int .i64 k.at_)) := fun hp => by
    obtain ⟨g, e1, e2, e3⟩ := G1.out hp
    refine ⟨g, e1, by omega, fun j k hk => ?_⟩
    obtain ⟨f1, f2, f3⟩ := e3 j k hk
    exact ⟨(hB12.cell (p := ⟨g, j * 3, none⟩) e2).trans f1, (hB12.cell (p := ⟨g, j * 3 + 1, none⟩) e2).trans f2, (hB12.cell (p := ⟨g, j * 3 + 2, none⟩) e2).trans f3⟩
  have HC2 := hide H2
  clear hb2 ho2 H2 G1 hB12
  go_wp2_with fail
  generalize hWe : w2.alloc (.cells #[.int .i64 c, .int .i64 p] 25) = W at *
  go_loopw [7] (fun i wr => ∃ k : Nat, k ≤ L.length ∧ i = .int .i64 k ∧ Hid (Below W.heap.size W wr)) (fun i _ => L.length - (intOf i).toNat)
  case atStart => exact ⟨0, Nat.zero_le _, rfl, Below.refl _ _⟩
  case round =>
    obtain ⟨k, hk, rfl, HB⟩ := hrel
    have HBw : Hid (Below w2.heap.size w2 wr) := hB3.trans (HB.out.mono hB3.size)
    by_cases hlt : k < L.length
    · have hlt' : (k : Int) < L.length := by omega
      have hidx : (0 : Int) ≤ k ∧ (k : Int) < L.length := by omega
      obtain ⟨g1, rfl, b1, e1⟩ := HC1.out (by omega)
      obtain ⟨g2, rfl, b2, e2⟩ := HC2.out (by omega)
      have hke : L[k]? = some L[k] := List.getElem?_eq_getElem hlt
      obtain ⟨x0, x1, x2⟩ := e1 k _ hke
      obtain ⟨z0, z1, z2⟩ := e2 k _ hke
      generalize L[k] = tk at *
      have u0 : wr.cell? ⟨g1, k * 3, none⟩ = some (.int .i64 tk.kind) := (HBw.out.cell (p := ⟨g1, k * 3, none⟩) b1).trans x0
      have u1 : wr.cell? ⟨g1, k * 3 + 1, none⟩ = some (.string tk.text) := (HBw.out.cell (p := ⟨g1, k * 3 + 1, none⟩) b1).trans x1
      have u2' : wr.cell? ⟨g1, k * 3 + 2, none⟩ = some (.int .i64 tk.at_) := (HBw.out.cell (p := ⟨g1, k * 3 + 2, none⟩) b1).trans x2
      have v0 : wr.cell? ⟨g2, k * 3, none⟩ = some (.int .i64 tk.kind) := (HBw.out.cell (p := ⟨g2, k * 3, none⟩) b2).trans z0
      have v1 : wr.cell? ⟨g2, k * 3 + 1, none⟩ = some (.string tk.text) := (HBw.out.cell (p := ⟨g2, k * 3 + 1, none⟩) b2).trans z1
      have v2' : wr.cell? ⟨g2, k * 3 + 2, none⟩ = some (.int .i64 tk.at_) := (HBw.out.cell (p := ⟨g2, k * 3 + 2, none⟩) b2).trans z2
      clear x0 x1 x2 z0 z1 z2 e1 e2 hke
      go_wp2_with fail
      go_quiet (fail)
      generalize nq = q
      go_wp2_with fail
      go_roundw
      case rel => exact ⟨k + 1, by omega, by go_num, below_drewN HB.out q⟩
      case measure => simp [intOf]; omega
    · have hlt' : ¬ (k : Int) < L.length := by omega
      go_wp2_with fail
      go_ret
      exact ⟨rfl, HB3.out.trans (HB.out.mono HB3.out.size)⟩
end Go.Proofs.YtakijacfadpmoaaDoor.T
