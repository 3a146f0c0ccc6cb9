/- The reference's Places, plain facts. -/
import Derived.Test.YtmbhcpnlfdgkjaaPc
namespace Go.Proofs.Ytmbhcpnlfdgkjaa.T
open Go.RowKit
set_option linter.unusedVariables false
set_option linter.unusedSimpArgs false
theorem any_step {p : Nat → Bool} {k : Nat} (h : (List.range k).any p = false) (hk : p k = false) : (List.range (k + 1)).any p = false := by rw [List.range_succ, List.any_append, h]; simp [hk]
theorem sum_le {bs : Nat → Ty} {k : Nat} (h : (List.range k).any (fun i => badB (bs i)) = false) : sumN bs k ≤ 12 * k := by
  induction k with
  | zero => simp [sumN]
  | succ k ih =>
    rw [List.range_succ, List.any_append, Bool.or_eq_false_iff] at h
    have := ih h.1
    have hb : badB (bs k) = false := by simpa using h.2
    unfold badB at hb
    rw [Bool.or_eq_false_iff] at hb
    have := (sizeT_le (d := 4) (T := bs k) (by simpa using hb.1)).2
    simp only [sumN]
    omega
theorem good_facts {T : Ty} (hk : kindT T = 4) (hm : mayN 4 T = true) : ∃ name nn names pn parts many, T = .mk 4 name nn names pn parts many ∧ 1 ≤ pn ∧ pn ≤ 7 ∧ ∀ i, i < pn → mayN 3 (parts i) = true := by
  rcases T with _ | ⟨kind, name, nn, names, pn, parts, many⟩
  · exact absurd hk (by decide)
  obtain rfl : kind = 4 := hk
  refine ⟨name, nn, names, pn, parts, many, rfl, ?_, ?_, ?_⟩
  all_goals
    rw [mayN_succ] at hm
    simp at hm
  · exact hm.2.2
  · exact hm.1.1.1
  · exact hm.1.2
theorem good_mk {name : ByteArray} {nn : Nat} {names : Nat → ByteArray} {pn : Nat} {parts : Nat → Ty} {many : Bool} (hm : mayN 4 (.mk 4 name nn names pn parts many) = true) : 1 ≤ pn ∧ pn ≤ 7 ∧ ∀ i, i < pn → mayN 3 (parts i) = true := by
  rw [mayN_succ] at hm
  simp at hm
  exact ⟨hm.2.2, hm.1.1.1, hm.1.2⟩
theorem part_at {w w' : World} {pb po pn : Nat} {parts : Nat → Ty} (hpb : pb < w.heap.size) (h : ∀ j, j < pn → ∃ k0 k1 k2 k3 k4, w.cell? ⟨pb, po + j * 5, none⟩ = some k0 ∧ w.cell? ⟨pb, po + j * 5 + 1, none⟩ = some k1 ∧ w.cell? ⟨pb, po + j * 5 + 2, none⟩ = some k2 ∧ w.cell? ⟨pb, po + j * 5 + 3, none⟩ = some k3 ∧ w.cell? ⟨pb, po + j * 5 + 4, none⟩ = some k4 ∧ TyV w (parts j) (.agg #[k0, k1, k2, k3, k4])) (hb : Below w.heap.size w w') (j : Nat) (hj : j < pn) :
    ∃ kind nm xa xn xc ya yn yc mn, w'.cell? ⟨pb, po + j * 5, none⟩ = some (.int .i64 kind) ∧ w'.cell? ⟨pb, po + j * 5 + 1, none⟩ = some (.string nm) ∧ w'.cell? ⟨pb, po + j * 5 + 2, none⟩ = some (.slice xa xn xc) ∧ w'.cell? ⟨pb, po + j * 5 + 3, none⟩ = some (.slice ya yn yc) ∧ w'.cell? ⟨pb, po + j * 5 + 4, none⟩ = some (.bool mn) ∧ Hid (TyV w (parts j) (.agg #[.int .i64 kind, .string nm, .slice xa xn xc, .slice ya yn yc, .bool mn])) ∧ Hid (kind = kindT (parts j)) := by
  obtain ⟨k0, k1, k2, k3, k4, g0, g1, g2, g3, g4, g5⟩ := h j hj
  obtain ⟨kind, nm, xa, xn, xc, ya, yn, yc, mn, rfl, rfl, rfl, rfl, rfl, hkd⟩ := g5.shape
  exact ⟨kind, nm, xa, xn, xc, ya, yn, yc, mn, (hb.cell (p := ⟨pb, po + j * 5, none⟩) hpb).trans g0, (hb.cell (p := ⟨pb, po + j * 5 + 1, none⟩) hpb).trans g1, (hb.cell (p := ⟨pb, po + j * 5 + 2, none⟩) hpb).trans g2, (hb.cell (p := ⟨pb, po + j * 5 + 3, none⟩) hpb).trans g3, (hb.cell (p := ⟨pb, po + j * 5 + 4, none⟩) hpb).trans g4, g5, hkd⟩
theorem info3 : (Try.prog.info? 3).map (fun i => (i.zero, i.size, i.bytes)) = some (some (.int .i64 0), 1, 8) := by kernel_rfl
theorem info4 : (Try.prog.info? 4).map (fun i => (i.zero, i.size, i.bytes)) = some (some (.bool false), 1, 1) := by kernel_rfl
theorem info36 : (Try.prog.info? 36).map (fun i => (i.zero, i.size, i.bytes)) = some (some (.slice none 0 0), 1, 24) := by kernel_rfl
theorem place_ge {sz : Nat → Nat} {ev : Nat → Bool} : ∀ k, 1 ≤ k → 1 ≤ sz (k - 1) → 1 ≤ placeN sz ev k
  | 0, h, _ => absurd h (by decide)
  | k + 1, _, h => by
    simp only [placeN]
    have := (rnd_le (ev (k + 1)) (placeN sz ev k + sz k)).1
    simp at h
    omega
theorem size_pos : ∀ {T : Ty} {d : Nat}, mayN d T = true → 1 ≤ sizeT T
  | .leaf, d, h => by rw [mayN_leaf] at h; cases h
  | .mk kind name nn names pn parts many, 0, h => by simp [mayN] at h
  | .mk kind name nn names pn parts many, d + 1, h => by
    rw [sizeT]
    split
    · omega
    · split
      · next h3 =>
        subst h3
        rw [mayN_succ] at h
        simp at h
        refine place_ge pn (by omega) (size_pos (d := d) (h.1.2 (pn - 1) (by omega)))
      · omega
theorem long_even {T : Ty} (h : decide (kindT T = 2) = true) : parE T = true := by
  rcases T with _ | ⟨kind, name, nn, names, pn, parts, many⟩
  · simp [kindT] at h
  · have h' : kind = 2 := of_decide_eq_true h
    subst h'
    simp [parE, evenT, sizeT]
theorem locV_one (L : List Lo) : ∀ u ∈ locV L, u.oneCell' = true := by
  intro u hu
  simp only [locV, List.mem_flatMap] at hu
  obtain ⟨x, _, hu⟩ := hu
  simp at hu
  rcases hu with rfl | rfl <;> rfl
theorem Locs.of {w : World} {n0 : Nat} {v : Value} {L : List Lo} (h : Rs.ok n0 w (.row v 39 2 L.length (locV L))) : Locs w v L := locs_of_own h
theorem own1 {w : World} {ob : Nat} {e : TypeId} {v : Value} {n : Nat} {xs : List Value} (h : w.ownsRow ob e 1 v n xs) : ∃ a c, v = .slice a n c ∧ (0 < n → ∃ g, a = some ⟨g, 0, none⟩ ∧ g < w.heap.size ∧ ∀ j, j < n → w.cell? ⟨g, 0 + j, none⟩ = xs[j]?) := by
  rcases h.2 with ⟨rfl, rfl⟩ | ⟨g, cap, cur, rfl, hg, hh, _, _, hs, ht⟩
  · exact ⟨none, 0, rfl, fun h => by omega⟩
  · refine ⟨_, cap, rfl, fun _ => ⟨g, rfl, (Array.getElem?_eq_some_iff.1 hh).1, fun j hj => ?_⟩⟩
    rw [← ht, List.getElem?_take_of_lt (by omega), Array.getElem?_toList]
    simp [World.cell?, hh]
def prL (ps : List (Value × List Lo)) : List Rs := ps.map fun x => .row x.1 39 2 x.2.length (locV x.2)
theorem prL_snoc (ps : List (Value × List Lo)) (x : Value × List Lo) : prL (ps ++ [x]) = prL ps ++ [.row x.1 39 2 x.2.length (locV x.2)] := by simp [prL]
theorem rows_of {w : World} {n0 : Nat} {v : Value} {ps : List (Value × List Lo)} (h : Rs.ok n0 w (.row v 36 1 ps.length (ps.map (·.1)))) (hp : ∀ r, r ∈ prL ps → r.ok n0 w) : Rows' w v (ps.map (·.2)) := by
  obtain ⟨a, c, rfl, H⟩ := own1 h
  refine ⟨a, c, by simp, fun h0 => ?_⟩
  obtain ⟨g, rfl, hg, hc⟩ := H (by simpa using h0)
  refine ⟨g, 0, rfl, hg, fun j hj => ?_⟩
  have hj' : j < ps.length := by simpa using hj
  refine ⟨ps[j].1, (hc j hj').trans (by simp [hj']), ?_⟩
  have := hp (.row ps[j].1 39 2 ps[j].2.length (locV ps[j].2)) (List.mem_map.2 ⟨ps[j], List.getElem_mem hj', rfl⟩)
  simpa using Locs.of this
theorem bools_of {w : World} {n0 : Nat} {v : Value} {n : Nat} {f : Nat → Bool} (h : Rs.ok n0 w (.row v 4 1 n ((List.range n).map fun i => Value.bool (f i)))) : Bools w v ((List.range n).map f) := by
  obtain ⟨a, c, rfl, H⟩ := own1 h
  refine ⟨a, c, by simp, fun h0 => ?_⟩
  obtain ⟨g, rfl, hg, hc⟩ := H (by simpa using h0)
  refine ⟨g, 0, rfl, hg, fun j hj => ?_⟩
  have hj' : j < n := by simpa using hj
  exact (hc j hj').trans (by simp [hj'])
theorem ints_of {w : World} {n0 : Nat} {v : Value} {l : List Nat} (h : Rs.ok n0 w (.row v 3 1 l.length (l.map fun (n : Nat) => Value.int .i64 n))) : Ints w v l := by
  obtain ⟨a, c, rfl, H⟩ := own1 h
  refine ⟨a, c, rfl, fun h0 => ?_⟩
  obtain ⟨g, rfl, hg, hc⟩ := H h0
  refine ⟨g, 0, rfl, hg, fun j hj => ?_⟩
  exact (hc j hj).trans (by simp [hj])
theorem PostP.ok {w w' : World} {T : Ty} {bn : Nat} {bs : Nat → Ty} {v : Value} (he : errP T bn bs = 0) (hv : PlV w' (plT (pnT T) (partsT T) (manyT T) (sumN bs bn)) v) (hb : Below w.heap.size w w') : PostP w T bn bs (.returned (.tuple #[v, .int .i64 0])) w' := by
  refine ⟨_, by rw [he]; rfl, ?_, hb⟩
  unfold plR
  rw [he, if_pos rfl]
  exact hv
theorem Fr.last {n0 : Nat} {w0 w : World} {r : Rs} {L : List Rs} (h : Fr n0 w0 w (r :: L)) : Fr n0 w0 w (L ++ [r]) := by
  have hp := List.perm_append_singleton r L
  exact ⟨h.below, h.le, fun x hx => h.ok x (hp.mem_iff.1 hx), (hp.pairwise_iff (fun hab => Rs.off_symm hab)).2 h.off⟩
theorem Fr.front {n0 : Nat} {w0 w : World} (K : List Rs) {r : Rs} {L : List Rs} (h : Fr n0 w0 w (K ++ r :: L)) : Fr n0 w0 w (r :: (K ++ L)) := by
  have hp : (K ++ r :: L).Perm (r :: (K ++ L)) := List.perm_middle
  exact ⟨h.below, h.le, fun x hx => h.ok x (hp.mem_iff.2 hx), (hp.pairwise_iff (fun hab => Rs.off_symm hab)).1 h.off⟩
theorem Fr.strike {n0 : Nat} {w0 w : World} (K : List Rs) {r : Rs} {L : List Rs} (h : Fr n0 w0 w (K ++ r :: L)) : Fr n0 w0 w (K ++ L) := (h.front K).tail
end Go.Proofs.Ytmbhcpnlfdgkjaa.T
