/- What AbiApart asks, of plain lists. No program. -/
import Derived.Test.YtmbhcpnlfdgkjaaPh
import Derived.Test.YtmbhcpnlfdgkjaaLb
namespace Go.Proofs.Ytmbhcpnlfdgkjaa.T
open Go.RowKit
set_option linter.unusedVariables false
set_option linter.unusedSimpArgs false
theorem err_zero {T : Ty} {bn : Nat} {bs : Nat → Ty} (h : errP T bn bs = 0) : kindT T = 4 ∧ mayN 4 T = true ∧ bn ≤ 6 := by
  unfold errP at h
  split at h
  · cases h
  · next h1 =>
    simp at h1
    split at h
    · cases h
    · next h2 => exact ⟨h1.1, h1.2, by omega⟩
theorem err_nil {T : Ty} {bn : Nat} {bs bs' : Nat → Ty} (h : errP T bn bs = 0) : errP T 0 bs' = 0 := by
  obtain ⟨h1, h2, _⟩ := err_zero h
  unfold errP
  rw [if_neg (by rw [h1, h2]; simp), if_neg (by simp)]
  simp
/-- A long lies in an even one and the next one. -/
theorem step_long {H : List Lo} {r p : Nat} (h : Had H r p) {t : Ty} (hk : kindT t = 2) : ∃ s n, n % 2 = 0 ∧ stepL H t = [(s, n), (s, n + 1)] := by
  rcases t with _ | ⟨kind, name, nn, names, pn, parts, many⟩
  · exact absurd hk (by decide)
  obtain rfl : kind = 2 := hk
  have e1 : parN (.mk 2 name nn names pn parts many) = 2 := by simp [parN, sizeT]
  have e2 : parE (.mk 2 name nn names pn parts many) = true := by simp [parE, evenT, sizeT]
  have hr := h.le
  have key : ∃ a q, (a = 0 ∨ a = 2 ∨ (a = 4 ∧ q % 2 = 0)) ∧ r2N r true true = a ∧ p3N r p true true = q := by
    refine ⟨_, _, ?_, rfl, rfl⟩
    have h5 : r = 0 ∨ r = 1 ∨ r = 2 ∨ r = 3 ∨ r = 4 := by omega
    rcases h5 with rfl | rfl | rfl | rfl | rfl
    · exact Or.inl rfl
    · exact Or.inr (Or.inl rfl)
    · exact Or.inr (Or.inl rfl)
    · exact Or.inr (Or.inr ⟨rfl, up_even p⟩)
    · exact Or.inr (Or.inr ⟨rfl, up_even (upN p)⟩)
  obtain ⟨a, q, hc, ea, eq⟩ := key
  have e3 : stepL H (.mk 2 name nn names pn parts many) = lay a q 2 := by
    unfold stepL wordsL
    rw [h.reg, h.pl, e1, e2, show decide (kindT (.mk 2 name nn names pn parts many) = 2) = true from rfl, ea, eq]
  rw [e3]
  rcases hc with rfl | rfl | ⟨rfl, hq⟩
  · exact ⟨false, 0, rfl, rfl⟩
  · exact ⟨false, 2, rfl, rfl⟩
  · exact ⟨true, q, hq, rfl⟩
theorem hads_mono (h0 : List Lo) (parts : Nat → Ty) {i j : Nat} (h : i ≤ j) : ∃ K, hads h0 parts j = hads h0 parts i ++ K := by
  induction j with
  | zero =>
    obtain rfl : i = 0 := by omega
    exact ⟨[], by simp⟩
  | succ j ih =>
    by_cases e : i = j + 1
    · subst e; exact ⟨[], by simp⟩
    · obtain ⟨K, hK⟩ := ih (by omega)
      exact ⟨K ++ stepL (hads h0 parts j) (parts j), by rw [hads, hK, List.append_assoc]⟩
theorem step_mem (h0 : List Lo) (parts : Nat → Ty) {i j : Nat} (h : i < j) {x : Lo} (hx : x ∈ stepL (hads h0 parts i) (parts i)) : x ∈ hads h0 parts j := by
  obtain ⟨K, hK⟩ := hads_mono h0 parts (Nat.succ_le_of_lt h)
  rw [hK]
  exact List.mem_append_left _ (List.mem_append_right _ hx)
/-- All words of a call: what is asked of them. -/
structure Aps (l : Nat) (parts : Nat → Ty) (many : Bool) (P : Pl) : Prop where
  nodup : (hads (had0 (sizeT (parts l)) many) parts l).Nodup
  regs : ∀ x, x ∈ hads (had0 (sizeT (parts l)) many) parts l → x.1 = false → x.2 ≤ 3
  stk : ∀ x, x ∈ hads (had0 (sizeT (parts l)) many) parts l → x.1 = true → x.2 < P.area
  ext : many = true → ∀ x, x ∈ hads (had0 (sizeT (parts l)) many) parts l → x.1 = true → x.2 < P.extra
  even : P.area % 2 = 0
  len : (hads (had0 (sizeT (parts l)) many) parts l).length ≤ 100
  small : P.area ≤ 1000 ∧ P.extra ≤ 1000
  par : P.params = (List.range l).map fun i => stepL (hads (had0 (sizeT (parts l)) many) parts i) (parts i)
  long : ∀ i, i < l → kindT (parts i) = 2 → ∃ s n, n % 2 = 0 ∧ stepL (hads (had0 (sizeT (parts l)) many) parts i) (parts i) = [(s, n), (s, n + 1)]
theorem aps_of (l : Nat) (parts : Nat → Ty) (many : Bool) (ext : Nat) (hl : l ≤ 6) (he : ext ≤ 100) : Aps l parts many (plT (l + 1) parts many ext) := by
  obtain ⟨r, p, H, hp⟩ := hads_had (sizeT (parts l)) many parts l
  have hpl : plN (allN (l + 1) parts many) = p := H.pl
  have ha : (plT (l + 1) parts many ext).area = upN (if many = true then upN p + ext else p) := by simp only [plT]; rw [hpl]
  have hx : (plT (l + 1) parts many ext).extra = if many = true then upN p else 0 := by simp only [plT]; rw [hpl]
  have hup := up_ge p
  have hup2 := up_le p
  have hq : p ≤ (if many = true then upN p + ext else p) ∧ (if many = true then upN p + ext else p) ≤ upN p + ext := by split <;> omega
  generalize (if many = true then upN p + ext else p) = q at *
  have hq1 := up_ge q
  have hq2 := up_le q
  refine ⟨H.dup, fun x hx h => ?_, fun x hm h => ?_, fun hmy x hm h => ?_, ?_, ?_, ?_, rfl, fun i hi hk => ?_⟩
  · have := H.regs x hx h; have := H.le; omega
  · have := (H.stk x hm h).1
    rw [ha]
    omega
  · have := (H.stk x hm h).1
    rw [hx, if_pos hmy]
    omega
  · rw [ha]; exact up_even _
  · have := hads_len (sizeT (parts l)) many parts l; omega
  · rw [ha, hx]
    constructor
    · omega
    · split <;> omega
  · obtain ⟨r', p', H', _⟩ := hads_had (sizeT (parts l)) many parts i
    exact step_long H' hk
theorem sum_small {T : Ty} {bn : Nat} {bs : Nat → Ty} (h : errP T bn bs = 0) : sumN bs bn ≤ 100 := by
  obtain ⟨h1, h2, h6⟩ := err_zero h
  unfold errP at h
  rw [if_neg (by rw [h1, h2]; simp)] at h
  split at h
  · cases h
  split at h
  · cases h
  · next h3 => have := sum_le (bs := bs) (k := bn) (by simpa using h3); omega
/-- The places with and without what is beyond. -/
theorem pl_pair (l : Nat) (parts : Nat → Ty) (many : Bool) (ext : Nat) {r c : Int} (hr : (if 2 < sizeT (parts l) then (0 : Int) else -1) = r) (hc : (if many = true then (if 2 < sizeT (parts l) then (1 : Int) else 0) else -1) = c) : ∃ prm cop res area extra area2, plT (l + 1) parts many ext = ⟨r, c, prm, cop, res, area, extra⟩ ∧ plT (l + 1) parts many 0 = ⟨r, c, prm, cop, res, area2, extra⟩ := by
  subst hr hc
  exact ⟨_, _, _, _, _, _, rfl, rfl⟩
end Go.Proofs.Ytmbhcpnlfdgkjaa.T
