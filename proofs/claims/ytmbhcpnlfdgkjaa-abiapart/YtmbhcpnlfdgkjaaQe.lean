/- The program's Places: plain facts, the hidden words, what fails. -/
import Derived.Test.YtmbhcpnlfdgkjaaQc
import Derived.Test.YtmbhcpnlfdgkjaaQd
import Derived.Test.YtmbhcpnlfdgkjaaLb
namespace Go.Proofs.Ytmbhcpnlfdgkjaa.T
open Go.RowKit
set_option linter.unusedVariables false
set_option linter.unusedSimpArgs false
theorem Had.lay_eq {L : List Lo} {r p a q : Nat} (h : Had L r p) (ha : r ≤ a) (h4 : a ≤ 4) (hq : p ≤ q) (hpq : a < 4 → q = p) : ∀ n, Had (L ++ T.lay a q (n + 1)) (adv a q (n + 1)).1 (adv a q (n + 1)).2
  | 0 => by
    have e1 : T.lay a q (0 + 1) = [if a < 4 then (false, a) else (true, q)] := rfl
    have e2 : adv a q (0 + 1) = if a < 4 then (a + 1, q) else (a, q + 1) := rfl
    rw [e1, e2]
    by_cases hc : a < 4
    · have hqp := hpq hc
      subst hqp
      rw [if_pos hc, if_pos hc]
      exact h.reg1 ha hc
    · have : a = 4 := by omega
      subst this
      rw [if_neg hc, if_neg hc]
      exact h.stk1 hq
  | n + 1 => by
    have ih := Had.lay_eq h ha h4 hq hpq n
    have e1 : T.lay a q (n + 1 + 1) = T.lay a q (n + 1) ++ [if (adv a q (n + 1)).1 < 4 then (false, (adv a q (n + 1)).1) else (true, (adv a q (n + 1)).2)] := rfl
    have e2 : adv a q (n + 1 + 1) = if (adv a q (n + 1)).1 < 4 then ((adv a q (n + 1)).1 + 1, (adv a q (n + 1)).2) else ((adv a q (n + 1)).1, (adv a q (n + 1)).2 + 1) := rfl
    rw [e1, e2, ← List.append_assoc]
    generalize adv a q (n + 1) = A at *
    by_cases hc : A.1 < 4
    · rw [if_pos hc, if_pos hc]
      exact ih.reg1 (Nat.le_refl _) hc
    · rw [if_neg hc, if_neg hc]
      have h4' : A.1 = 4 := by have := ih.le; omega
      have := ih.stk1 (a := A.2) (Nat.le_refl _)
      show Had _ A.1 _
      rw [h4']
      exact this
theorem step_lay {L : List Lo} {r p : Nat} (h : Had L r p) (t : Ty) : stepL L t = lay (aT r t) (qT r p t) (parN t) := by
  unfold stepL wordsL aT qT
  rw [h.reg, h.pl]
theorem Had.par {L : List Lo} {r p : Nat} (h : Had L r p) (t : Ty) (hn : 1 ≤ parN t) : Had (L ++ stepL L t) (adv (aT r t) (qT r p t) (parN t)).1 (adv (aT r t) (qT r p t) (parN t)).2 := by
  rw [step_lay h]
  obtain ⟨n, hn'⟩ : ∃ n, parN t = n + 1 := ⟨parN t - 1, by omega⟩
  rw [hn']
  refine h.lay_eq (r2_ge h.le _ _) (r2_le h.le _ _) (p3_ge r p _ _) (fun ha => ?_) n
  show qT r p t = p
  have ha : aT r t < 4 := ha
  cases he : parE t
  · exact (aq_not h.le he).2
  · have := aq_even (p := p) h.le he
    rw [this.1] at ha
    rw [this.2, if_neg (by omega)]
def r0N (res : Nat) (many : Bool) : Nat := (if 2 < res then 1 else 0) + (if many = true then 1 else 0)
theorem Had.start_eq (res : Nat) (many : Bool) : Had (had0 res many) (r0N res many) 0 := by
  unfold r0N
  by_cases h : 2 < res
  · have h1 := Had.nil.reg1 (a := 0) (by omega) (by omega)
    cases many
    · simpa [had0, h] using h1
    · simpa [had0, h] using h1.reg1 (a := 1) (by omega) (by omega)
  · cases many
    · simpa [had0, h] using Had.nil
    · simpa [had0, h] using Had.nil.reg1 (a := 0) (by omega) (by omega)
theorem hid_any (c : Bool) (b r p : Nat) (w : World) (hb : w.heap[b]? = some (.cells (ly r p) 43 (0, 0))) (hr : r < 4) : Calls Try.prog 11 #[.bool c, .pointer (some ⟨b, 0, none⟩)] w fun e w' => e = .returned (.int .i64 (if c = true then (r : Int) else -1)) ∧ w'.heap[b]? = some (.cells (ly (if c = true then r + 1 else r) p) 43 (0, 0)) ∧ w.grownBy w' (some b) := by
  cases c
  · refine (hid_no b w).mono ?_
    rintro e w' ⟨rfl, rfl⟩
    exact ⟨rfl, hb, rfl, rfl, rfl, Nat.le_refl _, fun _ _ _ => rfl⟩
  · exact hid_yes b r p w hb hr
theorem par_any (b r p : Nat) (T : Ty) (c : Bool) (v : Value) (w W0 : World) (hb : w.heap[b]? = some (.cells (ly r p) 43 (0, 0))) (hc : c = decide (4 < sizeT T)) (hr : r ≤ 4) (hp : p ≤ 500) (hs : ∃ k0 k1 k2 k3 k4, v = .agg #[k0, k1, k2, k3, k4]) (hv : TyV W0 T v) (hm : mayN 4 T = true) (hB : Below W0.heap.size W0 w) (hb0 : W0.heap.size ≤ b) :
    Calls Try.prog 14 #[.pointer (some ⟨b, 0, none⟩), v, .bool c] w fun e w' => ∃ lv, e = .returned lv ∧ w'.ownsRow w.heap.size 39 2 lv (parN T) (locV (lay (aT r T) (qT r p T) (parN T))) ∧ w'.heap[b]? = some (.cells (ly (adv (aT r T) (qT r p T) (parN T)).1 (adv (aT r T) (qT r p T) (parN T)).2) 43 (0, 0)) ∧ w.grownBy w' (some b) := by
  by_cases h4 : 4 < sizeT T
  · have : c = true := by rw [hc]; simpa using h4
    subst this
    exact par_copied b r p T v w W0 hb h4 hr hp hs hv
  · have : c = false := by rw [hc]; simpa using h4
    subst this
    exact par_laid b r p T v w W0 hb h4 hr hp hs hv hm hB hb0
set_option maxRecDepth 100000 in
set_option maxHeartbeats 1000000 in
theorem pl_bad (T : Ty) (v : Value) (ba : Option Addr) (bn bc : Nat) (bs : Nat → Ty) (w : World) (hv : TyV w T v) (hbs : Tys w (.slice ba bn bc) bn bs) (he : ¬ errP T bn bs = 0) : Calls Try.prog 5 #[v, .slice ba bn bc] w (PostP w T bn bs) := by
  have hP : ∀ k, errP T bn bs = k → ∀ w', Below w.heap.size w w' → PostP w T bn bs (.returned (.tuple #[.agg #[.int .i64 0, .int .i64 0, .slice none 0 0, .slice none 0 0, .slice none 0 0, .int .i64 0, .int .i64 0], .int .i64 k])) w' := fun k hk w' hb => PostP.bad hk (by rw [← hk]; exact he) hb
  obtain ⟨kind, name, nn, names, pn, parts, many, rfl⟩ : ∃ kind name nn names pn parts many, T = .mk kind name nn names pn parts many := by
    rcases T with _ | ⟨kind, name, nn, names, pn, parts, many⟩
    · exact (TyV_leaf hv).elim
    · exact ⟨_, _, _, _, _, _, _, rfl⟩
  obtain ⟨na, nc, pa, pc, rfl, -⟩ := hv.part
  have HF := hide (((Fr.start w).alloc rfl #[.int .i64 kind, .string name, .slice na nn nc, .slice pa pn pc, .bool many] 25).alloc (q := w.heap.size + 1) (by simp) z7 30)
  have HC := hide (wrong_any _ _ ba bn bc bs _ (hv.below HF.out.below) (hbs.below HF.out.below))
  have HP := hide (hP _ rfl)
  clear hv hbs hP
  generalize errP (.mk kind name nn names pn parts many) bn bs = E at *
  have he' : ¬ (E : Int) = 0 := by omega
  have he'' : ((E : Int) == 0) = false := by simpa using he'
  go_enter Try.func5, Try.ntmps5
  go_wp2_with fail
  go_at_call 9
  refine HC.out.mono ?_
  rintro e w1 ⟨rfl, hb⟩
  replace HF := hide (HF.out.call hb)
  have c0 := HF.out.cell 0 rfl
  have f0 := HF.out.frz 0 rfl
  clear hb HC
  go_wp2_with fail
  replace HF := hide (((((((HF.out.set 0 rfl 0 (.int .i64 0)).set 0 rfl 1 (.int .i64 0)).set 0 rfl 2 (.slice none 0 0)).set 0 rfl 3 (.slice none 0 0)).set 0 rfl 4 (.slice none 0 0)).set 0 rfl 5 (.int .i64 0)).set 0 rfl 6 (.int .i64 0))
  refine bodyPost_ret (rt7 Try.results5 rfl (HF.out.get (i := 0) rfl).2) rfl ?_
  exact HP.out _ HF.out.below
end Go.Proofs.Ytmbhcpnlfdgkjaa.T
