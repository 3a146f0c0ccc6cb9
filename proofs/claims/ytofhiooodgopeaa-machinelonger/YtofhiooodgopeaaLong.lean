/- The walk of MachineLonger. -/
import Derived.Test.YtofhiooodgopeaaWords
namespace Go.Proofs.Ytofhiooodgopeaa.V
open Go.RowKit Go.Proofs.Ytofhiooodgopeaa.M
set_option linter.unusedVariables false
set_option linter.unusedSimpArgs false
variable {w : World} {ca da : Option Addr} {nc cc nd cd : Nat} {code data : Nat → Int} {M few more : Int}

set_option maxRecDepth 100000 in
set_option maxHeartbeats 1000000 in
theorem long_gt (h : more < few) : Calls Try.prog 4 #[.agg #[.slice ca nc cc, .slice da nd cd, .int .i64 M], .int .i64 few, .int .i64 more] w fun e w' => e = .returned (.bool true) ∧ Below w.heap.size w w' := by
  go_enter Try.func4, Try.ntmps4
  go_wp2_with fail
  go_ret
  exact ⟨rfl, (Below.refl _ _).alloc (Nat.le_refl _) _⟩

/-- An error among the two. -/
def Errs (few more er1 er2 : Int) : Prop := (er1 = 1 ∧ er2 = 1) ∨ (er1 = 6 ∧ er2 = 6) ∨ (er1 = 6 ∧ er2 = 0 ∧ few < 0) ∨ (er1 = 0 ∧ er2 = 6 ∧ 300000 < more ∧ ¬ few < 0)
set_option maxRecDepth 100000 in
set_option maxHeartbeats 4000000 in
theorem long_err (h : ¬ more < few) (er1 er2 : Int) (he : Errs few more er1 er2)
    (hr1 : ∀ w', Below w.heap.size w w' → Calls Try.prog 5 #[.agg #[.slice ca nc cc, .slice da nd cd, .int .i64 M], .int .i64 few] w' fun e w'' => ∃ (x y : Int) (oa : Option Addr) (on oc : Nat) (t : Int), e = .returned (.tuple #[.agg #[.int .i64 x, .int .i32 y, .slice oa on oc, .int .i64 t], .int .i64 er1]) ∧ Below w'.heap.size w' w'')
    (hr2 : ∀ w', Below w.heap.size w w' → Calls Try.prog 5 #[.agg #[.slice ca nc cc, .slice da nd cd, .int .i64 M], .int .i64 more] w' fun e w'' => ∃ (x y : Int) (oa : Option Addr) (on oc : Nat) (t : Int), e = .returned (.tuple #[.agg #[.int .i64 x, .int .i32 y, .slice oa on oc, .int .i64 t], .int .i64 er2]) ∧ Below w'.heap.size w' w'') :
    Calls Try.prog 4 #[.agg #[.slice ca nc cc, .slice da nd cd, .int .i64 M], .int .i64 few, .int .i64 more] w fun e w' => e = .returned (.bool true) ∧ Below w.heap.size w w' := by
  rcases he with ⟨rfl, rfl⟩ | ⟨rfl, rfl⟩ | ⟨rfl, rfl, hf⟩ | ⟨rfl, rfl, hm, hf⟩
  all_goals
    go_enter Try.func4, Try.ntmps4
    go_wp2_with fail
    have hB0 : Below w.heap.size w (w.alloc (.cells #[.slice ca nc cc, .slice da nd cd, .int .i64 M] 25)) := (Below.refl _ _).alloc (Nat.le_refl _) _
    go_at_call 5
    refine (hr1 _ hB0).mono ?_
    rintro e w1 ⟨x, y, oa, on, oc, t, rfl, hb1⟩
    have hB1 : Below w.heap.size w w1 := hB0.trans (hb1.mono (by simp))
    have hz1 : w.heap.size < w1.heap.size := by have := hb1.size; simp at this; omega
    have hx1 : ∀ o, w1.cell? ⟨w.heap.size, o, none⟩ = (#[Value.slice ca nc cc, .slice da nd cd, .int .i64 M])[o]? := fun o => (hb1.cell (p := ⟨w.heap.size, o, none⟩) (by simp)).trans (World.cell?_alloc_at _ _ _ _ rfl)
    clear hb1
    go_wp2_with fail
    go_at_call 5
    refine (hr2 _ (hB1.alloc hB1.size _)).mono ?_
    rintro e w2 ⟨x2, y2, oa2, on2, oc2, t2, rfl, hb2⟩
    have hB2 : Below w.heap.size w w2 := (hB1.alloc hB1.size _).trans (hb2.mono (by simp; omega))
    clear hb2 hx1
    go_wp2_with fail
    go_ret
    exact ⟨rfl, hB2.alloc hB2.size _⟩

set_option maxRecDepth 100000 in
set_option maxHeartbeats 4000000 in
theorem long_fuel (h : ¬ more < few) (y1 y2 x2 t2 : Int) (l r : List Int) (hl : l.length ≤ 1000000) (ht : few ≤ t2)
    (hr1 : ∀ w', Below w.heap.size w w' → Calls Try.prog 5 #[.agg #[.slice ca nc cc, .slice da nd cd, .int .i64 M], .int .i64 few] w' fun e w'' => ∃ ov, e = .returned (.tuple #[.agg #[.int .i64 0, .int .i32 y1, ov, .int .i64 few], .int .i64 0]) ∧ w''.ownsRow w'.heap.size 21 1 ov l.length (l.map (Value.int .i32)) ∧ Below w'.heap.size w' w'')
    (hr2 : ∀ w', Below w.heap.size w w' → Calls Try.prog 5 #[.agg #[.slice ca nc cc, .slice da nd cd, .int .i64 M], .int .i64 more] w' fun e w'' => ∃ ov, e = .returned (.tuple #[.agg #[.int .i64 x2, .int .i32 y2, ov, .int .i64 t2], .int .i64 0]) ∧ w''.ownsRow w'.heap.size 21 1 ov (l ++ r).length ((l ++ r).map (Value.int .i32)) ∧ Below w'.heap.size w' w'') :
    Calls Try.prog 4 #[.agg #[.slice ca nc cc, .slice da nd cd, .int .i64 M], .int .i64 few, .int .i64 more] w fun e w' => e = .returned (.bool true) ∧ Below w.heap.size w w' := by
  go_enter Try.func4, Try.ntmps4
  go_wp2_with fail
  have hB0 : Below w.heap.size w (w.alloc (.cells #[.slice ca nc cc, .slice da nd cd, .int .i64 M] 25)) := (Below.refl _ _).alloc (Nat.le_refl _) _
  go_at_call 5
  refine (hr1 _ hB0).mono ?_
  rintro e w1 ⟨ov1, rfl, ho1, hb1⟩
  obtain ⟨oa1, oc1, rfl⟩ := own_form ho1
  have hB1 : Below w.heap.size w w1 := hB0.trans (hb1.mono (by simp))
  have hz1 : w.heap.size < w1.heap.size := by have := hb1.size; simp at this; omega
  have hx1 : ∀ o, w1.cell? ⟨w.heap.size, o, none⟩ = (#[Value.slice ca nc cc, .slice da nd cd, .int .i64 M])[o]? := fun o => (hb1.cell (p := ⟨w.heap.size, o, none⟩) (by simp)).trans (World.cell?_alloc_at _ _ _ _ rfl)
  have HO1 : Hid (w1.ownsRow 0 21 1 (.slice oa1 l.length oc1) l.length (l.map (Value.int .i32))) := ownsRow_base ho1 (Nat.zero_le _)
  clear hb1 ho1
  go_wp2_with fail
  go_at_call 5
  refine (hr2 _ (hB1.alloc hB1.size _)).mono ?_
  rintro e w2 ⟨ov2, rfl, ho2, hb2⟩
  obtain ⟨oa2, oc2, rfl⟩ := own_form ho2
  have hB2 : Below w.heap.size w w2 := (hB1.alloc hB1.size _).trans (hb2.mono (by simp; omega))
  have hx2 : ∀ o, w2.cell? ⟨w1.heap.size, o, none⟩ = (#[Value.int .i64 0, .int .i32 y1, .slice oa1 l.length oc1, .int .i64 few])[o]? := fun o => (hb2.cell (p := ⟨w1.heap.size, o, none⟩) (by simp)).trans (World.cell?_alloc_at _ _ _ _ rfl)
  have hz2 : w1.heap.size < w2.heap.size := by have := hb2.size; simp at this; omega
  have HO2 : Hid (w2.ownsRow 0 21 1 (.slice oa2 (l ++ r).length oc2) (l ++ r).length ((l ++ r).map (Value.int .i32))) := ownsRow_base ho2 (Nat.zero_le _)
  have HO3 : Hid (w2.ownsRow 0 21 1 (.slice oa1 l.length oc1) l.length (l.map (Value.int .i32))) := ownsRow_below (ownsRow_below HO1.out ((Below.refl _ _).alloc (Nat.le_refl _) (.cells #[Value.int .i64 0, .int .i32 y1, .slice oa1 l.length oc1, .int .i64 few] 27))) (hb2.mono (by simp))
  clear hb2 hx1 ho2 HO1
  generalize hlr : (l ++ r).length = n2 at *
  have HLR := hide hlr
  clear hlr
  go_wp2_with fail
  go_at_call 12
  have hn2 := HLR.out
  subst hn2
  refine (begins_any _ _ l r _ 0 hl (ownsRow_below HO2.out ((Below.refl _ _).alloc (Nat.le_refl _) _)) (ownsRow_below HO3.out ((Below.refl _ _).alloc (Nat.le_refl _) _))).mono ?_
  rintro e w3 ⟨rfl, m, rfl⟩
  go_wp2_with fail
  go_ret
  exact ⟨rfl, below_drewN (hB2.alloc hB2.size _) m⟩

set_option maxRecDepth 100000 in
set_option maxHeartbeats 4000000 in
theorem long_end (h : ¬ more < few) (x y t : Int) (l : List Int) (hl : l.length ≤ 1000000) (hx : (x == 0) = false)
    (hr1 : ∀ w', Below w.heap.size w w' → Calls Try.prog 5 #[.agg #[.slice ca nc cc, .slice da nd cd, .int .i64 M], .int .i64 few] w' fun e w'' => ∃ ov, e = .returned (.tuple #[.agg #[.int .i64 x, .int .i32 y, ov, .int .i64 t], .int .i64 0]) ∧ w''.ownsRow w'.heap.size 21 1 ov l.length (l.map (Value.int .i32)) ∧ Below w'.heap.size w' w'')
    (hr2 : ∀ w', Below w.heap.size w w' → Calls Try.prog 5 #[.agg #[.slice ca nc cc, .slice da nd cd, .int .i64 M], .int .i64 more] w' fun e w'' => ∃ ov, e = .returned (.tuple #[.agg #[.int .i64 x, .int .i32 y, ov, .int .i64 t], .int .i64 0]) ∧ w''.ownsRow w'.heap.size 21 1 ov l.length (l.map (Value.int .i32)) ∧ Below w'.heap.size w' w'') :
    Calls Try.prog 4 #[.agg #[.slice ca nc cc, .slice da nd cd, .int .i64 M], .int .i64 few, .int .i64 more] w fun e w' => e = .returned (.bool true) ∧ Below w.heap.size w w' := by
  go_enter Try.func4, Try.ntmps4
  go_wp2_with fail
  have hB0 : Below w.heap.size w (w.alloc (.cells #[.slice ca nc cc, .slice da nd cd, .int .i64 M] 25)) := (Below.refl _ _).alloc (Nat.le_refl _) _
  go_at_call 5
  refine (hr1 _ hB0).mono ?_
  rintro e w1 ⟨ov1, rfl, ho1, hb1⟩
  obtain ⟨oa1, oc1, rfl⟩ := own_form ho1
  have hB1 : Below w.heap.size w w1 := hB0.trans (hb1.mono (by simp))
  have hz1 : w.heap.size < w1.heap.size := by have := hb1.size; simp at this; omega
  have hx1 : ∀ o, w1.cell? ⟨w.heap.size, o, none⟩ = (#[Value.slice ca nc cc, .slice da nd cd, .int .i64 M])[o]? := fun o => (hb1.cell (p := ⟨w.heap.size, o, none⟩) (by simp)).trans (World.cell?_alloc_at _ _ _ _ rfl)
  have HO1 : Hid (w1.ownsRow 0 21 1 (.slice oa1 l.length oc1) l.length (l.map (Value.int .i32))) := ownsRow_base ho1 (Nat.zero_le _)
  clear hb1 ho1
  go_wp2_with fail
  go_at_call 5
  refine (hr2 _ (hB1.alloc hB1.size _)).mono ?_
  rintro e w2 ⟨ov2, rfl, ho2, hb2⟩
  obtain ⟨oa2, oc2, rfl⟩ := own_form ho2
  have hB2 : Below w.heap.size w w2 := (hB1.alloc hB1.size _).trans (hb2.mono (by simp; omega))
  have hx2 : ∀ o, w2.cell? ⟨w1.heap.size, o, none⟩ = (#[Value.int .i64 x, .int .i32 y, .slice oa1 l.length oc1, .int .i64 t])[o]? := fun o => (hb2.cell (p := ⟨w1.heap.size, o, none⟩) (by simp)).trans (World.cell?_alloc_at _ _ _ _ rfl)
  have hz2 : w1.heap.size < w2.heap.size := by have := hb2.size; simp at this; omega
  have HO2 : Hid (w2.ownsRow 0 21 1 (.slice oa2 l.length oc2) l.length (l.map (Value.int .i32))) := ownsRow_base ho2 (Nat.zero_le _)
  have HO3 : Hid (w2.ownsRow 0 21 1 (.slice oa1 l.length oc1) l.length (l.map (Value.int .i32))) := ownsRow_below (ownsRow_below HO1.out ((Below.refl _ _).alloc (Nat.le_refl _) (.cells #[Value.int .i64 x, .int .i32 y, .slice oa1 l.length oc1, .int .i64 t] 27))) (hb2.mono (by simp))
  clear hb2 hx1 ho2 HO1
  go_wp2_with fail
  go_at_call 13
  refine (words_anyK _ _ l _ 0 hl (ownsRow_below HO3.out ((Below.refl _ _).alloc (Nat.le_refl _) _)) (ownsRow_below HO2.out ((Below.refl _ _).alloc (Nat.le_refl _) _))).mono ?_
  rintro e w3 ⟨rfl, m, rfl⟩
  go_wp2_with fail
  go_ret
  exact ⟨rfl, below_drewN (hB2.alloc hB2.size _) m⟩

/-- A machine's run told at most as many words as it had fuel. -/
theorem fin_len (nc nd M fuel : Nat) (code data : Nat → Int) (hf : fuel ≤ 300000) : (fin nc nd M fuel code data).out.length ≤ 1000000 := by
  have := run_len (cf nc nd M code) (sm0 nc nd M code data) fuel
  have e : (sm0 nc nd M code data).out.length = 0 := rfl
  show (run _ _ _).out.length ≤ _
  omega
/-- MachineLonger answers true. -/
theorem long_any (h : Img w ca da nc nd code data) (M0 : -9223372036854775808 ≤ M) (M1 : M ≤ 9223372036854775807) :
    Calls Try.prog 4 #[.agg #[.slice ca nc cc, .slice da nd cd, .int .i64 M], .int .i64 few, .int .i64 more] w fun e w' => e = .returned (.bool true) ∧ Below w.heap.size w w' := by
  by_cases hgt : more < few
  · exact long_gt hgt
  have hz : ∀ {er : Int} {w' w'' : World} {e : Ending}, e = .returned (.tuple #[.agg zz27, .int .i64 er]) ∧ Below w'.heap.size w' w'' → ∃ (x y : Int) (oa : Option Addr) (on oc : Nat) (t : Int), e = .returned (.tuple #[.agg #[.int .i64 x, .int .i32 y, .slice oa on oc, .int .i64 t], .int .i64 er]) ∧ Below w'.heap.size w' w'' :=
    fun ⟨he, hb⟩ => ⟨0, 0, none, 0, 0, 0, he, hb⟩
  have hy : ∀ {s : Sm} {w' w'' : World} {e : Ending}, (∃ ov, e = .returned (.tuple #[.agg #[.int .i64 s.fin, .int .i32 s.val, ov, .int .i64 s.steps], .int .i64 0]) ∧ w''.ownsRow w'.heap.size 21 1 ov s.out.length (s.out.map (Value.int .i32)) ∧ Below w'.heap.size w' w'') →
      ∃ (x y : Int) (oa : Option Addr) (on oc : Nat) (t : Int), e = .returned (.tuple #[.agg #[.int .i64 x, .int .i32 y, .slice oa on oc, .int .i64 t], .int .i64 0]) ∧ Below w'.heap.size w' w'' := fun ⟨ov, he, ho, hb⟩ => by
    obtain ⟨a, c, rfl⟩ := own_form ho
    exact ⟨_, _, _, _, _, _, he, hb⟩
  cases hm : mayB nc nd M with
  | false =>
    exact long_err hgt 1 1 (Or.inl ⟨rfl, rfl⟩) (fun w' hb => (run_may (h.below hb) M few M0 M1 hm).mono fun _ _ => hz) (fun w' hb => (run_may (h.below hb) M more M0 M1 hm).mono fun _ _ => hz)
  | true =>
    have hmm : 1 ≤ nc ∧ nc ≤ 6000 ∧ (32 : Int) ≤ M ∧ M ≤ 16000 ∧ (nc : Int) + nd ≤ M - 16 := by simpa [mayB] using hm
    obtain ⟨Mn, rfl⟩ : ∃ n : Nat, M = n := ⟨M.toNat, by omega⟩
    by_cases h1 : few < 0 ∨ (¬ few < 0 ∧ 300000 < few)
    · by_cases h2 : more < 0 ∨ (¬ more < 0 ∧ 300000 < more)
      · exact long_err hgt 6 6 (Or.inr (Or.inl ⟨rfl, rfl⟩)) (fun w' hb => (run_fuel (h.below hb) Mn few M0 M1 hm h1).mono fun _ _ => hz) (fun w' hb => (run_fuel (h.below hb) Mn more M0 M1 hm h2).mono fun _ _ => hz)
      · obtain ⟨k, rfl⟩ : ∃ n : Nat, more = n := ⟨more.toNat, by omega⟩
        exact long_err hgt 6 0 (Or.inr (Or.inr (Or.inl ⟨rfl, rfl, by omega⟩))) (fun w' hb => (run_fuel (h.below hb) Mn few M0 M1 hm h1).mono fun _ _ => hz) (fun w' hb => (run_ok' (h.below hb) Mn k hm (by omega)).mono fun _ _ => hy)
    · obtain ⟨j, rfl⟩ : ∃ n : Nat, few = n := ⟨few.toNat, by omega⟩
      by_cases h2 : more < 0 ∨ (¬ more < 0 ∧ 300000 < more)
      · exact long_err hgt 0 6 (Or.inr (Or.inr (Or.inr ⟨rfl, rfl, by omega, by omega⟩))) (fun w' hb => (run_ok' (h.below hb) Mn j hm (by omega)).mono fun _ _ => hy) (fun w' hb => (run_fuel (h.below hb) Mn more M0 M1 hm h2).mono fun _ _ => hz)
      · obtain ⟨k, rfl⟩ : ∃ n : Nat, more = n := ⟨more.toNat, by omega⟩
        have hjk : j ≤ k := by omega
        have hlen := fin_len nc nd Mn j code data (by omega)
        have r1 := fun (w' : World) (hb : Below w.heap.size w w') => run_ok' (cc := cc) (cd := cd) (h.below hb) Mn j hm (by omega)
        have r2 := fun (w' : World) (hb : Below w.heap.size w w') => run_ok' (cc := cc) (cd := cd) (h.below hb) Mn k hm (by omega)
        by_cases hf : (fin nc nd Mn j code data).fin = 0
        · have hst := (run_steps (cf nc nd Mn code) (sm0 nc nd Mn code data) j).2.2 hf
          have hs0 : (sm0 nc nd Mn code data).steps = 0 := rfl
          obtain ⟨d, rfl⟩ : ∃ d, k = j + d := ⟨k - j, by omega⟩
          have hadd : fin nc nd Mn (j + d) code data = run (cf nc nd Mn code) d (fin nc nd Mn j code data) := run_add _ _ _ _
          have hst2 := (run_steps (cf nc nd Mn code) (fin nc nd Mn j code data) d).2.1
          obtain ⟨r, hr⟩ := run_out (cf nc nd Mn code) (fin nc nd Mn j code data) d
          rw [← hadd] at hst2 hr
          have hsj : (fin nc nd Mn j code data).steps = j := by show (run _ _ _).steps = j; omega
          rw [hf, hsj] at r1
          rw [hr] at r2
          exact long_fuel hgt _ _ _ _ _ r hlen (by omega) r1 r2
        · have hsame : fin nc nd Mn k code data = fin nc nd Mn j code data := run_same _ _ j k hf hjk
          rw [hsame] at r2
          exact long_end hgt _ _ _ _ hlen (by simpa using hf) r1 r2
end Go.Proofs.Ytofhiooodgopeaa.V
