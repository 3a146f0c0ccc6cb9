/- What machine.Run and machine.Shown answer. -/
import Derived.Test.YtofhiooodgopeaaRun
namespace Go.Proofs.Ytofhiooodgopeaa.V
open Go.RowKit Go.Proofs.Ytofhiooodgopeaa.M
set_option linter.unusedVariables false
set_option linter.unusedSimpArgs false

theorem ext_z27 : z24.extract 17 21 = zz27 := rfl
theorem ext_z33 : z24.extract 0 17 = zz33 := rfl
theorem ext_f27 (s : Sm) (en : Int) (ov : Value) (mb kb : Nat) (c : Cf) : (fcells s en ov mb kb c).extract 17 21 = #[.int .i64 en, .int .i32 s.val, ov, .int .i64 s.steps] := rfl
abbrev rcells (R : Nat → Int) (pc : Int) : Array Value := #[.int .i32 (R 0), .int .i32 (R 1), .int .i32 (R 2), .int .i32 (R 3), .int .i32 (R 4), .int .i32 (R 5), .int .i32 (R 6), .int .i32 (R 7), .int .i32 (R 8), .int .i32 (R 9), .int .i32 (R 10), .int .i32 (R 11), .int .i32 (R 12), .int .i32 (R 13), .int .i32 (R 14), .int .i32 (R 15), .int .i64 pc]
theorem ext_f33 (s : Sm) (en : Int) (ov : Value) (mb kb : Nat) (c : Cf) : (fcells s en ov mb kb c).extract 0 17 = rcells s.R s.pc := by kernel_rfl
theorem own_above {B : Nat} {w0 w1 : World} {e : TypeId} {z : Nat} {v : Value} {n : Nat} {xs : List Value} (h : w0.ownsRow B e z v n xs) (ha : Above B w0 w1) : w1.ownsRow B e z v n xs := by
  refine ⟨h.1, ?_⟩
  rcases h.2 with h2 | ⟨g, cap, cur, hv, hg, hh, r⟩
  · exact Or.inl h2
  · have hlt : g < w0.heap.size := by
      rcases Nat.lt_or_ge g w0.heap.size with hlt | hge
      · exact hlt
      · rw [Array.getElem?_eq_none hge] at hh; cases hh
    exact Or.inr ⟨g, cap, cur, hv, hg, (ha g hg hlt).trans hh, r⟩

/-- An image's words lie in the world. -/
structure Img (w : World) (ca da : Option Addr) (nc nd : Nat) (code data : Nat → Int) : Prop where
  cs : 0 < nc → ∃ cb co, ca = some ⟨cb, co, none⟩ ∧ cb < w.heap.size ∧ ∀ k, k < nc → w.cell? ⟨cb, co + k, none⟩ = some (.int .u32 (code k))
  ds : 0 < nd → ∃ db do', da = some ⟨db, do', none⟩ ∧ db < w.heap.size ∧ ∀ k, k < nd → w.cell? ⟨db, do' + k, none⟩ = some (.int .i32 (data k))
  c32 : ∀ k, k < nc → 0 ≤ code k ∧ code k ≤ 4294967295
  d32 : ∀ k, k < nd → Fit (data k)
  nc : nc ≤ 140737488355328
  nd : nd ≤ 140737488355328
theorem Img.below {w w' : World} {ca da : Option Addr} {nc nd : Nat} {code data : Nat → Int} (h : Img w ca da nc nd code data) (hb : Below w.heap.size w w') : Img w' ca da nc nd code data := by
  refine ⟨fun hp => ?_, fun hp => ?_, h.c32, h.d32, h.nc, h.nd⟩
  · obtain ⟨cb, co, e1, e2, e3⟩ := h.cs hp
    exact ⟨cb, co, e1, Nat.lt_of_lt_of_le e2 hb.size, fun k hk => (hb.cell (p := ⟨cb, co + k, none⟩) e2).trans (e3 k hk)⟩
  · obtain ⟨cb, co, e1, e2, e3⟩ := h.ds hp
    exact ⟨cb, co, e1, Nat.lt_of_lt_of_le e2 hb.size, fun k hk => (hb.cell (p := ⟨cb, co + k, none⟩) e2).trans (e3 k hk)⟩

variable {w : World} {ca da : Option Addr} {nc cc nd cd : Nat} {code data : Nat → Int}
/-- What played leaves, in the three cases. -/
theorem played_gen_may (h : Img w ca da nc nd code data) (M fuel : Int) (M0 : -9223372036854775808 ≤ M) (M1 : M ≤ 9223372036854775807) (hm : mayB nc nd M = false) : ∀ w', Below w.heap.size w w' → w'.heap.size = w.heap.size + 2 →
    Calls Try.prog 14 #[.agg #[.slice ca nc cc, .slice da nd cd, .int .i64 M], .int .i64 fuel] w' fun e w'' => ∃ C : Array Value, C.size = 24 ∧ C.all (·.oneCell') = true ∧ e = .returned (.tuple #[.agg C, .int .i64 1]) ∧ C = z24 ∧ Below w'.heap.size w' w'' :=
  fun w' _ _ => (played_may ca da nc cc nd cd M fuel w' h.nc h.nd M0 M1 hm).mono fun e w'' ⟨he, hb⟩ => ⟨z24, rfl, one_z, he, rfl, hb⟩
theorem played_gen_fuel (h : Img w ca da nc nd code data) (M fuel : Int) (M0 : -9223372036854775808 ≤ M) (M1 : M ≤ 9223372036854775807) (hm : mayB nc nd M = true) (hf : fuel < 0 ∨ (¬ fuel < 0 ∧ 300000 < fuel)) : ∀ w', Below w.heap.size w w' → w'.heap.size = w.heap.size + 2 →
    Calls Try.prog 14 #[.agg #[.slice ca nc cc, .slice da nd cd, .int .i64 M], .int .i64 fuel] w' fun e w'' => ∃ C : Array Value, C.size = 24 ∧ C.all (·.oneCell') = true ∧ e = .returned (.tuple #[.agg C, .int .i64 6]) ∧ C = z24 ∧ Below w'.heap.size w' w'' :=
  fun w' _ _ => (played_fuel ca da nc cc nd cd M fuel w' h.nc h.nd M0 M1 hm hf).mono fun e w'' ⟨he, hb⟩ => ⟨z24, rfl, one_z, he, rfl, hb⟩
/-- The machine that an image is, when it ran. -/
abbrev fin (nc nd M fuel : Nat) (code data : Nat → Int) : Sm := run (cf nc nd M code) fuel (sm0 nc nd M code data)
def Res (B : Nat) (nc nd M fuel : Nat) (code data : Nat → Int) (C : Array Value) (w0 : World) : Prop :=
  ∃ ov mb kb, C = fcells (fin nc nd M fuel code data) (fin nc nd M fuel code data).fin ov mb kb (cf nc nd M code) ∧ w0.ownsRow B 21 1 ov (fin nc nd M fuel code data).out.length ((fin nc nd M fuel code data).out.map (Value.int .i32))
theorem played_gen_ok (h : Img w ca da nc nd code data) (M fuel : Nat) (hm : mayB nc nd M = true) (hf : fuel ≤ 300000) : ∀ w', Below w.heap.size w w' → w'.heap.size = w.heap.size + 2 →
    Calls Try.prog 14 #[.agg #[.slice ca nc cc, .slice da nd cd, .int .i64 M], .int .i64 fuel] w' fun e w'' => ∃ C : Array Value, C.size = 24 ∧ C.all (·.oneCell') = true ∧ e = .returned (.tuple #[.agg C, .int .i64 0]) ∧ Res (w.heap.size + 2) nc nd M fuel code data C w'' ∧ Below w'.heap.size w' w'' := by
  intro w' hb hs
  have hmm : 1 ≤ nc ∧ nc ≤ 6000 ∧ (32 : Int) ≤ M ∧ (M : Int) ≤ 16000 ∧ (nc : Int) + nd ≤ M - 16 := by simpa [mayB] using hm
  obtain ⟨cb, co, rfl, e2, e3⟩ := (h.below hb).cs (by omega)
  refine (played_ok cb co nc cc nd cd M fuel da code data w' hm hf e2 e3 h.c32 h.d32 (h.below hb).ds).mono ?_
  rintro e w'' ⟨ov, mb, kb, he, ho, hb'⟩
  refine ⟨_, rfl, one_f _ _ _ _ _ _ (own_one ho), he, ⟨ov, mb, kb, rfl, ?_⟩, hb'⟩
  rw [← hs]
  exact ho

theorem run_may (h : Img w ca da nc nd code data) (M fuel : Int) (M0 : -9223372036854775808 ≤ M) (M1 : M ≤ 9223372036854775807) (hm : mayB nc nd M = false) :
    Calls Try.prog 5 #[.agg #[.slice ca nc cc, .slice da nd cd, .int .i64 M], .int .i64 fuel] w fun e w' => e = .returned (.tuple #[.agg zz27, .int .i64 1]) ∧ Below w.heap.size w w' :=
  (run_gen ca da nc cc nd cd M fuel 1 (Res := fun C _ => C = z24) w (fun _ _ _ _ h => h) (played_gen_may h M fuel M0 M1 hm)).mono fun e w' ⟨C, _, he, hC, hb⟩ => ⟨by rw [he, hC, ext_z27], hb⟩
theorem run_fuel (h : Img w ca da nc nd code data) (M fuel : Int) (M0 : -9223372036854775808 ≤ M) (M1 : M ≤ 9223372036854775807) (hm : mayB nc nd M = true) (hf : fuel < 0 ∨ (¬ fuel < 0 ∧ 300000 < fuel)) :
    Calls Try.prog 5 #[.agg #[.slice ca nc cc, .slice da nd cd, .int .i64 M], .int .i64 fuel] w fun e w' => e = .returned (.tuple #[.agg zz27, .int .i64 6]) ∧ Below w.heap.size w w' :=
  (run_gen ca da nc cc nd cd M fuel 6 (Res := fun C _ => C = z24) w (fun _ _ _ _ h => h) (played_gen_fuel h M fuel M0 M1 hm hf)).mono fun e w' ⟨C, _, he, hC, hb⟩ => ⟨by rw [he, hC, ext_z27], hb⟩
theorem run_ok' (h : Img w ca da nc nd code data) (M fuel : Nat) (hm : mayB nc nd M = true) (hf : fuel ≤ 300000) :
    Calls Try.prog 5 #[.agg #[.slice ca nc cc, .slice da nd cd, .int .i64 M], .int .i64 fuel] w fun e w' => ∃ ov, e = .returned (.tuple #[.agg #[.int .i64 (fin nc nd M fuel code data).fin, .int .i32 (fin nc nd M fuel code data).val, ov, .int .i64 (fin nc nd M fuel code data).steps], .int .i64 0])
      ∧ w'.ownsRow w.heap.size 21 1 ov (fin nc nd M fuel code data).out.length ((fin nc nd M fuel code data).out.map (Value.int .i32)) ∧ Below w.heap.size w w' :=
  (run_gen ca da nc cc nd cd M fuel 0 (Res := Res (w.heap.size + 2) nc nd M fuel code data) w (fun _ _ _ ha ⟨ov, mb, kb, h1, h2⟩ => ⟨ov, mb, kb, h1, own_above h2 ha⟩) (played_gen_ok h M fuel hm hf)).mono fun e w' ⟨C, _, he, ⟨ov, mb, kb, hC, ho⟩, hb⟩ =>
    ⟨ov, by rw [he, hC, ext_f27], ownsRow_base ho (by omega), hb⟩
theorem shown_may (h : Img w ca da nc nd code data) (M fuel : Int) (M0 : -9223372036854775808 ≤ M) (M1 : M ≤ 9223372036854775807) (hm : mayB nc nd M = false) :
    Calls Try.prog 6 #[.agg #[.slice ca nc cc, .slice da nd cd, .int .i64 M], .int .i64 fuel] w fun e w' => e = .returned (.tuple #[.agg zz33, .int .i64 1]) ∧ Below w.heap.size w w' :=
  (shown_gen ca da nc cc nd cd M fuel 1 (Res := fun C _ => C = z24) w (fun _ _ _ _ h => h) (played_gen_may h M fuel M0 M1 hm)).mono fun e w' ⟨C, _, he, hC, hb⟩ => ⟨by rw [he, hC, ext_z33], hb⟩
theorem shown_fuel (h : Img w ca da nc nd code data) (M fuel : Int) (M0 : -9223372036854775808 ≤ M) (M1 : M ≤ 9223372036854775807) (hm : mayB nc nd M = true) (hf : fuel < 0 ∨ (¬ fuel < 0 ∧ 300000 < fuel)) :
    Calls Try.prog 6 #[.agg #[.slice ca nc cc, .slice da nd cd, .int .i64 M], .int .i64 fuel] w fun e w' => e = .returned (.tuple #[.agg zz33, .int .i64 6]) ∧ Below w.heap.size w w' :=
  (shown_gen ca da nc cc nd cd M fuel 6 (Res := fun C _ => C = z24) w (fun _ _ _ _ h => h) (played_gen_fuel h M fuel M0 M1 hm hf)).mono fun e w' ⟨C, _, he, hC, hb⟩ => ⟨by rw [he, hC, ext_z33], hb⟩
theorem shown_ok (h : Img w ca da nc nd code data) (M fuel : Nat) (hm : mayB nc nd M = true) (hf : fuel ≤ 300000) :
    Calls Try.prog 6 #[.agg #[.slice ca nc cc, .slice da nd cd, .int .i64 M], .int .i64 fuel] w fun e w' => e = .returned (.tuple #[.agg (rcells (fin nc nd M fuel code data).R (fin nc nd M fuel code data).pc), .int .i64 0]) ∧ Below w.heap.size w w' :=
  (shown_gen ca da nc cc nd cd M fuel 0 (Res := Res (w.heap.size + 2) nc nd M fuel code data) w (fun _ _ _ ha ⟨ov, mb, kb, h1, h2⟩ => ⟨ov, mb, kb, h1, own_above h2 ha⟩) (played_gen_ok h M fuel hm hf)).mono fun e w' ⟨C, _, he, ⟨ov, mb, kb, hC, ho⟩, hb⟩ =>
    ⟨by rw [he, hC, ext_f33], hb⟩
end Go.Proofs.Ytofhiooodgopeaa.V
