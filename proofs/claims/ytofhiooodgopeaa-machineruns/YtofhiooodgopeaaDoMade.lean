/- The contract of (*machine).do at what makes a word for a register. -/
import Derived.Test.YtofhiooodgopeaaLay
import Derived.Test.YtofhiooodgopeaaLoad
namespace Go.Proofs.Ytofhiooodgopeaa.V
open Go.RowKit Go.Proofs.Ytofhiooodgopeaa.M
set_option linter.unusedVariables false
set_option linter.unusedSimpArgs false
variable {w : World} {b mb kb ob : Nat} {c : Cf} {s : Sm} {en : Int}

/-- The instructions that make a word. -/
def Makes (op m : Int) : Prop := (1 ≤ op ∧ op ≤ 17) ∧ (op = 3 → 0 ≤ m)
theorem made_ok (h : Lo w b mb kb ob c s en) (hok : Ok c s) (op : Int) (a r k : Nat) (m : Int) (ha : a < 16) (hr : r < 16) (hk : k < 16) (m0 : -32768 ≤ m) (m1 : m ≤ 65535) (ho : Makes op m) (hf : madeFin c s op r k m = 0) :
    Calls Try.prog 40 #[.pointer (some ⟨b, 0, none⟩), .agg #[.int .i64 op, .int .i64 a, .int .i64 r, .int .i64 k, .int .i64 m]] w fun e w' => e = .returned (.int .i32 (madeVal s op a r k m)) ∧ Below w.heap.size w w' := by
  have hb : b < w.heap.size := by have := h.lb; have := h.lo; omega
  have hmb : mb < w.heap.size := by have := h.lmb; have := h.lo; omega
  obtain ⟨⟨o0, o1⟩, o3⟩ := ho
  by_cases c1 : op = 1
  · subst c1; exact made_mov b a r k m _ w hb hr (h.reg r hr)
  by_cases c2 : op = 2
  · subst c2; exact made_movi b a r k m w m0 m1
  by_cases c3 : op = 3
  · subst c3; exact made_movh b a r k m _ w hb ha (h.reg a ha) (o3 rfl) m1 (hok.reg a).1 (hok.reg a).2
  by_cases c16 : op = 16
  · subst c16; exact made_addi b a r k m _ w hb hr (h.reg r hr) m0 m1
  by_cases c17 : op = 17
  · subst c17
    have hx : 0 ≤ s.R r + m ∧ s.R r + m < c.M := by
      by_cases e : 0 ≤ s.R r + m ∧ s.R r + m < c.M
      · exact e
      · unfold madeFin at hf; rw [if_pos rfl, if_neg e] at hf; omega
    exact made_load b a r k m _ _ mb c.M c.M (s.R r + m).toNat w hb hmb hr (h.reg r hr) h.c21 (hok.reg r).1 (hok.reg r).2 m0 m1 (by omega) (by omega) (h.memc _ (by omega))
  · have o4 : 4 ≤ op ∧ op ≤ 15 := by omega
    have hB : AW.opB (op - 3) (s.R k) = true := by
      unfold madeFin at hf
      rw [if_neg c17, if_pos o4] at hf
      by_cases e : AW.opB (op - 3) (s.R k) = true
      · exact e
      · rw [if_neg e] at hf; omega
    have hV : AW.opN (op - 3) (s.R r) (s.R k) = madeVal s op a r k m := by
      unfold madeVal
      rw [if_neg c1, if_neg c2, if_neg c3, if_neg c16, if_neg c17]
    exact made_op b op a r k m _ _ _ w hb hr hk (h.reg r hr) (h.reg k hk) (hok.reg r).1 (hok.reg r).2 (hok.reg k).1 (hok.reg k).2 o4.1 o4.2 hB hV
theorem made_bad (h : Lo w b mb kb ob c s en) (hok : Ok c s) (op : Int) (a r k : Nat) (m : Int) (ha : a < 16) (hr : r < 16) (hk : k < 16) (m0 : -32768 ≤ m) (m1 : m ≤ 65535) (ho : Makes op m) (hf : madeFin c s op r k m ≠ 0) :
    Calls Try.prog 40 #[.pointer (some ⟨b, 0, none⟩), .agg #[.int .i64 op, .int .i64 a, .int .i64 r, .int .i64 k, .int .i64 m]] w fun e w' => e = thrown (madeFin c s op r k m) ∧ Below w.heap.size w w' := by
  have hb : b < w.heap.size := by have := h.lb; have := h.lo; omega
  have hmb : mb < w.heap.size := by have := h.lmb; have := h.lo; omega
  by_cases c17 : op = 17
  · subst c17
    have hx : ¬ (0 ≤ s.R r + m ∧ s.R r + m < c.M) := fun e => by
      unfold madeFin at hf; rw [if_pos rfl, if_pos e] at hf; exact hf rfl
    have h4 : madeFin c s 17 r k m = 4 := by unfold madeFin; rw [if_pos rfl, if_neg hx]
    rw [h4]
    exact made_load_bad b a r k m _ mb c.M c.M w hb hmb hr (h.reg r hr) h.c21 (hok.reg r).1 (hok.reg r).2 m0 m1 (by omega)
  · by_cases o4 : 4 ≤ op ∧ op ≤ 15
    · have hB : AW.opB (op - 3) (s.R k) = false := by
        unfold madeFin at hf
        rw [if_neg c17, if_pos o4] at hf
        by_cases e : AW.opB (op - 3) (s.R k) = true
        · rw [if_pos e] at hf; exact absurd rfl hf
        · simpa using e
      have h2 : madeFin c s op r k m = 2 := by unfold madeFin; rw [if_neg c17, if_pos o4, hB]; rfl
      rw [h2]
      exact made_op_bad b op a r k m _ _ w hb hr hk (h.reg r hr) (h.reg k hk) (hok.reg r).1 (hok.reg r).2 (hok.reg k).1 (hok.reg k).2 o4.1 o4.2 hB
    · exact absurd (by unfold madeFin; rw [if_neg c17, if_neg o4]) hf
theorem give_fine (h : Lo w b mb kb ob c s en) (a : Nat) (x : Int) (ha : a < 16) (hx : Fit x) (hf : giveFin c a x = 0) :
    Calls Try.prog 38 #[.pointer (some ⟨b, 0, none⟩), .int .i64 a, .int .i32 x] w fun e w' => e = .returned (.tuple #[]) ∧ w' = w.setCell ⟨b, a, none⟩ (.int .i32 x) := by
  by_cases e : a = 13
  · subst e
    unfold giveFin at hf
    rw [if_pos rfl] at hf
    have h1 : ¬ x < c.low := fun e => by rw [if_pos e] at hf; omega
    rw [if_neg h1] at hf
    have h2 : ¬ (c.M : Int) < x := fun e => by rw [if_pos e] at hf; omega
    exact give_13 b x c.low mb c.M c.M _ w (h.reg 13 ha) (h.fz 13).1 h.c23 h.c21 hx.1 hx.2 h1 h2
  · exact give_ok b a x _ w ha (h.reg a ha) (h.fz a).1 e
theorem give_bad (h : Lo w b mb kb ob c s en) (a : Nat) (x : Int) (ha : a < 16) (hx : Fit x) (hf : giveFin c a x ≠ 0) :
    Calls Try.prog 38 #[.pointer (some ⟨b, 0, none⟩), .int .i64 a, .int .i32 x] w fun e w' => e = thrown (giveFin c a x) ∧ w' = w.setCell ⟨b, a, none⟩ (.int .i32 x) := by
  by_cases e : a = 13
  · subst e
    by_cases h1 : x < c.low
    · have h3 : giveFin c 13 x = 3 := by unfold giveFin; rw [if_pos rfl, if_pos h1]
      rw [h3]
      exact give_low b x c.low _ w (h.reg 13 ha) (h.fz 13).1 h.c23 hx.1 hx.2 h1
    · by_cases h2 : (c.M : Int) < x
      · have h3 : giveFin c 13 x = 4 := by unfold giveFin; rw [if_pos rfl, if_neg h1, if_pos h2]
        rw [h3]
        exact give_high b x c.low mb c.M c.M _ w (h.reg 13 ha) (h.fz 13).1 h.c23 h.c21 hx.1 hx.2 h1 h2
      · exact absurd (by unfold giveFin; rw [if_pos rfl, if_neg h1, if_neg h2]) hf
  · exact absurd (by unfold giveFin; rw [if_neg e]) hf

set_option maxRecDepth 100000 in
set_option maxHeartbeats 2000000 in
theorem do_made_bad (h : Lo w b mb kb ob c s en) (hok : Ok c s) (op : Int) (a r k : Nat) (m : Int) (ha : a < 16) (hr : r < 16) (hk : k < 16) (m0 : -32768 ≤ m) (m1 : m ≤ 65535) (hp : 0 ≤ s.pc ∧ s.pc < c.n) (ho : Makes op m)
    (HF : Hid (madeFin c s op r k m ≠ 0)) :
    Calls Try.prog 26 #[.pointer (some ⟨b, 0, none⟩), .agg #[.int .i64 op, .int .i64 a, .int .i64 r, .int .i64 k, .int .i64 m]] w fun e w' => e = thrown (madeFin c s op r k m) ∧ Below w.heap.size w w' := by
  have hb : b < w.heap.size := by have := h.lb; have := h.lo; omega
  have hne : b ≠ w.heap.size := by omega
  have hpc1 : s.pc ≤ 16000 := by have := hok.n0; have := hok.nM; omega
  have hpc0 : 0 ≤ s.pc := hp.1
  have e16 := h.c16
  obtain ⟨⟨oa, ob1⟩, o3⟩ := ho
  have c18 : (op == 18) = false := beq_eq_false_iff_ne.2 (by omega)
  have c19 : (op == 19) = false := beq_eq_false_iff_ne.2 (by omega)
  have c20 : (op == 20) = false := beq_eq_false_iff_ne.2 (by omega)
  have c21 : (op == 21) = false := beq_eq_false_iff_ne.2 (by omega)
  have c22 : (op == 22) = false := beq_eq_false_iff_ne.2 (by omega)
  have c23 : (op == 23) = false := beq_eq_false_iff_ne.2 (by omega)
  have c24 : (op == 24) = false := beq_eq_false_iff_ne.2 (by omega)
  have c25 : (op == 25) = false := beq_eq_false_iff_ne.2 (by omega)
  have HO : Hid (Makes op m) := ⟨⟨oa, ob1⟩, o3⟩
  have HL := hide h
  have HK := hide hok
  clear h hok oa ob1 o3
  go_enter Try.func26, Try.ntmps26
  go_wp2_with fail
  have g3 : ∀ o, (w.alloc (.cells #[.int .i64 op, .int .i64 a, .int .i64 r, .int .i64 k, .int .i64 m] 57)).cell? ⟨w.heap.size, o, none⟩ = (#[Value.int .i64 op, .int .i64 a, .int .i64 r, .int .i64 k, .int .i64 m])[o]? := fun o => World.cell?_alloc_at _ _ _ _ rfl
  have g0 : w.heap.size < (w.alloc (.cells #[.int .i64 op, .int .i64 a, .int .i64 r, .int .i64 k, .int .i64 m] 57)).heap.size := by simp
  have G4 : Hid (Below w.heap.size w (w.alloc (.cells #[.int .i64 op, .int .i64 a, .int .i64 r, .int .i64 k, .int .i64 m] 57))) := (Below.refl _ _).alloc (Nat.le_refl _) _
  generalize w.alloc (.cells #[.int .i64 op, .int .i64 a, .int .i64 r, .int .i64 k, .int .i64 m] 57) = W at *
  refine wp_region_held_drew (S := (fun w' => ∀ o, w'.cell? ⟨w.heap.size, o, none⟩ = W.cell? ⟨w.heap.size, o, none⟩)) (by kernel_rfl) (fun _ => rfl) (fun hHeld => ?_)
  refine wpAnyH_take (i := 0) (v := ?_) rfl (by kernel_rfl) (by kernel_rfl) (by kernel_rfl) (fun _ _ _ h => h) (Or.inl ⟨by rfl, ?_⟩) (by assumption) ?_
  rotate_left
  · (intro w hSw; (try dsimp only at hSw); go_simp) <;> with_reducible rfl
  (try simp only [Act.put, List.setIfInBounds_toArray, List.set_cons_zero, List.set_cons_succ])
  refine wpAnyH_take (i := 1) (v := ?_) rfl (by kernel_rfl) (by kernel_rfl) (by kernel_rfl) (fun _ _ _ h => h) (Or.inl ⟨by rfl, ?_⟩) (by assumption) ?_
  rotate_left
  · (intro w hSw; (try dsimp only at hSw); go_simp) <;> with_reducible rfl
  (try simp only [Act.put, List.setIfInBounds_toArray, List.set_cons_zero, List.set_cons_succ])
  refine wpAnyH_take (i := 2) (v := ?_) rfl (by kernel_rfl) (by kernel_rfl) (by kernel_rfl) (fun _ _ _ h => h) (Or.inl ⟨by rfl, ?_⟩) (by assumption) ?_
  rotate_left
  · (intro w hSw; (try dsimp only at hSw); go_simp) <;> with_reducible rfl
  (try simp only [Act.put, List.setIfInBounds_toArray, List.set_cons_zero, List.set_cons_succ])
  refine wpAnyH_take (i := 3) (v := ?_) rfl (by kernel_rfl) (by kernel_rfl) (by kernel_rfl) (fun _ _ _ h => h) (Or.inl ⟨by rfl, ?_⟩) (by assumption) ?_
  rotate_left
  · (intro w hSw; (try dsimp only at hSw); go_simp) <;> with_reducible rfl
  (try simp only [Act.put, List.setIfInBounds_toArray, List.set_cons_zero, List.set_cons_succ])
  refine wpAnyH_take (i := 4) (v := ?_) rfl (by kernel_rfl) (by kernel_rfl) (by kernel_rfl) (fun _ _ _ h => h) (Or.inl ⟨by rfl, ?_⟩) (by assumption) ?_
  rotate_left
  · (intro w hSw; (try dsimp only at hSw); go_simp) <;> with_reducible rfl
  (try simp only [Act.put, List.setIfInBounds_toArray, List.set_cons_zero, List.set_cons_succ])
  refine wpAnyH_ready (rs := [5]) (by kernel_rfl) (by simp) ?_
  refine AllReadyH.cons rfl (fun K hK => ?_) AllReadyH.nil
  go_simp
  have hL := HL.out.below (G4.out.drew)
  refine (made_bad hL HK.out op a r k m ha hr hk m0 m1 HO.out HF.out).mono ?_
  rintro e w1 ⟨rfl, hb1⟩
  exact ⟨rfl, rfl, (G4.out.drew).trans (hb1.mono (G4.out.drew).size)⟩

set_option maxRecDepth 100000 in
set_option maxHeartbeats 2000000 in
theorem do_made_end (h : Lo w b mb kb ob c s en) (hok : Ok c s) (op : Int) (a r k : Nat) (m : Int) (ha : a < 16) (hr : r < 16) (hk : k < 16) (m0 : -32768 ≤ m) (m1 : m ≤ 65535) (hp : 0 ≤ s.pc ∧ s.pc < c.n) (ho : Makes op m)
    (HF : Hid (madeFin c s op r k m = 0)) (HG : Hid (giveFin c a (madeVal s op a r k m) ≠ 0)) :
    Calls Try.prog 26 #[.pointer (some ⟨b, 0, none⟩), .agg #[.int .i64 op, .int .i64 a, .int .i64 r, .int .i64 k, .int .i64 m]] w fun e w' => e = thrown (giveFin c a (madeVal s op a r k m)) ∧ Lo w' b mb kb ob c { s with R := upd s.R a (madeVal s op a r k m) } en ∧ Kp b mb kb ob w w' := by
  have hb : b < w.heap.size := by have := h.lb; have := h.lo; omega
  have hne : b ≠ w.heap.size := by omega
  have hpc1 : s.pc ≤ 16000 := by have := hok.n0; have := hok.nM; omega
  have hpc0 : 0 ≤ s.pc := hp.1
  have e16 := h.c16
  obtain ⟨⟨oa, ob1⟩, o3⟩ := ho
  have c18 : (op == 18) = false := beq_eq_false_iff_ne.2 (by omega)
  have c19 : (op == 19) = false := beq_eq_false_iff_ne.2 (by omega)
  have c20 : (op == 20) = false := beq_eq_false_iff_ne.2 (by omega)
  have c21 : (op == 21) = false := beq_eq_false_iff_ne.2 (by omega)
  have c22 : (op == 22) = false := beq_eq_false_iff_ne.2 (by omega)
  have c23 : (op == 23) = false := beq_eq_false_iff_ne.2 (by omega)
  have c24 : (op == 24) = false := beq_eq_false_iff_ne.2 (by omega)
  have c25 : (op == 25) = false := beq_eq_false_iff_ne.2 (by omega)
  have HO : Hid (Makes op m) := ⟨⟨oa, ob1⟩, o3⟩
  have HL := hide h
  have HK := hide hok
  clear h hok oa ob1 o3
  go_enter Try.func26, Try.ntmps26
  go_wp2_with fail
  have g3 : ∀ o, (w.alloc (.cells #[.int .i64 op, .int .i64 a, .int .i64 r, .int .i64 k, .int .i64 m] 57)).cell? ⟨w.heap.size, o, none⟩ = (#[Value.int .i64 op, .int .i64 a, .int .i64 r, .int .i64 k, .int .i64 m])[o]? := fun o => World.cell?_alloc_at _ _ _ _ rfl
  have g0 : w.heap.size < (w.alloc (.cells #[.int .i64 op, .int .i64 a, .int .i64 r, .int .i64 k, .int .i64 m] 57)).heap.size := by simp
  have G4 : Hid (Below w.heap.size w (w.alloc (.cells #[.int .i64 op, .int .i64 a, .int .i64 r, .int .i64 k, .int .i64 m] 57))) := (Below.refl _ _).alloc (Nat.le_refl _) _
  generalize w.alloc (.cells #[.int .i64 op, .int .i64 a, .int .i64 r, .int .i64 k, .int .i64 m] 57) = W at *
  refine wp_region_held_drew (S := (fun w' => ∀ o, w'.cell? ⟨w.heap.size, o, none⟩ = W.cell? ⟨w.heap.size, o, none⟩)) (by kernel_rfl) (fun _ => rfl) (fun hHeld => ?_)
  refine wpAnyH_take (i := 0) (v := ?_) rfl (by kernel_rfl) (by kernel_rfl) (by kernel_rfl) (fun _ _ _ h => h) (Or.inl ⟨by rfl, ?_⟩) (by assumption) ?_
  rotate_left
  · (intro w hSw; (try dsimp only at hSw); go_simp) <;> with_reducible rfl
  (try simp only [Act.put, List.setIfInBounds_toArray, List.set_cons_zero, List.set_cons_succ])
  refine wpAnyH_take (i := 1) (v := ?_) rfl (by kernel_rfl) (by kernel_rfl) (by kernel_rfl) (fun _ _ _ h => h) (Or.inl ⟨by rfl, ?_⟩) (by assumption) ?_
  rotate_left
  · (intro w hSw; (try dsimp only at hSw); go_simp) <;> with_reducible rfl
  (try simp only [Act.put, List.setIfInBounds_toArray, List.set_cons_zero, List.set_cons_succ])
  refine wpAnyH_take (i := 2) (v := ?_) rfl (by kernel_rfl) (by kernel_rfl) (by kernel_rfl) (fun _ _ _ h => h) (Or.inl ⟨by rfl, ?_⟩) (by assumption) ?_
  rotate_left
  · (intro w hSw; (try dsimp only at hSw); go_simp) <;> with_reducible rfl
  (try simp only [Act.put, List.setIfInBounds_toArray, List.set_cons_zero, List.set_cons_succ])
  refine wpAnyH_take (i := 3) (v := ?_) rfl (by kernel_rfl) (by kernel_rfl) (by kernel_rfl) (fun _ _ _ h => h) (Or.inl ⟨by rfl, ?_⟩) (by assumption) ?_
  rotate_left
  · (intro w hSw; (try dsimp only at hSw); go_simp) <;> with_reducible rfl
  (try simp only [Act.put, List.setIfInBounds_toArray, List.set_cons_zero, List.set_cons_succ])
  refine wpAnyH_take (i := 4) (v := ?_) rfl (by kernel_rfl) (by kernel_rfl) (by kernel_rfl) (fun _ _ _ h => h) (Or.inl ⟨by rfl, ?_⟩) (by assumption) ?_
  rotate_left
  · (intro w hSw; (try dsimp only at hSw); go_simp) <;> with_reducible rfl
  (try simp only [Act.put, List.setIfInBounds_toArray, List.set_cons_zero, List.set_cons_succ])
  refine wpAnyH_ready (rs := [5]) (by kernel_rfl) (by simp) ?_
  refine AllReadyH.cons rfl (fun K hK => ?_) AllReadyH.nil
  go_simp
  have hL := HL.out.below (G4.out.drew)
  refine (made_ok hL HK.out op a r k m ha hr hk m0 m1 HO.out HF.out).mono ?_
  rintro e w1 ⟨rfl, hb1⟩
  have hB := (G4.out.drew).trans (hb1.mono (G4.out.drew).size)
  have hx := madeVal_fit HK.out op a r k m m0 m1
  generalize hxe : madeVal s op a r k m = x at *
  have HXE := hide hxe
  clear hxe
  have hL1 := HL.out.below hB
  refine hK.out _ _ ?_ (fun hHeld2 => ?_)
  · intro o
    exact hb1.cell (p := ⟨w.heap.size, o, none⟩) g0
  clear hK K hHeld hL
  have HB := hide hB
  have HL1 := hide hL1
  have HX := hide hx
  clear hB hL1 hx hb1
  refine wpAnyH_ready (rs := [6]) (by kernel_rfl) (by simp) ?_
  refine AllReadyH.cons rfl (fun K hK => ?_) AllReadyH.nil
  go_simp
  refine (give_bad HL1.out a x ha HX.out HG.out).mono ?_
  rintro e w2 ⟨rfl, rfl⟩
  have hxe := HXE.out
  subst hxe
  exact ⟨rfl, rfl, HL1.out.setR a _ ha, (Kp.of_below HB.out HL.out.lo).trans (Kp.set _ _ (Or.inl rfl))⟩

set_option maxRecDepth 100000 in
set_option maxHeartbeats 2000000 in
theorem do_made (h : Lo w b mb kb ob c s en) (hok : Ok c s) (op : Int) (a r k : Nat) (m : Int) (ha : a < 16) (hr : r < 16) (hk : k < 16) (m0 : -32768 ≤ m) (m1 : m ≤ 65535) (hp : 0 ≤ s.pc ∧ s.pc < c.n) (ho : Makes op m)
    (HF : Hid (madeFin c s op r k m = 0)) (HG : Hid (giveFin c a (madeVal s op a r k m) = 0)) :
    Calls Try.prog 26 #[.pointer (some ⟨b, 0, none⟩), .agg #[.int .i64 op, .int .i64 a, .int .i64 r, .int .i64 k, .int .i64 m]] w fun e w' => e = .returned (.int .i64 (s.pc + 1)) ∧ Lo w' b mb kb ob c { s with R := upd s.R a (madeVal s op a r k m) } en ∧ Kp b mb kb ob w w' := by
  have hb : b < w.heap.size := by have := h.lb; have := h.lo; omega
  have hne : b ≠ w.heap.size := by omega
  have hpc1 : s.pc ≤ 16000 := by have := hok.n0; have := hok.nM; omega
  have hpc0 : 0 ≤ s.pc := hp.1
  have e16 := h.c16
  obtain ⟨⟨oa, ob1⟩, o3⟩ := ho
  have c18 : (op == 18) = false := beq_eq_false_iff_ne.2 (by omega)
  have c19 : (op == 19) = false := beq_eq_false_iff_ne.2 (by omega)
  have c20 : (op == 20) = false := beq_eq_false_iff_ne.2 (by omega)
  have c21 : (op == 21) = false := beq_eq_false_iff_ne.2 (by omega)
  have c22 : (op == 22) = false := beq_eq_false_iff_ne.2 (by omega)
  have c23 : (op == 23) = false := beq_eq_false_iff_ne.2 (by omega)
  have c24 : (op == 24) = false := beq_eq_false_iff_ne.2 (by omega)
  have c25 : (op == 25) = false := beq_eq_false_iff_ne.2 (by omega)
  have HO : Hid (Makes op m) := ⟨⟨oa, ob1⟩, o3⟩
  have HL := hide h
  have HK := hide hok
  clear h hok oa ob1 o3
  go_enter Try.func26, Try.ntmps26
  go_wp2_with fail
  have g3 : ∀ o, (w.alloc (.cells #[.int .i64 op, .int .i64 a, .int .i64 r, .int .i64 k, .int .i64 m] 57)).cell? ⟨w.heap.size, o, none⟩ = (#[Value.int .i64 op, .int .i64 a, .int .i64 r, .int .i64 k, .int .i64 m])[o]? := fun o => World.cell?_alloc_at _ _ _ _ rfl
  have g0 : w.heap.size < (w.alloc (.cells #[.int .i64 op, .int .i64 a, .int .i64 r, .int .i64 k, .int .i64 m] 57)).heap.size := by simp
  have G4 : Hid (Below w.heap.size w (w.alloc (.cells #[.int .i64 op, .int .i64 a, .int .i64 r, .int .i64 k, .int .i64 m] 57))) := (Below.refl _ _).alloc (Nat.le_refl _) _
  generalize w.alloc (.cells #[.int .i64 op, .int .i64 a, .int .i64 r, .int .i64 k, .int .i64 m] 57) = W at *
  refine wp_region_held_drew (S := (fun w' => ∀ o, w'.cell? ⟨w.heap.size, o, none⟩ = W.cell? ⟨w.heap.size, o, none⟩)) (by kernel_rfl) (fun _ => rfl) (fun hHeld => ?_)
  refine wpAnyH_take (i := 0) (v := ?_) rfl (by kernel_rfl) (by kernel_rfl) (by kernel_rfl) (fun _ _ _ h => h) (Or.inl ⟨by rfl, ?_⟩) (by assumption) ?_
  rotate_left
  · (intro w hSw; (try dsimp only at hSw); go_simp) <;> with_reducible rfl
  (try simp only [Act.put, List.setIfInBounds_toArray, List.set_cons_zero, List.set_cons_succ])
  refine wpAnyH_take (i := 1) (v := ?_) rfl (by kernel_rfl) (by kernel_rfl) (by kernel_rfl) (fun _ _ _ h => h) (Or.inl ⟨by rfl, ?_⟩) (by assumption) ?_
  rotate_left
  · (intro w hSw; (try dsimp only at hSw); go_simp) <;> with_reducible rfl
  (try simp only [Act.put, List.setIfInBounds_toArray, List.set_cons_zero, List.set_cons_succ])
  refine wpAnyH_take (i := 2) (v := ?_) rfl (by kernel_rfl) (by kernel_rfl) (by kernel_rfl) (fun _ _ _ h => h) (Or.inl ⟨by rfl, ?_⟩) (by assumption) ?_
  rotate_left
  · (intro w hSw; (try dsimp only at hSw); go_simp) <;> with_reducible rfl
  (try simp only [Act.put, List.setIfInBounds_toArray, List.set_cons_zero, List.set_cons_succ])
  refine wpAnyH_take (i := 3) (v := ?_) rfl (by kernel_rfl) (by kernel_rfl) (by kernel_rfl) (fun _ _ _ h => h) (Or.inl ⟨by rfl, ?_⟩) (by assumption) ?_
  rotate_left
  · (intro w hSw; (try dsimp only at hSw); go_simp) <;> with_reducible rfl
  (try simp only [Act.put, List.setIfInBounds_toArray, List.set_cons_zero, List.set_cons_succ])
  refine wpAnyH_take (i := 4) (v := ?_) rfl (by kernel_rfl) (by kernel_rfl) (by kernel_rfl) (fun _ _ _ h => h) (Or.inl ⟨by rfl, ?_⟩) (by assumption) ?_
  rotate_left
  · (intro w hSw; (try dsimp only at hSw); go_simp) <;> with_reducible rfl
  (try simp only [Act.put, List.setIfInBounds_toArray, List.set_cons_zero, List.set_cons_succ])
  refine wpAnyH_ready (rs := [5]) (by kernel_rfl) (by simp) ?_
  refine AllReadyH.cons rfl (fun K hK => ?_) AllReadyH.nil
  go_simp
  have hL := HL.out.below (G4.out.drew)
  refine (made_ok hL HK.out op a r k m ha hr hk m0 m1 HO.out HF.out).mono ?_
  rintro e w1 ⟨rfl, hb1⟩
  have hB := (G4.out.drew).trans (hb1.mono (G4.out.drew).size)
  have hx := madeVal_fit HK.out op a r k m m0 m1
  generalize hxe : madeVal s op a r k m = x at *
  have HXE := hide hxe
  clear hxe
  have hL1 := HL.out.below hB
  refine hK.out _ _ ?_ (fun hHeld2 => ?_)
  · intro o
    exact hb1.cell (p := ⟨w.heap.size, o, none⟩) g0
  clear hK K hHeld hL
  have HB := hide hB
  have HL1 := hide hL1
  have HX := hide hx
  clear hB hL1 hx hb1
  refine wpAnyH_ready (rs := [6]) (by kernel_rfl) (by simp) ?_
  refine AllReadyH.cons rfl (fun K hK => ?_) AllReadyH.nil
  go_simp
  refine (give_fine HL1.out a x ha HX.out HG.out).mono ?_
  rintro e w2 ⟨rfl, rfl⟩
  refine hK.out _ _ ?_ (fun hHeld3 => ?_)
  · intro o
    rw [set_blk _ _ _ _ _ _ hne]
    exact hHeld2 o
  refine wpAnyH_done (by kernel_rfl) ?_ _
  clear hK K
  have hE : Hid (Lo (w1.setCell ⟨b, a, none⟩ (.int .i32 x)) b mb kb ob c { s with R := upd s.R a x } en ∧ Kp b mb kb ob w (w1.setCell ⟨b, a, none⟩ (.int .i32 x))) := ⟨HL1.out.setR a x ha, (Kp.of_below HB.out HL.out.lo).trans (Kp.set _ _ (Or.inl rfl))⟩
  generalize w1.setCell ⟨b, a, none⟩ (.int .i32 x) = w3 at *
  clear hHeld2 hHeld3
  go_wp2_with fail
  go_ret
  have hxe := HXE.out
  subst hxe
  exact ⟨rfl, hE.out⟩
end Go.Proofs.Ytofhiooodgopeaa.V
