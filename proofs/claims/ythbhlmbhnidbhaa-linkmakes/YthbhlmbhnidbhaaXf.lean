/- The contracts of the linker's address. -/
import Derived.Test.YthbhlmbhnidbhaaXd
import Derived.Test.YthbhlmbhnidbhaaGp
import Derived.Deep.RegionWith
namespace Go.Proofs.Ythbhlmbhnidbhaa.T
open Go.RowKit Go.Proofs.Ythbhlmbhnidbhaa.M
set_option linter.unusedVariables false
set_option linter.unusedSimpArgs false
theorem stL_get {l : List Ob} {u : Nat} (hu : u < l.length) : (stL l)[u]? = some (stB l u) := by
  unfold stL
  simp [hu]
theorem homeQ_of {l : List Ob} {s : ByteArray} {v k : Nat} (h : homeO l s = ((v : Int), (k : Int))) : homeQ l s = some (v, k) := by
  rw [homeQ_home] at h
  cases e : homeQ l s with
  | none => rw [e] at h; simp at h
  | some p =>
    rw [e] at h
    simp at h
    obtain ⟨p0, p1⟩ := p
    simp only at h
    have h1 : p0 = v := by omega
    have h2 : p1 = k := by omega
    rw [h1, h2]
theorem LS.starts {n0 : Nat} {W w : World} {b mb : Nat} {a : Option Addr} {n c : Nat} {mem : Int} {CO DA : List Int} {ST : List (Int × Int)} {RG : List Rg} {k : Nat} {f : ByteArray → Option (Nat × Nat)} {L : List Rs} (h : LS n0 W w b mb a n c mem CO DA ST RG k f L) : ∃ sa sc, w.cell? ⟨b, 5, none⟩ = some (.slice sa ST.length sc) ∧ ∀ u p, ST[u]? = some p → ∃ g oo, sa = some ⟨g, oo, none⟩ ∧ w.cell? ⟨g, oo + u * 2, none⟩ = some (.int .i64 p.1) ∧ w.cell? ⟨g, oo + u * 2 + 1, none⟩ = some (.int .i64 p.2) := by
  obtain ⟨ca, cc, da, dc, sa, sc, ra, rc, h⟩ := h
  refine ⟨sa, sc, h.cell 0 rfl 5, fun u p hp => ?_⟩
  have hr := row_flat (P := fun _ x cs => cs = stV x) stV 85 2 (fun _ => rfl) (by decide) (h.get (i := 3) rfl) (fun x hx => rfl)
  obtain ⟨hu, rfl⟩ := List.getElem?_eq_some_iff.1 hp
  obtain ⟨a', c', e, -, -, H⟩ := hr
  cases e
  obtain ⟨g, oo, e, -, E⟩ := H (Nat.lt_of_le_of_lt (Nat.zero_le _) hu)
  obtain ⟨cs, rfl, q⟩ := E u hu
  exact ⟨g, oo, e, q 0 _ rfl, q 1 _ rfl⟩
set_option maxRecDepth 100000 in
set_option maxHeartbeats 4000000 in
theorem padr_own {W w : World} {b mb : Nat} {a : Option Addr} {n c : Nat} {mem : Int} {CO DA : List Int} {RG : List Rg} {k : Nat} {L : List Rs} (l : List Ob) (hO : Obs W (.slice a n c) l) (hK : Oks l) (h : LS W.heap.size W w b mb a n c mem CO DA (stL l) RG k (homeQ l) L) (u i : Nat) (hu : u < l.length) (hi : i < l[u].syms.length) (hown : ownB l[u].syms[i] = true) :
    Calls Try.prog 34 #[.pointer (some ⟨b, 0, none⟩), .agg #[.int .i64 u, .int .i64 i]] w fun e w' => e = .returned (.int .i64 (adrS l u l[u].syms[i])) ∧ Below w.heap.size w w' := by
  have HB := hide ((Fr.start w).alloc (q := w.heap.size) rfl #[.int .i64 u, .int .i64 i] 75)
  have HL := hide (h.alloc #[.int .i64 u, .int .i64 i] 75)
  have HSk := hide (psym_any l hO HL.out u i hu hi)
  have h4 := hK.1
  have hS1 := hK.sums u (by omega)
  have hS2 := hK.sums l.length (Nat.le_refl _)
  have hN4 := (mayO_n4 (hK.2 _ (List.getElem_mem hu)) i hi).2.1
  have HSt := hide (stL_get hu)
  have hidx : (0 : Int) ≤ u ∧ (u : Int) < l.length := by omega
  have HAdr : Hid (adrS l u l[u].syms[i] = if l[u].syms[i].kind = 1 then 2 + cS l u + l[u].syms[i].pl else 2 + cS l l.length + dS l u + l[u].syms[i].pl) := rfl
  rw [HAdr.out]
  clear h hO hK HAdr
  generalize l[u].syms[i] = S at *
  obtain ⟨nm, kd, st, pl, sz, sg, fr⟩ := S
  unfold syV at HSk
  simp only at HSk hN4 hown ⊢
  unfold ownB at hown
  simp only at hown
  unfold stB at HSt
  unfold N4 at hN4
  obtain ⟨p0, p1⟩ := hN4
  obtain ⟨y1, y2⟩ := hS1
  obtain ⟨y3, y4⟩ := hS2
  have q0 := HL.out.cell 0 rfl
  generalize hC1 : cS l u = C1 at *
  generalize hD1 : dS l u = D1 at *
  generalize hC2 : cS l l.length = C2 at *
  clear hC1 hD1 hC2
  by_cases hk : kd = 1
  · subst hk
    rw [if_pos rfl]
    have hw : IntKind.i64.wrap (2 + (C1 : Int) + pl) = 2 + (C1 : Int) + pl := by rw [IntKind.wrap_i64]; omega
    go_enter Try.func34, Try.ntmps34
    go_wp2_with fail
    clear q0
    go_at_call 30
    refine HSk.out.mono ?_
    rintro e w1 ⟨rfl, hb⟩
    replace HB := hide ((HB.out.call hb).alloc (q := w1.heap.size) rfl #[.string nm, .int .i64 1, .bool st, .int .i64 pl, .int .i64 sz, .string sg, .int .i64 fr] 59)
    replace HL := hide ((HL.out.call hb).alloc #[.string nm, .int .i64 1, .bool st, .int .i64 pl, .int .i64 sz, .string sg, .int .i64 fr] 59)
    clear hb HSk
    obtain ⟨sa, sc, c5, HS⟩ := HL.out.starts
    rw [stL_len] at c5
    obtain ⟨g, oo, rfl, s0, s1⟩ := HS u _ HSt.out
    simp only at s0 s1
    have q0 := HL.out.cell 0 rfl
    have q1 := HL.out.cell 1 rfl
    clear HS HSt HL
    go_wp2_with fail
    go_quiet (fail)
    generalize nq = qn
    go_wp2_with fail
    go_ret
    exact ⟨rfl, (HB.out.drewN qn).below⟩
  · have hk' : (kd == 1) = false := by simpa using hk
    obtain rfl : kd = 2 := by simpa [hk] using hown
    rw [if_neg hk]
    have hw : IntKind.i64.wrap (2 + (C2 : Int) + D1 + pl) = 2 + (C2 : Int) + D1 + pl := by rw [IntKind.wrap_i64]; omega
    go_enter Try.func34, Try.ntmps34
    go_wp2_with fail
    clear q0
    go_at_call 30
    refine HSk.out.mono ?_
    rintro e w1 ⟨rfl, hb⟩
    replace HB := hide ((HB.out.call hb).alloc (q := w1.heap.size) rfl #[.string nm, .int .i64 2, .bool st, .int .i64 pl, .int .i64 sz, .string sg, .int .i64 fr] 59)
    replace HL := hide ((HL.out.call hb).alloc #[.string nm, .int .i64 2, .bool st, .int .i64 pl, .int .i64 sz, .string sg, .int .i64 fr] 59)
    clear hb HSk
    obtain ⟨sa, sc, c5, HS⟩ := HL.out.starts
    rw [stL_len] at c5
    obtain ⟨g, oo, rfl, s0, s1⟩ := HS u _ HSt.out
    simp only at s0 s1
    have q0 := HL.out.cell 0 rfl
    have q1 := HL.out.cell 1 rfl
    clear HS HSt HL
    go_wp2_with fail
    go_quiet (fail)
    generalize nq = qn
    go_wp2_with fail
    go_ret
    exact ⟨rfl, (HB.out.drewN qn).below⟩
set_option maxRecDepth 100000 in
set_option maxHeartbeats 4000000 in
theorem padr_out {W w : World} {b mb : Nat} {a : Option Addr} {n c : Nat} {mem : Int} {CO DA : List Int} {RG : List Rg} {k : Nat} {L : List Rs} (l : List Ob) (hO : Obs W (.slice a n c) l) (hK : Oks l) (h : LS W.heap.size W w b mb a n c mem CO DA (stL l) RG k (homeQ l) L) (u i v kk : Nat) (hu : u < l.length) (hi : i < l[u].syms.length) (hown : ownB l[u].syms[i] = false) (hq : homeQ l l[u].syms[i].name = some (v, kk)) (hv : v < l.length) (hkk : kk < l[v].syms.length) (ho2 : ownB l[v].syms[kk] = true) :
    Calls Try.prog 34 #[.pointer (some ⟨b, 0, none⟩), .agg #[.int .i64 u, .int .i64 i]] w fun e w' => e = .returned (.int .i64 (adrS l v l[v].syms[kk])) ∧ Below w.heap.size w w' := by
  have HB := hide ((Fr.start w).alloc (q := w.heap.size) rfl #[.int .i64 u, .int .i64 i] 75)
  have HL := hide (h.alloc #[.int .i64 u, .int .i64 i] 75)
  have HSk := hide (psym_any l hO HL.out u i hu hi)
  have HAd := hide (fun w' L' (h' : LS W.heap.size W w' b mb a n c mem CO DA (stL l) RG k (homeQ l) L') => padr_own l hO hK h' v kk hv hkk ho2)
  have hn4 := (mayO_n4 (hK.2 _ (List.getElem_mem hu)) i hi).2.2.2.2.1
  have HQ := hide hq
  clear h hO hK hq
  generalize adrS l v l[v].syms[kk] = AD at *
  generalize l[u].syms[i] = S at *
  obtain ⟨nm, kd, st, pl, sz, sg, fr⟩ := S
  unfold syV at HSk
  simp only at HSk hn4 hown HQ
  unfold ownB at hown
  simp only [Bool.or_eq_false_iff, decide_eq_false_iff_not] at hown
  obtain ⟨hk1, hk2⟩ := hown
  have hk1' : (kd == 1) = false := by simpa using hk1
  have hk2' : (kd == 2) = false := by simpa using hk2
  have q0 := HL.out.cell 0 rfl
  go_enter Try.func34, Try.ntmps34
  go_wp2_with fail
  clear q0
  go_at_call 30
  refine HSk.out.mono ?_
  rintro e w1 ⟨rfl, hb⟩
  replace HB := hide ((HB.out.call hb).alloc (q := w1.heap.size) rfl #[.string nm, .int .i64 kd, .bool st, .int .i64 pl, .int .i64 sz, .string sg, .int .i64 fr] 59)
  replace HL := hide ((HL.out.call hb).alloc #[.string nm, .int .i64 kd, .bool st, .int .i64 pl, .int .i64 sz, .string sg, .int .i64 fr] 59)
  clear hb HSk
  have hlk := HL.out.drew.look1 nm (by unfold maxLen; omega)
  rw [HQ.out] at hlk
  simp only [plV] at hlk
  obtain ⟨c3, c4⟩ := HL.out.look
  have q0 := HL.out.cell 0 rfl
  clear HQ
  go_wp2_with fail
  go_region_with (go_at_call 34; refine (HAd.out _ _ HL.out.drew).mono ?_; rintro e w2 ⟨rfl, hb2⟩; have HB2 := hide (HB.out.drew.call hb2); clear hb2)
  all_goals
    go_wp2_with fail
    go_ret
    exact ⟨rfl, HB2.out.below⟩
theorem padr_any {W w : World} {b mb : Nat} {a : Option Addr} {n c : Nat} {mem : Int} {CO DA : List Int} {RG : List Rg} {k : Nat} {L : List Rs} (l : List Ob) (hO : Obs W (.slice a n c) l) (hF : Fine l) (h : LS W.heap.size W w b mb a n c mem CO DA (stL l) RG k (homeQ l) L) (u i : Nat) (hu : u < l.length) (hi : i < l[u].syms.length) :
    Calls Try.prog 34 #[.pointer (some ⟨b, 0, none⟩), .agg #[.int .i64 u, .int .i64 i]] w fun e w' => e = .returned (.int .i64 (adrA l u l[u].syms[i])) ∧ Below w.heap.size w w' := by
  by_cases ho : ownB l[u].syms[i] = true
  · rw [show adrA l u l[u].syms[i] = adrS l u l[u].syms[i] by unfold adrA; rw [if_pos ho]]
    exact padr_own l hO hF.oks h u i hu hi ho
  · have ho' : ownB l[u].syms[i] = false := by simpa using ho
    obtain ⟨v, kk, hvl, hk, e, hw⟩ := hF.out u hu i hi ho'
    rw [show adrA l u l[u].syms[i] = adrS l v l[v].syms[kk] by unfold adrA; rw [if_neg ho, e, symO_at hvl hk]; rfl]
    exact padr_out l hO hF.oks h u i v kk hu hi ho' (homeQ_of e) hvl hk hw
end Go.Proofs.Ythbhlmbhnidbhaa.T
