/- The contracts of what the program's Get defers. -/
import Derived.Test.YtnjcknlfecednaaQl
import Derived.Test.YtnjcknlfecednaaQf
import Derived.Defers
import Derived.Recover
namespace Go.Proofs.Ytnjcknlfecednaa.T
open Go.RowKit Go.Proofs.Ytnjcknlfecednaa.M
set_option linter.unusedVariables false
set_option linter.unusedSimpArgs false
set_option maxRecDepth 100000 in
set_option maxHeartbeats 1000000 in
theorem catch_idle (q p : Nat) (w : World) :
    CallsD Try.prog 26 #[.pointer (some ⟨q, 0, none⟩), .pointer (some ⟨p, 0, none⟩)] .returning w fun e u' w' => e = .returned (.tuple #[]) ∧ u' = .returning ∧ w' = w := by
  refine callsD_of_wpS Try.func26 rfl fun c₀ cs hu => ?_
  apply wpS_seq
  apply wpS_region
  simp [wpOpsS, go_sem, recoverD, hu, Try.ntmps26, Exit.thenS]
  refine wpS_of_wp ?_
  change Code.wp _ _ _ ⟨#[.pointer (some ⟨q, 0, none⟩), .pointer (some ⟨p, 0, none⟩), .nilIface, .nilIface, undef, undef, undef, undef, undef], []⟩ _
  go_wp2
  cases c₀
  simp_all [bodyPostS, results, Try.results26]
set_option maxRecDepth 100000 in
set_option maxHeartbeats 2000000 in
theorem catch_up {n0 : Nat} {w0 w : World} {L : List Rs} (q p : Nat) (y0 y1 y2 y3 z : Value) (older : List PanicEntry) (h : Fr n0 w0 w (.blk q #[y0, y1, y2, y3] 27 :: .blk p #[z] 29 :: L)) :
    CallsD Try.prog 26 #[.pointer (some ⟨q, 0, none⟩), .pointer (some ⟨p, 0, none⟩)] (.panicking ({ v := .iface 29 (.int .i64 2), recovered := false } :: older)) w fun e u' w' =>
      e = .returned (.tuple #[]) ∧ u' = .panicking ({ v := .iface 29 (.int .i64 2), recovered := true } :: older) ∧ Fr n0 w0 w' (.blk q #[.slice none 0 0, .slice none 0 0, .slice none 0 0, .slice none 0 0] 27 :: .blk p #[.int .i64 2] 29 :: L) := by
  have hta : ∀ (w : World), (Instr.typeAssert (.iface 29 (.int .i64 2)) 20 29 false).run Try.prog w = .ok (.int .i64 2) w := fun _ => by kernel_rfl
  have hne : q ≠ p := fun e => pw_get (fun a b h => Rs.off_symm h) h.off (i := 0) (j := 1) rfl rfl (by decide) q rfl (by rw [e]; rfl)
  have c0 := h.cell 0 rfl
  have f0 := h.frz 0 rfl
  have c1 := h.cell 1 rfl
  have f1 := h.frz 1 rfl
  have HA := hide (((((h.set 0 rfl 0 (.slice none 0 0)).set 0 rfl 1 (.slice none 0 0)).set 0 rfl 2 (.slice none 0 0)).set 0 rfl 3 (.slice none 0 0)).set 1 rfl 0 (.int .i64 2))
  have HF := hide h
  clear h
  refine callsD_of_wpS Try.func26 rfl fun c₀ cs hu => ?_
  apply wpS_seq
  apply wpS_region
  simp [wpOpsS, go_sem, recoverD, hu, Try.ntmps26, Exit.thenS]
  refine wpS_of_wp ?_
  change Code.wp _ _ _ ⟨#[.pointer (some ⟨q, 0, none⟩), .pointer (some ⟨p, 0, none⟩), .iface 29 (.int .i64 2), .iface 29 (.int .i64 2), undef, undef, undef, undef, undef], []⟩ _
  go_wp2
  go_region
  all_goals
    go_wp2
    simp [bodyPostS, results, Try.results26]
    exact HA.out.drew
theorem leaves_ret {tmps : Array Value} {R : Ending → World → Prop} {w : World} {v : Value} (hr : (results Try.f10 tmps).run Try.prog w = .ok v w) (h : R (.returned v) w) : Leaves Try.prog Try.f10 tmps R [] .returning w := ⟨v, hr, h⟩
theorem rtH {fn : Func} {t u : Tmp} {q p : Nat} {c0 c1 c2 c3 c4 : Value} {tmps : Array Value} {w : World} (h : fn.results = #[.cell t 27, .cell u 29]) (ht : tmps.getD t undef = .pointer (some ⟨q, 0, none⟩)) (hu : tmps.getD u undef = .pointer (some ⟨p, 0, none⟩)) (hb : w.heap[q]? = some (.cells #[c0, c1, c2, c3] 27 (0, 0))) (hc : w.heap[p]? = some (.cells #[c4] 29 (0, 0))) : (results fn tmps).run Try.prog w = .ok (.tuple #[.agg #[c0, c1, c2, c3], c4]) w := by
  have ht' : tmps[t]?.getD undef = .pointer (some ⟨q, 0, none⟩) := by simpa using ht
  have hu' : tmps[u]?.getD undef = .pointer (some ⟨p, 0, none⟩) := by simpa using hu
  have hc1 := fr_cells hb
  have hl1 := (Array.getElem?_eq_some_iff.1 hb).1
  have hc2 := fr_cells hc
  have hl2 := (Array.getElem?_eq_some_iff.1 hc).1
  simp [results, h, asAddr, ht', hu', loadVar, go_sem, hc1, hl1, hc2, hl2]
theorem qSym_ok {t r : List UInt8} {s : Sy} (h : qSym t = some (s, r)) : N4 s.kind ∧ N4 s.pl ∧ N4 s.size ∧ N4 s.frame ∧ s.name.size ≤ 16 ∧ s.sign.size ≤ 2000 := by
  unfold qSym at h
  simp only [Option.bind_eq_some_iff, Option.map_eq_some_iff] at h
  obtain ⟨⟨a, t1⟩, h1, ⟨b, t2⟩, h2, ⟨c, t3⟩, h3, ⟨d, t4⟩, h4, ⟨e, t5⟩, h5, ⟨f, t6⟩, h6, ⟨g, t7⟩, h7, h8⟩ := h
  cases h8
  have a1 := (qTxt_sound h1).1
  have a6 := (qTxt_sound h6).1
  exact ⟨(qUp_sound h2).1, (qUp_sound h4).1, (qUp_sound h5).1, (qUp_sound h7).1, by simp only at a1 ⊢; omega, by simp only at a6 ⊢; omega⟩
theorem qRel_ok {t r : List UInt8} {s : Re} (h : qRel t = some (s, r)) : N4 s.pl ∧ N4 s.sym ∧ N4 s.add := by
  unfold qRel at h
  simp only [Option.bind_eq_some_iff, Option.map_eq_some_iff] at h
  obtain ⟨⟨a, t1⟩, h1, ⟨b, t2⟩, h2, ⟨c, t3⟩, h3, h4⟩ := h
  cases h4
  exact ⟨(qUp_sound h1).1, (qUp_sound h2).1, (qUp_sound h3).1⟩
theorem N4.in64 {x : Int} (h : N4 x) : In64 x := by unfold N4 at h; unfold In64; omega
/-- Rows that a reader has laid are an object. -/
theorem ob_rows {raw t1 t2 t3 t4 : List UInt8} {C D : List Int} {S : List Sy} {R : List Re} {w : World} {k1 k2 k3 k4 n1 n2 n3 n4 : Nat} {v1 v2 v3 v4 : Value} (h1 : qList qWord 6000 raw = some (C, t1)) (h2 : qList qData 16000 t1 = some (D, t2)) (h3 : qList qSym 400 t2 = some (S, t3)) (h4 : qList qRel 6000 t3 = some (R, t4))
    (r1 : w.ownsRow k1 41 1 v1 n1 (C.flatMap wC)) (r2 : w.ownsRow k2 21 1 v2 n2 (D.flatMap dC')) (r3 : w.ownsRow k3 44 7 v3 n3 (S.flatMap sC)) (r4 : w.ownsRow k4 47 3 v4 n4 (R.flatMap rC)) : ObV w ⟨C, D, S, R⟩ (.agg #[v1, v2, v3, v4]) := by
  obtain ⟨-, p1⟩ := qList_sound qWord four N4 (fun t x r e => ⟨(qWord_n4 e).2, (qWord_n4 e).1⟩) h1
  obtain ⟨-, p2⟩ := qList_sound qData (fun x => four (free x)) (fun x => -2147483648 ≤ x ∧ x ≤ 2147483647) (fun t x r e => qData_sound e) h2
  obtain ⟨-, p3⟩ := qList_sound qSym symP (fun s => N4 s.kind ∧ N4 s.pl ∧ N4 s.size ∧ N4 s.frame ∧ s.name.size ≤ 16 ∧ s.sign.size ≤ 2000) (fun t x r e => ⟨qSym_sound e, qSym_ok e⟩) h3
  obtain ⟨-, p4⟩ := qList_sound qRel relP (fun s => N4 s.pl ∧ N4 s.sym ∧ N4 s.add) (fun t x r e => ⟨qRel_sound e, qRel_ok e⟩) h4
  refine ⟨v1, v2, v3, v4, rfl, row_flat wC 41 1 (fun _ => rfl) (by decide) r1 (fun x hx => ⟨rfl, p1 x hx⟩), row_flat dC' 21 1 (fun _ => rfl) (by decide) r2 (fun x hx => ⟨rfl, p2 x hx⟩), row_flat sC 44 7 (fun _ => rfl) (by decide) r3 (fun x hx => ?_), row_flat rC 47 3 (fun _ => rfl) (by decide) r4 (fun x hx => ?_)⟩
  · obtain ⟨a1, a2, a3, a4, a5, a6⟩ := p3 x hx
    exact ⟨rfl, a1.in64, a2.in64, a3.in64, a4.in64, by unfold maxLen; omega, by unfold maxLen; omega⟩
  · obtain ⟨a1, a2, a3⟩ := p4 x hx
    exact ⟨rfl, a1.in64, a2.in64, a3.in64⟩
set_option maxRecDepth 100000 in
set_option maxHeartbeats 8000000 in
theorem pget_any (a : Option Addr) (n c : Nat) (raw : List UInt8) (w : World) (hraw : Bys w (.slice a n c) raw) : Calls Try.prog 10 #[.slice a n c] w (PGet w raw) := by
  have hmf : ∀ (fn : Fn) (first cap : Array Value) (w : World), (Instr.makeFunc fn first cap).run Try.prog w = .ok (.func fn first cap) w := fun _ _ _ _ => rfl
  obtain ⟨hn, -⟩ := hraw.at
  subst hn
  have HQ := hide (qObj_eq raw)
  have HG : Hid (Rg w ((((w.alloc (.cells #[.slice none 0 0, .slice none 0 0, .slice none 0 0, .slice none 0 0] 27)).alloc (.cells #[.int .i64 0] 29)).alloc (.cells #[.slice a raw.length c] 61)).alloc (.cells #[.pointer (some ⟨w.heap.size + 1 + 1, 0, none⟩)] 59)) (w.heap.size + 1 + 1) raw [.blk (w.heap.size + 1 + 1 + 1) #[.pointer (some ⟨w.heap.size + 1 + 1, 0, none⟩)] 59, .blk w.heap.size #[.slice none 0 0, .slice none 0 0, .slice none 0 0, .slice none 0 0] 27, .blk (w.heap.size + 1) #[.int .i64 0] 29]) := by
    refine ⟨a, c, ?_, hraw⟩
    refine (((((Fr.start w).alloc (q := w.heap.size) rfl #[.slice none 0 0, .slice none 0 0, .slice none 0 0, .slice none 0 0] 27).alloc (q := w.heap.size + 1) (by simp) #[.int .i64 0] 29).alloc (q := w.heap.size + 1 + 1) (by simp) #[.slice a raw.length c] 61).alloc (q := w.heap.size + 1 + 1 + 1) (by simp) #[.pointer (some ⟨w.heap.size + 1 + 1, 0, none⟩)] 59).perm ?_
    exact (List.Perm.swap _ _ _).trans (((List.Perm.swap _ _ _).cons _).cons _)
  clear hraw
  go_enter_defers Try.func10, Try.ntmps10
  go_wp2_with fail
  generalize hbq : w.heap.size = qo at *
  have HBQ : Hid (w.heap.size = qo) := hbq
  clear hbq
  generalize qo + 1 + 1 + 1 = q4 at *
  generalize qo + 1 + 1 = bb at *
  generalize qo + 1 = qe at *
  go_at_call 27
  refine (lword_any 6000 (by omega) (by omega) HG.out).mono ?_
  intro e w1 hpl
  rcases hpl with ⟨C, t1, v1, h1, rfl, hg⟩ | ⟨h1, rfl, hf⟩
  rotate_left
  · refine leaves_cons (f := 26) (args := #[.pointer (some ⟨qo, 0, none⟩), .pointer (some ⟨qe, 0, none⟩)]) (by simp) (by simp [go_sem]) ?_
    refine (catch_up qo qe _ _ _ _ _ [] hf.tail).mono ?_
    rintro e u' w9 ⟨rfl, rfl, hf9⟩
    refine leaves_ret (rtH Try.results10 rfl rfl (hf9.get (i := 0) rfl).2 (hf9.get (i := 1) rfl).2) ?_
    exact PGet.no (by rw [← HQ.out]; simp [qObj, qAll, h1]) hf9.below
  obtain ⟨a1, c1, rfl⟩ := row_form (hg.fr.get (i := 0) rfl)
  clear HG
  have HG0 := hide hg
  clear hg
  (try clear y0 z0)
  have x0 := HG0.out.cell 2 rfl
  have f0 := HG0.out.frz 2 rfl
  have z0 := HG0.out.cell 1 rfl
  have HG := hide (HG0.out.set 2 rfl 0 (.slice a1 C.length c1))
  clear HG0
  have y0 := HG.out.cell 1 rfl
  go_wp2_with fail
  go_at_call 29
  refine (ldata_any 16000 (by omega) (by omega) (j := 1) rfl HG.out).mono ?_
  intro e w2 hpl
  rcases hpl with ⟨D, t2, v2, h2, rfl, hg⟩ | ⟨h2, rfl, hf⟩
  rotate_left
  · refine leaves_cons (f := 26) (args := #[.pointer (some ⟨qo, 0, none⟩), .pointer (some ⟨qe, 0, none⟩)]) (by simp) (by simp [go_sem]) ?_
    refine (catch_up qo qe _ _ _ _ _ [] hf.tail.tail).mono ?_
    rintro e u' w9 ⟨rfl, rfl, hf9⟩
    refine leaves_ret (rtH Try.results10 rfl rfl (hf9.get (i := 0) rfl).2 (hf9.get (i := 1) rfl).2) ?_
    exact PGet.no (by rw [← HQ.out]; simp [qObj, qAll, h1, h2]) hf9.below
  obtain ⟨a2, c2, rfl⟩ := row_form (hg.fr.get (i := 0) rfl)
  clear HG
  have HG0 := hide hg
  clear hg
  (try clear y0 z0)
  have x0 := HG0.out.cell 3 rfl
  have f0 := HG0.out.frz 3 rfl
  have z0 := HG0.out.cell 2 rfl
  have HG := hide (HG0.out.set 3 rfl 1 (.slice a2 D.length c2))
  clear HG0
  have y0 := HG.out.cell 2 rfl
  go_wp2_with fail
  go_at_call 31
  refine (lsym_any 400 (by omega) (by omega) HG.out).mono ?_
  intro e w3 hpl
  rcases hpl with ⟨S, t3, v3, h3, rfl, hg⟩ | ⟨h3, rfl, hf⟩
  rotate_left
  · refine leaves_cons (f := 26) (args := #[.pointer (some ⟨qo, 0, none⟩), .pointer (some ⟨qe, 0, none⟩)]) (by simp) (by simp [go_sem]) ?_
    refine (catch_up qo qe _ _ _ _ _ [] hf.tail.tail.tail).mono ?_
    rintro e u' w9 ⟨rfl, rfl, hf9⟩
    refine leaves_ret (rtH Try.results10 rfl rfl (hf9.get (i := 0) rfl).2 (hf9.get (i := 1) rfl).2) ?_
    exact PGet.no (by rw [← HQ.out]; simp [qObj, qAll, h1, h2, h3]) hf9.below
  obtain ⟨a3, c3, rfl⟩ := row_form (hg.fr.get (i := 0) rfl)
  clear HG
  have HG0 := hide hg
  clear hg
  (try clear y0 z0)
  have x0 := HG0.out.cell 4 rfl
  have f0 := HG0.out.frz 4 rfl
  have z0 := HG0.out.cell 3 rfl
  have HG := hide (HG0.out.set 4 rfl 2 (.slice a3 S.length c3))
  clear HG0
  have y0 := HG.out.cell 3 rfl
  go_wp2_with fail
  go_at_call 33
  refine (lrel_any 6000 (by omega) (by omega) HG.out).mono ?_
  intro e w4 hpl
  rcases hpl with ⟨R, t4, v4, h4, rfl, hg⟩ | ⟨h4, rfl, hf⟩
  rotate_left
  · refine leaves_cons (f := 26) (args := #[.pointer (some ⟨qo, 0, none⟩), .pointer (some ⟨qe, 0, none⟩)]) (by simp) (by simp [go_sem]) ?_
    refine (catch_up qo qe _ _ _ _ _ [] hf.tail.tail.tail.tail).mono ?_
    rintro e u' w9 ⟨rfl, rfl, hf9⟩
    refine leaves_ret (rtH Try.results10 rfl rfl (hf9.get (i := 0) rfl).2 (hf9.get (i := 1) rfl).2) ?_
    exact PGet.no (by rw [← HQ.out]; simp [qObj, qAll, h1, h2, h3, h4]) hf9.below
  obtain ⟨a4, c4, rfl⟩ := row_form (hg.fr.get (i := 0) rfl)
  clear HG
  have HG0 := hide hg
  clear hg
  (try clear y0 z0)
  have x0 := HG0.out.cell 5 rfl
  have f0 := HG0.out.frz 5 rfl
  have z0 := HG0.out.cell 4 rfl
  have HG := hide (HG0.out.set 5 rfl 3 (.slice a4 R.length c4))
  clear HG0
  have y0 := HG.out.cell 4 rfl
  obtain ⟨fa, fc, hfr, hby⟩ := HG.out
  have HFR := hide hfr
  have b0 := HFR.out.cell 0 rfl
  clear hfr hby
  by_cases hz : t4.length = 0
  rotate_left
  · have hz' : ¬ (t4.length : Int) = 0 := by omega
    have hz2 : ¬ t4 = [] := fun h => hz (by rw [h]; rfl)
    have hf := HG.out.fr
    have hz3 : ((t4.length : Int) == 0) = false := by simpa using hz'
    generalize t4.length = n4 at *
    go_wp2_with fail
    go_at_call 35
    refine (insist_no _).mono ?_
    rintro e w9 ⟨rfl, rfl⟩
    refine leaves_cons (f := 26) (args := #[.pointer (some ⟨qo, 0, none⟩), .pointer (some ⟨qe, 0, none⟩)]) (by simp) (by simp [go_sem]) ?_
    refine (catch_up qo qe _ _ _ _ _ [] hf.tail.tail.tail.tail.tail).mono ?_
    rintro e u' w9 ⟨rfl, rfl, hf9⟩
    refine leaves_ret (rtH Try.results10 rfl rfl (hf9.get (i := 0) rfl).2 (hf9.get (i := 1) rfl).2) ?_
    exact PGet.no (by rw [← HQ.out]; simp [qObj, qAll, h1, h2, h3, h4, hz2]) hf9.below
  have hz2 : t4 = [] := List.eq_nil_of_length_eq_zero hz
  have e4 := HG.out.cell 5 rfl
  have HOb := hide (ob_rows h1 h2 h3 h4 (HG.out.fr.get (i := 3) rfl) (HG.out.fr.get (i := 2) rfl) (HG.out.fr.get (i := 1) rfl) (HG.out.fr.get (i := 0) rfl))
  have HM := hide (pmay_any _ _ _ HOb.out)
  have HQ2 : Hid (getO raw = if mayO ⟨C, D, S, R⟩ = true then some ⟨C, D, S, R⟩ else none) := by
    show _ = _
    rw [← HQ.out]
    simp [qObj, qAll, h1, h2, h3, h4, hz2]
  clear HQ hz2
  have H1 := hide h1
  have H2 := hide h2
  have H3 := hide h3
  have H4 := hide h4
  clear h1 h2 h3 h4 HOb
  rw [hz] at b0
  generalize hO : (⟨C, D, S, R⟩ : Ob) = O at *
  have HO := hide hO
  clear hO
  cases hm : mayO O with
  | false =>
    rw [hm] at HM HQ2
    go_wp2_with fail
    go_at_call 35
    refine (insist_yes _).mono ?_
    rintro e w8 ⟨rfl, rfl⟩
    go_wp2_with fail
    go_at_call 8
    refine HM.out.mono ?_
    rintro e w8 ⟨rfl, hb⟩
    have hf := (HG.out.call hb).fr
    clear hb
    go_wp2_with fail
    go_at_call 35
    refine (insist_no _).mono ?_
    rintro e w9 ⟨rfl, rfl⟩
    refine leaves_cons (f := 26) (args := #[.pointer (some ⟨qo, 0, none⟩), .pointer (some ⟨qe, 0, none⟩)]) (by simp) (by simp [go_sem]) ?_
    refine (catch_up qo qe _ _ _ _ _ [] hf.tail.tail.tail.tail.tail).mono ?_
    rintro e u' w9 ⟨rfl, rfl, hf9⟩
    refine leaves_ret (rtH Try.results10 rfl rfl (hf9.get (i := 0) rfl).2 (hf9.get (i := 1) rfl).2) ?_
    exact PGet.no (by rw [HQ2.out]; simp) hf9.below
  | true =>
    rw [hm] at HM HQ2
    go_wp2_with fail
    go_at_call 35
    refine (insist_yes _).mono ?_
    rintro e w8 ⟨rfl, rfl⟩
    go_wp2_with fail
    go_at_call 8
    refine HM.out.mono ?_
    rintro e w8 ⟨rfl, hb⟩
    have HGb := hide (HG.out.call hb)
    clear hb HG
    go_wp2_with fail
    go_at_call 35
    refine (insist_yes _).mono ?_
    rintro e w9 ⟨rfl, rfl⟩
    clear x0 f0 z0 y0 b0 e4
    have x0 := HGb.out.cell 5 rfl
    have f0 := HGb.out.frz 5 rfl
    have x1 := HGb.out.cell 6 rfl
    have f1 := HGb.out.frz 6 rfl
    have HE4 := hide ((((HGb.out.set 5 rfl 0 (.slice a1 C.length c1)).set 5 rfl 1 (.slice a2 D.length c2)).set 5 rfl 2 (.slice a3 S.length c3)).set 5 rfl 3 (.slice a4 R.length c4))
    have x4 := HE4.out.cell 6 rfl
    have f4 := HE4.out.frz 6 rfl
    have HE := hide (HE4.out.set 6 rfl 0 (.int .i64 0))
    go_wp2_with fail
    refine leaves_cons (f := 26) (args := #[.pointer (some ⟨qo, 0, none⟩), .pointer (some ⟨qe, 0, none⟩)]) (by simp) (by simp [go_sem]) ?_
    refine (catch_idle qo qe _).mono ?_
    rintro e u' w9 ⟨rfl, rfl, rfl⟩
    refine leaves_ret (rtH Try.results10 rfl rfl (HE.out.fr.get (i := 5) rfl).2 (HE.out.fr.get (i := 6) rfl).2) ?_
    refine PGet.yes (o := O) (by rw [HQ2.out]; simp) HE.out.fr.below ?_
    rw [← HO.out]
    exact ob_rows H1.out H2.out H3.out H4.out (HE.out.fr.get (i := 3) rfl) (HE.out.fr.get (i := 2) rfl) (HE.out.fr.get (i := 1) rfl) (HE.out.fr.get (i := 0) rfl)
end Go.Proofs.Ytnjcknlfecednaa.T
