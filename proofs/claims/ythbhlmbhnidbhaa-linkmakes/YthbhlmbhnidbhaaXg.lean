/- The contract of the linker's begin. -/
import Derived.Test.YthbhlmbhnidbhaaXd
namespace Go.Proofs.Ythbhlmbhnidbhaa.T
open Go.RowKit Go.Proofs.Ythbhlmbhnidbhaa.M
set_option linter.unusedVariables false
set_option linter.unusedSimpArgs false
theorem LS.allocQ {n0 : Nat} {W w : World} {b mb : Nat} {a : Option Addr} {n c : Nat} {mem : Int} {CO DA : List Int} {ST : List (Int × Int)} {RG : List Rg} {k : Nat} {f : ByteArray → Option (Nat × Nat)} {L : List Rs} (h : LS n0 W w b mb a n c mem CO DA ST RG k f L) {q : Nat} (hq : w.heap.size = q) (cs : Array Value) (T : TypeId) : LS n0 W (w.alloc (.cells cs T)) b mb a n c mem CO DA ST RG k f (.blk q cs T :: L) := hq ▸ h.alloc cs T
theorem fld1 (nm : ByteArray) (kd : Int) (st : Bool) (pl sz : Int) (sg : ByteArray) (fr : Int) (w : World) : (Instr.field 59 (.agg #[.string nm, .int .i64 kd, .bool st, .int .i64 pl, .int .i64 sz, .string sg, .int .i64 fr]) 1).run Try.prog w = .ok (.int .i64 kd) w := by kernel_rfl
theorem fld5 (nm : ByteArray) (kd : Int) (st : Bool) (pl sz : Int) (sg : ByteArray) (fr : Int) (w : World) : (Instr.field 59 (.agg #[.string nm, .int .i64 kd, .bool st, .int .i64 pl, .int .i64 sz, .string sg, .int .i64 fr]) 5).run Try.prog w = .ok (.string sg) w := by kernel_rfl
def begT (l : List Ob) : Int × Int × Int := (0, mainC l, 0)
set_option maxRecDepth 100000 in
set_option maxHeartbeats 4000000 in
theorem begin_any {W w : World} {b mb : Nat} {a : Option Addr} {n c : Nat} {mem : Int} {CO DA : List Int} {ST : List (Int × Int)} {RG : List Rg} {k : Nat} {L : List Rs} (l : List Ob) (hO : Obs W (.slice a n c) l) (h : LS W.heap.size W w b mb a n c mem CO DA ST RG k (homeQ l) L) : Calls Try.prog 19 #[.pointer (some ⟨b, 0, none⟩)] w fun e w' => e = .returned (trV (begT l)) ∧ LS W.heap.size W w' b mb a n c mem CO DA ST RG k (homeQ l) L := by
  have HSy := hide (fun w' L' (h' : LS W.heap.size W w' b mb a n c mem CO DA ST RG k (homeQ l) L') (u i : Nat) (hu : u < l.length) (hi : i < l[u].syms.length) => psym_any l hO h' u i hu hi)
  have HL := hide (h.alloc #[.int .i64 0, .int .i64 0, .int .i64 0] 30)
  have hlk := HL.out.look2 mainN (by unfold mainN maxLen; decide)
  obtain ⟨c3, c4⟩ := HL.out.look
  clear hO
  unfold begT
  cases hq : homeQ l mainN with
  | none =>
    rw [mainC_none hq]
    rw [hq] at hlk
    simp only [plV, Option.isSome_none] at hlk
    unfold mainN at hlk
    have HG := hide ((h.alloc #[.int .i64 0, .int .i64 4, .int .i64 0] 30).alloc #[.int .i64 0, .int .i64 0] 75)
    clear h
    go_enter Try.func19, Try.ntmps19
    go_wp2_with fail
    refine bodyPost_ret (rtT Try.results19 rfl (HG.out.fr.get (i := 1) rfl).2 rfl) rfl ?_
    exact ⟨rfl, HG.out.tail.tail⟩
  | some p =>
    clear h
    obtain ⟨v, kk⟩ := p
    obtain ⟨hv, hkk, -, -⟩ := homeQ_some hq
    have HMC := hide (mainC_some hq hv hkk)
    rw [hq] at hlk
    simp only [plV, Option.isSome_some] at hlk
    unfold mainN at hlk
    have HL2 := hide (HL.out.allocQ (q := w.heap.size + 1) (by simp) #[.int .i64 v, .int .i64 kk] 75)
    have q0 := HL2.out.cell 0 rfl
    have HSk := hide (fun w' L' h' => HSy.out w' L' h' v kk hv hkk)
    clear HSy hq
    generalize l[v].syms[kk] = S2 at *
    obtain ⟨nm, kd, st, pl, sz, sg, fr⟩ := S2
    unfold syV at HSk
    simp only at HSk HMC
    have hf1 := fld1 nm kd st pl sz sg fr
    have hf5 := fld5 nm kd st pl sz sg fr
    generalize mainC l = MC at *
    go_enter Try.func19, Try.ntmps19
    go_wp2_with fail
    clear hlk c3 c4
    go_at_call 30
    refine (HSk.out _ _ HL2.out).mono ?_
    rintro e w1 ⟨rfl, hb⟩
    have HL3 := hide (HL2.out.call hb)
    clear hb q0
    have q0 := HL3.out.cell 0 rfl
    have q1 := HL3.out.cell 1 rfl
    have f1 := HL3.out.frz 1 rfl
    generalize w.heap.size + 1 = bp at *
    generalize w.heap.size = bq at *
    by_cases hkd : kd = 1
    · subst hkd
      go_wp2_with fail
      go_at_call 30
      refine (HSk.out _ _ HL3.out).mono ?_
      rintro e w2 ⟨rfl, hb⟩
      have HL4 := hide (HL3.out.call hb)
      clear hb q0 q1 f1
      have q1 := HL4.out.cell 1 rfl
      have f1 := HL4.out.frz 1 rfl
      by_cases hsg : sg = mainS
      · obtain rfl : MC = 0 := HMC.out.trans (by simp [hsg])
        subst hsg
        unfold mainS at hf5
        have HG := hide (HL4.out.tr 1 rfl 0 0 0)
        clear HMC
        unfold mainS
        go_wp2_with fail
        refine bodyPost_ret (rtT Try.results19 rfl (HG.out.fr.get (i := 1) rfl).2 rfl) rfl ?_
        exact ⟨rfl, HG.out.tail.tail⟩
      · obtain rfl : MC = 3 := HMC.out.trans (by simp [hsg])
        have hsg' : (sg.toList == mainS.toList) = false := by rw [str_eq]; simpa using hsg
        unfold mainS at hsg'
        have hsg3 : (⟨#[102, 110, 40, 41, 105, 110, 116]⟩ : ByteArray).toList = [102, 110, 40, 41, 105, 110, 116] := by rw [ByteArray.toList_eq]
        have hsg2 : (sg.toList == [102, 110, 40, 41, 105, 110, 116]) = false := by rw [← hsg3]; exact hsg'
        have HG := hide (HL4.out.tr 1 rfl 0 3 0)
        clear HMC
        go_wp2_with fail
        refine bodyPost_ret (rtT Try.results19 rfl (HG.out.fr.get (i := 1) rfl).2 rfl) rfl ?_
        exact ⟨rfl, HG.out.tail.tail⟩
    · have hkd' : (kd != 1) = true := by simpa using hkd
      obtain rfl : MC = 4 := HMC.out.trans (by simp [hkd])
      have HG := hide (HL3.out.tr 1 rfl 0 4 0)
      clear HMC
      go_wp2_with fail
      refine bodyPost_ret (rtT Try.results19 rfl (HG.out.fr.get (i := 1) rfl).2 rfl) rfl ?_
      exact ⟨rfl, HG.out.tail.tail⟩
end Go.Proofs.Ythbhlmbhnidbhaa.T
