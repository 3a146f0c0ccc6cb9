/- Parts -/
import Derived.Test.YthcfianhdkolhaaGreatDoorKnow
import Derived.Test.YthcfianhdkolhaaGreatDoorSynTb
namespace Go.Proofs.YthcfianhdkolhaaGreatDoor.T
open Go.RowKit Go.Proofs.YthcfianhdkolhaaGreatDoor.S
set_option maxRecDepth 100000
set_option maxHeartbeats 2000000
set_option linter.unusedVariables false
set_option linter.unusedSimpArgs false
def PostP (P:Prop) (w0 w:World) (b:Nat) (T:List (List UInt8)) (ts:List Tk) (e:Ending) (w':World):Prop:=
 (P∧e=.returned (.tuple #[])∧Pt w0 w' b (T++txs ts)∧St w w')∨(¬ P∧e=strange∧Below w0.heap.size w0 w')
theorem PostP.ok {P:Prop} {w0 w w':World} {b:Nat} {T:List (List UInt8)} {ts:List Tk} (h:P) (h1:Pt w0 w' b (T++txs ts)) (h2:St w w'):PostP P w0 w b T ts (.returned (.tuple #[])) w':=Or.inl ⟨h,rfl,h1,h2⟩
theorem PostP.no {P:Prop} {w0 w w':World} {b:Nat} {T:List (List UInt8)} {ts:List Tk} (h:¬ P) (h1:Below w0.heap.size w0 w'):PostP P w0 w b T ts strange w':=Or.inr ⟨h,rfl,h1⟩
theorem heap_new (w:World) (cs:Array Value) (t:TypeId):(w.alloc (.cells cs t)).heap[w.heap.size]?=some (.cells cs t (0,0)):=by
 show (w.heap.push (.cells cs t))[w.heap.size]?=_
 simp
theorem add_new {w0 w:World} {b:Nat} {T:List (List UInt8)} (h:Pt w0 w b T) (xs:List (List UInt8)) (cs:Array Value) (hcs:cs=(strs xs).toArray) (n:Nat) (hl:n=xs.length) (hpos:0<n) (hn:T.length+n≤1000000000000) (B:Nat) (hB:B=w.heap.size):
  Calls Tryz.prog 77 #[.pointer (some ⟨b,0,none⟩),.slice (some ⟨B,0,none⟩) n n] (w.alloc (.cells cs 9)) fun e w'=>e=.returned (.tuple #[])∧Pt w0 w' b (T++xs)∧St w w':=by
 subst hcs hl hB
 refine (add_any (h.alloc (.cells (strs xs).toArray 9)) w.heap.size xs (heap_new w _ 9) hpos (by omega)).mono ?_
 rintro e w' ⟨h1,h2,h3⟩
 exact ⟨h1,h2,(St.alloc w _).trans h3⟩
theorem St.node {w w':World} (h:St w w') {k:Nat} {cur:Array Value} (hk:w.heap[k]?=some (.cells cur 24 (0,0))):∀ o,w'.cell? ⟨k,o,none⟩=cur[o]?:=cells_at ((h.nodes k cur (0,0) hk).trans hk)
theorem take_succ_map (l:List Nd) (j:Nat) (hj:j<l.length):(l.take (j+1)).map shT=(l.take j).map shT++[shT l[j]]:=by
 rw [List.take_succ_eq_append_getElem hj,List.map_append];rfl
theorem all_take {p:Nd→Prop} {l:List Nd} {j:Nat} (hj:j<l.length) (h:∀ x,x∈l.take j→p x) (hp:p l[j]):∀ x,x∈l.take (j+1)→p x:=fun x hx=>by
 rw [List.take_succ_eq_append_getElem hj,List.mem_append] at hx
 rcases hx with hx|hx
 ·exact h x hx
 ·rw [List.mem_singleton.1 hx];exact hp
theorem row_txs (l:List Nd) (d:Bool):txs (rowT (l.map shT) d)=[sLP]++txs (joinT (l.map shT))++(if d=true∧l≠[] then [sCOMMA] else [])++(if d=true then [sDOTS] else [])++[sRP]:=by
 unfold rowT
 cases d with
 | false=>simp [txs_app,txs_cons,raw_sg,txs]
 | true=>
  rw [if_pos rfl,joinT_snoc]
  by_cases hl:l=[]
  ·subst hl;simp [txs,raw_sg,joinT,txs_cons]
  ·rw [if_neg (by simp [hl])]
   simp [txs_app,txs_cons,raw_sg,txs,hl]
def Each51 (w0:World) (b:Nat) (l:List Nd):Prop:=∀ j (hj:j<l.length) (w:World) (T:List (List UInt8)) (v:Value),Pt w0 w b T→NdO w0 l[j] v→T.length+tb l[j]≤1000000000000→Calls Tryz.prog 104 #[.pointer (some ⟨b,0,none⟩),v] w (PostP (IsTy l[j]) w0 w b T (shT l[j]))
theorem parts_51 {w0 w:World} {b:Nat} {T:List (List UInt8)} (h:Pt w0 w b T) (l:List Nd) (ka:Option Addr) (kc:Nat) (hr:RowO w0 ka l) (hl7:l.length≤100000) (hE:Each51 w0 b l) (hT:T.length+tbL l+l.length≤1000000000000):
  Calls Tryz.prog 128 #[.pointer (some ⟨b,0,none⟩),.func (.func 104) #[.pointer (some ⟨b,0,none⟩)] #[],.slice ka l.length kc] w (PostP (∀ x,x∈l→IsTy x) w0 w b T (joinT (l.map shT))):=by
 have HP:=hide h
 have HR:=hide hr
 have HE:=hide hE
 clear h hr hE
 go_enter Tryz.func128,Tryz.ntmps128
 go_wp2_with fail
 go_loopw [10] (fun i wr=>∃ j:Nat,j≤l.length∧i=.int .i64 j∧Hid (Pt w0 wr b (T++txs (joinT ((l.take j).map shT))))∧Hid (St w wr)∧Hid (∀ x,x∈l.take j→IsTy x)) (fun i _=>l.length - (intOf i).toNat)
 case atStart=>exact ⟨0,Nat.zero_le _,rfl,by simpa [Hid,joinT,txs] using HP.out,St.refl _,fun x hx=>by simp at hx⟩
 case round=>
  obtain ⟨j,hj,rfl,HPj,HSj,HAj⟩:=hrel
  by_cases hlt:j<l.length
  ·have hlt':(j:Int)<l.length:=by omega
   have hidx:(0:Int)≤j∧(j:Int)<l.length:=by omega
   obtain ⟨g,o,rfl,hg,hcs⟩:=HR.out (fun e=>by rw [e] at hlt;simp at hlt)
   obtain ⟨k0,x0,n0,a0,m0,c0,q0,q1,q2,q3,hnd⟩:=hcs j hlt
   have hbz:=HPj.out.base
   have e0:wr.cell? ⟨g,o+j*4,none⟩=some (.int .i64 k0):=(hbz.cell (p:=⟨g,o+j*4,none⟩) hg).trans q0
   have e1:wr.cell? ⟨g,o+j*4+1,none⟩=some (.string x0):=(hbz.cell (p:=⟨g,o+j*4+1,none⟩) hg).trans q1
   have e2:wr.cell? ⟨g,o+j*4+2,none⟩=some (.int .i64 n0):=(hbz.cell (p:=⟨g,o+j*4+2,none⟩) hg).trans q2
   have e3:wr.cell? ⟨g,o+j*4+3,none⟩=some (.slice a0 m0 c0):=(hbz.cell (p:=⟨g,o+j*4+3,none⟩) hg).trans q3
   have HN:=hide hnd
   have HTj:Hid ((txs (joinT ((l.take j).map shT))).length+tb l[j]+1≤tbL l+l.length):=by
    show _≤_
    have h1:=joinL_tb (l.take j)
    have h2:=tbL_take hlt
    rw [txs_len]
    rw [List.length_take,Nat.min_eq_left hj] at h1
    omega
   have HNo:Hid (¬ IsTy l[j]→¬ ∀ x,x∈l→IsTy x):=fun hn hall=>hn (hall _ (List.getElem_mem hlt))
   clear q0 q1 q2 q3 hcs hnd hbz
   have HPa:Hid (Pt w0 (wr.alloc (.cells #[.int .i64 k0,.string x0,.int .i64 n0,.slice a0 m0 c0] 24)) b (T++txs (joinT ((l.take j).map shT)))):=HPj.out.alloc _
   have HSa:Hid (St w (wr.alloc (.cells #[.int .i64 k0,.string x0,.int .i64 n0,.slice a0 m0 c0] 24))):=HSj.out.trans (St.alloc _ _)
   have HNa:=hide (heap_new wr #[.int .i64 k0,.string x0,.int .i64 n0,.slice a0 m0 c0] 24)
   by_cases hj0:j=0
   ·have HJ:=hide hj0
    have hj0':¬ (0:Int)<j:=by omega
    clear hj0
    go_wp2_with fail
    go_at_call 104
    refine (HE.out j hlt _ _ _ HPa.out HN.out (by have:=HTj.out;rw [List.length_append];omega)).mono ?_
    rintro e w2 (⟨hp,rfl,hP2,hS2⟩|⟨hp,rfl,hB2⟩)
    ·have HP2:Hid (Pt w0 w2 b (T++txs (joinT ((l.take (j+1)).map shT)))):=by
      show Pt _ _ _ _
      rw [take_succ_map l j hlt,joinT_snoc,if_pos (by rw [HJ.out];rfl)]
      have e:joinT ((l.take j).map shT)=[]:=by rw [HJ.out];rfl
      rw [e] at hP2
      simpa [txs] using hP2
     have HS2:=hide (HSa.out.trans hS2)
     have HA2:=hide (all_take hlt HAj.out hp)
     clear hP2 hS2 hp HPa HSa HNa
     go_wp2_with fail
     go_roundw
     case rel=>exact ⟨j+1,by omega,by go_num,HP2,HS2,HA2⟩
     case measure=>simp [intOf];omega
    ·exact ⟨rfl,PostP.no (HNo.out hp) hB2⟩
   ·have HJ:=hide hj0
    have hj0':(0:Int)<j:=by omega
    clear hj0
    go_wp2_with fail
    go_at_call 77
    refine (add_new HPa.out [sCOMMA] _ rfl 1 rfl (by omega) (by have:=HTj.out;rw [List.length_append];omega) _ (by simp)).mono ?_
    rintro e w1 ⟨rfl,hP1,hS1⟩
    have HP1:=hide hP1
    have HS1:=hide (HSa.out.trans hS1)
    have hn1:=hS1.node HNa.out
    clear hP1 hS1 HPa HSa HNa
    go_wp2_with fail
    go_at_call 104
    refine (HE.out j hlt _ _ _ HP1.out HN.out (by have:=HTj.out;rw [List.length_append,List.length_append];simp only [List.length_cons,List.length_nil];omega)).mono ?_
    rintro e w2 (⟨hp,rfl,hP2,hS2⟩|⟨hp,rfl,hB2⟩)
    ·have HP2:Hid (Pt w0 w2 b (T++txs (joinT ((l.take (j+1)).map shT)))):=by
      show Pt _ _ _ _
      rw [take_succ_map l j hlt,joinT_snoc,if_neg (by intro e;have h1:=congrArg List.length e;rw [List.length_map,List.length_take,Nat.min_eq_left hj] at h1;exact HJ.out h1),txs_app,txs_cons,raw_sg]
      simpa using hP2
     have HS2:=hide (HS1.out.trans hS2)
     have HA2:=hide (all_take hlt HAj.out hp)
     clear hP2 hS2 hp
     go_wp2_with fail
     go_roundw
     case rel=>exact ⟨j+1,by omega,by go_num,HP2,HS2,HA2⟩
     case measure=>simp [intOf];omega
    ·exact ⟨rfl,PostP.no (HNo.out hp) hB2⟩
  ·obtain rfl:j=l.length:=by omega
   have hlt':¬ (l.length:Int)<l.length:=by omega
   have HPe:Hid (Pt w0 wr b (T++txs (joinT (l.map shT)))):=by have:=HPj.out;rw [List.take_length] at this;exact this
   have HAe:Hid (∀ x,x∈l→IsTy x):=by have:=HAj.out;rw [List.take_length] at this;exact this
   go_wp2_with fail
   go_end0
   exact PostP.ok HAe.out HPe.out HSj.out
theorem open_51 {w0 w:World} {b:Nat} {T:List (List UInt8)} (h:Pt w0 w b T) (l:List Nd) (ka:Option Addr) (kc:Nat) (many:Int) (d:Bool) (hd:d=decide (many=1)) (hr:RowO w0 ka l) (hl7:l.length≤100000) (hE:Each51 w0 b l) (hT:T.length+tbL l+l.length+4≤1000000000000):
  Calls Tryz.prog 105 #[.pointer (some ⟨b,0,none⟩),.func (.func 104) #[.pointer (some ⟨b,0,none⟩)] #[],.slice ka l.length kc,.int .i64 many] w (PostP (∀ x,x∈l→IsTy x) w0 w b T (rowT (l.map shT) d)):=by
 have HP:=hide h
 have HR:=hide hr
 have HE:=hide hE
 have HD:=hide hd
 have HJ:Hid ((txs (joinT (l.map shT))).length≤tbL l+l.length):=by show _≤_;rw [txs_len];exact joinL_tb l
 clear h hr hE hd
 by_cases hm:many=1
 ·subst hm
  by_cases hl:l=[]
  ·have HL:=hide hl
   have hl0:¬ (0:Int)<l.length:=by rw [hl];simp
   clear hl
   go_enter Tryz.func105,Tryz.ntmps105
   go_wp2_with fail
   go_at_call 77
   refine (add_new HP.out [sLP] _ rfl 1 rfl (by omega) (by omega) _ (by simp)).mono ?_
   rintro e w1 ⟨rfl,hP1,hS1⟩
   have HP1:=hide hP1
   have HS1:=hide hS1
   clear hP1 hS1
   go_wp2_with fail
   go_at_call 128
   refine (parts_51 HP1.out l ka kc HR.out hl7 HE.out (by rw [List.length_append];simp only [List.length_cons,List.length_nil];omega)).mono ?_
   rintro e w2 (⟨hp,rfl,hP2,hS2⟩|⟨hp,rfl,hB2⟩)
   rotate_left
   ·exact ⟨rfl,PostP.no hp hB2⟩
   have HA:=hide hp
   have HP2:=hide hP2
   have HS2:=hide (HS1.out.trans hS2)
   clear hP2 hS2 hp
   go_wp2_with fail
   go_at_call 77
   refine (add_new HP2.out [sDOTS] _ rfl 1 rfl (by omega) (by have:=HJ.out;simp only [List.length_append,List.length_cons,List.length_nil];omega) _ (by simp)).mono ?_
   rintro e w3 ⟨rfl,hP3,hS3⟩
   have HP3:=hide hP3
   have HS3:=hide (HS2.out.trans hS3)
   clear hP3 hS3
   go_wp2_with fail
   go_at_call 77
   refine (add_new HP3.out [sRP] _ rfl 1 rfl (by omega) (by have:=HJ.out;simp only [List.length_append,List.length_cons,List.length_nil];omega) _ (by simp)).mono ?_
   rintro e w4 ⟨rfl,hP4,hS4⟩
   have HP4:=hide hP4
   have HS4:=hide (HS3.out.trans hS4)
   clear hP4 hS4
   go_wp2_with fail
   go_end0
   refine PostP.ok HA.out ?_ HS4.out
   rw [row_txs,HD.out]
   have hfin:=HP4.out
   simpa [HL.out] using hfin
  ·have HL:=hide hl
   have hl0:(0:Int)<l.length:=by have:=List.length_pos_iff.2 hl;omega
   clear hl
   go_enter Tryz.func105,Tryz.ntmps105
   go_wp2_with fail
   go_at_call 77
   refine (add_new HP.out [sLP] _ rfl 1 rfl (by omega) (by omega) _ (by simp)).mono ?_
   rintro e w1 ⟨rfl,hP1,hS1⟩
   have HP1:=hide hP1
   have HS1:=hide hS1
   clear hP1 hS1
   go_wp2_with fail
   go_at_call 128
   refine (parts_51 HP1.out l ka kc HR.out hl7 HE.out (by rw [List.length_append];simp only [List.length_cons,List.length_nil];omega)).mono ?_
   rintro e w2 (⟨hp,rfl,hP2,hS2⟩|⟨hp,rfl,hB2⟩)
   rotate_left
   ·exact ⟨rfl,PostP.no hp hB2⟩
   have HA:=hide hp
   have HP2:=hide hP2
   have HS2:=hide (HS1.out.trans hS2)
   clear hP2 hS2 hp
   go_wp2_with fail
   go_at_call 77
   refine (add_new HP2.out [sCOMMA] _ rfl 1 rfl (by omega) (by have:=HJ.out;simp only [List.length_append,List.length_cons,List.length_nil];omega) _ (by simp)).mono ?_
   rintro e w3 ⟨rfl,hP3,hS3⟩
   have HP3:=hide hP3
   have HS3:=hide (HS2.out.trans hS3)
   clear hP3 hS3
   go_wp2_with fail
   go_at_call 77
   refine (add_new HP3.out [sDOTS] _ rfl 1 rfl (by omega) (by have:=HJ.out;simp only [List.length_append,List.length_cons,List.length_nil];omega) _ (by simp)).mono ?_
   rintro e w4 ⟨rfl,hP4,hS4⟩
   have HP4:=hide hP4
   have HS4:=hide (HS3.out.trans hS4)
   clear hP4 hS4
   go_wp2_with fail
   go_at_call 77
   refine (add_new HP4.out [sRP] _ rfl 1 rfl (by omega) (by have:=HJ.out;simp only [List.length_append,List.length_cons,List.length_nil];omega) _ (by simp)).mono ?_
   rintro e w5 ⟨rfl,hP5,hS5⟩
   have HP5:=hide hP5
   have HS5:=hide (HS4.out.trans hS5)
   clear hP5 hS5
   go_wp2_with fail
   go_end0
   refine PostP.ok HA.out ?_ HS5.out
   rw [row_txs,HD.out]
   have hfin:=HP5.out
   simpa [HL.out] using hfin
 ·have HM:=hide hm
  have hm1:(many == 1)=false:=by simpa using hm
  clear hm
  go_enter Tryz.func105,Tryz.ntmps105
  go_wp2_with fail
  go_at_call 77
  refine (add_new HP.out [sLP] _ rfl 1 rfl (by omega) (by omega) _ (by simp)).mono ?_
  rintro e w1 ⟨rfl,hP1,hS1⟩
  have HP1:=hide hP1
  have HS1:=hide hS1
  clear hP1 hS1
  go_wp2_with fail
  go_at_call 128
  refine (parts_51 HP1.out l ka kc HR.out hl7 HE.out (by rw [List.length_append];simp only [List.length_cons,List.length_nil];omega)).mono ?_
  rintro e w2 (⟨hp,rfl,hP2,hS2⟩|⟨hp,rfl,hB2⟩)
  rotate_left
  ·exact ⟨rfl,PostP.no hp hB2⟩
  have HA:=hide hp
  have HP2:=hide hP2
  have HS2:=hide (HS1.out.trans hS2)
  clear hP2 hS2 hp
  go_wp2_with fail
  go_at_call 77
  refine (add_new HP2.out [sRP] _ rfl 1 rfl (by omega) (by have:=HJ.out;simp only [List.length_append,List.length_cons,List.length_nil];omega) _ (by simp)).mono ?_
  rintro e w3 ⟨rfl,hP3,hS3⟩
  have HP3:=hide hP3
  have HS3:=hide (HS2.out.trans hS3)
  clear hP3 hS3
  go_wp2_with fail
  go_end0
  refine PostP.ok HA.out ?_ HS3.out
  rw [row_txs,HD.out,decide_eq_false HM.out]
  have hfin:=HP3.out
  simpa using hfin
def Each53 (w0:World) (b:Nat) (l:List Nd):Prop:=∀ j (hj:j<l.length) (w:World) (T:List (List UInt8)) (v:Value),Pt w0 w b T→NdO w0 l[j] v→T.length+tb l[j]≤1000000000000→Calls Tryz.prog 106 #[.pointer (some ⟨b,0,none⟩),v] w (PostP (IsPa l[j]) w0 w b T (shT l[j]))
theorem parts_53 {w0 w:World} {b:Nat} {T:List (List UInt8)} (h:Pt w0 w b T) (l:List Nd) (ka:Option Addr) (kc:Nat) (hr:RowO w0 ka l) (hl7:l.length≤100000) (hE:Each53 w0 b l) (hT:T.length+tbL l+l.length≤1000000000000):
  Calls Tryz.prog 128 #[.pointer (some ⟨b,0,none⟩),.func (.func 106) #[.pointer (some ⟨b,0,none⟩)] #[],.slice ka l.length kc] w (PostP (∀ x,x∈l→IsPa x) w0 w b T (joinT (l.map shT))):=by
 have HP:=hide h
 have HR:=hide hr
 have HE:=hide hE
 clear h hr hE
 go_enter Tryz.func128,Tryz.ntmps128
 go_wp2_with fail
 go_loopw [10] (fun i wr=>∃ j:Nat,j≤l.length∧i=.int .i64 j∧Hid (Pt w0 wr b (T++txs (joinT ((l.take j).map shT))))∧Hid (St w wr)∧Hid (∀ x,x∈l.take j→IsPa x)) (fun i _=>l.length - (intOf i).toNat)
 case atStart=>exact ⟨0,Nat.zero_le _,rfl,by simpa [Hid,joinT,txs] using HP.out,St.refl _,fun x hx=>by simp at hx⟩
 case round=>
  obtain ⟨j,hj,rfl,HPj,HSj,HAj⟩:=hrel
  by_cases hlt:j<l.length
  ·have hlt':(j:Int)<l.length:=by omega
   have hidx:(0:Int)≤j∧(j:Int)<l.length:=by omega
   obtain ⟨g,o,rfl,hg,hcs⟩:=HR.out (fun e=>by rw [e] at hlt;simp at hlt)
   obtain ⟨k0,x0,n0,a0,m0,c0,q0,q1,q2,q3,hnd⟩:=hcs j hlt
   have hbz:=HPj.out.base
   have e0:wr.cell? ⟨g,o+j*4,none⟩=some (.int .i64 k0):=(hbz.cell (p:=⟨g,o+j*4,none⟩) hg).trans q0
   have e1:wr.cell? ⟨g,o+j*4+1,none⟩=some (.string x0):=(hbz.cell (p:=⟨g,o+j*4+1,none⟩) hg).trans q1
   have e2:wr.cell? ⟨g,o+j*4+2,none⟩=some (.int .i64 n0):=(hbz.cell (p:=⟨g,o+j*4+2,none⟩) hg).trans q2
   have e3:wr.cell? ⟨g,o+j*4+3,none⟩=some (.slice a0 m0 c0):=(hbz.cell (p:=⟨g,o+j*4+3,none⟩) hg).trans q3
   have HN:=hide hnd
   have HTj:Hid ((txs (joinT ((l.take j).map shT))).length+tb l[j]+1≤tbL l+l.length):=by
    show _≤_
    have h1:=joinL_tb (l.take j)
    have h2:=tbL_take hlt
    rw [txs_len]
    rw [List.length_take,Nat.min_eq_left hj] at h1
    omega
   have HNo:Hid (¬ IsPa l[j]→¬ ∀ x,x∈l→IsPa x):=fun hn hall=>hn (hall _ (List.getElem_mem hlt))
   clear q0 q1 q2 q3 hcs hnd hbz
   have HPa:Hid (Pt w0 (wr.alloc (.cells #[.int .i64 k0,.string x0,.int .i64 n0,.slice a0 m0 c0] 24)) b (T++txs (joinT ((l.take j).map shT)))):=HPj.out.alloc _
   have HSa:Hid (St w (wr.alloc (.cells #[.int .i64 k0,.string x0,.int .i64 n0,.slice a0 m0 c0] 24))):=HSj.out.trans (St.alloc _ _)
   have HNa:=hide (heap_new wr #[.int .i64 k0,.string x0,.int .i64 n0,.slice a0 m0 c0] 24)
   by_cases hj0:j=0
   ·have HJ:=hide hj0
    have hj0':¬ (0:Int)<j:=by omega
    clear hj0
    go_wp2_with fail
    go_at_call 106
    refine (HE.out j hlt _ _ _ HPa.out HN.out (by have:=HTj.out;rw [List.length_append];omega)).mono ?_
    rintro e w2 (⟨hp,rfl,hP2,hS2⟩|⟨hp,rfl,hB2⟩)
    ·have HP2:Hid (Pt w0 w2 b (T++txs (joinT ((l.take (j+1)).map shT)))):=by
      show Pt _ _ _ _
      rw [take_succ_map l j hlt,joinT_snoc,if_pos (by rw [HJ.out];rfl)]
      have e:joinT ((l.take j).map shT)=[]:=by rw [HJ.out];rfl
      rw [e] at hP2
      simpa [txs] using hP2
     have HS2:=hide (HSa.out.trans hS2)
     have HA2:=hide (all_take hlt HAj.out hp)
     clear hP2 hS2 hp HPa HSa HNa
     go_wp2_with fail
     go_roundw
     case rel=>exact ⟨j+1,by omega,by go_num,HP2,HS2,HA2⟩
     case measure=>simp [intOf];omega
    ·exact ⟨rfl,PostP.no (HNo.out hp) hB2⟩
   ·have HJ:=hide hj0
    have hj0':(0:Int)<j:=by omega
    clear hj0
    go_wp2_with fail
    go_at_call 77
    refine (add_new HPa.out [sCOMMA] _ rfl 1 rfl (by omega) (by have:=HTj.out;rw [List.length_append];omega) _ (by simp)).mono ?_
    rintro e w1 ⟨rfl,hP1,hS1⟩
    have HP1:=hide hP1
    have HS1:=hide (HSa.out.trans hS1)
    have hn1:=hS1.node HNa.out
    clear hP1 hS1 HPa HSa HNa
    go_wp2_with fail
    go_at_call 106
    refine (HE.out j hlt _ _ _ HP1.out HN.out (by have:=HTj.out;rw [List.length_append,List.length_append];simp only [List.length_cons,List.length_nil];omega)).mono ?_
    rintro e w2 (⟨hp,rfl,hP2,hS2⟩|⟨hp,rfl,hB2⟩)
    ·have HP2:Hid (Pt w0 w2 b (T++txs (joinT ((l.take (j+1)).map shT)))):=by
      show Pt _ _ _ _
      rw [take_succ_map l j hlt,joinT_snoc,if_neg (by intro e;have h1:=congrArg List.length e;rw [List.length_map,List.length_take,Nat.min_eq_left hj] at h1;exact HJ.out h1),txs_app,txs_cons,raw_sg]
      simpa using hP2
     have HS2:=hide (HS1.out.trans hS2)
     have HA2:=hide (all_take hlt HAj.out hp)
     clear hP2 hS2 hp
     go_wp2_with fail
     go_roundw
     case rel=>exact ⟨j+1,by omega,by go_num,HP2,HS2,HA2⟩
     case measure=>simp [intOf];omega
    ·exact ⟨rfl,PostP.no (HNo.out hp) hB2⟩
  ·obtain rfl:j=l.length:=by omega
   have hlt':¬ (l.length:Int)<l.length:=by omega
   have HPe:Hid (Pt w0 wr b (T++txs (joinT (l.map shT)))):=by have:=HPj.out;rw [List.take_length] at this;exact this
   have HAe:Hid (∀ x,x∈l→IsPa x):=by have:=HAj.out;rw [List.take_length] at this;exact this
   go_wp2_with fail
   go_end0
   exact PostP.ok HAe.out HPe.out HSj.out
theorem open_53 {w0 w:World} {b:Nat} {T:List (List UInt8)} (h:Pt w0 w b T) (l:List Nd) (ka:Option Addr) (kc:Nat) (many:Int) (d:Bool) (hd:d=decide (many=1)) (hr:RowO w0 ka l) (hl7:l.length≤100000) (hE:Each53 w0 b l) (hT:T.length+tbL l+l.length+4≤1000000000000):
  Calls Tryz.prog 105 #[.pointer (some ⟨b,0,none⟩),.func (.func 106) #[.pointer (some ⟨b,0,none⟩)] #[],.slice ka l.length kc,.int .i64 many] w (PostP (∀ x,x∈l→IsPa x) w0 w b T (rowT (l.map shT) d)):=by
 have HP:=hide h
 have HR:=hide hr
 have HE:=hide hE
 have HD:=hide hd
 have HJ:Hid ((txs (joinT (l.map shT))).length≤tbL l+l.length):=by show _≤_;rw [txs_len];exact joinL_tb l
 clear h hr hE hd
 by_cases hm:many=1
 ·subst hm
  by_cases hl:l=[]
  ·have HL:=hide hl
   have hl0:¬ (0:Int)<l.length:=by rw [hl];simp
   clear hl
   go_enter Tryz.func105,Tryz.ntmps105
   go_wp2_with fail
   go_at_call 77
   refine (add_new HP.out [sLP] _ rfl 1 rfl (by omega) (by omega) _ (by simp)).mono ?_
   rintro e w1 ⟨rfl,hP1,hS1⟩
   have HP1:=hide hP1
   have HS1:=hide hS1
   clear hP1 hS1
   go_wp2_with fail
   go_at_call 128
   refine (parts_53 HP1.out l ka kc HR.out hl7 HE.out (by rw [List.length_append];simp only [List.length_cons,List.length_nil];omega)).mono ?_
   rintro e w2 (⟨hp,rfl,hP2,hS2⟩|⟨hp,rfl,hB2⟩)
   rotate_left
   ·exact ⟨rfl,PostP.no hp hB2⟩
   have HA:=hide hp
   have HP2:=hide hP2
   have HS2:=hide (HS1.out.trans hS2)
   clear hP2 hS2 hp
   go_wp2_with fail
   go_at_call 77
   refine (add_new HP2.out [sDOTS] _ rfl 1 rfl (by omega) (by have:=HJ.out;simp only [List.length_append,List.length_cons,List.length_nil];omega) _ (by simp)).mono ?_
   rintro e w3 ⟨rfl,hP3,hS3⟩
   have HP3:=hide hP3
   have HS3:=hide (HS2.out.trans hS3)
   clear hP3 hS3
   go_wp2_with fail
   go_at_call 77
   refine (add_new HP3.out [sRP] _ rfl 1 rfl (by omega) (by have:=HJ.out;simp only [List.length_append,List.length_cons,List.length_nil];omega) _ (by simp)).mono ?_
   rintro e w4 ⟨rfl,hP4,hS4⟩
   have HP4:=hide hP4
   have HS4:=hide (HS3.out.trans hS4)
   clear hP4 hS4
   go_wp2_with fail
   go_end0
   refine PostP.ok HA.out ?_ HS4.out
   rw [row_txs,HD.out]
   have hfin:=HP4.out
   simpa [HL.out] using hfin
  ·have HL:=hide hl
   have hl0:(0:Int)<l.length:=by have:=List.length_pos_iff.2 hl;omega
   clear hl
   go_enter Tryz.func105,Tryz.ntmps105
   go_wp2_with fail
   go_at_call 77
   refine (add_new HP.out [sLP] _ rfl 1 rfl (by omega) (by omega) _ (by simp)).mono ?_
   rintro e w1 ⟨rfl,hP1,hS1⟩
   have HP1:=hide hP1
   have HS1:=hide hS1
   clear hP1 hS1
   go_wp2_with fail
   go_at_call 128
   refine (parts_53 HP1.out l ka kc HR.out hl7 HE.out (by rw [List.length_append];simp only [List.length_cons,List.length_nil];omega)).mono ?_
   rintro e w2 (⟨hp,rfl,hP2,hS2⟩|⟨hp,rfl,hB2⟩)
   rotate_left
   ·exact ⟨rfl,PostP.no hp hB2⟩
   have HA:=hide hp
   have HP2:=hide hP2
   have HS2:=hide (HS1.out.trans hS2)
   clear hP2 hS2 hp
   go_wp2_with fail
   go_at_call 77
   refine (add_new HP2.out [sCOMMA] _ rfl 1 rfl (by omega) (by have:=HJ.out;simp only [List.length_append,List.length_cons,List.length_nil];omega) _ (by simp)).mono ?_
   rintro e w3 ⟨rfl,hP3,hS3⟩
   have HP3:=hide hP3
   have HS3:=hide (HS2.out.trans hS3)
   clear hP3 hS3
   go_wp2_with fail
   go_at_call 77
   refine (add_new HP3.out [sDOTS] _ rfl 1 rfl (by omega) (by have:=HJ.out;simp only [List.length_append,List.length_cons,List.length_nil];omega) _ (by simp)).mono ?_
   rintro e w4 ⟨rfl,hP4,hS4⟩
   have HP4:=hide hP4
   have HS4:=hide (HS3.out.trans hS4)
   clear hP4 hS4
   go_wp2_with fail
   go_at_call 77
   refine (add_new HP4.out [sRP] _ rfl 1 rfl (by omega) (by have:=HJ.out;simp only [List.length_append,List.length_cons,List.length_nil];omega) _ (by simp)).mono ?_
   rintro e w5 ⟨rfl,hP5,hS5⟩
   have HP5:=hide hP5
   have HS5:=hide (HS4.out.trans hS5)
   clear hP5 hS5
   go_wp2_with fail
   go_end0
   refine PostP.ok HA.out ?_ HS5.out
   rw [row_txs,HD.out]
   have hfin:=HP5.out
   simpa [HL.out] using hfin
 ·have HM:=hide hm
  have hm1:(many == 1)=false:=by simpa using hm
  clear hm
  go_enter Tryz.func105,Tryz.ntmps105
  go_wp2_with fail
  go_at_call 77
  refine (add_new HP.out [sLP] _ rfl 1 rfl (by omega) (by omega) _ (by simp)).mono ?_
  rintro e w1 ⟨rfl,hP1,hS1⟩
  have HP1:=hide hP1
  have HS1:=hide hS1
  clear hP1 hS1
  go_wp2_with fail
  go_at_call 128
  refine (parts_53 HP1.out l ka kc HR.out hl7 HE.out (by rw [List.length_append];simp only [List.length_cons,List.length_nil];omega)).mono ?_
  rintro e w2 (⟨hp,rfl,hP2,hS2⟩|⟨hp,rfl,hB2⟩)
  rotate_left
  ·exact ⟨rfl,PostP.no hp hB2⟩
  have HA:=hide hp
  have HP2:=hide hP2
  have HS2:=hide (HS1.out.trans hS2)
  clear hP2 hS2 hp
  go_wp2_with fail
  go_at_call 77
  refine (add_new HP2.out [sRP] _ rfl 1 rfl (by omega) (by have:=HJ.out;simp only [List.length_append,List.length_cons,List.length_nil];omega) _ (by simp)).mono ?_
  rintro e w3 ⟨rfl,hP3,hS3⟩
  have HP3:=hide hP3
  have HS3:=hide (HS2.out.trans hS3)
  clear hP3 hS3
  go_wp2_with fail
  go_end0
  refine PostP.ok HA.out ?_ HS3.out
  rw [row_txs,HD.out,decide_eq_false HM.out]
  have hfin:=HP3.out
  simpa using hfin
def Each67 (w0:World) (b:Nat) (l:List Nd):Prop:=∀ j (hj:j<l.length) (w:World) (T:List (List UInt8)) (v:Value),Pt w0 w b T→NdO w0 l[j] v→T.length+tb l[j]≤1000000000000→Calls Tryz.prog 146 #[.pointer (some ⟨b,0,none⟩),v] w (PostP (IsEx l[j]) w0 w b T (shT l[j]))
theorem parts_67 {w0 w:World} {b:Nat} {T:List (List UInt8)} (h:Pt w0 w b T) (l:List Nd) (ka:Option Addr) (kc:Nat) (hr:RowO w0 ka l) (hl7:l.length≤100000) (hE:Each67 w0 b l) (hT:T.length+tbL l+l.length≤1000000000000):
  Calls Tryz.prog 128 #[.pointer (some ⟨b,0,none⟩),.func (.func 146) #[.pointer (some ⟨b,0,none⟩)] #[],.slice ka l.length kc] w (PostP (∀ x,x∈l→IsEx x) w0 w b T (joinT (l.map shT))):=by
 have HP:=hide h
 have HR:=hide hr
 have HE:=hide hE
 clear h hr hE
 go_enter Tryz.func128,Tryz.ntmps128
 go_wp2_with fail
 go_loopw [10] (fun i wr=>∃ j:Nat,j≤l.length∧i=.int .i64 j∧Hid (Pt w0 wr b (T++txs (joinT ((l.take j).map shT))))∧Hid (St w wr)∧Hid (∀ x,x∈l.take j→IsEx x)) (fun i _=>l.length - (intOf i).toNat)
 case atStart=>exact ⟨0,Nat.zero_le _,rfl,by simpa [Hid,joinT,txs] using HP.out,St.refl _,fun x hx=>by simp at hx⟩
 case round=>
  obtain ⟨j,hj,rfl,HPj,HSj,HAj⟩:=hrel
  by_cases hlt:j<l.length
  ·have hlt':(j:Int)<l.length:=by omega
   have hidx:(0:Int)≤j∧(j:Int)<l.length:=by omega
   obtain ⟨g,o,rfl,hg,hcs⟩:=HR.out (fun e=>by rw [e] at hlt;simp at hlt)
   obtain ⟨k0,x0,n0,a0,m0,c0,q0,q1,q2,q3,hnd⟩:=hcs j hlt
   have hbz:=HPj.out.base
   have e0:wr.cell? ⟨g,o+j*4,none⟩=some (.int .i64 k0):=(hbz.cell (p:=⟨g,o+j*4,none⟩) hg).trans q0
   have e1:wr.cell? ⟨g,o+j*4+1,none⟩=some (.string x0):=(hbz.cell (p:=⟨g,o+j*4+1,none⟩) hg).trans q1
   have e2:wr.cell? ⟨g,o+j*4+2,none⟩=some (.int .i64 n0):=(hbz.cell (p:=⟨g,o+j*4+2,none⟩) hg).trans q2
   have e3:wr.cell? ⟨g,o+j*4+3,none⟩=some (.slice a0 m0 c0):=(hbz.cell (p:=⟨g,o+j*4+3,none⟩) hg).trans q3
   have HN:=hide hnd
   have HTj:Hid ((txs (joinT ((l.take j).map shT))).length+tb l[j]+1≤tbL l+l.length):=by
    show _≤_
    have h1:=joinL_tb (l.take j)
    have h2:=tbL_take hlt
    rw [txs_len]
    rw [List.length_take,Nat.min_eq_left hj] at h1
    omega
   have HNo:Hid (¬ IsEx l[j]→¬ ∀ x,x∈l→IsEx x):=fun hn hall=>hn (hall _ (List.getElem_mem hlt))
   clear q0 q1 q2 q3 hcs hnd hbz
   have HPa:Hid (Pt w0 (wr.alloc (.cells #[.int .i64 k0,.string x0,.int .i64 n0,.slice a0 m0 c0] 24)) b (T++txs (joinT ((l.take j).map shT)))):=HPj.out.alloc _
   have HSa:Hid (St w (wr.alloc (.cells #[.int .i64 k0,.string x0,.int .i64 n0,.slice a0 m0 c0] 24))):=HSj.out.trans (St.alloc _ _)
   have HNa:=hide (heap_new wr #[.int .i64 k0,.string x0,.int .i64 n0,.slice a0 m0 c0] 24)
   by_cases hj0:j=0
   ·have HJ:=hide hj0
    have hj0':¬ (0:Int)<j:=by omega
    clear hj0
    go_wp2_with fail
    go_at_call 146
    refine (HE.out j hlt _ _ _ HPa.out HN.out (by have:=HTj.out;rw [List.length_append];omega)).mono ?_
    rintro e w2 (⟨hp,rfl,hP2,hS2⟩|⟨hp,rfl,hB2⟩)
    ·have HP2:Hid (Pt w0 w2 b (T++txs (joinT ((l.take (j+1)).map shT)))):=by
      show Pt _ _ _ _
      rw [take_succ_map l j hlt,joinT_snoc,if_pos (by rw [HJ.out];rfl)]
      have e:joinT ((l.take j).map shT)=[]:=by rw [HJ.out];rfl
      rw [e] at hP2
      simpa [txs] using hP2
     have HS2:=hide (HSa.out.trans hS2)
     have HA2:=hide (all_take hlt HAj.out hp)
     clear hP2 hS2 hp HPa HSa HNa
     go_wp2_with fail
     go_roundw
     case rel=>exact ⟨j+1,by omega,by go_num,HP2,HS2,HA2⟩
     case measure=>simp [intOf];omega
    ·exact ⟨rfl,PostP.no (HNo.out hp) hB2⟩
   ·have HJ:=hide hj0
    have hj0':(0:Int)<j:=by omega
    clear hj0
    go_wp2_with fail
    go_at_call 77
    refine (add_new HPa.out [sCOMMA] _ rfl 1 rfl (by omega) (by have:=HTj.out;rw [List.length_append];omega) _ (by simp)).mono ?_
    rintro e w1 ⟨rfl,hP1,hS1⟩
    have HP1:=hide hP1
    have HS1:=hide (HSa.out.trans hS1)
    have hn1:=hS1.node HNa.out
    clear hP1 hS1 HPa HSa HNa
    go_wp2_with fail
    go_at_call 146
    refine (HE.out j hlt _ _ _ HP1.out HN.out (by have:=HTj.out;rw [List.length_append,List.length_append];simp only [List.length_cons,List.length_nil];omega)).mono ?_
    rintro e w2 (⟨hp,rfl,hP2,hS2⟩|⟨hp,rfl,hB2⟩)
    ·have HP2:Hid (Pt w0 w2 b (T++txs (joinT ((l.take (j+1)).map shT)))):=by
      show Pt _ _ _ _
      rw [take_succ_map l j hlt,joinT_snoc,if_neg (by intro e;have h1:=congrArg List.length e;rw [List.length_map,List.length_take,Nat.min_eq_left hj] at h1;exact HJ.out h1),txs_app,txs_cons,raw_sg]
      simpa using hP2
     have HS2:=hide (HS1.out.trans hS2)
     have HA2:=hide (all_take hlt HAj.out hp)
     clear hP2 hS2 hp
     go_wp2_with fail
     go_roundw
     case rel=>exact ⟨j+1,by omega,by go_num,HP2,HS2,HA2⟩
     case measure=>simp [intOf];omega
    ·exact ⟨rfl,PostP.no (HNo.out hp) hB2⟩
  ·obtain rfl:j=l.length:=by omega
   have hlt':¬ (l.length:Int)<l.length:=by omega
   have HPe:Hid (Pt w0 wr b (T++txs (joinT (l.map shT)))):=by have:=HPj.out;rw [List.take_length] at this;exact this
   have HAe:Hid (∀ x,x∈l→IsEx x):=by have:=HAj.out;rw [List.take_length] at this;exact this
   go_wp2_with fail
   go_end0
   exact PostP.ok HAe.out HPe.out HSj.out
theorem open_67 {w0 w:World} {b:Nat} {T:List (List UInt8)} (h:Pt w0 w b T) (l:List Nd) (ka:Option Addr) (kc:Nat) (many:Int) (d:Bool) (hd:d=decide (many=1)) (hr:RowO w0 ka l) (hl7:l.length≤100000) (hE:Each67 w0 b l) (hT:T.length+tbL l+l.length+4≤1000000000000):
  Calls Tryz.prog 105 #[.pointer (some ⟨b,0,none⟩),.func (.func 146) #[.pointer (some ⟨b,0,none⟩)] #[],.slice ka l.length kc,.int .i64 many] w (PostP (∀ x,x∈l→IsEx x) w0 w b T (rowT (l.map shT) d)):=by
 have HP:=hide h
 have HR:=hide hr
 have HE:=hide hE
 have HD:=hide hd
 have HJ:Hid ((txs (joinT (l.map shT))).length≤tbL l+l.length):=by show _≤_;rw [txs_len];exact joinL_tb l
 clear h hr hE hd
 by_cases hm:many=1
 ·subst hm
  by_cases hl:l=[]
  ·have HL:=hide hl
   have hl0:¬ (0:Int)<l.length:=by rw [hl];simp
   clear hl
   go_enter Tryz.func105,Tryz.ntmps105
   go_wp2_with fail
   go_at_call 77
   refine (add_new HP.out [sLP] _ rfl 1 rfl (by omega) (by omega) _ (by simp)).mono ?_
   rintro e w1 ⟨rfl,hP1,hS1⟩
   have HP1:=hide hP1
   have HS1:=hide hS1
   clear hP1 hS1
   go_wp2_with fail
   go_at_call 128
   refine (parts_67 HP1.out l ka kc HR.out hl7 HE.out (by rw [List.length_append];simp only [List.length_cons,List.length_nil];omega)).mono ?_
   rintro e w2 (⟨hp,rfl,hP2,hS2⟩|⟨hp,rfl,hB2⟩)
   rotate_left
   ·exact ⟨rfl,PostP.no hp hB2⟩
   have HA:=hide hp
   have HP2:=hide hP2
   have HS2:=hide (HS1.out.trans hS2)
   clear hP2 hS2 hp
   go_wp2_with fail
   go_at_call 77
   refine (add_new HP2.out [sDOTS] _ rfl 1 rfl (by omega) (by have:=HJ.out;simp only [List.length_append,List.length_cons,List.length_nil];omega) _ (by simp)).mono ?_
   rintro e w3 ⟨rfl,hP3,hS3⟩
   have HP3:=hide hP3
   have HS3:=hide (HS2.out.trans hS3)
   clear hP3 hS3
   go_wp2_with fail
   go_at_call 77
   refine (add_new HP3.out [sRP] _ rfl 1 rfl (by omega) (by have:=HJ.out;simp only [List.length_append,List.length_cons,List.length_nil];omega) _ (by simp)).mono ?_
   rintro e w4 ⟨rfl,hP4,hS4⟩
   have HP4:=hide hP4
   have HS4:=hide (HS3.out.trans hS4)
   clear hP4 hS4
   go_wp2_with fail
   go_end0
   refine PostP.ok HA.out ?_ HS4.out
   rw [row_txs,HD.out]
   have hfin:=HP4.out
   simpa [HL.out] using hfin
  ·have HL:=hide hl
   have hl0:(0:Int)<l.length:=by have:=List.length_pos_iff.2 hl;omega
   clear hl
   go_enter Tryz.func105,Tryz.ntmps105
   go_wp2_with fail
   go_at_call 77
   refine (add_new HP.out [sLP] _ rfl 1 rfl (by omega) (by omega) _ (by simp)).mono ?_
   rintro e w1 ⟨rfl,hP1,hS1⟩
   have HP1:=hide hP1
   have HS1:=hide hS1
   clear hP1 hS1
   go_wp2_with fail
   go_at_call 128
   refine (parts_67 HP1.out l ka kc HR.out hl7 HE.out (by rw [List.length_append];simp only [List.length_cons,List.length_nil];omega)).mono ?_
   rintro e w2 (⟨hp,rfl,hP2,hS2⟩|⟨hp,rfl,hB2⟩)
   rotate_left
   ·exact ⟨rfl,PostP.no hp hB2⟩
   have HA:=hide hp
   have HP2:=hide hP2
   have HS2:=hide (HS1.out.trans hS2)
   clear hP2 hS2 hp
   go_wp2_with fail
   go_at_call 77
   refine (add_new HP2.out [sCOMMA] _ rfl 1 rfl (by omega) (by have:=HJ.out;simp only [List.length_append,List.length_cons,List.length_nil];omega) _ (by simp)).mono ?_
   rintro e w3 ⟨rfl,hP3,hS3⟩
   have HP3:=hide hP3
   have HS3:=hide (HS2.out.trans hS3)
   clear hP3 hS3
   go_wp2_with fail
   go_at_call 77
   refine (add_new HP3.out [sDOTS] _ rfl 1 rfl (by omega) (by have:=HJ.out;simp only [List.length_append,List.length_cons,List.length_nil];omega) _ (by simp)).mono ?_
   rintro e w4 ⟨rfl,hP4,hS4⟩
   have HP4:=hide hP4
   have HS4:=hide (HS3.out.trans hS4)
   clear hP4 hS4
   go_wp2_with fail
   go_at_call 77
   refine (add_new HP4.out [sRP] _ rfl 1 rfl (by omega) (by have:=HJ.out;simp only [List.length_append,List.length_cons,List.length_nil];omega) _ (by simp)).mono ?_
   rintro e w5 ⟨rfl,hP5,hS5⟩
   have HP5:=hide hP5
   have HS5:=hide (HS4.out.trans hS5)
   clear hP5 hS5
   go_wp2_with fail
   go_end0
   refine PostP.ok HA.out ?_ HS5.out
   rw [row_txs,HD.out]
   have hfin:=HP5.out
   simpa [HL.out] using hfin
 ·have HM:=hide hm
  have hm1:(many == 1)=false:=by simpa using hm
  clear hm
  go_enter Tryz.func105,Tryz.ntmps105
  go_wp2_with fail
  go_at_call 77
  refine (add_new HP.out [sLP] _ rfl 1 rfl (by omega) (by omega) _ (by simp)).mono ?_
  rintro e w1 ⟨rfl,hP1,hS1⟩
  have HP1:=hide hP1
  have HS1:=hide hS1
  clear hP1 hS1
  go_wp2_with fail
  go_at_call 128
  refine (parts_67 HP1.out l ka kc HR.out hl7 HE.out (by rw [List.length_append];simp only [List.length_cons,List.length_nil];omega)).mono ?_
  rintro e w2 (⟨hp,rfl,hP2,hS2⟩|⟨hp,rfl,hB2⟩)
  rotate_left
  ·exact ⟨rfl,PostP.no hp hB2⟩
  have HA:=hide hp
  have HP2:=hide hP2
  have HS2:=hide (HS1.out.trans hS2)
  clear hP2 hS2 hp
  go_wp2_with fail
  go_at_call 77
  refine (add_new HP2.out [sRP] _ rfl 1 rfl (by omega) (by have:=HJ.out;simp only [List.length_append,List.length_cons,List.length_nil];omega) _ (by simp)).mono ?_
  rintro e w3 ⟨rfl,hP3,hS3⟩
  have HP3:=hide hP3
  have HS3:=hide (HS2.out.trans hS3)
  clear hP3 hS3
  go_wp2_with fail
  go_end0
  refine PostP.ok HA.out ?_ HS3.out
  rw [row_txs,HD.out,decide_eq_false HM.out]
  have hfin:=HP3.out
  simpa using hfin
end Go.Proofs.YthcfianhdkolhaaGreatDoor.T
