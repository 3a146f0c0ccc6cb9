/- Kn PTyp PrA PrB PrC PrD PrE PrF PrG PrH PrI PrJ PrK PrL PrM PrN PrO RfA -/
import Derived.Test.YthcfianhdkolhaaGreatDoorParts
import Derived.Deep.MidRow
import Derived.Test.YthcfianhdkolhaaGreatDoorSign
import Derived.Lib.AppendIntMem
import Derived.Lib.ItoaLen
import Derived.Test.YthcfianhdkolhaaGreatDoorSynDig
import Derived.Defers
import Derived.Recover
namespace Go.Proofs.YthcfianhdkolhaaGreatDoor.T
open Go.RowKit Go.Proofs.YthcfianhdkolhaaGreatDoor.S
set_option linter.unusedVariables false
set_option linter.unusedSimpArgs false
theorem kid_lt {kind:Int} {text:List UInt8} {num:Int} {kids:List Nd} {x:Nd} (hj:x∈kids):SizeOf.sizeOf x<SizeOf.sizeOf (Nd.mk kind text num kids):=by
 have:=List.sizeOf_lt_of_mem hj
 simp only [Nd.mk.sizeOf_spec]
 omega
theorem RowO.kid {w:World} {ka:Option Addr} {l:List Nd} (h:RowO w ka l) (j:Nat) (hj:j<l.length):∃ g o k0 x0 n0 a0 m0 c0,ka=some ⟨g,o,none⟩∧g<w.heap.size ∧
 w.cell? ⟨g,o+j*4,none⟩=some (.int .i64 k0)∧w.cell? ⟨g,o+j*4+1,none⟩=some (.string x0)∧w.cell? ⟨g,o+j*4+2,none⟩=some (.int .i64 n0)∧w.cell? ⟨g,o+j*4+3,none⟩=some (.slice a0 m0 c0)∧NdO w l[j] (.agg #[.int .i64 k0,.string x0,.int .i64 n0,.slice a0 m0 c0]):=by
 obtain ⟨g,o,e,hg,hx⟩:=h (fun e=>by rw [e] at hj;simp at hj)
 obtain ⟨k0,x0,n0,a0,m0,c0,r⟩:=hx j hj
 exact ⟨g,o,k0,x0,n0,a0,m0,c0,e,hg,r⟩
theorem below_cell {w0 w:World} (hb:Below w0.heap.size w0 w) {g o:Nat} {u:Value} (h:w0.cell? ⟨g,o,none⟩=some u):w.cell? ⟨g,o,none⟩=some u:=(hb.cell (p:=⟨g,o,none⟩) (World.block_lt_of_cell? w0 ⟨g,o,none⟩ h)).trans h
def opCells:List Value:=[.string ⟨#[61,61]⟩,.int .i64 12,.int .i64 0,.string ⟨#[60]⟩,.int .i64 10,.int .i64 0,.string ⟨#[43]⟩,.int .i64 1,.int .i64 1,.string ⟨#[45]⟩,.int .i64 2,.int .i64 1,.string ⟨#[124]⟩,.int .i64 8,.int .i64 1,.string ⟨#[94]⟩,.int .i64 9,.int .i64 1,.string ⟨#[42]⟩,.int .i64 3,.int .i64 2,.string ⟨#[47]⟩,.int .i64 5,.int .i64 2,.string ⟨#[37]⟩,.int .i64 6,.int .i64 2,.string ⟨#[38]⟩,.int .i64 7,.int .i64 2]
theorem op_index0 (w:World):(Instr.index 159 (.agg opCells.toArray) (.int .i64 ((0:Nat):Int))).run Tryz.prog w=.ok (.agg #[.string (str (opr 0).1),.int .i64 (opr 0).2.1,.int .i64 (opr 0).2.2]) w:=by kernel_rfl
theorem op_index1 (w:World):(Instr.index 159 (.agg opCells.toArray) (.int .i64 ((1:Nat):Int))).run Tryz.prog w=.ok (.agg #[.string (str (opr 1).1),.int .i64 (opr 1).2.1,.int .i64 (opr 1).2.2]) w:=by kernel_rfl
theorem op_index2 (w:World):(Instr.index 159 (.agg opCells.toArray) (.int .i64 ((2:Nat):Int))).run Tryz.prog w=.ok (.agg #[.string (str (opr 2).1),.int .i64 (opr 2).2.1,.int .i64 (opr 2).2.2]) w:=by kernel_rfl
theorem op_index3 (w:World):(Instr.index 159 (.agg opCells.toArray) (.int .i64 ((3:Nat):Int))).run Tryz.prog w=.ok (.agg #[.string (str (opr 3).1),.int .i64 (opr 3).2.1,.int .i64 (opr 3).2.2]) w:=by kernel_rfl
theorem op_index4 (w:World):(Instr.index 159 (.agg opCells.toArray) (.int .i64 ((4:Nat):Int))).run Tryz.prog w=.ok (.agg #[.string (str (opr 4).1),.int .i64 (opr 4).2.1,.int .i64 (opr 4).2.2]) w:=by kernel_rfl
theorem op_index5 (w:World):(Instr.index 159 (.agg opCells.toArray) (.int .i64 ((5:Nat):Int))).run Tryz.prog w=.ok (.agg #[.string (str (opr 5).1),.int .i64 (opr 5).2.1,.int .i64 (opr 5).2.2]) w:=by kernel_rfl
theorem op_index6 (w:World):(Instr.index 159 (.agg opCells.toArray) (.int .i64 ((6:Nat):Int))).run Tryz.prog w=.ok (.agg #[.string (str (opr 6).1),.int .i64 (opr 6).2.1,.int .i64 (opr 6).2.2]) w:=by kernel_rfl
theorem op_index7 (w:World):(Instr.index 159 (.agg opCells.toArray) (.int .i64 ((7:Nat):Int))).run Tryz.prog w=.ok (.agg #[.string (str (opr 7).1),.int .i64 (opr 7).2.1,.int .i64 (opr 7).2.2]) w:=by kernel_rfl
theorem op_index8 (w:World):(Instr.index 159 (.agg opCells.toArray) (.int .i64 ((8:Nat):Int))).run Tryz.prog w=.ok (.agg #[.string (str (opr 8).1),.int .i64 (opr 8).2.1,.int .i64 (opr 8).2.2]) w:=by kernel_rfl
theorem op_index9 (w:World):(Instr.index 159 (.agg opCells.toArray) (.int .i64 ((9:Nat):Int))).run Tryz.prog w=.ok (.agg #[.string (str (opr 9).1),.int .i64 (opr 9).2.1,.int .i64 (opr 9).2.2]) w:=by kernel_rfl
theorem op_index (j:Nat) (hj:j<10) (w:World):(Instr.index 159 (.agg opCells.toArray) (.int .i64 (j:Int))).run Tryz.prog w=.ok (.agg #[.string (str (opr j).1),.int .i64 (opr j).2.1,.int .i64 (opr j).2.2]) w:=by
 match j,hj with
 | 0,_=>exact op_index0 w
 | 1,_=>exact op_index1 w
 | 2,_=>exact op_index2 w
 | 3,_=>exact op_index3 w
 | 4,_=>exact op_index4 w
 | 5,_=>exact op_index5 w
 | 6,_=>exact op_index6 w
 | 7,_=>exact op_index7 w
 | 8,_=>exact op_index8 w
 | 9,_=>exact op_index9 w
theorem info159:(Tryz.prog.info? 159).map (·.size)=some opCells.length:=by kernel_rfl
theorem ex_least {P:Nat→Prop} (h:∃ k,P k):∃ k,P k∧∀ j,P j→k≤j:=by
 obtain ⟨k,hk⟩:=h
 induction k using Nat.strongRecOn with
 | ind k ih=>
  by_cases hj:∃ j,j<k∧P j
  ·obtain ⟨j,h1,h2⟩:=hj
   exact ih j h1 h2
  ·exact ⟨k,hk,fun j h=>by
    rcases Nat.lt_or_ge j k with h3|h3
    ·exact absurd ⟨j,h3,h⟩ hj
    ·exact h3⟩
noncomputable def least (P:Nat→Prop):Nat:=by
 classical exact if h:∃ k,P k then Classical.choose (ex_least h) else 0
theorem least_spec {P:Nat→Prop} (h:∃ k,P k):P (least P):=by
 unfold least
 rw [dif_pos h]
 exact (Classical.choose_spec (ex_least h)).1
theorem least_le {P:Nat→Prop} {k:Nat} (h:P k):least P≤k:=by
 unfold least
 rw [dif_pos ⟨k,h⟩]
 exact (Classical.choose_spec (ex_least ⟨k,h⟩)).2 k h
end Go.Proofs.YthcfianhdkolhaaGreatDoor.T
namespace Go.Proofs.YthcfianhdkolhaaGreatDoor.T
open Go.RowKit Go.Proofs.YthcfianhdkolhaaGreatDoor.S
set_option maxRecDepth 100000
set_option maxHeartbeats 2000000
set_option linter.unusedVariables false
set_option linter.unusedSimpArgs false
def rm (n:Nd) (nodes deep:Int):Int:=if (cnt n:Int)≤nodes∧(dpt n:Int)≤deep then nodes - cnt n else -1
theorem rm_le (n:Nd) (nodes deep:Int) (h:nodes≤700):-1≤rm n nodes deep∧rm n nodes deep≤700:=by
 unfold rm
 split<;>omega
theorem dpt_all {l:List Nd} {d:Nat}:dptL l≤d ↔ ∀ x,x∈l→dpt x≤d:=by
 induction l with
 | nil=>simp [dptL_nil]
 | cons y r ih=>rw [dptL_cons];simp only [List.mem_cons,forall_eq_or_imp];rw [← ih];omega
theorem cntL_take {l:List Nd} {j:Nat} (hj:j<l.length):cntL (l.take (j+1))=cntL (l.take j)+cnt l[j]∧cntL (l.take j)+cnt l[j]≤cntL l:=by
 have e1:l.take (j+1)=l.take j++[l[j]]:=List.take_succ_eq_append_getElem hj
 have e2:l=l.take j++l[j]::l.drop (j+1):=by rw [← List.drop_eq_getElem_cons hj,List.take_append_drop]
 refine ⟨by rw [e1,cntL_app,cntL_cons,cntL_nil];omega,?_⟩
 have:cntL l=cntL (l.take j)+(cnt l[j]+cntL (l.drop (j+1))):=by
  conv=>lhs;rw [e2]
  rw [cntL_app,cntL_cons]
 omega
theorem room_step {w0:World} (kind:Int) (text:List UInt8) (num:Int) (kids:List Nd)
  (ih:∀ x,x∈kids→∀ (w:World) (v:Value) (nodes deep:Int),Below w0.heap.size w0 w→NdO w0 x v→-10≤nodes→nodes≤700→-10≤deep→deep≤20→Calls Tryz.prog 21 #[v,.int .i64 nodes,.int .i64 deep] w fun e w'=>e=.returned (.int .i64 (rm x nodes deep))∧Below w.heap.size w w')
  (w:World) (v:Value) (nodes deep:Int) (hb:Below w0.heap.size w0 w) (hv:NdO w0 (.mk kind text num kids) v) (a1:-10≤nodes) (a2:nodes≤700) (a3:-10≤deep) (a4:deep≤20):
  Calls Tryz.prog 21 #[v,.int .i64 nodes,.int .i64 deep] w fun e w'=>e=.returned (.int .i64 (rm (.mk kind text num kids) nodes deep))∧Below w.heap.size w w':=by
 obtain ⟨ka,kc,rfl,t1,n1,n2,l1,l2,hR⟩:=hv.part
 have hB0:Below w.heap.size w (w.alloc (.cells #[.int .i64 kind,.string (str text),.int .i64 num,.slice ka kids.length kc] 24)):=(Below.refl _ _).alloc (Nat.le_refl _) _
 have hrm:rm (.mk kind text num kids) nodes deep=if (cntL kids:Int)+1≤nodes∧(dptL kids:Int)+1≤deep then nodes - (cntL kids+1) else -1:=by
  unfold rm
  rw [cnt_mk,dpt_mk]
  simp
 by_cases c1:nodes<1
 ·have HR1:Hid (rm (.mk kind text num kids) nodes deep=-1):=by show _=_;rw [hrm,if_neg (by omega)]
  have HB:=hide hB0
  clear hrm hB0 hR hv ih
  go_enter Tryz.func21,Tryz.ntmps21
  go_wp2_with fail
  go_ret
  exact ⟨by rw [HR1.out];rfl,HB.out⟩
 by_cases c2:deep<1
 ·have HR1:Hid (rm (.mk kind text num kids) nodes deep=-1):=by show _=_;rw [hrm,if_neg (by omega)]
  have HB:=hide hB0
  clear hrm hB0 hR hv ih
  go_enter Tryz.func21,Tryz.ntmps21
  go_wp2_with fail
  go_ret
  exact ⟨by rw [HR1.out];rfl,HB.out⟩
 have hw1:IntKind.i64.wrap (nodes - 1)=nodes - 1:=by rw [IntKind.wrap_i64];omega
 have hw2:IntKind.i64.wrap (deep - 1)=deep - 1:=by rw [IntKind.wrap_i64];omega
 have HR:=hide hR
 have HIh:=hide ih
 have HRm:=hide hrm
 have hlen:(kids.length:Int)≤9223372036854775807:=by omega
 have HBa:=hide (hb.trans (hB0.mono hb.size))
 have HB0:=hide hB0
 have hx0:∀ o,(w.alloc (.cells #[.int .i64 kind,.string (str text),.int .i64 num,.slice ka kids.length kc] 24)).cell? ⟨w.heap.size,o,none⟩=(#[Value.int .i64 kind,.string (str text),.int .i64 num,.slice ka kids.length kc])[o]?:=fun o=>World.cell?_alloc_at _ _ _ _ rfl
 clear hv hR ih hrm hB0
 generalize hres:rm (.mk kind text num kids) nodes deep=res at *
 clear hres
 go_enter Tryz.func21,Tryz.ntmps21
 go_wp2_with fail
 have hz0:(w.alloc (.cells #[.int .i64 kind,.string (str text),.int .i64 num,.slice ka kids.length kc] 24)).heap.size=w.heap.size+1:=by simp
 clear hx0
 generalize w.alloc (.cells #[.int .i64 kind,.string (str text),.int .i64 num,.slice ka kids.length kc] 24)=W at *
 have HW:Hid (∀ w',Below W.heap.size W w'→Below w.heap.size w w'∧Below w0.heap.size w0 w'):=fun w' hw=>⟨HB0.out.trans (hw.mono (by omega)),HBa.out.trans (hw.mono HBa.out.size)⟩
 clear hz0
 go_loopw [1,20] (fun nd i wr=>∃ (j:Nat) (m:Int),j≤kids.length∧nd=.int .i64 m∧i=.int .i64 j∧0≤m∧m≤700∧Hid (m=nodes - 1 - cntL (kids.take j))∧Hid (∀ x,x∈kids.take j→(dpt x:Int)≤deep - 1)∧Hid (Below W.heap.size W wr)) (fun _ i _=>kids.length - (intOf i).toNat)
 case atStart=>exact ⟨0,nodes - 1,Nat.zero_le _,rfl,rfl,by omega,by omega,by show _=_;simp [cntL_nil],fun x hx=>by simp at hx,Below.refl _ _⟩
 case round=>
  obtain ⟨j,m,hj,rfl,rfl,m0,m1,HM,HD,HB⟩:=hrel
  by_cases hlt:j<kids.length
  ·have hlt':(j:Int)<kids.length:=by omega
   have hidx:(0:Int)≤j∧(j:Int)<kids.length:=by omega
   obtain ⟨g,o,rfl,hg,hcs⟩:=HR.out (fun e=>by rw [e] at hlt;simp at hlt)
   obtain ⟨k0,x0,n0,a0,m9,c0,q0,q1,q2,q3,hnd⟩:=hcs j hlt
   have hbz:=(HW.out _ HB.out).2
   have e0:=below_cell hbz q0
   have e1:=below_cell hbz q1
   have e2:=below_cell hbz q2
   have e3:=below_cell hbz q3
   have HBk:Hid (Below W.heap.size W (wr.alloc (.cells #[.int .i64 k0,.string x0,.int .i64 n0,.slice a0 m9 c0] 24))):=HB.out.alloc HB.out.size _
   have hcal:=HIh.out kids[j] (List.getElem_mem hlt) _ _ m (deep - 1) (HW.out _ HBk.out).2 hnd (by omega) (by omega) (by omega) (by omega)
   have hct:=cntL_take hlt
   have hrl:=rm_le kids[j] m (deep - 1) m1
   have HR9:Hid (rm kids[j] m (deep - 1)=if (cnt kids[j]:Int)≤m∧(dpt kids[j]:Int)≤deep - 1 then m - cnt kids[j] else -1):=rfl
   have HCt:=hide hct
   clear q0 q1 q2 q3 hcs hnd hbz hct
   generalize hrr:rm kids[j] m (deep - 1)=rr at *
   clear hrr
   go_wp2_with fail
   go_at_call 21
   refine hcal.mono ?_
   rintro e w9 ⟨rfl,hb9⟩
   have HB9:Hid (Below W.heap.size W w9):=HBk.out.trans (hb9.mono HBk.out.size)
   clear hb9 hcal
   by_cases hr0:rr<0
   ·have HRe:Hid (res=rr):=by
     show _=_
     have h9:=HR9.out
     split at h9
     ·omega
     ·rename_i hn
      rw [HRm.out,if_neg,h9]
      rintro ⟨u1,u2⟩
      apply hn
      have:=HM.out
      have:=HCt.out
      have h3:=dpt_all (l:=kids) (d:=dptL kids) |>.1 (Nat.le_refl _) _ (List.getElem_mem hlt)
      exact ⟨by omega,by omega⟩
    clear HR9
    go_wp2_with fail
    go_ret
    exact ⟨by rw [HRe.out];rfl,(HW.out _ HB9.out).1⟩
   ·have HM9:Hid (rr=nodes - 1 - cntL (kids.take (j+1))):=by
     show _=_
     have h9:=HR9.out
     have:=HM.out
     have:=HCt.out
     split at h9<;>omega
    have HD9:Hid (∀ x,x∈kids.take (j+1)→(dpt x:Int)≤deep - 1):=by
     have h9:=HR9.out
     split at h9
     ·rename_i hn
      exact all_take hlt HD.out hn.2
     ·omega
    have hr1:¬ rr<0:=hr0
    clear HR9
    go_wp2_with fail
    go_roundw
    case rel=>exact ⟨j+1,rr,by omega,rfl,by go_num,by omega,by omega,HM9,HD9,HB9⟩
    case measure=>simp [intOf];omega
  ·obtain rfl:j=kids.length:=by omega
   have hlt':¬ (kids.length:Int)<kids.length:=by omega
   have HRe:Hid (res=m):=by
    show _=_
    have h1:=HM.out
    have h2:=HD.out
    rw [List.take_length] at h1 h2
    rw [HRm.out,if_pos]
    ·omega
    ·refine ⟨by omega,?_⟩
     have h3:dptL kids≤(deep - 1).toNat:=dpt_all.2 fun x hx=>by have:=h2 x hx;omega
     omega
   go_wp2_with fail
   go_ret
   exact ⟨by rw [HRe.out];rfl,(HW.out _ HB.out).1⟩
theorem room_any {w0:World}:∀ (x:Nd) (w:World) (v:Value) (nodes deep:Int),Below w0.heap.size w0 w→NdO w0 x v→-10≤nodes→nodes≤700→-10≤deep→deep≤20→Calls Tryz.prog 21 #[v,.int .i64 nodes,.int .i64 deep] w fun e w'=>e=.returned (.int .i64 (rm x nodes deep))∧Below w.heap.size w w':=by
 refine Nd.ind fun k t v kids ih=>?_
 exact room_step k t v kids ih
def fitB (n:Nd):Bool:=decide (cnt n≤700∧dpt n≤16)
theorem fits_any {w0 w:World} (hb:Below w0.heap.size w0 w) (n:Nd) (v:Value) (hv:NdO w0 n v):Calls Tryz.prog 12 #[v] w fun e w'=>e=.returned (.bool (fitB n))∧Below w.heap.size w w':=by
 have HV:=hide hv
 obtain ⟨kind,text,num,ka,kn,kc,rfl⟩:=hv.form
 have hB0:Below w.heap.size w (w.alloc (.cells #[.int .i64 kind,.string text,.int .i64 num,.slice ka kn kc] 24)):=(Below.refl _ _).alloc (Nat.le_refl _) _
 have hrm:=room_any n _ _ 700 16 (hb.trans (hB0.mono hb.size)) hv (by decide) (by decide) (by decide) (by decide)
 have hF:fitB n=decide (0≤rm n 700 16):=by
  unfold fitB rm
  by_cases h:cnt n≤700∧dpt n≤16
  ·rw [if_pos (by omega),decide_eq_true h,decide_eq_true (by omega)]
  ·rw [if_neg (by omega),decide_eq_false h,decide_eq_false (by omega)]
 rw [hF]
 have HB0:=hide hB0
 clear hv hB0 hF hb
 generalize rm n 700 16=rr at *
 go_enter Tryz.func12,Tryz.ntmps12
 go_wp2_with fail
 go_at_call 21
 refine hrm.mono ?_
 rintro e w1 ⟨rfl,hb1⟩
 have HB1:=hide (HB0.out.trans (hb1.mono (by simp)))
 clear hb1 hrm HB0
 go_wp2_with fail
 go_ret
 exact ⟨rfl,HB1.out⟩
end Go.Proofs.YthcfianhdkolhaaGreatDoor.T
namespace Go.Proofs.YthcfianhdkolhaaGreatDoor.T
open Go.RowKit Go.Proofs.YthcfianhdkolhaaGreatDoor.S
set_option linter.unusedVariables false
set_option linter.unusedSimpArgs false
theorem NdO.under {w w':World} {n:Nd} {v:Value} (h:NdO w n v) (hb:Below w.heap.size w w'):NdO w' n v:=by
 induction h with
 | mk kind text num kids ka kc c h1 h2 h3 h4 h5 h6 h7 ih=>
  refine NdO.mk kind text num kids ka kc c h1 h2 h3 h4 h5 (fun hne=>?_) ih
  obtain ⟨g,o,e,hc⟩:=h6 hne
  exact ⟨g,o,e,fun j i hj hi=>below_cell hb (hc j i hj hi)⟩
end Go.Proofs.YthcfianhdkolhaaGreatDoor.T
namespace Go.Proofs.YthcfianhdkolhaaGreatDoor.T
open Go.RowKit Go.Proofs.YthcfianhdkolhaaGreatDoor.S
set_option maxRecDepth 100000
set_option maxHeartbeats 2000000
set_option linter.unusedVariables false
set_option linter.unusedSimpArgs false
def ManyR (n:Nd) (most m:Int):Prop:=((cnt n:Int)≤most→m=cnt n)∧(most<cnt n→most<m)∧1≤m∧m≤most+1
def DeepR (n:Nd) (most d:Int):Prop:=((dpt n:Int)≤most→d=dpt n)∧(most<dpt n→most<d)∧1≤d∧d≤most+1
theorem dptL_take {l:List Nd} {j:Nat} (hj:j<l.length):dptL (l.take (j+1))=max (dptL (l.take j)) (dpt l[j]):=by
 have e1:l.take (j+1)=l.take j++[l[j]]:=List.take_succ_eq_append_getElem hj
 have h:∀ (a:List Nd) (x:Nd),dptL (a++[x])=max (dptL a) (dpt x):=by
  intro a x
  induction a with
  | nil=>simp [dptL_cons,dptL_nil]
  | cons y r ih=>simp only [List.cons_append,dptL_cons,ih];omega
 rw [e1,h]
theorem many_step {w0:World} (kind:Int) (text:List UInt8) (num:Int) (kids:List Nd) (ih:∀ x,x∈kids→∀ (w:World) (v:Value) (most:Int),Below w0.heap.size w0 w→NdO w0 x v→0≤most→most≤100000→Calls Tryz.prog 35 #[v,.int .i64 most] w fun e w'=>∃ m,ManyR x most m∧e=.returned (.int .i64 m)∧Below w.heap.size w w'):∀ (w:World) (v:Value) (most:Int),Below w0.heap.size w0 w→NdO w0 (.mk kind text num kids) v→0≤most→most≤100000→Calls Tryz.prog 35 #[v,.int .i64 most] w fun e w'=>∃ m,ManyR (.mk kind text num kids) most m∧e=.returned (.int .i64 m)∧Below w.heap.size w w':=by
 intro w v most hb hv m0 m1
 obtain ⟨ka,kc,rfl,t1,n1,n2,l1,l2,hR⟩:=hv.part
 have hB0:Below w.heap.size w (w.alloc (.cells #[.int .i64 kind,.string (str text),.int .i64 num,.slice ka kids.length kc] 24)):=(Below.refl _ _).alloc (Nat.le_refl _) _
 have hlen:(kids.length:Int)≤9223372036854775807:=by omega
 have HR:=hide hR
 have HIh:=hide ih
 have HBa:=hide (hb.trans (hB0.mono hb.size))
 have HB0:=hide hB0
 clear hv hR ih hB0
 go_enter Tryz.func35,Tryz.ntmps35
 go_wp2_with fail
 have hx0:∀ o,(w.alloc (.cells #[.int .i64 kind,.string (str text),.int .i64 num,.slice ka kids.length kc] 24)).cell? ⟨w.heap.size,o,none⟩=(#[Value.int .i64 kind,.string (str text),.int .i64 num,.slice ka kids.length kc])[o]?:=fun o=>World.cell?_alloc_at _ _ _ _ rfl
 have hz0:(w.alloc (.cells #[.int .i64 kind,.string (str text),.int .i64 num,.slice ka kids.length kc] 24)).heap.size=w.heap.size+1:=by simp
 generalize w.alloc (.cells #[.int .i64 kind,.string (str text),.int .i64 num,.slice ka kids.length kc] 24)=W at *
 have HW:Hid (∀ w',Below W.heap.size W w'→Below w.heap.size w w'∧Below w0.heap.size w0 w'):=fun w' hw=>⟨HB0.out.trans (hw.mono (by omega)),HBa.out.trans (hw.mono HBa.out.size)⟩
 have HXc:Hid (∀ w',Below W.heap.size W w'→∀ o,w'.cell? ⟨w.heap.size,o,none⟩=(#[Value.int .i64 kind,.string (str text),.int .i64 num,.slice ka kids.length kc])[o]?):=fun w' hw o=>(hw.cell (p:=⟨w.heap.size,o,none⟩) (by show w.heap.size<_;omega)).trans (hx0 o)
 clear hz0 hx0
 go_loopw [5,6] (fun k' i' wr=>∃ (j:Nat) (k:Int),j≤kids.length∧k'=.int .i64 k∧i'=.int .i64 j∧1≤k∧k≤most+1∧Hid (((cntL (kids.take j):Int)+1≤most→k=cntL (kids.take j)+1)∧(most<cntL (kids.take j)+1→most<k))∧Hid (Below W.heap.size W wr)) (fun _ i _=>kids.length - (intOf i).toNat)
 case atStart=>exact ⟨0,1,Nat.zero_le _,rfl,rfl,by omega,by omega,by show _∧_;simp [cntL_nil],Below.refl _ _⟩
 case round=>
  obtain ⟨j,k,hj,rfl,rfl,k0',k1',HM,HB⟩:=hrel
  have hx1:=HXc.out wr HB.out
  by_cases hlt:j<kids.length
  ·have hlt':(j:Int)<kids.length:=by omega
   have hidx:(0:Int)≤j∧(j:Int)<kids.length:=by omega
   have HCt:=hide (cntL_take hlt)
   by_cases hk:k≤most
   ·have hw1:IntKind.i64.wrap (most - k)=most - k:=by rw [IntKind.wrap_i64];omega
    obtain ⟨g,o,rfl,hg,hcs⟩:=HR.out (fun e=>by rw [e] at hlt;simp at hlt)
    obtain ⟨k0,x0,n0,a0,m9,c0,q0,q1,q2,q3,hnd⟩:=hcs j hlt
    have hbz:=(HW.out _ HB.out).2
    have e0:=below_cell hbz q0
    have e1:=below_cell hbz q1
    have e2:=below_cell hbz q2
    have e3:=below_cell hbz q3
    have hcal:=HIh.out kids[j] (List.getElem_mem hlt) wr _ (most - k) hbz hnd (by omega) (by omega)
    clear q0 q1 q2 q3 hcs hnd hbz
    go_wp2_with fail
    go_at_call 35
    refine hcal.mono ?_
    rintro e w9 ⟨mm,hmm,rfl,hb9⟩
    have HB9:Hid (Below W.heap.size W w9):=HB.out.trans (hb9.mono HB.out.size)
    have hm2:=hmm.2.2
    have HMm:=hide hmm
    have hx2:=HXc.out w9 HB9.out
    clear hb9 hcal hmm
    have hadd:IntKind.i64.wrap (k+mm)=k+mm:=by rw [IntKind.wrap_i64];omega
    have HM9:Hid (((cntL (kids.take (j+1)):Int)+1≤most→k+mm=cntL (kids.take (j+1))+1)∧(most<cntL (kids.take (j+1))+1→most<k+mm)):=by
     show _∧_
     have h1:=HM.out
     have h2:=HMm.out
     have h3:=HCt.out.1
     unfold ManyR at h2
     have h4:=cnt_pos kids[j]
     constructor<;>intro h5<;>omega
    go_wp2_with fail
    go_roundw
    case rel=>exact ⟨j+1,k+mm,by omega,rfl,by go_num,by omega,by omega,HM9,HB9⟩
    case measure=>simp [intOf];omega
   ·have hk':¬ k≤most:=hk
    have HRe:Hid (ManyR (.mk kind text num kids) most k):=by
     have h1:=HM.out
     have h3:=HCt.out
     have h6:=cnt_mk kind text num kids
     refine ⟨fun h5=>?_,fun _=>by omega,k0',k1'⟩
     rw [h6] at h5 ⊢
     have h7:=cnt_pos kids[j]
     omega
    go_wp2_with fail
    go_ret
    exact ⟨k,HRe.out,rfl,(HW.out _ HB.out).1⟩
  ·obtain rfl:j=kids.length:=by omega
   have hlt':¬ (kids.length:Int)<kids.length:=by omega
   have HRe:Hid (ManyR (.mk kind text num kids) most k):=by
    have h1:=HM.out
    rw [List.take_length] at h1
    have h6:=cnt_mk kind text num kids
    refine ⟨fun h5=>?_,fun h5=>?_,k0',k1'⟩
    ·rw [h6] at h5 ⊢;omega
    ·rw [h6] at h5;omega
   go_wp2_with fail
   go_ret
   exact ⟨k,HRe.out,rfl,(HW.out _ HB.out).1⟩
theorem many_any {w0:World}:∀ n,∀ (w:World) (v:Value) (most:Int),Below w0.heap.size w0 w→NdO w0 n v→0≤most→most≤100000→Calls Tryz.prog 35 #[v,.int .i64 most] w fun e w'=>∃ m,ManyR n most m∧e=.returned (.int .i64 m)∧Below w.heap.size w w':=by
 refine Nd.ind fun k t v kids ih=>?_
 exact many_step k t v kids ih
theorem deep_step {w0:World} (kind:Int) (text:List UInt8) (num:Int) (kids:List Nd) (ih:∀ x,x∈kids→∀ (w:World) (v:Value) (most:Int),Below w0.heap.size w0 w→NdO w0 x v→0≤most→most≤100000→Calls Tryz.prog 36 #[v,.int .i64 most] w fun e w'=>∃ m,DeepR x most m∧e=.returned (.int .i64 m)∧Below w.heap.size w w'):∀ (w:World) (v:Value) (most:Int),Below w0.heap.size w0 w→NdO w0 (.mk kind text num kids) v→0≤most→most≤100000→Calls Tryz.prog 36 #[v,.int .i64 most] w fun e w'=>∃ m,DeepR (.mk kind text num kids) most m∧e=.returned (.int .i64 m)∧Below w.heap.size w w':=by
 intro w v most hb hv m0 m1
 by_cases hm0:most=0
 ·subst hm0
  obtain ⟨ka,kc,rfl,t1,n1,n2,l1,l2,hR⟩:=hv.part
  have HB0:Hid (Below w.heap.size w (w.alloc (.cells #[.int .i64 kind,.string (str text),.int .i64 num,.slice ka kids.length kc] 24))):=(Below.refl _ _).alloc (Nat.le_refl _) _
  have HRe:Hid (DeepR (.mk kind text num kids) 0 1):=by
   have:=dpt_pos (.mk kind text num kids)
   exact ⟨fun h=>by omega,fun _=>by omega,by omega,by omega⟩
  clear hv hR ih
  have hlen:(kids.length:Int)≤9223372036854775807:=by omega
  by_cases hl:0<kids.length
  ·have hl':(0:Int)<kids.length:=by omega
   go_enter Tryz.func36,Tryz.ntmps36
   go_wp2_with fail
   go_loopw [5,6] (fun d i' wr=>d=.int .i64 0∧i'=.int .i64 0∧wr=w.alloc (.cells #[.int .i64 kind,.string (str text),.int .i64 num,.slice ka kids.length kc] 24)) (fun _ _ _=>0)
   case atStart=>exact ⟨rfl,rfl,rfl⟩
   case round=>
    obtain ⟨rfl,rfl,rfl⟩:=hrel
    go_wp2_with fail
    go_ret
    exact ⟨1,HRe.out,rfl,HB0.out⟩
  ·have hl':¬ (0:Int)<kids.length:=by omega
   go_enter Tryz.func36,Tryz.ntmps36
   go_wp2_with fail
   go_loopw [5,6] (fun d i' wr=>d=.int .i64 0∧i'=.int .i64 0∧wr=w.alloc (.cells #[.int .i64 kind,.string (str text),.int .i64 num,.slice ka kids.length kc] 24)) (fun _ _ _=>0)
   case atStart=>exact ⟨rfl,rfl,rfl⟩
   case round=>
    obtain ⟨rfl,rfl,rfl⟩:=hrel
    go_wp2_with fail
    go_ret
    exact ⟨1,HRe.out,rfl,HB0.out⟩
 have hmp:(0:Int)<most:=by omega
 obtain ⟨ka,kc,rfl,t1,n1,n2,l1,l2,hR⟩:=hv.part
 have hB0:Below w.heap.size w (w.alloc (.cells #[.int .i64 kind,.string (str text),.int .i64 num,.slice ka kids.length kc] 24)):=(Below.refl _ _).alloc (Nat.le_refl _) _
 have hlen:(kids.length:Int)≤9223372036854775807:=by omega
 have HR:=hide hR
 have HIh:=hide ih
 have HBa:=hide (hb.trans (hB0.mono hb.size))
 have HB0:=hide hB0
 clear hv hR ih hB0
 go_enter Tryz.func36,Tryz.ntmps36
 go_wp2_with fail
 have hx0:∀ o,(w.alloc (.cells #[.int .i64 kind,.string (str text),.int .i64 num,.slice ka kids.length kc] 24)).cell? ⟨w.heap.size,o,none⟩=(#[Value.int .i64 kind,.string (str text),.int .i64 num,.slice ka kids.length kc])[o]?:=fun o=>World.cell?_alloc_at _ _ _ _ rfl
 have hz0:(w.alloc (.cells #[.int .i64 kind,.string (str text),.int .i64 num,.slice ka kids.length kc] 24)).heap.size=w.heap.size+1:=by simp
 generalize w.alloc (.cells #[.int .i64 kind,.string (str text),.int .i64 num,.slice ka kids.length kc] 24)=W at *
 have HW:Hid (∀ w',Below W.heap.size W w'→Below w.heap.size w w'∧Below w0.heap.size w0 w'):=fun w' hw=>⟨HB0.out.trans (hw.mono (by omega)),HBa.out.trans (hw.mono HBa.out.size)⟩
 have HXc:Hid (∀ w',Below W.heap.size W w'→∀ o,w'.cell? ⟨w.heap.size,o,none⟩=(#[Value.int .i64 kind,.string (str text),.int .i64 num,.slice ka kids.length kc])[o]?):=fun w' hw o=>(hw.cell (p:=⟨w.heap.size,o,none⟩) (by show w.heap.size<_;omega)).trans (hx0 o)
 clear hz0 hx0
 go_loopw [5,6] (fun d' i' wr=>∃ (j:Nat) (d:Int),j≤kids.length∧d'=.int .i64 d∧i'=.int .i64 j∧0≤d∧d≤most∧Hid (((dptL (kids.take j):Int)≤most - 1→d=dptL (kids.take j))∧(most - 1<dptL (kids.take j)→most - 1<d))∧Hid (Below W.heap.size W wr)) (fun _ i _=>kids.length - (intOf i).toNat)
 case atStart=>exact ⟨0,0,Nat.zero_le _,rfl,rfl,by omega,by omega,by show _∧_;simp [dptL_nil],Below.refl _ _⟩
 case round=>
  obtain ⟨j,d,hj,rfl,rfl,d0',d1',HM,HB⟩:=hrel
  have hx1:=HXc.out wr HB.out
  by_cases hlt:j<kids.length
  ·have hlt':(j:Int)<kids.length:=by omega
   have hidx:(0:Int)≤j∧(j:Int)<kids.length:=by omega
   have HCt:=hide (dptL_take hlt)
   have hw1:IntKind.i64.wrap (most - 1)=most - 1:=by rw [IntKind.wrap_i64];omega
   obtain ⟨g,o,rfl,hg,hcs⟩:=HR.out (fun e=>by rw [e] at hlt;simp at hlt)
   obtain ⟨k0,x0,n0,a0,m9,c0,q0,q1,q2,q3,hnd⟩:=hcs j hlt
   have hbz:=(HW.out _ HB.out).2
   have e0:=below_cell hbz q0
   have e1:=below_cell hbz q1
   have e2:=below_cell hbz q2
   have e3:=below_cell hbz q3
   have hcal:=HIh.out kids[j] (List.getElem_mem hlt) wr _ (most - 1) hbz hnd (by omega) (by omega)
   clear q0 q1 q2 q3 hcs hnd hbz
   go_wp2_with fail
   go_at_call 36
   refine hcal.mono ?_
   rintro e w9 ⟨mm,hmm,rfl,hb9⟩
   have HB9:Hid (Below W.heap.size W w9):=HB.out.trans (hb9.mono HB.out.size)
   have hm2:=hmm.2.2
   have HMm:=hide hmm
   have hx2:=HXc.out w9 HB9.out
   clear hb9 hcal hmm
   have HM9:Hid (((dptL (kids.take (j+1)):Int)≤most - 1→max d mm=dptL (kids.take (j+1)))∧(most - 1<dptL (kids.take (j+1))→most - 1<max d mm)):=by
    show _∧_
    have h1:=HM.out
    have h2:=HMm.out
    have h3:=HCt.out
    unfold DeepR at h2
    constructor<;>intro h5<;>omega
   have hmx:0≤max d mm∧max d mm≤most:=by omega
   go_wp2_with fail
   go_roundw
   case rel=>exact ⟨j+1,max d mm,by omega,rfl,by go_num,hmx.1,hmx.2,HM9,HB9⟩
   case measure=>simp [intOf];omega
  ·obtain rfl:j=kids.length:=by omega
   have hlt':¬ (kids.length:Int)<kids.length:=by omega
   have hadd:IntKind.i64.wrap (d+1)=d+1:=by rw [IntKind.wrap_i64];omega
   have HRe:Hid (DeepR (.mk kind text num kids) most (d+1)):=by
    have h1:=HM.out
    rw [List.take_length] at h1
    have h6:=dpt_mk kind text num kids
    refine ⟨fun h5=>?_,fun h5=>?_,by omega,by omega⟩
    ·rw [h6] at h5 ⊢;omega
    ·rw [h6] at h5;omega
   go_wp2_with fail
   go_ret
   exact ⟨d+1,HRe.out,rfl,(HW.out _ HB.out).1⟩
theorem deep_any {w0:World}:∀ n,∀ (w:World) (v:Value) (most:Int),Below w0.heap.size w0 w→NdO w0 n v→0≤most→most≤100000→Calls Tryz.prog 36 #[v,.int .i64 most] w fun e w'=>∃ m,DeepR n most m∧e=.returned (.int .i64 m)∧Below w.heap.size w w':=by
 refine Nd.ind fun k t v kids ih=>?_
 exact deep_step k t v kids ih
theorem rfits_any {w0 w:World} (hb:Below w0.heap.size w0 w) (n:Nd) (v:Value) (hv:NdO w0 n v):Calls Tryz.prog 15 #[v] w fun e w'=>e=.returned (.bool (fitB n))∧Below w.heap.size w w':=by
 have HV:=hide hv
 obtain ⟨kind,text,num,ka,kn,kc,rfl⟩:=hv.form
 have hB0:Below w.heap.size w (w.alloc (.cells #[.int .i64 kind,.string text,.int .i64 num,.slice ka kn kc] 24)):=(Below.refl _ _).alloc (Nat.le_refl _) _
 have HN0:=hide (heap_new w #[.int .i64 kind,.string text,.int .i64 num,.slice ka kn kc] 24)
 have hma:=many_any n _ _ 700 (hb.trans (hB0.mono hb.size)) hv (by decide) (by decide)
 have HDe:Hid (∀ w',Below w0.heap.size w0 w'→Calls Tryz.prog 36 #[.agg #[.int .i64 kind,.string text,.int .i64 num,.slice ka kn kc],.int .i64 16] w' fun e w''=>∃ m,DeepR n 16 m∧e=.returned (.int .i64 m)∧Below w'.heap.size w' w''):=fun w' hw=>deep_any n w' _ 16 hw hv (by decide) (by decide)
 have HBb:=hide hb
 have HB0:=hide hB0
 clear hv hB0 hb
 go_enter Tryz.func15,Tryz.ntmps15
 go_wp2_with fail
 go_at_call 35
 refine hma.mono ?_
 rintro e w1 ⟨m,hm,rfl,hb1⟩
 have HB1:=hide (HB0.out.trans (hb1.mono (by simp)))
 have hn1:=cells_at ((hb1.block w.heap.size (by simp)).trans HN0.out)
 clear hma hb1
 by_cases h7:cnt n≤700
 ·have hme:m=cnt n:=hm.1 (by omega)
  have h7':¬ 700<m:=by omega
  clear hm
  have HC:=hide h7
  have hde:=HDe.out w1 (HBb.out.trans (HB1.out.mono HBb.out.size))
  go_wp2_with fail
  go_at_call 36
  refine hde.mono ?_
  rintro e w2 ⟨d,hd,rfl,hb2⟩
  have HB2:=hide (HB1.out.trans (hb2.mono HB1.out.size))
  have HF:Hid (fitB n=decide (d≤16)):=by
   show _=_
   unfold fitB
   unfold DeepR at hd
   have:=HC.out
   by_cases h:dpt n≤16
   ·rw [decide_eq_true ⟨this,h⟩,decide_eq_true (by omega)]
   ·rw [decide_eq_false (fun x=>h x.2),decide_eq_false (by omega)]
  clear hd hb2 hde hn1
  go_wp2_with fail
  go_ret
  exact ⟨by rw [HF.out];rfl,HB2.out⟩
 ·have hme:700<m:=hm.2.1 (by omega)
  have HF:Hid (fitB n=false):=decide_eq_false (fun x=>h7 x.1)
  clear hm
  go_wp2_with fail
  go_ret
  exact ⟨by rw [HF.out];rfl,HB1.out⟩
end Go.Proofs.YthcfianhdkolhaaGreatDoor.T
