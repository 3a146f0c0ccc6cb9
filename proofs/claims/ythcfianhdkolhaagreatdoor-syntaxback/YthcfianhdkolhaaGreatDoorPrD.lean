/- PrC PrD -/
import Derived.Test.YthcfianhdkolhaaGreatDoorPrB
import Derived.Test.YthcfianhdkolhaaGreatDoorShelf
import Derived.Lib.AppendIntMem
import Derived.Lib.ItoaLen
namespace Go.Proofs.YthcfianhdkolhaaGreatDoor.T
open Go.RowKit Go.Proofs.YthcfianhdkolhaaGreatDoor.S
set_option maxRecDepth 100000
set_option maxHeartbeats 2000000
set_option linter.unusedVariables false
set_option linter.unusedSimpArgs false
theorem firm_any (kind:Int) (text:List UInt8) (num:Int) (ka:Option Addr) (n kc:Nat) (kids:List Nd) (w:World) (hG:Gl w):
  Calls Tryz.prog 171 #[.agg #[.int .i64 kind,.string (str text),.int .i64 num,.slice ka n kc]] w fun e w'=>(((kind=32→isOp num)∧e=.returned (.int .i64 (bindN (.mk kind text num kids))))∨(¬ (kind=32→isOp num)∧e=strange))∧Below w.heap.size w w':=by
 have hB0:Below w.heap.size w (w.alloc (.cells #[.int .i64 kind,.string (str text),.int .i64 num,.slice ka n kc] 24)):=(Below.refl _ _).alloc (Nat.le_refl _) _
 have hop:=opOf_any kind text num ka n kc _ (hG.below hB0)
 have HB:=hide hB0
 clear hB0 hG
 by_cases k32:kind=32
 ·subst k32
  go_enter Tryz.func171,Tryz.ntmps171
  go_wp2_with fail
  go_at_call 172
  refine hop.mono ?_
  rintro e w1 ⟨⟨hi,rfl⟩|⟨hi,rfl⟩,hb1⟩
  ·have HI:=hide hi
   have HB1:=hide (HB.out.trans (hb1.mono (by simp)))
   have hfl:∀ w:World,(Instr.field 158 (.agg #[.string (str (opSign num)),.int .i64 num,.int .i64 (opBind num)]) 2).run Tryz.prog w=.ok (.int .i64 (opBind num)) w:=fun _=>by kernel_rfl
   clear hi hb1 HB hop
   go_wp2_with fail
   go_ret
   exact ⟨Or.inl ⟨by have:=HI.out;simpa using this,by first|rfl|simp [bindN]⟩,HB1.out⟩
  ·exact ⟨rfl,Or.inr ⟨by simpa using hi,rfl⟩,HB.out.trans (hb1.mono (by simp))⟩
 have k32':(kind == 32)=false:=by simpa using k32
 have HK:=hide k32
 by_cases k28:kind=28
 ·subst k28
  clear hop
  go_enter Tryz.func171,Tryz.ntmps171
  go_wp2_with fail
  go_ret
  exact ⟨Or.inl ⟨fun h=>absurd h (by decide),by simp [bindN]⟩,HB.out⟩
 have k28':(kind == 28)=false:=by simpa using k28
 by_cases k29:kind=29
 ·subst k29
  clear hop
  go_enter Tryz.func171,Tryz.ntmps171
  go_wp2_with fail
  go_ret
  exact ⟨Or.inl ⟨fun h=>absurd h (by decide),by simp [bindN]⟩,HB.out⟩
 have k29':(kind == 29)=false:=by simpa using k29
 have HBd:Hid (bindN (.mk kind text num kids)=4):=by show _=_;simp [bindN,k28,k29,k32]
 clear hop k32 k28 k29
 go_enter Tryz.func171,Tryz.ntmps171
 go_wp2_with fail
 go_ret
 exact ⟨Or.inl ⟨fun h=>absurd h HK.out,by rw [HBd.out];rfl⟩,HB.out⟩
theorem ex_least {P:Nat→Prop} (h:∃ k,P k):∃ k,P k∧∀ j,P j→k≤j:=by
 obtain ⟨k,hk⟩:=h
 induction k using Nat.strongRecOn with
 | ind k ih=>
  by_cases hj:∃ j,j<k∧P j
  ·obtain ⟨j,h1,h2⟩:=hj
   exact ih j h1 h2
  ·exact ⟨k,hk,fun j h=>by
    rcases Nat.lt_or_ge j k with h3|h3
    ·exact absurd ⟨j,h3,h⟩ hj
    ·exact h3⟩
noncomputable def least (P:Nat→Prop):Nat:=by
 classical exact if h:∃ k,P k then Classical.choose (ex_least h) else 0
theorem least_spec {P:Nat→Prop} (h:∃ k,P k):P (least P):=by
 unfold least
 rw [dif_pos h]
 exact (Classical.choose_spec (ex_least h)).1
theorem least_le {P:Nat→Prop} {k:Nat} (h:P k):least P≤k:=by
 unfold least
 rw [dif_pos ⟨k,h⟩]
 exact (Classical.choose_spec (ex_least ⟨k,h⟩)).2 k h
def Held (w0:World) (calls:Bool) (base:Int) (q k:Nat) (w:World):Prop:=∃ m v,SizeOf.sizeOf m=k∧NdO w0 m (.agg v)∧IsEx m∧baseN calls m=base∧w.heap[q]?=some (.cells v 24 (0,0))
theorem ex_dot {t:List UInt8} {v:Int} {kids:List Nd} (h:IsEx (.mk 24 t v kids)):∃ x,kids=[x]∧IsEx x:=by
 cases h with
 | dot s x hs hx=>exact ⟨x,rfl,hx⟩
theorem ex_call {t:List UInt8} {v:Int} {kids:List Nd} (h:IsEx (.mk 25 t v kids)):∃ x l,kids=x::l∧IsEx x:=by
 cases h with
 | call x l hx hl=>exact ⟨x,l,rfl,hx⟩
theorem base_69 {w0 w:World} (hb:Below w0.heap.size w0 w) (n:Nd) (v:Value) (hv:NdO w0 n v) (hx:IsEx n):
  Calls Tryz.prog 148 #[v] w fun e w'=>e=.returned (.bool (decide (baseN false n=23)))∧Below w.heap.size w w':=by
 obtain ⟨kind,text,num,kids⟩:=n
 obtain ⟨ka,kc,rfl,t1,n1,n2,l1,l2,hR⟩:=hv.part
 have hB0:Below w.heap.size w (w.alloc (.cells #[.int .i64 kind,.string (str text),.int .i64 num,.slice ka kids.length kc] 24)):=(Below.refl _ _).alloc (Nat.le_refl _) _
 obtain ⟨base,hbase⟩:∃ base,base=baseN false (.mk kind text num kids):=⟨_,rfl⟩
 have hH:Held w0 false base w.heap.size (SizeOf.sizeOf (Nd.mk kind text num kids)) (w.alloc (.cells #[.int .i64 kind,.string (str text),.int .i64 num,.slice ka kids.length kc] 24)):=⟨_,_,rfl,hv,hx,hbase.symm,heap_new _ _ _⟩
 have HBs:=hide hbase
 have HH:=hide hH
 have hwb:Below w0.heap.size w0 (w.alloc (.cells #[.int .i64 kind,.string (str text),.int .i64 num,.slice ka kids.length kc] 24)):=hb.trans (hB0.mono hb.size)
 have HWb:=hide hwb
 have HB0:=hide hB0
 clear hv hx hR hbase hH hB0 hwb
 go_enter Tryz.func148,Tryz.ntmps148
 go_wp2_with fail
 generalize w.alloc (.cells #[.int .i64 kind,.string (str text),.int .i64 num,.slice ka kids.length kc] 24)=W at *
 go_loopw [] (fun wr=>Hid ((∃ k,Held w0 false base w.heap.size k wr)∧Below w.heap.size w wr)) (fun wr=>least fun k=>Held w0 false base w.heap.size k wr)
 case atStart=>exact ⟨⟨_,HH.out⟩,HB0.out⟩
 case round=>
  have hL:=least_spec hrel.out.1
  have HBr:=hide hrel.out.2
  generalize hmu:(least fun k=>Held w0 false base w.heap.size k wr)=mu at *
  have HMu:=hide hmu
  clear hmu hrel
  obtain ⟨m,vv,hsz,hnd,hex,hbs,hcell⟩:=hL
  obtain ⟨kd,tx,nm,ks⟩:=m
  obtain ⟨ka1,kc1,hvv,u1,u2,u3,u4,u5,hR1⟩:=hnd.part
  obtain rfl:vv=#[.int .i64 kd,.string (str tx),.int .i64 nm,.slice ka1 ks.length kc1]:=by simpa using hvv
  have hc:=cells_at hcell
  have hf:=frozen_at hcell
  have HC:=hide hcell
  have HSz:=hide hsz
  have HBb:=hide hbs
  have HEx:=hide hex
  clear hvv hsz hbs hcell hnd
  have hqs:w.heap.size<wr.heap.size:=(Array.getElem?_eq_some_iff.1 HC.out).1
  have hwr:Below w0.heap.size w0 wr:=hb.trans (HBr.out.mono hb.size)
  by_cases k24:kd=24
  ·subst k24
   obtain ⟨x,hks,hex2⟩:=ex_dot HEx.out
   subst hks
   obtain ⟨ga,oa,ka2,xa2,na2,aa2,ma2,ca2,rfl,hga,qa0,qa1,qa2,qa3,hnda⟩:=hR1.kid0
   have e0:=below_cell hwr qa0
   have e1:=below_cell hwr qa1
   have e2:=below_cell hwr qa2
   have e3:=below_cell hwr qa3
   have v1:(wr.setCell ⟨w.heap.size,0,none⟩ (.int .i64 ka2)).heap[w.heap.size]?=some (.cells #[.int .i64 ka2,.string (str tx),.int .i64 nm,.slice (some ⟨ga,oa,none⟩) [x].length kc1] 24 (0,0)):=(heap_setCell_same wr w.heap.size 0 _ 24 _ HC.out).trans rfl
   have v2:((wr.setCell ⟨w.heap.size,0,none⟩ (.int .i64 ka2)).setCell ⟨w.heap.size,1,none⟩ (.string xa2)).heap[w.heap.size]?=some (.cells #[.int .i64 ka2,.string xa2,.int .i64 nm,.slice (some ⟨ga,oa,none⟩) [x].length kc1] 24 (0,0)):=(heap_setCell_same _ w.heap.size 1 _ 24 _ v1).trans rfl
   have v3:(((wr.setCell ⟨w.heap.size,0,none⟩ (.int .i64 ka2)).setCell ⟨w.heap.size,1,none⟩ (.string xa2)).setCell ⟨w.heap.size,2,none⟩ (.int .i64 na2)).heap[w.heap.size]?=some (.cells #[.int .i64 ka2,.string xa2,.int .i64 na2,.slice (some ⟨ga,oa,none⟩) [x].length kc1] 24 (0,0)):=(heap_setCell_same _ w.heap.size 2 _ 24 _ v2).trans rfl
   have v4:((((wr.setCell ⟨w.heap.size,0,none⟩ (.int .i64 ka2)).setCell ⟨w.heap.size,1,none⟩ (.string xa2)).setCell ⟨w.heap.size,2,none⟩ (.int .i64 na2)).setCell ⟨w.heap.size,3,none⟩ (.slice aa2 ma2 ca2)).heap[w.heap.size]?=some (.cells #[.int .i64 ka2,.string xa2,.int .i64 na2,.slice aa2 ma2 ca2] 24 (0,0)):=(heap_setCell_same _ w.heap.size 3 _ 24 _ v3).trans rfl
   have HH2:Hid (Held w0 false base w.heap.size (SizeOf.sizeOf x) ((((wr.setCell ⟨w.heap.size,0,none⟩ (.int .i64 ka2)).setCell ⟨w.heap.size,1,none⟩ (.string xa2)).setCell ⟨w.heap.size,2,none⟩ (.int .i64 na2)).setCell ⟨w.heap.size,3,none⟩ (.slice aa2 ma2 ca2))):=⟨x,_,rfl,hnda,hex2,by have:=HBb.out;simpa [baseN,baseL] using this,v4⟩
   have HB2:Hid (Below w.heap.size w ((((wr.setCell ⟨w.heap.size,0,none⟩ (.int .i64 ka2)).setCell ⟨w.heap.size,1,none⟩ (.string xa2)).setCell ⟨w.heap.size,2,none⟩ (.int .i64 na2)).setCell ⟨w.heap.size,3,none⟩ (.slice aa2 ma2 ca2))):=(((HBr.out.setCell (Nat.le_refl _) _).setCell (Nat.le_refl _) _).setCell (Nat.le_refl _) _).setCell (Nat.le_refl _) _
   have HLt:Hid (SizeOf.sizeOf x<mu):=by show _<_;rw [← HSz.out];exact kid_lt (by simp)
   have hgne:ga≠w.heap.size:=by have:=hb.size;omega
   clear qa0 qa1 qa2 qa3 v1 v2 v3 v4 hnda hR1 hwr hga
   go_wp2_with fail
   go_roundw
   case rel=>exact ⟨⟨_,HH2.out⟩,HB2.out⟩
   case measure=>exact Nat.lt_of_le_of_lt (least_le HH2.out) HLt.out
  ·have k24':(kd == 24)=false:=by simpa using k24
   have hbk:base=kd:=by rw [← HBb.out];simp [baseN,k24]
   have HF:Hid (decide (baseN false (.mk kind text num kids)=23)=(kd == 23)):=by
    show _=_
    rw [← HBs.out,hbk]
    by_cases q:kd=23<;>simp [q]
   clear k24 hbk HC hwr
   go_wp2_with fail
   go_ret
   exact ⟨by rw [HF.out];rfl,HBr.out⟩
theorem base_70 {w0 w:World} (hb:Below w0.heap.size w0 w) (n:Nd) (v:Value) (hv:NdO w0 n v) (hx:IsEx n):
  Calls Tryz.prog 149 #[v] w fun e w'=>e=.returned (.bool (decide (n.kind=25∧baseN true n=23)))∧Below w.heap.size w w':=by
 obtain ⟨kind,text,num,kids⟩:=n
 obtain ⟨ka,kc,rfl,t1,n1,n2,l1,l2,hR⟩:=hv.part
 have hB0:Below w.heap.size w (w.alloc (.cells #[.int .i64 kind,.string (str text),.int .i64 num,.slice ka kids.length kc] 24)):=(Below.refl _ _).alloc (Nat.le_refl _) _
 by_cases k25:kind=25
 rotate_left
 ·have k25':(kind != 25)=true:=by simpa using k25
  have HK:=hide k25
  have HB:=hide hB0
  clear k25 hB0 hR hv hx
  go_enter Tryz.func149,Tryz.ntmps149
  go_wp2_with fail
  go_ret
  exact ⟨by rw [decide_eq_false (fun h=>HK.out h.1)];rfl,HB.out⟩
 have HK25:=hide k25
 have k25':(kind != 25)=false:=by simpa using k25
 clear k25
 obtain ⟨base,hbase⟩:∃ base,base=baseN true (.mk kind text num kids):=⟨_,rfl⟩
 have hH:Held w0 true base w.heap.size (SizeOf.sizeOf (Nd.mk kind text num kids)) (w.alloc (.cells #[.int .i64 kind,.string (str text),.int .i64 num,.slice ka kids.length kc] 24)):=⟨_,_,rfl,hv,hx,hbase.symm,heap_new _ _ _⟩
 have HBs:=hide hbase
 have HH:=hide hH
 have hwb:Below w0.heap.size w0 (w.alloc (.cells #[.int .i64 kind,.string (str text),.int .i64 num,.slice ka kids.length kc] 24)):=hb.trans (hB0.mono hb.size)
 have HWb:=hide hwb
 have HB0:=hide hB0
 clear hv hx hR hbase hH hB0 hwb
 go_enter Tryz.func149,Tryz.ntmps149
 go_wp2_with fail
 generalize w.alloc (.cells #[.int .i64 kind,.string (str text),.int .i64 num,.slice ka kids.length kc] 24)=W at *
 go_loopw [] (fun wr=>Hid ((∃ k,Held w0 true base w.heap.size k wr)∧Below w.heap.size w wr)) (fun wr=>least fun k=>Held w0 true base w.heap.size k wr)
 case atStart=>exact ⟨⟨_,HH.out⟩,HB0.out⟩
 case round=>
  have hL:=least_spec hrel.out.1
  have HBr:=hide hrel.out.2
  generalize hmu:(least fun k=>Held w0 true base w.heap.size k wr)=mu at *
  have HMu:=hide hmu
  clear hmu hrel
  obtain ⟨m,vv,hsz,hnd,hex,hbs,hcell⟩:=hL
  obtain ⟨kd,tx,nm,ks⟩:=m
  obtain ⟨ka1,kc1,hvv,u1,u2,u3,u4,u5,hR1⟩:=hnd.part
  obtain rfl:vv=#[.int .i64 kd,.string (str tx),.int .i64 nm,.slice ka1 ks.length kc1]:=by simpa using hvv
  have hc:=cells_at hcell
  have hf:=frozen_at hcell
  have HC:=hide hcell
  have HSz:=hide hsz
  have HBb:=hide hbs
  have HEx:=hide hex
  clear hvv hsz hbs hcell hnd
  have hqs:w.heap.size<wr.heap.size:=(Array.getElem?_eq_some_iff.1 HC.out).1
  have hwr:Below w0.heap.size w0 wr:=hb.trans (HBr.out.mono hb.size)
  by_cases k25:kd=25
  ·subst k25
   obtain ⟨x,l,hks,hex2⟩:=ex_call HEx.out
   subst hks
   obtain ⟨ga,oa,ka2,xa2,na2,aa2,ma2,ca2,rfl,hga,qa0,qa1,qa2,qa3,hnda⟩:=hR1.kid0
   have e0:=below_cell hwr qa0
   have e1:=below_cell hwr qa1
   have e2:=below_cell hwr qa2
   have e3:=below_cell hwr qa3
   have v1:(wr.setCell ⟨w.heap.size,0,none⟩ (.int .i64 ka2)).heap[w.heap.size]?=some (.cells #[.int .i64 ka2,.string (str tx),.int .i64 nm,.slice (some ⟨ga,oa,none⟩) (x::l).length kc1] 24 (0,0)):=(heap_setCell_same wr w.heap.size 0 _ 24 _ HC.out).trans rfl
   have v2:((wr.setCell ⟨w.heap.size,0,none⟩ (.int .i64 ka2)).setCell ⟨w.heap.size,1,none⟩ (.string xa2)).heap[w.heap.size]?=some (.cells #[.int .i64 ka2,.string xa2,.int .i64 nm,.slice (some ⟨ga,oa,none⟩) (x::l).length kc1] 24 (0,0)):=(heap_setCell_same _ w.heap.size 1 _ 24 _ v1).trans rfl
   have v3:(((wr.setCell ⟨w.heap.size,0,none⟩ (.int .i64 ka2)).setCell ⟨w.heap.size,1,none⟩ (.string xa2)).setCell ⟨w.heap.size,2,none⟩ (.int .i64 na2)).heap[w.heap.size]?=some (.cells #[.int .i64 ka2,.string xa2,.int .i64 na2,.slice (some ⟨ga,oa,none⟩) (x::l).length kc1] 24 (0,0)):=(heap_setCell_same _ w.heap.size 2 _ 24 _ v2).trans rfl
   have v4:((((wr.setCell ⟨w.heap.size,0,none⟩ (.int .i64 ka2)).setCell ⟨w.heap.size,1,none⟩ (.string xa2)).setCell ⟨w.heap.size,2,none⟩ (.int .i64 na2)).setCell ⟨w.heap.size,3,none⟩ (.slice aa2 ma2 ca2)).heap[w.heap.size]?=some (.cells #[.int .i64 ka2,.string xa2,.int .i64 na2,.slice aa2 ma2 ca2] 24 (0,0)):=(heap_setCell_same _ w.heap.size 3 _ 24 _ v3).trans rfl
   have HH2:Hid (Held w0 true base w.heap.size (SizeOf.sizeOf x) ((((wr.setCell ⟨w.heap.size,0,none⟩ (.int .i64 ka2)).setCell ⟨w.heap.size,1,none⟩ (.string xa2)).setCell ⟨w.heap.size,2,none⟩ (.int .i64 na2)).setCell ⟨w.heap.size,3,none⟩ (.slice aa2 ma2 ca2))):=⟨x,_,rfl,hnda,hex2,by have:=HBb.out;simpa [baseN,baseL] using this,v4⟩
   have HB2:Hid (Below w.heap.size w ((((wr.setCell ⟨w.heap.size,0,none⟩ (.int .i64 ka2)).setCell ⟨w.heap.size,1,none⟩ (.string xa2)).setCell ⟨w.heap.size,2,none⟩ (.int .i64 na2)).setCell ⟨w.heap.size,3,none⟩ (.slice aa2 ma2 ca2))):=(((HBr.out.setCell (Nat.le_refl _) _).setCell (Nat.le_refl _) _).setCell (Nat.le_refl _) _).setCell (Nat.le_refl _) _
   have HLt:Hid (SizeOf.sizeOf x<mu):=by show _<_;rw [← HSz.out];exact kid_lt (by simp)
   have hgne:ga≠w.heap.size:=by have:=hb.size;omega
   clear qa0 qa1 qa2 qa3 v1 v2 v3 v4 hnda hR1 hwr hga
   go_wp2_with fail
   go_roundw
   case rel=>exact ⟨⟨_,HH2.out⟩,HB2.out⟩
   case measure=>exact Nat.lt_of_le_of_lt (least_le HH2.out) HLt.out
  have k25b:(kd == 25)=false:=by simpa using k25
  by_cases k24:kd=24
  ·subst k24
   obtain ⟨x,hks,hex2⟩:=ex_dot HEx.out
   subst hks
   obtain ⟨ga,oa,ka2,xa2,na2,aa2,ma2,ca2,rfl,hga,qa0,qa1,qa2,qa3,hnda⟩:=hR1.kid0
   have e0:=below_cell hwr qa0
   have e1:=below_cell hwr qa1
   have e2:=below_cell hwr qa2
   have e3:=below_cell hwr qa3
   have v1:(wr.setCell ⟨w.heap.size,0,none⟩ (.int .i64 ka2)).heap[w.heap.size]?=some (.cells #[.int .i64 ka2,.string (str tx),.int .i64 nm,.slice (some ⟨ga,oa,none⟩) [x].length kc1] 24 (0,0)):=(heap_setCell_same wr w.heap.size 0 _ 24 _ HC.out).trans rfl
   have v2:((wr.setCell ⟨w.heap.size,0,none⟩ (.int .i64 ka2)).setCell ⟨w.heap.size,1,none⟩ (.string xa2)).heap[w.heap.size]?=some (.cells #[.int .i64 ka2,.string xa2,.int .i64 nm,.slice (some ⟨ga,oa,none⟩) [x].length kc1] 24 (0,0)):=(heap_setCell_same _ w.heap.size 1 _ 24 _ v1).trans rfl
   have v3:(((wr.setCell ⟨w.heap.size,0,none⟩ (.int .i64 ka2)).setCell ⟨w.heap.size,1,none⟩ (.string xa2)).setCell ⟨w.heap.size,2,none⟩ (.int .i64 na2)).heap[w.heap.size]?=some (.cells #[.int .i64 ka2,.string xa2,.int .i64 na2,.slice (some ⟨ga,oa,none⟩) [x].length kc1] 24 (0,0)):=(heap_setCell_same _ w.heap.size 2 _ 24 _ v2).trans rfl
   have v4:((((wr.setCell ⟨w.heap.size,0,none⟩ (.int .i64 ka2)).setCell ⟨w.heap.size,1,none⟩ (.string xa2)).setCell ⟨w.heap.size,2,none⟩ (.int .i64 na2)).setCell ⟨w.heap.size,3,none⟩ (.slice aa2 ma2 ca2)).heap[w.heap.size]?=some (.cells #[.int .i64 ka2,.string xa2,.int .i64 na2,.slice aa2 ma2 ca2] 24 (0,0)):=(heap_setCell_same _ w.heap.size 3 _ 24 _ v3).trans rfl
   have HH2:Hid (Held w0 true base w.heap.size (SizeOf.sizeOf x) ((((wr.setCell ⟨w.heap.size,0,none⟩ (.int .i64 ka2)).setCell ⟨w.heap.size,1,none⟩ (.string xa2)).setCell ⟨w.heap.size,2,none⟩ (.int .i64 na2)).setCell ⟨w.heap.size,3,none⟩ (.slice aa2 ma2 ca2))):=⟨x,_,rfl,hnda,hex2,by have:=HBb.out;simpa [baseN,baseL] using this,v4⟩
   have HB2:Hid (Below w.heap.size w ((((wr.setCell ⟨w.heap.size,0,none⟩ (.int .i64 ka2)).setCell ⟨w.heap.size,1,none⟩ (.string xa2)).setCell ⟨w.heap.size,2,none⟩ (.int .i64 na2)).setCell ⟨w.heap.size,3,none⟩ (.slice aa2 ma2 ca2))):=(((HBr.out.setCell (Nat.le_refl _) _).setCell (Nat.le_refl _) _).setCell (Nat.le_refl _) _).setCell (Nat.le_refl _) _
   have HLt:Hid (SizeOf.sizeOf x<mu):=by show _<_;rw [← HSz.out];exact kid_lt (by simp)
   have hgne:ga≠w.heap.size:=by have:=hb.size;omega
   clear qa0 qa1 qa2 qa3 v1 v2 v3 v4 hnda hR1 hwr hga
   go_wp2_with fail
   go_roundw
   case rel=>exact ⟨⟨_,HH2.out⟩,HB2.out⟩
   case measure=>exact Nat.lt_of_le_of_lt (least_le HH2.out) HLt.out
  ·have k24':(kd == 24)=false:=by simpa using k24
   have hbk:base=kd:=by rw [← HBb.out];simp [baseN,k24,k25]
   have HF:Hid (decide (kind=25∧baseN true (.mk kind text num kids)=23)=(kd == 23)):=by
    show _=_
    rw [← HBs.out,hbk]
    have hk:=HK25.out;by_cases q:kd=23<;>simp [q,hk]
   clear k24 hbk HC hwr
   go_wp2_with fail
   go_ret
   exact ⟨by rw [show decide ((Nd.mk kind text num kids).kind=25∧baseN true (.mk kind text num kids)=23)=(kd == 23) from HF.out];rfl,HBr.out⟩
end Go.Proofs.YthcfianhdkolhaaGreatDoor.T
namespace Go.Proofs.YthcfianhdkolhaaGreatDoor.T
open Go.RowKit Go.Proofs.YthcfianhdkolhaaGreatDoor.S
set_option maxRecDepth 100000
set_option maxHeartbeats 2000000
set_option linter.unusedVariables false
set_option linter.unusedSimpArgs false

theorem dec_lib (n:Nat):Lib.decDigits n=decN n:=by
 induction n using Nat.strongRecOn with
 | ind n ih=>
  by_cases h:n<10
  ·rw [Lib.decDigits_one h,decN,dif_pos h]
  ·rw [Lib.decDigits,dif_neg h,decN,dif_neg h,ih (n / 10) (by omega)]
theorem tab_global : Tryz.prog.globalNamed "internal/strconv.uint64pow10" = some 5 := by kernel_rfl
abbrev TabW (w : World) : Prop := Lib.TabIs Tryz.prog w "internal/strconv.uint64pow10" .u64 Lib.pow10Tab
theorem tab_below {w w':World} (h:TabW w) (hb:Below w.heap.size w w'):TabW w':=by
 unfold TabW Lib.TabIs World.var? at *
 rw [tab_global] at *
 simp only [Option.bind_some] at *
 rcases Nat.lt_or_ge 5 w.heap.size with hl|hl
 ·rw [hb.block 5 hl]
  exact h
 ·simp [Array.getElem?_eq_none hl] at h
theorem sh_n21 (t:List UInt8) (v:Nat) (l:List Nd):shT (.mk 21 t (v:Int) l)=[⟨2,decN v⟩]:=by
 rw [shT_mk];simp [shK,numT]
theorem sh_n22 (t:List UInt8) (v:Nat) (l:List Nd):shT (.mk 22 t (v:Int) l)=[⟨3,decN v⟩]:=by
 rw [shT_mk];simp [shK,numT]
theorem dec_len20 (n:Nat) (h:n≤9223372036854775807):(decN n).length≤21:=by
 rw [← dec_lib,← Lib.itoa_nonneg]
 exact Lib.itoa_length_le _ (by omega) (by omega)
theorem St.setNew {w w1:World} (h:St w w1) {q o:Nat} {u:Value} (hq:w.heap.size≤q):St w (w1.setCell ⟨q,o,none⟩ u):=⟨by have:=h.size;simpa [World.setCell] using this,fun k cur t z h9 h36 hk=>(Below.heap_setCell _ _ _ k (fun e=>by
 have e':k=q:=e
 have:=(Array.getElem?_eq_some_iff.1 hk).1
 omega)).trans (h.keeps k cur t z h9 h36 hk)⟩
theorem Pt.setNode {w0 w:World} {b:Nat} {T:List (List UInt8)} (h:Pt w0 w b T) {q:Nat} {cur:Array Value} (hq:w.heap[q]?=some (.cells cur 24 (0,0))) (hl:w0.heap.size≤q) {o:Nat} (u:Value):Pt w0 (w.setCell ⟨q,o,none⟩ u) b T:=by
 obtain ⟨v,h1,h2⟩:=h.blk
 have hbq:b≠q:=fun e=>by rw [e,hq] at h1;simp at h1
 refine ⟨h.low,h.base.setCell hl _,v,(Below.heap_setCell _ _ _ b (fun e=>hbq e)).trans h1,ownsRow_setCell_other h2 (fun e=>?_) _⟩
 rcases h2.2 with ⟨rfl,_⟩|⟨g,cap,cu,rfl,_,hh,_⟩
 ·simp [Value.ownBlock] at e
 ·have e':g=q:=by simpa [Value.ownBlock] using e
  rw [e',hq] at hh
  simp at hh
def NumP (k:Int) (t:List UInt8) (v:Int) (n:Nat):Prop:=knB k t v n=true∧(k=21∨k=22)
theorem number_any {w0:World} (hG:Gl w0) (hTb:TabW w0) {w:World} {b:Nat} {T:List (List UInt8)} (hP:Pt w0 w b T) (kind:Int) (text:List UInt8) (num:Int) (kids:List Nd) (ka:Option Addr) (kc:Nat) (t1:text.length≤9223372036854775807) (n1:-9223372036854775808≤num) (n2:num≤9223372036854775807) (l1:kids.length≤9223372036854775807) (hT:T.length+9≤1000000000000):
  Calls Tryz.prog 107 #[.pointer (some ⟨b,0,none⟩),.agg #[.int .i64 kind,.string (str text),.int .i64 num,.slice ka kids.length kc]] w (PostP (NumP kind text num kids.length) w0 w b T (shT (.mk kind text num kids))):=by
 have HP0:Hid (Pt w0 (w.alloc (.cells #[.int .i64 kind,.string (str text),.int .i64 num,.slice ka kids.length kc] 24)) b T):=hP.alloc _
 have HS0:Hid (St w (w.alloc (.cells #[.int .i64 kind,.string (str text),.int .i64 num,.slice ka kids.length kc] 24))):=St.alloc _ _
 have HN0:=hide (heap_new w #[.int .i64 kind,.string (str text),.int .i64 num,.slice ka kids.length kc] 24)
 have hkn:=know_any kind text num ka kids.length kc _ ((hG.below hP.base).below ((Below.refl _ _).alloc (Nat.le_refl _) (.cells #[.int .i64 kind,.string (str text),.int .i64 num,.slice ka kids.length kc] 24))) t1 (by omega)
 have HFm:Hid (∀ w',Below w0.heap.size w0 w'→Calls Tryz.prog 129 #[.int .i64 num,.int .i64 10] w' fun e w''=>e=.returned (.string ⟨(Lib.itoa num).toArray⟩)∧Below w'.heap.size w' w''):=fun w' hb=>(Tryz.strconv_FormatInt_10 num n1 n2 w' (tab_below hTb hb)).mono (fun e w'' ⟨h1,k,os,h2⟩=>⟨h1,by rw [h2];exact Lib.below_grow _ _ (Nat.le_refl _) _ _⟩)
 clear hP hG hTb
 go_enter Tryz.func107,Tryz.ntmps107
 go_wp2_with fail
 go_at_call 75
 refine hkn.mono ?_
 rintro e w1 ⟨⟨hk,rfl⟩|⟨hk,rfl⟩,hb1⟩
 rotate_left
 ·exact ⟨rfl,PostP.no (fun h=>by rw [h.1] at hk;cases hk) (HP0.out.below hb1).base⟩
 have HK:=hide hk
 have HP1:=hide (HP0.out.below hb1)
 have HS1:=hide (HS0.out.trans (St.below hb1))
 have hn1:=(St.below hb1).node HN0.out
 have HN1:=hide (((St.below hb1).nodes _ _ _ HN0.out).trans HN0.out)
 obtain ⟨u,rfl⟩:∃ u:Nat,num=u:=⟨num.toNat,by have:=(kn_iff.1 hk).2.2.1;omega⟩
 have hst:(⟨(Lib.itoa (u:Int)).toArray⟩:ByteArray)=str (decN u):=by rw [Lib.itoa_nonneg,dec_lib];rfl
 rw [hst] at HFm
 have hd21:(str (decN u)).size≤21:=dec_len20 u (by omega)
 clear hk hb1 hkn HP0 HS0 HN0 hst
 generalize hds:str (decN u)=ds at *
 have HDs:=hide hds
 clear hds
 go_wp2_with fail
 go_at_call 129
 refine (HFm.out _ HP1.out.base).mono ?_
 rintro e w2 ⟨rfl,hb2⟩
 have HP2:=hide (HP1.out.below hb2)
 have HS2:=hide (HS1.out.trans (St.below hb2))
 have hn2:=(St.below hb2).node HN1.out
 clear hb2 hn1 HFm
 by_cases k22:kind=22
 ·subst k22
  have hds2:(ds++(⟨#[76]⟩:ByteArray))=str (decN u++[76]):=by
   rw [← HDs.out]
   apply ByteArray.ext
   apply Array.toList_inj.1
   simp [str]
  go_wp2_with fail
  go_at_call 77
  refine (add_new HP2.out [decN u++[76]] _ (by first|rfl|(rw [hds2];rfl)) 1 rfl (by omega) (by omega) _ (by simp)).mono ?_
  rintro e w3 ⟨rfl,hP3,hS3⟩
  have HP3:=hide hP3
  have HS3:=hide (HS2.out.trans hS3)
  clear hP3 hS3
  go_wp2_with fail
  go_end0
  exact PostP.ok ⟨HK.out,Or.inr rfl⟩ (HP3.out.app (by rw [sh_n22];rfl)) HS3.out
 have k22':(kind == 22)=false:=by simpa using k22
 by_cases k21:kind=21
 ·subst k21
  clear k22 k22'
  go_wp2_with fail
  go_at_call 77
  refine (add_new HP2.out [decN u] _ (by rw [← HDs.out];rfl) 1 rfl (by omega) (by omega) _ (by simp)).mono ?_
  rintro e w3 ⟨rfl,hP3,hS3⟩
  have HP3:=hide hP3
  have HS3:=hide (HS2.out.trans hS3)
  clear hP3 hS3
  go_wp2_with fail
  go_end0
  exact PostP.ok ⟨HK.out,Or.inl rfl⟩ (HP3.out.app (by rw [sh_n21];rfl)) HS3.out
 have k21':(kind == 21)=false:=by simpa using k21
 have HNo:Hid (¬ NumP kind text u kids.length):=fun h=>by have:=h.2;omega
 clear k21 k22
 go_wp2_with fail
 exact ⟨rfl,PostP.no HNo.out HP2.out.base⟩
def NumV (n:Nd):Prop:=∃ v,(n=.mk 21 [] v []∧-2147483647≤v∧v≤2147483647)∨(n=.mk 22 [] v []∧-9223372036854775807≤v∧v≤9223372036854775807)
theorem num_kn {k:Int} {t:List UInt8} {v:Int} {kids:List Nd} (h0:0≤v) (h1:v≤9223372036854775807):NumP k t v kids.length ↔ NumV (.mk k t v kids):=by
 constructor
 ·rintro ⟨hk,rfl|rfl⟩
  ·obtain ⟨_,h2,h3,h4,h5,h6⟩:=kn_iff.1 hk
   have h6':(kids.length:Int)≤0:=h6
   have h4':v≤2147483647:=h4
   obtain rfl:=nil_of h6'
   obtain rfl:=txt_f h2
   exact ⟨v,Or.inl ⟨rfl,by omega,h4'⟩⟩
  ·obtain ⟨_,h2,h3,h4,h5,h6⟩:=kn_iff.1 hk
   have h6':(kids.length:Int)≤0:=h6
   obtain rfl:=nil_of h6'
   obtain rfl:=txt_f h2
   exact ⟨v,Or.inr ⟨rfl,by omega,h1⟩⟩
 ·rintro ⟨u,⟨e,e1,e2⟩|⟨e,e1,e2⟩⟩
  ·injection e with q1 q2 q3 q4
   subst q1 q2 q3 q4
   exact ⟨kn_iff.2 ⟨by decide,rfl,h0,e2,by decide,by decide⟩,Or.inl rfl⟩
  ·injection e with q1 q2 q3 q4
   subst q1 q2 q3 q4
   exact ⟨kn_iff.2 ⟨by decide,rfl,h0,e2,by decide,by decide⟩,Or.inr rfl⟩
theorem num_neg {k:Int} {t:List UInt8} {v:Int} {kids:List Nd} (h0:v<0) (h1:-9223372036854775807≤v):NumV (.mk k t (-v) kids) ↔ NumV (.mk k t v kids):=by
 constructor
 ·rintro ⟨u,⟨e,e1,e2⟩|⟨e,e1,e2⟩⟩
  ·injection e with q1 q2 q3 q4
   subst q1 q2 q4
   exact ⟨v,Or.inl ⟨rfl,by omega,by omega⟩⟩
  ·injection e with q1 q2 q3 q4
   subst q1 q2 q4
   exact ⟨v,Or.inr ⟨rfl,by omega,by omega⟩⟩
 ·rintro ⟨u,⟨e,e1,e2⟩|⟨e,e1,e2⟩⟩
  ·injection e with q1 q2 q3 q4
   subst q1 q2 q4
   exact ⟨-v,Or.inl ⟨rfl,by omega,by omega⟩⟩
  ·injection e with q1 q2 q3 q4
   subst q1 q2 q4
   exact ⟨-v,Or.inr ⟨rfl,by omega,by omega⟩⟩
theorem sh_neg {k:Int} {t:List UInt8} {v:Int} {kids:List Nd} (h0:v<0) (hk:k=21∨k=22):shT (.mk k t v kids)=sg sMINUS::shT (.mk k t (-v) kids):=by
 have h1:¬ -v<0:=by omega
 rcases hk with rfl|rfl
 ·rw [shT_mk,shT_mk];simp [shK,numT,h0,h1];omega
 ·rw [shT_mk,shT_mk];simp [shK,numT,h0,h1];omega
theorem value_any {w0:World} (hG:Gl w0) (hTb:TabW w0) {w:World} {b:Nat} {T:List (List UInt8)} (hP:Pt w0 w b T) (n:Nd) (v:Value) (hv:NdO w0 n v) (hT:T.length+10≤1000000000000):
  Calls Tryz.prog 81 #[.pointer (some ⟨b,0,none⟩),v] w (PostP (NumV n) w0 w b T (shT n)):=by
 obtain ⟨kind,text,num,kids⟩:=n
 obtain ⟨ka,kc,rfl,t1,n1,n2,l1,l2,hR⟩:=hv.part
 have HP0:Hid (Pt w0 (w.alloc (.cells #[.int .i64 kind,.string (str text),.int .i64 num,.slice ka kids.length kc] 24)) b T):=hP.alloc _
 have HS0:Hid (St w (w.alloc (.cells #[.int .i64 kind,.string (str text),.int .i64 num,.slice ka kids.length kc] 24))):=St.alloc _ _
 have HN0:=hide (heap_new w #[.int .i64 kind,.string (str text),.int .i64 num,.slice ka kids.length kc] 24)
 have HNb:Hid (∀ nm:Int,-9223372036854775808≤nm→nm≤9223372036854775807→∀ w' T',Pt w0 w' b T'→T'.length+9≤1000000000000→Calls Tryz.prog 107 #[.pointer (some ⟨b,0,none⟩),.agg #[.int .i64 kind,.string (str text),.int .i64 nm,.slice ka kids.length kc]] w' (PostP (NumP kind text nm kids.length) w0 w' b T' (shT (.mk kind text nm kids)))):=fun nm h1 h2 w' T' hp ht=>number_any hG hTb hp kind text nm kids ka kc t1 h1 h2 (by omega) ht
 have HLow:=hide hP.base.size
 clear hP hG hTb hR hv
 by_cases h0:num<0
 rotate_left
 ·have hnn:¬ num<0:=h0
  go_enter Tryz.func81,Tryz.ntmps81
  go_wp2_with fail
  go_at_call 107
  refine (HNb.out num n1 n2 _ T HP0.out (by omega)).mono ?_
  rintro e w1 (⟨hp,rfl,hP1,hS1⟩|⟨hp,rfl,hB1⟩)
  rotate_left
  ·exact ⟨rfl,PostP.no (fun h=>hp ((num_kn (by omega) n2).2 h)) hB1⟩
  have HA:=hide ((num_kn (by omega) n2).1 hp)
  have HP1:=hide hP1
  have HS1:=hide (HS0.out.trans hS1)
  clear hp hP1 hS1
  go_wp2_with fail
  go_end0
  exact PostP.ok HA.out HP1.out HS1.out
 go_enter Tryz.func81,Tryz.ntmps81
 go_wp2_with fail
 go_at_call 77
 refine (add_new HP0.out [sMINUS] _ rfl 1 rfl (by omega) (by (try simp only [List.length_append,List.length_cons,List.length_nil,txs_len]);omega) _ (by simp)).mono ?_
 rintro e w1 ⟨rfl,hP1,hS1⟩
 have HP1:=hide hP1
 have HS1:=hide (HS0.out.trans hS1)
 have hn1:=hS1.node HN0.out
 have HN1:=hide ((hS1.nodes _ _ _ HN0.out).trans HN0.out)
 clear hP1 hS1
 have hfz:=frozen_at HN1.out
 by_cases hmin:num=-9223372036854775808
 ·have hwn:IntKind.i64.wrap (-num)=num:=by rw [hmin];decide
  have HPs:Hid (Pt w0 (w1.setCell ⟨w.heap.size,2,none⟩ (.int .i64 num)) b (T++[sMINUS])):=HP1.out.setNode HN1.out HLow.out _
  have HM:=hide hmin
  clear hmin
  go_wp2_with fail
  go_at_call 107
  refine (HNb.out num n1 n2 _ _ HPs.out (by rw [List.length_append];simp only [List.length_cons,List.length_nil];omega)).mono ?_
  rintro e w2 (⟨hp,rfl,hP2,hS2⟩|⟨hp,rfl,hB2⟩)
  ·exact absurd (kn_iff.1 hp.1).2.2.1 (by omega)
  ·refine ⟨rfl,PostP.no (fun h=>?_) hB2⟩
   have hm:=HM.out
   obtain ⟨u,⟨e,e1,e2⟩|⟨e,e1,e2⟩⟩:=h<;>(injection e with q1 q2 q3 q4;omega)
 have hwn:IntKind.i64.wrap (-num)=-num:=by rw [IntKind.wrap_i64];omega
 have HPs:Hid (Pt w0 (w1.setCell ⟨w.heap.size,2,none⟩ (.int .i64 (-num))) b (T++[sMINUS])):=HP1.out.setNode HN1.out HLow.out _
 have HSs:Hid (St w (w1.setCell ⟨w.heap.size,2,none⟩ (.int .i64 (-num)))):=HS1.out.setNew (Nat.le_refl _)
 go_wp2_with fail
 go_at_call 107
 refine (HNb.out (-num) (by omega) (by omega) _ _ HPs.out (by rw [List.length_append];simp only [List.length_cons,List.length_nil];omega)).mono ?_
 rintro e w2 (⟨hp,rfl,hP2,hS2⟩|⟨hp,rfl,hB2⟩)
 rotate_left
 ·exact ⟨rfl,PostP.no (fun h=>hp ((num_kn (by omega) (by omega)).2 ((num_neg h0 (by omega)).2 h))) hB2⟩
 have hkd:=hp.2
 have HA:=hide ((num_neg h0 (by omega)).1 ((num_kn (by omega) (by omega)).1 hp))
 have HP2:Hid (Pt w0 w2 b (T++txs (shT (.mk kind text num kids)))):=by
  show Pt _ _ _ _
  rw [sh_neg h0 hkd,txs_cons,raw_sg]
  simpa using hP2
 have HS2:=hide (HSs.out.trans hS2)
 clear hp hP2 hS2
 go_wp2_with fail
 go_end0
 exact PostP.ok HA.out HP2.out HS2.out
end Go.Proofs.YthcfianhdkolhaaGreatDoor.T
