/- PcC LaidZ PcD -/
import Derived.Test.YthcfianhdkolhaaGreatDoorShelf
import Derived.Test.YthcfianhdkolhaaGreatDoorPcB
import Derived.Test.YthcfianhdkolhaaGreatDoorPrO
import Derived.Test.YthcfianhdkolhaaGreatDoorLaidP
namespace Go.Proofs.YthcfianhdkolhaaGreatDoor.Y
open Go.RowKit Go.Proofs.YthcfianhdkolhaaGreatDoor.T Go.Proofs.YthcfianhdkolhaaGreatDoor.S
open Go.Proofs.YthcfianhdkolhaaGreatDoor.X (Tok toks scan pscan_any)
set_option maxRecDepth 100000
set_option maxHeartbeats 2000000
set_option linter.unusedVariables false
set_option linter.unusedSimpArgs false
variable {w w' : World} {b g : Nat} {m : Value} {ts : List Tok} {t : Tok}
structure Wf (w0 w:World) (L:List Bk):Prop where
 grown:w0.grownBy w none
 blk:∀ x,x∈L→w0.heap.size≤x.1∧w.heap[x.1]?=some (.cells x.2.1 x.2.2 (0,0))
 ord:L.Pairwise (fun x y=>x.1≠y.1)
variable {w0 : World} {L : List Bk}
theorem Wf.start (w:World):Wf w w []:=⟨⟨rfl,rfl,rfl,Nat.le_refl _,fun _ _ _=>rfl⟩,fun x hx=>by simp at hx,List.Pairwise.nil⟩
theorem Wf.lt (h:Wf w0 w L):∀ x,x∈L→x.1<w.heap.size:=fun x hx=>(Array.getElem?_eq_some_iff.1 (h.blk x hx).2).1
theorem Wf.alloc' (h:Wf w0 w L) (q:Nat) (hq:w.heap.size=q) (cs:Array Value) (T:TypeId):Wf w0 (w.alloc (.cells cs T)) ((q,cs,T)::L):=by
 subst hq
 refine ⟨grown_none h.grown (grown_alloc w _),fun x hx=>?_,List.Pairwise.cons (fun x hx=>?_) h.ord⟩
 ·rcases List.mem_cons.1 hx with rfl|hx
  ·exact ⟨h.grown.size,heap_new w cs T⟩
  ·exact ⟨(h.blk x hx).1,(Below.heap_alloc w _ _ (h.lt x hx)).trans (h.blk x hx).2⟩
 ·have:=h.lt x hx
  show w.heap.size≠x.1
  omega
theorem Wf.quiet (h:Wf w0 w L) (hG:w.grownBy w' none):Wf w0 w' L:=
 ⟨grown_none h.grown hG,fun x hx=>⟨(h.blk x hx).1,(hG.block x.1 (h.lt x hx) (by simp)).trans (h.blk x hx).2⟩,h.ord⟩
theorem Wf.set (L1 L2:List Bk) {q:Nat} {cs:Array Value} {T:TypeId} (h:Wf w0 w (L1++(q,cs,T)::L2)) (i:Nat) (v:Value):Wf w0 (w.setCell ⟨q,i,none⟩ v) (L1++(q,cs.setIfInBounds i v,T)::L2):=by
 obtain ⟨p1,p2,p3,p4⟩:=pairwise_mid (c':=cs.setIfInBounds i v) (T':=T) h.ord
 have hq:=h.blk (q,cs,T) (by simp)
 refine ⟨grown_set h.grown hq.1,fun x hx=>?_,p1⟩
 rcases List.mem_append.1 hx with hx|hx
 ·have:=h.blk x (by simp [hx])
  exact ⟨this.1,(heap_setCell_other _ _ _ _ (p2 x hx)).trans this.2⟩
 ·rcases List.mem_cons.1 hx with rfl|hx
  ·exact ⟨hq.1,heap_setCell_same w q i _ _ _ hq.2⟩
  ·have:=h.blk x (by simp [hx])
   exact ⟨this.1,(heap_setCell_other _ _ _ _ (fun e=>p3 x hx e.symm)).trans this.2⟩
theorem Wf.set4 (L1 L2:List Bk) {q:Nat} {c0 c1 c2 c3:Value} {T:TypeId} (h:Wf w0 w (L1++(q,#[c0,c1,c2,c3],T)::L2)) (x0 x1 x2 x3:Value):Wf w0 ((((w.setCell ⟨q,0,none⟩ x0).setCell ⟨q,1,none⟩ x1).setCell ⟨q,2,none⟩ x2).setCell ⟨q,3,none⟩ x3) (L1++(q,#[x0,x1,x2,x3],T)::L2):=
 ((((h.set L1 L2 0 x0).set L1 L2 1 x1).set L1 L2 2 x2).set L1 L2 3 x3)
theorem Wf.given {w1:World} {n:Nd} {v:Value} (h:Wf w0 w L) (k:NdV w1 (fun k=>w.heap.size≤k) n v):NdV w1 (Av w.heap.size L) n v:=k.mono (fun k hk _=>⟨hk,fun x hx=>by have:=h.lt x hx;have hk:w.heap.size≤k:=hk;omega⟩)
theorem Wf.c0 {q:Nat} {cs:Array Value} {T:TypeId} (h:Wf w0 w ((q,cs,T)::L)):∀ o,w.cell? ⟨q,o,none⟩=cs[o]?:=cells_at (h.blk (q,cs,T) List.mem_cons_self).2
theorem Wf.f0 {q:Nat} {cs:Array Value} {T:TypeId} (h:Wf w0 w ((q,cs,T)::L)):∀ o,w.frozen? ⟨q,o,none⟩=false:=frozen_at (h.blk (q,cs,T) List.mem_cons_self).2
theorem Wf.l0 {q:Nat} {cs:Array Value} {T:TypeId} (h:Wf w0 w ((q,cs,T)::L)):q<w.heap.size:=h.lt (q,cs,T) List.mem_cons_self
theorem Wf.r00 {q:Nat} {c0 c1:Value} {T:TypeId} (h:Wf w0 w ((q,#[c0,c1],T)::L)) (v:Value):Wf w0 (w.setCell ⟨q,0,none⟩ v) ((q,#[v,c1],T)::L):=h.set [] L 0 v
theorem Wf.mr00 {q s:Nat} {c0 c1 v:Value} {T:TypeId} (h:Wf w0 (w.setCell ⟨q,0,none⟩ v) ((q,#[v,c1],T)::L)):Mv w (w.setCell ⟨q,0,none⟩ v) (Av s ((q,#[c0,c1],T)::L)) (Av s ((q,#[v,c1],T)::L)):=Mv.set [] L w v
theorem Wf.r01 {q:Nat} {c0 c1:Value} {T:TypeId} (h:Wf w0 w ((q,#[c0,c1],T)::L)) (v:Value):Wf w0 (w.setCell ⟨q,1,none⟩ v) ((q,#[c0,v],T)::L):=h.set [] L 1 v
theorem Wf.mr01 {q s:Nat} {c0 c1 v:Value} {T:TypeId} (h:Wf w0 (w.setCell ⟨q,1,none⟩ v) ((q,#[c0,v],T)::L)):Mv w (w.setCell ⟨q,1,none⟩ v) (Av s ((q,#[c0,c1],T)::L)) (Av s ((q,#[c0,v],T)::L)):=Mv.set [] L w v
theorem Wf.c1 {y0:Bk} {q:Nat} {cs:Array Value} {T:TypeId} (h:Wf w0 w (y0::(q,cs,T)::L)):∀ o,w.cell? ⟨q,o,none⟩=cs[o]?:=cells_at (h.blk (q,cs,T) (List.mem_cons_of_mem _ List.mem_cons_self)).2
theorem Wf.f1 {y0:Bk} {q:Nat} {cs:Array Value} {T:TypeId} (h:Wf w0 w (y0::(q,cs,T)::L)):∀ o,w.frozen? ⟨q,o,none⟩=false:=frozen_at (h.blk (q,cs,T) (List.mem_cons_of_mem _ List.mem_cons_self)).2
theorem Wf.l1 {y0:Bk} {q:Nat} {cs:Array Value} {T:TypeId} (h:Wf w0 w (y0::(q,cs,T)::L)):q<w.heap.size:=h.lt (q,cs,T) (List.mem_cons_of_mem _ List.mem_cons_self)
theorem Wf.r10 {y0:Bk} {q:Nat} {c0 c1:Value} {T:TypeId} (h:Wf w0 w (y0::(q,#[c0,c1],T)::L)) (v:Value):Wf w0 (w.setCell ⟨q,0,none⟩ v) (y0::(q,#[v,c1],T)::L):=h.set [y0] L 0 v
theorem Wf.r11 {y0:Bk} {q:Nat} {c0 c1:Value} {T:TypeId} (h:Wf w0 w (y0::(q,#[c0,c1],T)::L)) (v:Value):Wf w0 (w.setCell ⟨q,1,none⟩ v) (y0::(q,#[c0,v],T)::L):=h.set [y0] L 1 v
theorem Wf.c2 {y0 y1:Bk} {q:Nat} {cs:Array Value} {T:TypeId} (h:Wf w0 w (y0::y1::(q,cs,T)::L)):∀ o,w.cell? ⟨q,o,none⟩=cs[o]?:=cells_at (h.blk (q,cs,T) (List.mem_cons_of_mem _ (List.mem_cons_of_mem _ List.mem_cons_self))).2
theorem Wf.f2 {y0 y1:Bk} {q:Nat} {cs:Array Value} {T:TypeId} (h:Wf w0 w (y0::y1::(q,cs,T)::L)):∀ o,w.frozen? ⟨q,o,none⟩=false:=frozen_at (h.blk (q,cs,T) (List.mem_cons_of_mem _ (List.mem_cons_of_mem _ List.mem_cons_self))).2
theorem Wf.l2 {y0 y1:Bk} {q:Nat} {cs:Array Value} {T:TypeId} (h:Wf w0 w (y0::y1::(q,cs,T)::L)):q<w.heap.size:=h.lt (q,cs,T) (List.mem_cons_of_mem _ (List.mem_cons_of_mem _ List.mem_cons_self))
theorem Wf.s2 {y0 y1:Bk} {q:Nat} {c0 c1 c2 c3:Value} {T:TypeId} (h:Wf w0 w (y0::y1::(q,#[c0,c1,c2,c3],T)::L)) (x0 x1 x2 x3:Value):Wf w0 ((((w.setCell ⟨q,0,none⟩ x0).setCell ⟨q,1,none⟩ x1).setCell ⟨q,2,none⟩ x2).setCell ⟨q,3,none⟩ x3) (y0::y1::(q,#[x0,x1,x2,x3],T)::L):=h.set4 [y0,y1] L x0 x1 x2 x3
theorem Wf.r20 {y0 y1:Bk} {q:Nat} {c0 c1:Value} {T:TypeId} (h:Wf w0 w (y0::y1::(q,#[c0,c1],T)::L)) (v:Value):Wf w0 (w.setCell ⟨q,0,none⟩ v) (y0::y1::(q,#[v,c1],T)::L):=h.set [y0,y1] L 0 v
theorem Wf.mr20 {y0 y1:Bk} {q s:Nat} {c0 c1 v:Value} {T:TypeId} (h:Wf w0 (w.setCell ⟨q,0,none⟩ v) (y0::y1::(q,#[v,c1],T)::L)):Mv w (w.setCell ⟨q,0,none⟩ v) (Av s (y0::y1::(q,#[c0,c1],T)::L)) (Av s (y0::y1::(q,#[v,c1],T)::L)):=Mv.set [y0,y1] L w v
theorem Wf.r21 {y0 y1:Bk} {q:Nat} {c0 c1:Value} {T:TypeId} (h:Wf w0 w (y0::y1::(q,#[c0,c1],T)::L)) (v:Value):Wf w0 (w.setCell ⟨q,1,none⟩ v) (y0::y1::(q,#[c0,v],T)::L):=h.set [y0,y1] L 1 v
theorem Wf.mr21 {y0 y1:Bk} {q s:Nat} {c0 c1 v:Value} {T:TypeId} (h:Wf w0 (w.setCell ⟨q,1,none⟩ v) (y0::y1::(q,#[c0,v],T)::L)):Mv w (w.setCell ⟨q,1,none⟩ v) (Av s (y0::y1::(q,#[c0,c1],T)::L)) (Av s (y0::y1::(q,#[c0,v],T)::L)):=Mv.set [y0,y1] L w v
theorem Wf.c3 {y0 y1 y2:Bk} {q:Nat} {cs:Array Value} {T:TypeId} (h:Wf w0 w (y0::y1::y2::(q,cs,T)::L)):∀ o,w.cell? ⟨q,o,none⟩=cs[o]?:=cells_at (h.blk (q,cs,T) (List.mem_cons_of_mem _ (List.mem_cons_of_mem _ (List.mem_cons_of_mem _ List.mem_cons_self)))).2
theorem Wf.f3 {y0 y1 y2:Bk} {q:Nat} {cs:Array Value} {T:TypeId} (h:Wf w0 w (y0::y1::y2::(q,cs,T)::L)):∀ o,w.frozen? ⟨q,o,none⟩=false:=frozen_at (h.blk (q,cs,T) (List.mem_cons_of_mem _ (List.mem_cons_of_mem _ (List.mem_cons_of_mem _ List.mem_cons_self)))).2
theorem Wf.l3 {y0 y1 y2:Bk} {q:Nat} {cs:Array Value} {T:TypeId} (h:Wf w0 w (y0::y1::y2::(q,cs,T)::L)):q<w.heap.size:=h.lt (q,cs,T) (List.mem_cons_of_mem _ (List.mem_cons_of_mem _ (List.mem_cons_of_mem _ List.mem_cons_self)))
theorem Wf.s3 {y0 y1 y2:Bk} {q:Nat} {c0 c1 c2 c3:Value} {T:TypeId} (h:Wf w0 w (y0::y1::y2::(q,#[c0,c1,c2,c3],T)::L)) (x0 x1 x2 x3:Value):Wf w0 ((((w.setCell ⟨q,0,none⟩ x0).setCell ⟨q,1,none⟩ x1).setCell ⟨q,2,none⟩ x2).setCell ⟨q,3,none⟩ x3) (y0::y1::y2::(q,#[x0,x1,x2,x3],T)::L):=h.set4 [y0,y1,y2] L x0 x1 x2 x3
theorem Wf.ms3 {y0 y1 y2:Bk} {q s:Nat} {c0 c1 c2 c3 x0 x1 x2 x3:Value} {T:TypeId} (h:Wf w0 ((((w.setCell ⟨q,0,none⟩ x0).setCell ⟨q,1,none⟩ x1).setCell ⟨q,2,none⟩ x2).setCell ⟨q,3,none⟩ x3) (y0::y1::y2::(q,#[x0,x1,x2,x3],T)::L)):Mv w ((((w.setCell ⟨q,0,none⟩ x0).setCell ⟨q,1,none⟩ x1).setCell ⟨q,2,none⟩ x2).setCell ⟨q,3,none⟩ x3) (Av s (y0::y1::y2::(q,#[c0,c1,c2,c3],T)::L)) (Av s (y0::y1::y2::(q,#[x0,x1,x2,x3],T)::L)):=Mv.set4 [y0,y1,y2] L w x0 x1 x2 x3
theorem Wf.ma {q s:Nat} {cs:Array Value} {T:TypeId} (h:Wf w0 (w.alloc (.cells cs T)) ((q,cs,T)::L)) (hq:w.heap.size=q):Mv w (w.alloc (.cells cs T)) (Av s L) (Av s ((q,cs,T)::L)):=Mv.alloc' w q hq cs T s L
def PaNo (t:ByteArray) (c a:Int):Prop:=(c≠0∧(scan t).2.1=c∧((scan t).2.2:Int)=a)∨((scan t).2.1=0∧((∃ r,r <:+ (scan t).1∧R (.unitL []) (tk (scan t).1) (.no (tk r))∧c=2∧a=atOf t.size r)∨(∃ n,R (.unitL []) (tk (scan t).1) (.ok (.nd n) [])∧fitB n=false∧c=1∧a=0)))
theorem PaNo.ne {t:ByteArray} {c a:Int} (h:PaNo t c a):c≠0:=by
 rcases h with ⟨h,_⟩|⟨_,⟨r,_,_,rfl,_⟩|⟨n,_,_,rfl,_⟩⟩
 ·exact h
 ·decide
 ·decide
def PostX (w:World) (t:ByteArray) (e:Ending) (w':World):Prop:=w.grownBy w' none ∧
 ((∃ n v,(scan t).2.1=0∧R (.unitL []) (tk (scan t).1) (.ok (.nd n) [])∧fitB n=true∧e=.returned (.tuple #[v,.agg #[.int .i64 0,.int .i64 0]])∧NdV w' (fun k=>w.heap.size≤k) n v) ∨
  (∃ c a,PaNo t c a∧e=.returned (.tuple #[zNode,.agg #[.int .i64 c,.int .i64 a]])))
theorem parse_post (hX:X.Gl w) (hT:T.Gl w) (t:ByteArray) (hm:t.size≤9223372036854775807):Calls Tryz.prog 6 #[.string t] w (PostX w t):=by
 have HW:Hid (Wf w w []):=Wf.start w
 have HX:=hide hX
 have HT:=hide hT
 clear hX hT
 go_enter Tryz.func6,Tryz.ntmps6
 replace HW:=hide (HW.out.alloc' w.heap.size (by simp) #[.int .i64 0,.string ⟨#[]⟩,.int .i64 0,.slice none 0 0] 24)
 replace HW:=hide (HW.out.alloc' (w.heap.size+1) (by simp) #[.int .i64 0,.int .i64 0] 27)
 go_wp2_with fail
 generalize (w.alloc _).alloc _=w1 at *
 go_at_call 10
 refine (pscan_any t w1 (HX.out.below (below_grown HW.out.grown)) hm).mono ?_
 rintro e w2 ⟨l,rfl,hown,hB⟩
 obtain ⟨S,hS⟩:∃ S,S=scan t:=⟨_,rfl⟩
 rw [← hS] at hown
 rw [← hS]
 have HSc:=hide hS
 obtain ⟨a,c,g,rfl,hlc,hc,ha,hat,hg⟩:=tok_row hown (Nat.lt_of_lt_of_le (show 0<w1.heap.size from Nat.lt_of_lt_of_le (Nat.lt_of_le_of_lt (Nat.zero_le _) HT.out.lt.2) HW.out.grown.size) hB.size)
 have HA:=hide (And.intro hlc (And.intro hc (And.intro ha (And.intro hat hg))))
 replace HW:=hide (HW.out.quiet (grown_below hB))
 clear hB hown hlc hc ha hat hg hS
 obtain ⟨L1,sc,sa⟩:=S
 simp only at *
 replace HW:=hide (HW.out.alloc' w2.heap.size (by simp) #[.int .i64 sc,.int .i64 (sa:Int)] 27)
 have hc3:=HW.out.c0
 have HSZ:Hid ((w2.alloc (.cells #[.int .i64 sc,.int .i64 (sa:Int)] 27)).heap.size=w2.heap.size+1):=by simp [Hid]
 have HSB:Hid (∀ g,g<w2.heap.size→(w2.alloc (.cells #[.int .i64 sc,.int .i64 (sa:Int)] 27)).heap[g]?=w2.heap[g]?):=fun g hg=>Below.heap_alloc _ _ _ hg
 by_cases hz:sc=0
 ·have hz':(sc == 0)=true:=by simpa using hz
  have HZc:=hide hz
  clear hz
  go_wp2_with fail
  generalize w2.alloc _=w4 at *
  clear hc3
  obtain ⟨hlc,hc,ha,hat,hg⟩:=HA.out
  have hfit:=scan_fits (t:=t) (by rw [← HSc.out];exact HZc.out)
  rw [← HSc.out] at hfit
  have hgl:g<w4.heap.size:=Nat.lt_of_lt_of_le hg (by rw [HSZ.out];omega)
  have hat2:TokAt w4 g 0 L1:=hat.same (HSB.out g hg)
  go_at_call 11
  refine (parsed_any (w:=w4) (ts:=L1) (T.Gl.below HT.out (below_grown HW.out.grown)) a c g 0 hlc hc ha hat2 hgl hfit.1 hfit.2.1 t.size).mono ?_
  have HFit:=hide hfit
  clear hlc hc ha hat hg hfit hgl hat2
  rintro e w5 ⟨hG5,⟨n,v,hR,rfl,hN⟩|⟨r,hr,hR,rfl⟩⟩
  ·obtain ⟨k_n,t_n,v_n,a_n,l_n,c_n,rfl⟩:=hN.form
   have HR:=hide hR
   have HN_n:=hide (HW.out.given hN)
   have HZ_n:Hid (w.heap.size≤w4.heap.size):=HW.out.grown.size
   have HBd:=hide (R_bd HFit.out.2.2 hR)
   replace HW:=hide (HW.out.quiet hG5)
   clear hG5 hR hN
   have hc6:=HW.out.c0
   have hf7:=HW.out.f0
   have hl9:=HW.out.l0
   have hb8:(w5.alloc (.cells #[.int .i64 k_n,.string t_n,.int .i64 v_n,.slice a_n l_n c_n] 24)).heap[w2.heap.size]?=some (.cells #[.int .i64 sc,.int .i64 (sa:Int)] 27 (0,0)):=(Below.heap_alloc _ _ _ (HW.out.lt (w2.heap.size,#[.int .i64 sc,.int .i64 (sa:Int)],27) (List.mem_cons_self))).trans (HW.out.blk (w2.heap.size,#[.int .i64 sc,.int .i64 (sa:Int)],27) (List.mem_cons_self)).2
   have hd8:=cells_at hb8
   have he8:=frozen_at hb8
   clear hb8
   replace HW:=hide (HW.out.r00 (.int .i64 0))
   replace HN_n:=hide ((HW.out.mr00).nd HN_n.out)
   have hc10:=HW.out.c0
   have hf11:=HW.out.f0
   have hl13:=HW.out.l0
   have hb12:((w5.setCell ⟨w2.heap.size,0,none⟩ (.int .i64 0)).alloc (.cells #[.int .i64 k_n,.string t_n,.int .i64 v_n,.slice a_n l_n c_n] 24)).heap[w2.heap.size]?=some (.cells #[.int .i64 0,.int .i64 (sa:Int)] 27 (0,0)):=(Below.heap_alloc _ _ _ (HW.out.lt (w2.heap.size,#[.int .i64 0,.int .i64 (sa:Int)],27) (List.mem_cons_self))).trans (HW.out.blk (w2.heap.size,#[.int .i64 0,.int .i64 (sa:Int)],27) (List.mem_cons_self)).2
   have hd12:=cells_at hb12
   have he12:=frozen_at hb12
   clear hb12
   replace HW:=hide (HW.out.r01 (.int .i64 0))
   replace HN_n:=hide ((HW.out.mr01).nd HN_n.out)
   replace HW:=hide (HW.out.alloc' w5.heap.size (by simp) #[.int .i64 k_n,.string t_n,.int .i64 v_n,.slice a_n l_n c_n] 24)
   replace HN_n:=hide ((HW.out.ma (by simp)).nd HN_n.out)
   have hc14:=HW.out.c0
   have hc15:=HW.out.c1
   go_wp2_with fail
   generalize ((w5.setCell _ _).setCell _ _).alloc _=w16 at *
   clear hc6 hf7 hl9 hd8 he8 hc10 hf11 hl13 hd12 he12 hc14 hc15
   go_at_call 12
   refine (fits_any (w0:=w16) (Below.refl _ _) n _ (HN_n.out.toO HBd.out)).mono ?_
   rintro e w17 ⟨rfl,hB17⟩
   replace HN_n:=hide ((Mv.quiet (grown_below hB17)).nd HN_n.out)
   replace HW:=hide (HW.out.quiet (grown_below hB17))
   clear hB17
   cases hft:fitB n with
   | false=>
    have HFt:=hide hft
    clear hft
    have hc18:=HW.out.c3
    have hc19:=HW.out.c2
    have hf20:=HW.out.f3
    have hf21:=HW.out.f2
    replace HW:=hide (HW.out.s3 (.int .i64 0) (.string ⟨#[]⟩) (.int .i64 0) (.slice none 0 0))
    replace HN_n:=hide ((HW.out.ms3).nd HN_n.out)
    have hc22:=HW.out.c2
    have hf23:=HW.out.f2
    replace HW:=hide (HW.out.r20 (.int .i64 1))
    replace HN_n:=hide ((HW.out.mr20).nd HN_n.out)
    have hc24:=HW.out.c2
    have hf25:=HW.out.f2
    replace HW:=hide (HW.out.r21 (.int .i64 0))
    replace HN_n:=hide ((HW.out.mr21).nd HN_n.out)
    have hc26:=HW.out.c3
    have hl27:=HW.out.l3
    have hc28:=HW.out.c2
    have hl29:=HW.out.l2
    go_wp2_with fail
    generalize (((((w17.setCell _ _).setCell _ _).setCell _ _).setCell _ _).setCell _ _).setCell _ _=w30 at *
    clear hc18 hc19 hf20 hf21 hc22 hf23 hc24 hf25
    refine bodyPost_ret (v:=.tuple #[(.agg #[.int .i64 0,.string ⟨#[]⟩,.int .i64 0,.slice none 0 0]),(.agg #[.int .i64 1,.int .i64 0])]) (by simp [results,Tryz.results6,go_sem,hc26,hl27,hc28,hl29]) rfl ?_
    exact ⟨HW.out.grown,Or.inr ⟨_,_,Or.inr ⟨by rw [← HSc.out];exact HZc.out,Or.inr ⟨n,by rw [← HSc.out];exact HR.out,HFt.out,rfl,rfl⟩⟩,rfl⟩⟩
   | true=>
    have HFt:=hide hft
    clear hft
    have hc18:=HW.out.c0
    have hc19:=HW.out.c3
    have hc20:=HW.out.c2
    have hf21:=HW.out.f3
    have hf22:=HW.out.f2
    replace HW:=hide (HW.out.s3 (.int .i64 k_n) (.string t_n) (.int .i64 v_n) (.slice a_n l_n c_n))
    replace HN_n:=hide ((HW.out.ms3).nd HN_n.out)
    have hc23:=HW.out.c2
    have hf24:=HW.out.f2
    replace HW:=hide (HW.out.r20 (.int .i64 0))
    replace HN_n:=hide ((HW.out.mr20).nd HN_n.out)
    have hc25:=HW.out.c2
    have hf26:=HW.out.f2
    replace HW:=hide (HW.out.r21 (.int .i64 0))
    replace HN_n:=hide ((HW.out.mr21).nd HN_n.out)
    have hc27:=HW.out.c3
    have hl28:=HW.out.l3
    have hc29:=HW.out.c2
    have hl30:=HW.out.l2
    go_wp2_with fail
    generalize (((((w17.setCell _ _).setCell _ _).setCell _ _).setCell _ _).setCell _ _).setCell _ _=w31 at *
    clear hc18 hc19 hc20 hf21 hf22 hc23 hf24 hc25 hf26
    refine bodyPost_ret (v:=.tuple #[(.agg #[.int .i64 k_n,.string t_n,.int .i64 v_n,.slice a_n l_n c_n]),(.agg #[.int .i64 0,.int .i64 0])]) (by simp [results,Tryz.results6,go_sem,hc27,hl28,hc29,hl30]) rfl ?_
    exact ⟨HW.out.grown,Or.inl ⟨n,_,by rw [← HSc.out];exact HZc.out,by rw [← HSc.out];exact HR.out,HFt.out,rfl,HN_n.out.mono (fun k hk _=>Nat.le_trans HZ_n.out hk.1)⟩⟩
  ·have HR:=hide hR
   have HSu:=hide hr
   obtain ⟨pl,hpl⟩:∃ pl,pl=atOf t.size r:=⟨_,rfl⟩
   rw [← hpl]
   have HPl:=hide hpl
   clear hR hr hpl
   replace HW:=hide (HW.out.quiet hG5)
   clear hG5
   have hc18:=HW.out.c0
   have hf19:=HW.out.f0
   have hl21:=HW.out.l0
   have hb20:(w5.alloc (.cells #[.int .i64 0,.string ⟨#[]⟩,.int .i64 0,.slice none 0 0] 24)).heap[w2.heap.size]?=some (.cells #[.int .i64 sc,.int .i64 (sa:Int)] 27 (0,0)):=(Below.heap_alloc _ _ _ (HW.out.lt (w2.heap.size,#[.int .i64 sc,.int .i64 (sa:Int)],27) (List.mem_cons_self))).trans (HW.out.blk (w2.heap.size,#[.int .i64 sc,.int .i64 (sa:Int)],27) (List.mem_cons_self)).2
   have hd20:=cells_at hb20
   have he20:=frozen_at hb20
   clear hb20
   replace HW:=hide (HW.out.r00 (.int .i64 2))
   have hc22:=HW.out.c0
   have hf23:=HW.out.f0
   have hl25:=HW.out.l0
   have hb24:((w5.setCell ⟨w2.heap.size,0,none⟩ (.int .i64 2)).alloc (.cells #[.int .i64 0,.string ⟨#[]⟩,.int .i64 0,.slice none 0 0] 24)).heap[w2.heap.size]?=some (.cells #[.int .i64 2,.int .i64 (sa:Int)] 27 (0,0)):=(Below.heap_alloc _ _ _ (HW.out.lt (w2.heap.size,#[.int .i64 2,.int .i64 (sa:Int)],27) (List.mem_cons_self))).trans (HW.out.blk (w2.heap.size,#[.int .i64 2,.int .i64 (sa:Int)],27) (List.mem_cons_self)).2
   have hd24:=cells_at hb24
   have he24:=frozen_at hb24
   clear hb24
   replace HW:=hide (HW.out.r01 (.int .i64 pl))
   replace HW:=hide (HW.out.alloc' w5.heap.size (by simp) #[.int .i64 0,.string ⟨#[]⟩,.int .i64 0,.slice none 0 0] 24)
   have hc26:=HW.out.c1
   go_wp2_with fail
   generalize ((w5.setCell _ _).setCell _ _).alloc _=w27 at *
   clear hc18 hf19 hl21 hd20 he20 hc22 hf23 hl25 hd24 he24 hc26
   replace HW:=hide (HW.out.quiet (grown_drew w27))
   refine wp_region_held_drew (S:=(fun _=>True)) (by kernel_rfl) trivial fun hHd=>?_
   generalize w27.drew=w28 at *
   refine tq 0 ?_
   simp only [qq]
   refine rq2 1 2 (fun K hK=>?_) fun K hK=>?_
   ·have hc29:=HW.out.c1
    go_simp
    clear hc29
    refine hK.out _ _ trivial fun hHd=>?_
    clear hK K
    try simp only [qq]
    refine rq 2 fun K hK=>?_
    have hc30:=HW.out.c3
    have hf31:=HW.out.f3
    replace HW:=hide (HW.out.s3 (.int .i64 0) (.string ⟨#[]⟩) (.int .i64 0) (.slice none 0 0))
    go_simp
    refine hK.out _ _ trivial fun hHd=>?_
    clear hK K
    try simp only [qq]
    generalize (((w28.setCell _ _).setCell _ _).setCell _ _).setCell _ _=w32 at *
    clear hc30 hf31
    refine rq 3 fun K hK=>?_
    have hc33:=HW.out.c2
    have hf34:=HW.out.f2
    replace HW:=hide (HW.out.r20 (.int .i64 2))
    replace HW:=hide (HW.out.r21 (.int .i64 pl))
    go_simp
    refine hK.out _ _ trivial fun hHd=>?_
    clear hK K
    try simp only [qq]
    generalize (w32.setCell _ _).setCell _ _=w35 at *
    clear hc33 hf34
    refine wpAnyH_done (by kernel_rfl) ?_ _
    have hc36:=HW.out.c3
    have hl37:=HW.out.l3
    have hc38:=HW.out.c2
    have hl39:=HW.out.l2
    go_wp2_with fail
    refine bodyPost_ret (v:=.tuple #[(.agg #[.int .i64 0,.string ⟨#[]⟩,.int .i64 0,.slice none 0 0]),(.agg #[.int .i64 2,.int .i64 pl])]) (by simp [results,Tryz.results6,go_sem,hc36,hl37,hc38,hl39]) rfl ?_
    exact ⟨HW.out.grown,Or.inr ⟨_,_,Or.inr ⟨by rw [← HSc.out];exact HZc.out,Or.inl ⟨r,by rw [← HSc.out];exact HSu.out,by rw [← HSc.out];exact HR.out,rfl,HPl.out⟩⟩,rfl⟩⟩
   ·have hc40:=HW.out.c3
    have hf41:=HW.out.f3
    replace HW:=hide (HW.out.s3 (.int .i64 0) (.string ⟨#[]⟩) (.int .i64 0) (.slice none 0 0))
    go_simp
    refine hK.out _ _ trivial fun hHd=>?_
    clear hK K
    try simp only [qq]
    generalize (((w28.setCell _ _).setCell _ _).setCell _ _).setCell _ _=w42 at *
    clear hc40 hf41
    refine rq 1 fun K hK=>?_
    have hc43:=HW.out.c1
    go_simp
    clear hc43
    refine hK.out _ _ trivial fun hHd=>?_
    clear hK K
    try simp only [qq]
    refine rq 3 fun K hK=>?_
    have hc44:=HW.out.c2
    have hf45:=HW.out.f2
    replace HW:=hide (HW.out.r20 (.int .i64 2))
    replace HW:=hide (HW.out.r21 (.int .i64 pl))
    go_simp
    refine hK.out _ _ trivial fun hHd=>?_
    clear hK K
    try simp only [qq]
    generalize (w42.setCell _ _).setCell _ _=w46 at *
    clear hc44 hf45
    refine wpAnyH_done (by kernel_rfl) ?_ _
    have hc47:=HW.out.c3
    have hl48:=HW.out.l3
    have hc49:=HW.out.c2
    have hl50:=HW.out.l2
    go_wp2_with fail
    refine bodyPost_ret (v:=.tuple #[(.agg #[.int .i64 0,.string ⟨#[]⟩,.int .i64 0,.slice none 0 0]),(.agg #[.int .i64 2,.int .i64 pl])]) (by simp [results,Tryz.results6,go_sem,hc47,hl48,hc49,hl50]) rfl ?_
    exact ⟨HW.out.grown,Or.inr ⟨_,_,Or.inr ⟨by rw [← HSc.out];exact HZc.out,Or.inl ⟨r,by rw [← HSc.out];exact HSu.out,by rw [← HSc.out];exact HR.out,rfl,HPl.out⟩⟩,rfl⟩⟩
 ·have hz':(sc == 0)=false:=by simpa using hz
  have HZc:=hide hz
  clear hz
  go_wp2_with fail
  generalize w2.alloc _=w18 at *
  clear hc3
  replace HW:=hide (HW.out.quiet (grown_drew w18))
  refine wp_region_held_drew (S:=(fun _=>True)) (by kernel_rfl) trivial fun hHd=>?_
  generalize w18.drew=w19 at *
  refine tq 0 ?_
  simp only [qq]
  refine rq2 1 2 (fun K hK=>?_) fun K hK=>?_
  ·have hc20:=HW.out.c0
   go_simp
   clear hc20
   refine hK.out _ _ trivial fun hHd=>?_
   clear hK K
   try simp only [qq]
   refine rq 2 fun K hK=>?_
   have hc21:=HW.out.c2
   have hf22:=HW.out.f2
   replace HW:=hide (HW.out.s2 (.int .i64 0) (.string ⟨#[]⟩) (.int .i64 0) (.slice none 0 0))
   go_simp
   refine hK.out _ _ trivial fun hHd=>?_
   clear hK K
   try simp only [qq]
   generalize (((w19.setCell _ _).setCell _ _).setCell _ _).setCell _ _=w23 at *
   clear hc21 hf22
   refine rq 3 fun K hK=>?_
   have hc24:=HW.out.c1
   have hf25:=HW.out.f1
   replace HW:=hide (HW.out.r10 (.int .i64 sc))
   replace HW:=hide (HW.out.r11 (.int .i64 (sa:Int)))
   go_simp
   refine hK.out _ _ trivial fun hHd=>?_
   clear hK K
   try simp only [qq]
   generalize (w23.setCell _ _).setCell _ _=w26 at *
   clear hc24 hf25
   refine wpAnyH_done (by kernel_rfl) ?_ _
   have hc27:=HW.out.c2
   have hl28:=HW.out.l2
   have hc29:=HW.out.c1
   have hl30:=HW.out.l1
   go_wp2_with fail
   refine bodyPost_ret (v:=.tuple #[(.agg #[.int .i64 0,.string ⟨#[]⟩,.int .i64 0,.slice none 0 0]),(.agg #[.int .i64 sc,.int .i64 (sa:Int)])]) (by simp [results,Tryz.results6,go_sem,hc27,hl28,hc29,hl30]) rfl ?_
   exact ⟨HW.out.grown,Or.inr ⟨_,_,Or.inl ⟨HZc.out,by rw [← HSc.out],by rw [← HSc.out]⟩,rfl⟩⟩
  ·have hc31:=HW.out.c2
   have hf32:=HW.out.f2
   replace HW:=hide (HW.out.s2 (.int .i64 0) (.string ⟨#[]⟩) (.int .i64 0) (.slice none 0 0))
   go_simp
   refine hK.out _ _ trivial fun hHd=>?_
   clear hK K
   try simp only [qq]
   generalize (((w19.setCell _ _).setCell _ _).setCell _ _).setCell _ _=w33 at *
   clear hc31 hf32
   refine rq 1 fun K hK=>?_
   have hc34:=HW.out.c0
   go_simp
   clear hc34
   refine hK.out _ _ trivial fun hHd=>?_
   clear hK K
   try simp only [qq]
   refine rq 3 fun K hK=>?_
   have hc35:=HW.out.c1
   have hf36:=HW.out.f1
   replace HW:=hide (HW.out.r10 (.int .i64 sc))
   replace HW:=hide (HW.out.r11 (.int .i64 (sa:Int)))
   go_simp
   refine hK.out _ _ trivial fun hHd=>?_
   clear hK K
   try simp only [qq]
   generalize (w33.setCell _ _).setCell _ _=w37 at *
   clear hc35 hf36
   refine wpAnyH_done (by kernel_rfl) ?_ _
   have hc38:=HW.out.c2
   have hl39:=HW.out.l2
   have hc40:=HW.out.c1
   have hl41:=HW.out.l1
   go_wp2_with fail
   refine bodyPost_ret (v:=.tuple #[(.agg #[.int .i64 0,.string ⟨#[]⟩,.int .i64 0,.slice none 0 0]),(.agg #[.int .i64 sc,.int .i64 (sa:Int)])]) (by simp [results,Tryz.results6,go_sem,hc38,hl39,hc40,hl41]) rfl ?_
   exact ⟨HW.out.grown,Or.inr ⟨_,_,Or.inl ⟨HZc.out,by rw [← HSc.out],by rw [← HSc.out]⟩,rfl⟩⟩
end Go.Proofs.YthcfianhdkolhaaGreatDoor.Y
namespace Go.Proofs.YthcfianhdkolhaaGreatDoor.T
open Go.ChangeShapes Go.WideShapes Go.ChangeAt Go.RowKit
set_option linter.unusedVariables false
theorem g_er : Tryz.prog.globalNamed "strconv.ErrRange" = some 3 := by kernel_rfl
theorem t_er:(Tryz.prog.globals[3]?).map (·.type)=some 86:=by kernel_rfl
theorem star : "*" ++ "errors.errorString" = "*errors.errorString" := by decide
theorem row142 (u : TypeId) (h : Tryz.prog.typeName? 3 u = some "*errors.errorString") : u = 142 :=
 typeName_ptr_named (nm := "errors.errorString") (by rw [star]; kernel_rfl) (by kernel_rfl) (by decide) u (by rw [star]; exact h)
theorem c_9:Tryz.prog.cellsOf 9=1:=by kernel_rfl
theorem c_144:Tryz.prog.cellsOf 144=1:=by kernel_rfl
theorem er_of {W : World} {r : List (String × DataW Unit)} (h : laidMet Tryz.prog (("strconv.ErrRange", Rows.laid_strconv_ErrRange) :: r) W) : X.Gl W := by
 obtain ⟨a,s,hv,_⟩:=laid_sentinel h g_er t_er Tryz.underlying86 row142 Tryz.underlying142 Tryz.underlying144 rfl rfl Tryz.underlying9 c_144 c_9
 exact ⟨_,_,by rw [World.var?_cell g_er hv 0];rfl⟩
theorem post_below {H:Type} {enc:TypeId × Value→H} {P:Program} {f:Func} {s:ChangeSpec} {apart fresh handsOn:Bool} {W W':World} {args:Array Value} {v:Value} {ds gs:List (DataW H)} {before pa pv:List MemPlace}
  (hW:DataW.Whole enc P f.params.toList s.vars apart W args.toList ds gs before)
  (hres:∀ (b:Nat) (sp:Nat→Bool) (hd:Bool),DataW.TrodAll enc P W' b sp hd f.resultTypes.toList (v.resultList f.resultTypes.size) (s.fn H (ds++gs)).results [])
  (hargs:∀ sp:Nat→Bool,(∀ p∈before,sp p.block=true)→DataW.TrodAll enc P W' 0 sp true f.params.toList args.toList (s.fn H (ds++gs)).args pa)
  (hvars:∀ sp:Nat→Bool,(∀ p∈before,sp p.block=true)→DataW.TrodVars enc P W' sp s.vars (s.fn H (ds++gs)).vars pv)
  (hps:before=pa++pv) (hb:Below W.heap.size W W'):
  s.post enc P f apart fresh handsOn false W args v W':=by
 have hold:∀ p∈before,(fun b=>decide (b<W.heap.size)) p.block=true:=fun p hp=>by simpa using hW.lt p hp
 refine ⟨ds,gs,before,[],pa,pv,hW,hres _ _ _,hargs _ hold,hvars _ hold,World.keptBut_mono (fun p hp=>⟨hp,?_⟩) (hb.frame (·∈before)),fun h=>by cases h⟩
 rw [hps,List.mem_append] at hp
 exact Or.inr hp
end Go.Proofs.YthcfianhdkolhaaGreatDoor.T
namespace Go.Proofs.YthcfianhdkolhaaGreatDoor.Y
open Go.RowKit Go.Proofs.YthcfianhdkolhaaGreatDoor.T Go.Proofs.YthcfianhdkolhaaGreatDoor.S
open Go.Proofs.YthcfianhdkolhaaGreatDoor.X (Tok toks scan)
set_option linter.unusedVariables false
set_option linter.unusedSimpArgs false
variable {w w' : World} {b g : Nat} {m : Value} {ts : List Tok} {t : Tok}
theorem shown_same (n:Nd):shownT n=shown n:=by
 have key:∀ l:List Tk,Lib.join (txs l) [32]=X.spB (toToks l):=fun l=>by
  induction l with
  | nil=>rfl
  | cons t r ih=>
   have e0:(X.raw (toTok t).kind (toTok t).text).data.toList=rawT t:=by
    show (X.raw t.kind (X.str t.text)).data.toList=rawT t
    unfold X.raw rawT
    split<;>simp [X.str]
   cases r with
   | nil=>
    show Lib.join [rawT t] [32]=_
    rw [Lib.join_one]
    exact e0.symm
   | cons u r=>
    show Lib.join (rawT t::rawT u::txs r) [32]=(X.raw (toTok t).kind (toTok t).text).data.toList++(32::X.spB (toToks (u::r)))
    rw [← ih,e0]
    simp [Lib.join,txs,List.intercalate]
 exact key (shT n)
theorem PostX.sure {t:ByteArray} {n0:Nd} {e:Ending} (h:PostX w t e w') (h0:(scan t).2.1=0) (hR:R (.unitL []) (tk (scan t).1) (.ok (.nd n0) [])) (hf:fitB n0=true):w.grownBy w' none∧∃ v,e=.returned (.tuple #[v,.agg #[.int .i64 0,.int .i64 0]])∧NdV w' (fun k=>w.heap.size≤k) n0 v:=by
 obtain ⟨hG,⟨n,v,_,hR2,_,he,hN⟩|⟨c,a,hno,_⟩⟩:=h
 ·have e1:=R_one hR2 hR
  injection e1 with e1
  injection e1 with e1
  subst e1
  exact ⟨hG,v,he,hN⟩
 ·exfalso
  rcases hno with ⟨h1,h2,_⟩|⟨_,⟨r,_,h2,_⟩|⟨n,h2,h3,_⟩⟩
  ·exact h1 (h2.symm.trans h0)
  ·have:=R_one h2 hR
   cases this
  ·have e1:=R_one h2 hR
   injection e1 with e1
   injection e1 with e1
   subst e1
   rw [hf] at h3
   cases h3
theorem read_un {t:ByteArray} {n:Nd} (h0:(scan t).2.1=0) (hR:R (.unitL []) (tk (scan t).1) (.ok (.nd n) [])):IsUn n∧(shownT n).length≤2*t.size:=by
 rw [shown_same]
 exact read_shown h0 hR
theorem shown_read {n:Nd} (h:IsUn n) (hl:(shownT n).length≤4000):(scan (str (shownT n))).2.1=0∧R (.unitL []) (tk (scan (str (shownT n))).1) (.ok (.nd n) []):=by
 rw [shown_same] at hl ⊢
 exact shown_back h hl
theorem bd_of {t:ByteArray} {n:Nd} (h0:(scan t).2.1=0) (hR:R (.unitL []) (tk (scan t).1) (.ok (.nd n) [])):Bd n:=R_bd (scan_fits h0).2.2 hR
abbrev K0:ByteArray:=⟨#[105,110,116,32,103,61,49,59]⟩
abbrev k0:Nd:=.mk 1 [] 0 [.mk 6 [103] 0 [.mk 9 [] 0 [],.mk 21 [] 1 []]]
theorem known_code:(scan K0).2.1=0:=by kernel_rfl
theorem known_toks:tk (scan K0).1=[⟨1,[105,110,116]⟩,⟨1,[103]⟩,⟨4,[61]⟩,⟨2,[49]⟩,⟨4,[59]⟩]:=by kernel_rfl
theorem known_read:R (.unitL []) (tk (scan K0).1) (.ok (.nd k0) []):=⟨10,by rw [known_toks];rfl⟩
theorem known_fit:fitB k0=true:=by rfl
theorem known_shown:shownT k0=[105,110,116,32,103,32,61,32,49,32,59]:=by kernel_rfl
theorem known_print {s:List UInt8} {c:Int} (h:PrR k0 s c):s=[105,110,116,32,103,32,61,32,49,32,59]∧c=0:=by
 have h2:PrR k0 (shownT k0) 0:=Or.inr (Or.inr (Or.inr ⟨known_fit,(read_un known_code known_read).1,by rw [known_shown];decide,rfl,rfl⟩))
 rw [known_shown] at h2
 exact h.one h2
end Go.Proofs.YthcfianhdkolhaaGreatDoor.Y
