/- For every text s the call SyntaxParses(s) returns true and leaves all as it was: no condition. The card ties the listed variables to the program's text. -/
import Derived.Test.YthcfianhdkolhaaGreatDoorSign
import Derived.Test.YthcfianhdkolhaaGreatDoorPdA
import Derived.Test.YthcfianhdkolhaaGreatDoorRfA
import Derived.Test.YthcfianhdkolhaaGreatDoorPeQe
import Derived.Test.YthcfianhdkolhaaGreatDoorPeQp
import Derived.Test.YthcfianhdkolhaaGreatDoorCards
import Derived.Test.YthcfianhdkolhaaGreatDoorTie
import Derived.SizedLaws
import Derived.ShutString
import Derived.ChangeMaps5
namespace Go.Proofs.YthcfianhdkolhaaGreatDoor.Y
open Go.RowKit Go.Proofs.YthcfianhdkolhaaGreatDoor.T Go.Proofs.YthcfianhdkolhaaGreatDoor.S
open Go.Proofs.YthcfianhdkolhaaGreatDoor.X (Tok toks scan)
set_option linter.unusedVariables false
set_option linter.unusedSimpArgs false
set_option maxRecDepth 100000
set_option maxHeartbeats 8000000
section wf
variable {w w' w0 : World} {L : List Bk}
theorem Wf.r30 {y0 y1 y2:Bk} {q:Nat} {c0 c1:Value} {T:TypeId} (h:Wf w0 w (y0::y1::y2::(q,#[c0,c1],T)::L)) (v:Value):Wf w0 (w.setCell ⟨q,0,none⟩ v) (y0::y1::y2::(q,#[v,c1],T)::L):=h.set [y0,y1,y2] L 0 v
theorem Wf.mr30 {y0 y1 y2:Bk} {q s:Nat} {c0 c1 v:Value} {T:TypeId} (h:Wf w0 (w.setCell ⟨q,0,none⟩ v) (y0::y1::y2::(q,#[v,c1],T)::L)):Mv w (w.setCell ⟨q,0,none⟩ v) (Av s (y0::y1::y2::(q,#[c0,c1],T)::L)) (Av s (y0::y1::y2::(q,#[v,c1],T)::L)):=Mv.set [y0,y1,y2] L w v
theorem Wf.r31 {y0 y1 y2:Bk} {q:Nat} {c0 c1:Value} {T:TypeId} (h:Wf w0 w (y0::y1::y2::(q,#[c0,c1],T)::L)) (v:Value):Wf w0 (w.setCell ⟨q,1,none⟩ v) (y0::y1::y2::(q,#[c0,v],T)::L):=h.set [y0,y1,y2] L 1 v
theorem Wf.mr31 {y0 y1 y2:Bk} {q s:Nat} {c0 c1 v:Value} {T:TypeId} (h:Wf w0 (w.setCell ⟨q,1,none⟩ v) (y0::y1::y2::(q,#[c0,v],T)::L)):Mv w (w.setCell ⟨q,1,none⟩ v) (Av s (y0::y1::y2::(q,#[c0,c1],T)::L)) (Av s (y0::y1::y2::(q,#[c0,v],T)::L)):=Mv.set [y0,y1,y2] L w v
theorem Wf.c4 {y0 y1 y2 y3:Bk} {q:Nat} {cs:Array Value} {T:TypeId} (h:Wf w0 w (y0::y1::y2::y3::(q,cs,T)::L)):∀ o,w.cell? ⟨q,o,none⟩=cs[o]?:=cells_at (h.blk (q,cs,T) (List.mem_cons_of_mem _ (List.mem_cons_of_mem _ (List.mem_cons_of_mem _ (List.mem_cons_of_mem _ List.mem_cons_self))))).2
theorem Wf.f4 {y0 y1 y2 y3:Bk} {q:Nat} {cs:Array Value} {T:TypeId} (h:Wf w0 w (y0::y1::y2::y3::(q,cs,T)::L)):∀ o,w.frozen? ⟨q,o,none⟩=false:=frozen_at (h.blk (q,cs,T) (List.mem_cons_of_mem _ (List.mem_cons_of_mem _ (List.mem_cons_of_mem _ (List.mem_cons_of_mem _ List.mem_cons_self))))).2
theorem Wf.l4 {y0 y1 y2 y3:Bk} {q:Nat} {cs:Array Value} {T:TypeId} (h:Wf w0 w (y0::y1::y2::y3::(q,cs,T)::L)):q<w.heap.size:=h.lt (q,cs,T) (List.mem_cons_of_mem _ (List.mem_cons_of_mem _ (List.mem_cons_of_mem _ (List.mem_cons_of_mem _ List.mem_cons_self))))
theorem Wf.s4 {y0 y1 y2 y3:Bk} {q:Nat} {c0 c1 c2 c3:Value} {T:TypeId} (h:Wf w0 w (y0::y1::y2::y3::(q,#[c0,c1,c2,c3],T)::L)) (x0 x1 x2 x3:Value):Wf w0 ((((w.setCell ⟨q,0,none⟩ x0).setCell ⟨q,1,none⟩ x1).setCell ⟨q,2,none⟩ x2).setCell ⟨q,3,none⟩ x3) (y0::y1::y2::y3::(q,#[x0,x1,x2,x3],T)::L):=h.set4 [y0,y1,y2,y3] L x0 x1 x2 x3
theorem Wf.ms4 {y0 y1 y2 y3:Bk} {q s:Nat} {c0 c1 c2 c3 x0 x1 x2 x3:Value} {T:TypeId} (h:Wf w0 ((((w.setCell ⟨q,0,none⟩ x0).setCell ⟨q,1,none⟩ x1).setCell ⟨q,2,none⟩ x2).setCell ⟨q,3,none⟩ x3) (y0::y1::y2::y3::(q,#[x0,x1,x2,x3],T)::L)):Mv w ((((w.setCell ⟨q,0,none⟩ x0).setCell ⟨q,1,none⟩ x1).setCell ⟨q,2,none⟩ x2).setCell ⟨q,3,none⟩ x3) (Av s (y0::y1::y2::y3::(q,#[c0,c1,c2,c3],T)::L)) (Av s (y0::y1::y2::y3::(q,#[x0,x1,x2,x3],T)::L)):=Mv.set4 [y0,y1,y2,y3] L w x0 x1 x2 x3
end wf
namespace Z
variable {w w' : World} {b g : Nat} {K ts : List X.Tok} {β : Bool}
theorem tok_row2 {base:Nat} {v:Value} {l:List X.Tok} (h:w.ownsRow base 44 3 v l.length (toks l)) (hpos:base<w.heap.size):∃ a c g,v=.slice a l.length c∧base≤g∧(l≠[]→a=some ⟨g,0,none⟩)∧TokAt w g 0 l∧g<w.heap.size∧(l≠[]→∃ cur,w.heap[g]?=some (.cells cur 44 (0,0))):=by
 rcases h.2 with ⟨rfl,hl⟩|⟨g,cap,cur,rfl,hb,hh,hn,hm,hs,ht⟩
 ·obtain rfl:=List.eq_nil_of_length_eq_zero hl
  exact ⟨none,0,base,rfl,Nat.le_refl _,fun h=>absurd rfl h,fun j hj=>by simp at hj,hpos,fun h=>absurd rfl h⟩
 refine ⟨some ⟨g,0,none⟩,cap,g,rfl,hb,fun _=>rfl,fun j hj=>?_,(Array.getElem?_eq_some_iff.1 hh).1,fun _=>⟨cur,hh⟩⟩
 have hc:∀ k,k<l.length*3→w.cell? ⟨g,k,none⟩=(toks l)[k]?:=fun k hk=>by
  rw [← ht,List.getElem?_take_of_lt hk,Array.getElem?_toList]
  simp [World.cell?,hh]
 obtain ⟨q0,q1,q2⟩:=toks_at l j hj
 rw [Nat.zero_add]
 exact ⟨(hc _ (by omega)).trans q0,(hc _ (by omega)).trans q1,(hc _ (by omega)).trans q2⟩
theorem set4_other {q g':Nat} {x0 x1 x2 x3:Value} (h:g'≠q):((((w.setCell ⟨q,0,none⟩ x0).setCell ⟨q,1,none⟩ x1).setCell ⟨q,2,none⟩ x2).setCell ⟨q,3,none⟩ x3).heap[g']?=w.heap[g']?:=by
 rw [heap_setCell_other _ _ g' _ h,heap_setCell_other _ _ g' _ h,heap_setCell_other _ _ g' _ h,heap_setCell_other _ _ g' _ h]
theorem wf_back {w0 w1 w9:World} {L L2:List Bk} {bc bc':Array Value} (h1:Wf w0 w1 ((b,bc,41)::L)) (h2:Wr w1 w9 b g K β ts L2) (hb:w9.heap[b]?=some (.cells bc' 41 (0,0))):Wf w0 w9 ((b,bc',41)::(L2++L)):=by
 have hbo:=h1.blk (b,bc,41) List.mem_cons_self
 have hbl:=h1.lt (b,bc,41) List.mem_cons_self
 have ho:=List.pairwise_cons.1 h1.ord
 have ne:∀ x,x∈L→x.1≠b:=fun x hx e=>ho.1 x hx e.symm
 have hG:w0.grownBy w9 none:=⟨h2.grown.os.trans h1.grown.os,h2.grown.tape.trans h1.grown.tape,h2.grown.output.trans h1.grown.output,Nat.le_trans h1.grown.size h2.grown.size,fun i hi _=>(h2.grown.block i (Nat.lt_of_lt_of_le hi h1.grown.size) (fun e=>by have:=Option.some.inj e;have:=hbo.1;simp only at this;omega)).trans (h1.grown.block i hi (by simp))⟩
 refine ⟨hG,fun x hx=>?_,List.Pairwise.cons (fun x hx=>?_) (List.pairwise_append.2 ⟨h2.ord,ho.2,fun x hx y hy e=>?_⟩)⟩
 ·rcases List.mem_cons.1 hx with rfl|hx
  ·exact ⟨hbo.1,hb⟩
  rcases List.mem_append.1 hx with hx|hx
  ·exact ⟨Nat.le_trans h1.grown.size (h2.blk x hx).1,(h2.blk x hx).2⟩
  have hx2:=h1.blk x (List.mem_cons_of_mem _ hx)
  exact ⟨hx2.1,(h2.grown.block x.1 (h1.lt x (List.mem_cons_of_mem _ hx)) (fun e=>ne x hx (Option.some.inj e))).trans hx2.2⟩
 ·rcases List.mem_append.1 hx with hx|hx
  ·have:=(h2.blk x hx).1
   simp only at hbl ⊢
   omega
  exact fun e=>ne x hx e.symm
 have h3:=(h2.blk x hx).1
 have h4:=h1.lt y (List.mem_cons_of_mem _ hy)
 omega
theorem nd_back {w0 w1 w9:World} {L L2:List Bk} {bc bc':Array Value} {n:Nd} {v:Value} (h1:Wf w0 w1 ((b,bc,41)::L)) (hN:NdV w9 (Av w1.heap.size L2) n v):NdV w9 (Av w1.heap.size ((b,bc',41)::(L2++L))) n v:=hN.mono (fun k hk _=>⟨hk.1,fun x hx=>by
 have hk1:=hk.1
 rcases List.mem_cons.1 hx with rfl|hx
 ·have:=h1.lt (b,bc,41) List.mem_cons_self
  simp only at this ⊢
  omega
 rcases List.mem_append.1 hx with hx|hx
 ·exact hk.2 x hx
 have:=h1.lt x (List.mem_cons_of_mem _ hx)
 omega⟩)
def UI (T:List Tk) (acc:List Nd) (β:Bool) (r:List X.Tok):Prop:=(β=true∧R (.unitL []) T (.no (tk r)))∨(β=false∧∀ q,R (.unitL acc) (tk r) q→R (.unitL []) T q)
def LU (K:List X.Tok) (n:Nat) (β:Bool) (r:List X.Tok):Prop:=(β=false→n+r.length≤K.length)∧n≤K.length+1
theorem ui_next {T:List Tk} {acc:List Nd} {x:Nd} {t:X.Tok} {r r1:List X.Tok} {β1:Bool} (J:∀ q,R (.unitL acc) (tk (t::r)) q→R (.unitL []) T q) (h1:Md (R .decl) x false (t::r) β1 r1):UI T (acc++[x]) β1 r1:=by
 have e0:tk (t::r)=⟨t.kind,t.text.data.toList⟩::tk r:=rfl
 rcases h1.good with ⟨rfl,_,e⟩|⟨rfl,e⟩
 ·refine Or.inr ⟨rfl,fun q k=>J q ?_⟩
  obtain ⟨m,e,k⟩:=both e k
  rw [e0] at e ⊢
  exact ⟨m+1,by simp only [P,F,e,andN,k]⟩
 obtain ⟨m,e⟩:=e
 refine Or.inl ⟨rfl,J _ ?_⟩
 rw [e0] at e ⊢
 exact ⟨m+1,by simp only [P,F,e,andN]⟩
theorem lu_next {acc:List Nd} {x:Nd} {r r1:List X.Tok} {β1:Bool} {q:List Tk→Res→Prop} (h:LU K acc.length false r) (h1:Md q x false r β1 r1):LU K (acc++[x]).length β1 r1:=by
 have a:=h.1 rfl
 rw [List.length_append,List.length_singleton]
 exact ⟨fun e=>by have:=h1.prog e;omega,by omega⟩
theorem ui_end {T:List Tk} {acc:List Nd} (J:∀ q,R (.unitL acc) (tk ([]:List X.Tok)) q→R (.unitL []) T q):R (.unitL []) T (.ok (.nd (.mk 1 [] 0 acc)) []):=J _ ⟨1,rfl⟩
theorem decl_gd:Gd 14 #[.pointer (some ⟨b,0,none⟩)] .decl b g K ts:=by
 by_cases g0:hd (tk ts)=sSTRUCT
 ·exact decl_struct g0
 by_cases g1:hd (tk ts)=sEXTERN
 ·exact decl_ext g0 g1
 by_cases g2:hd (tk ts)=sSTATIC
 ·exact decl_sta g0 g1 g2
 exact decl_pla g0 g1 g2
theorem tok_row3 {v:Value} {K:List X.Tok} {base:Nat} (h:w.ownsRow base 44 3 v K.length (toks K)) (hb:base≤w.heap.size) (o:Obj):∃ a c g,v=.slice a K.length c∧base≤g∧(K≠[]→a=some ⟨g,0,none⟩)∧TokAt (w.alloc o) g 0 K∧g<w.heap.size+1∧(K≠[]→∃ cur,(w.alloc o).heap[g]?=some (.cells cur 44 (0,0))):=by
 cases K with
 | nil=>
  rcases h.2 with ⟨rfl,hl⟩|⟨g,cap,cur,rfl,hb',hh,_⟩
  ·exact ⟨none,0,w.heap.size,rfl,hb,fun h=>absurd rfl h,fun j hj=>by simp at hj,by omega,fun h=>absurd rfl h⟩
  exact ⟨_,cap,w.heap.size,rfl,hb,fun h=>absurd rfl h,fun j hj=>by simp at hj,by omega,fun h=>absurd rfl h⟩
 | cons x r=>
  have hpos:base<w.heap.size:=by
   rcases h.2 with ⟨_,hl⟩|⟨g,cap,cur,rfl,hb',hh,_⟩
   ·simp at hl
   exact Nat.lt_of_le_of_lt hb' (Array.getElem?_eq_some_iff.1 hh).1
  obtain ⟨a,c,g,h1,h2,h3,h4,h5,h6⟩:=tok_row2 h hpos
  have e:(w.alloc o).heap[g]?=w.heap[g]?:=Below.heap_alloc w o g h5
  exact ⟨a,c,g,h1,h2,h3,h4.same e,by omega,fun hn=>by rw [e];exact h6 hn⟩
theorem ref_post (t:ByteArray) (hm:t.size≤9223372036854775807):Calls Tryz.prog 7 #[.string t] w (PostX w t):=by
 have HW:Hid (Wf w w []):=Wf.start w
 go_enter Tryz.func7,Tryz.ntmps7
 replace HW:=HW.out.az w.heap.size
 replace HW:=ħ (HW.out.alloc' (w.heap.size+1) (by simp) #[.int .i64 0,.int .i64 0] 27)
 go_wp2_with fail
 generalize (w.alloc _).alloc _=w1 at *
 have HSz:Hid (w.heap.size+2≤w1.heap.size):=by have h1:=HW.out.l0;have h2:=HW.out.l1;show _≤_;omega
 go_at_call 13
 refine (X.scan_any t w1 hm).mono ?_
 rintro e w2 ⟨l,rfl,hown,hB⟩
 obtain ⟨S,hS⟩:∃ S,S=scan t:=⟨_,rfl⟩
 rw [← hS] at hown
 rw [← hS]
 have HSc:=ħ hS
 have hbp:w1.heap.size≤w2.heap.size:=hB.size
 replace HW:=ħ (HW.out.quiet (grown_below hB))
 have HOw:=ħ hown
 clear hB hown hS
 obtain ⟨K,sc,sa⟩:=S
 simp only at *
 have HBp:=ħ hbp
 clear hbp
 obtain ⟨la,lc,rfl⟩:∃ la lc,l=.slice la K.length lc:=(by rcases HOw.out.2 with ⟨rfl,hl⟩|⟨g,cap,cur,rfl,_⟩;exact ⟨_,_,by rw [hl]⟩;exact ⟨_,_,rfl⟩)
 replace HW:=ħ (HW.out.alloc' w2.heap.size (by simp) #[.int .i64 sc,.int .i64 (sa:Int)] 27)
 have hc3:=HW.out.c0
 by_cases hz:sc=0
 ·have hz':(sc == 0)=true:=by simpa using hz
  have HZc:=ħ hz
  clear hz
  have hfit:=scan_fits (t:=t) (by rw [← HSc.out];exact HZc.out)
  rw [← HSc.out] at hfit
  obtain ⟨a',c',g,hsl,hgb,ha,hat,hgl,hty⟩:=tok_row3 HOw.out HBp.out (.cells #[.int .i64 sc,.int .i64 (sa:Int)] 27)
  injection hsl with e1 e2 e3
  subst e1 e3
  clear e2
  replace HW:=ħ (HW.out.alloc' (w2.heap.size+1) (by simp) #[.slice la K.length lc,.int .i64 0,.bool false] 41)
  have HRs:Hid (Rs ((w2.alloc (.cells #[.int .i64 sc,.int .i64 (sa:Int)] 27)).alloc (.cells #[.slice la K.length lc,.int .i64 0,.bool false] 41)) (w2.heap.size+1) g K false K):=⟨by omega,hfit.2.1,by simp;omega,typ_same hty (Below.heap_alloc _ _ _ (by simp;omega)),hat.same (Below.heap_alloc _ _ _ (by simp;omega)),[],_,_,rfl,(HW.out.blk ((w2.heap.size+1),#[.slice la K.length lc,.int .i64 0,.bool false],41) List.mem_cons_self).2,ha⟩
  have HFit:=ħ hfit
  have HLa:=ħ ha
  have HGb:Hid (w1.heap.size≤g∧g<w2.heap.size+1):=⟨hgb,hgl⟩
  have HV:=ħ (Wr.start HRs.out)
  clear hfit ha hat hgl hty hgb HRs
  replace HV:=ħ (HV.out.alloc' (w2.heap.size+1+1) (by simp) #[.int .i64 1,.string ⟨#[]⟩,.int .i64 0,.slice none 0 0] 24)
  go_wp2_with fail
  clear hc3
  generalize (((w2.alloc (.cells #[.int .i64 sc,.int .i64 (sa:Int)] 27)).alloc (.cells #[.slice la K.length lc,.int .i64 0,.bool false] 41)).alloc (.cells #[.int .i64 1,.string ⟨#[]⟩,.int .i64 0,.slice none 0 0] 24))=wy at *
  generalize ((w2.alloc (.cells #[.int .i64 sc,.int .i64 (sa:Int)] 27)).alloc (.cells #[.slice la K.length lc,.int .i64 0,.bool false] 41))=wx at *
  generalize (w2.heap.size+1)=b at *
  go_loopw [] (fun wr=>∃ (r:List X.Tok) (β:Bool) (l:List Nd) (a0:Option Addr) (n0 c0:Nat),Hid (Wr wx wr b g K β r [((b+1),#[.int .i64 1,.string ⟨#[]⟩,.int .i64 0,.slice a0 n0 c0],24)])∧Hid (RowN wr (Av wx.heap.size [((b+1),#[.int .i64 1,.string ⟨#[]⟩,.int .i64 0,.slice a0 n0 c0],24)]) (.slice a0 n0 c0) l)∧Hid (r <:+ K)∧Hid (LU K l.length β r)∧Hid (UI (tk K) l β r)) (fun wr=>leftR b wr)
  case atStart=>exact ⟨_,_,[],_,_,_,HV,RowN.nil _ _,List.suffix_refl _,(⟨fun _=>by show 0+_≤_;omega,Nat.zero_le _⟩:LU _ _ _ _),Or.inr ⟨rfl,fun q h=>h⟩⟩
  case round=>
   obtain ⟨r,β,l,a0,n0,c0,HV,HM_l,HS,HLi,HI⟩:=hrel
   have HZ_l:=zz wx
   have HG_l:Hid (l.length≤4001):=Nat.le_trans HLi.out.2 (by have:=HFit.out.2.1;omega)
   have hmu:=HV.out.ps.leftR
   have HMu:=ħ hmu
   clear hmu
   obtain ⟨pp,pa,pc,hk1,hk2,hk3⟩:=HV.out.ps.blk
   have hcb:=cells_at hk2
   have HLp:Hid (K.length=pp.length+r.length):=by show _=_;rw [hk1];simp
   have HP1:=ħ hk1
   clear hk1
   rcases HI.out with ⟨rfl,hA⟩|⟨rfl,hJ⟩
   ·have HA:=ħ hA
    clear hA HI
    cases r with
    | nil=>
     have hge:¬ (pp.length:Int)<K.length:=by have hlp:=HLp.out;have hK4:=HFit.out.2.1;simp at hlp;omega
     have hge2:¬ pp.length<K.length:=by have hlp:=HLp.out;have hK4:=HFit.out.2.1;simp at hlp;omega
     have HWf:=ħ (wf_back HW.out HV.out hk2)
     replace HW:Hid (Wf w wr [(b,#[.slice pa K.length pc,.int .i64 pp.length,.bool true],41),((b+1),#[.int .i64 1,.string ⟨#[]⟩,.int .i64 0,.slice a0 n0 c0],24),(w2.heap.size,#[.int .i64 sc,.int .i64 (sa:Int)],27),((w.heap.size+1),#[.int .i64 0,.int .i64 0],27),(w.heap.size,#[.int .i64 0,.string ⟨#[]⟩,.int .i64 0,.slice none 0 0],24)]):=by exact HWf
     clear HWf
     have hc9:=HW.out.c4
     have hc10:=HW.out.c3
     have hf11:=HW.out.f4
     have hf12:=HW.out.f3
     replace HW:=ħ (HW.out.s4 (.int .i64 0) (.string ⟨#[]⟩) (.int .i64 0) (.slice none 0 0))
     have hc13:=HW.out.c3
     have hf14:=HW.out.f3
     replace HW:=ħ (HW.out.r30 (.int .i64 2))
     have hc15:=HW.out.c3
     have hf16:=HW.out.f3
     replace HW:=ħ (HW.out.r31 (.int .i64 t.size))
     have hc17:=HW.out.c4
     have hl18:=HW.out.l4
     have hc19:=HW.out.c3
     have hl20:=HW.out.l3
     go_wp2_with fail
     generalize (((((wr.setCell _ _).setCell _ _).setCell _ _).setCell _ _).setCell _ _).setCell _ _=w21 at *
     clear hcb hc9 hc10 hf11 hf12 hc13 hf14 hc15 hf16
     refine bodyPost_ret (v:=.tuple #[(.agg #[.int .i64 0,.string ⟨#[]⟩,.int .i64 0,.slice none 0 0]),(.agg #[.int .i64 2,.int .i64 t.size])]) (by simp [results,Tryz.results7,go_sem,hc17,hl18,hc19,hl20]) rfl ?_
     exact ⟨HW.out.grown,Or.inr ⟨_,_,Or.inr ⟨by rw [← HSc.out];exact HZc.out,Or.inl ⟨[],by rw [← HSc.out];exact HS.out,by rw [← HSc.out];exact HA.out,rfl,rfl⟩⟩,rfl⟩⟩
    | cons tok rest=>
     have hlt:(pp.length:Int)<K.length:=by have hlp:=HLp.out;have hK4:=HFit.out.2.1;simp at hlp;omega
     have hlt2:pp.length<K.length:=by have hlp:=HLp.out;have hK4:=HFit.out.2.1;simp at hlp;omega
     have hidx:(0:Int)≤pp.length∧(pp.length:Int)<K.length:=⟨by omega,hlt⟩
     obtain rfl:=HLa.out (fun e=>by rw [e] at hlt2;simp at hlt2)
     obtain rfl:=hk3 (fun e=>by rw [e] at hlt2;simp at hlt2)
     obtain ⟨u0,u1,u2⟩:=HV.out.ps.toks pp.length hlt2
     have e0:K[pp.length]=tok:=by
      have h9:(pp++tok::rest)[pp.length]'(by simp)=tok:=by rw [List.getElem_append_right (Nat.le_refl _)];simp
      rw [← h9]
      congr 1
     rw [e0,Nat.zero_add] at u2
     have HTk:Hid (∀ w9:World,w9.heap[g]?=wr.heap[g]?→w9.cell? ⟨g,pp.length*3+2,none⟩=some (.int .i64 tok.at_)):=fun w9 h9=>(World.cell?_of_block (a:=⟨g,pp.length*3+2,none⟩) h9).trans u2
     clear u0 u1 u2 e0
     have HWf:=ħ (wf_back HW.out HV.out hk2)
     replace HW:Hid (Wf w wr [(b,#[.slice (some ⟨g,0,none⟩) K.length pc,.int .i64 pp.length,.bool true],41),((b+1),#[.int .i64 1,.string ⟨#[]⟩,.int .i64 0,.slice a0 n0 c0],24),(w2.heap.size,#[.int .i64 sc,.int .i64 (sa:Int)],27),((w.heap.size+1),#[.int .i64 0,.int .i64 0],27),(w.heap.size,#[.int .i64 0,.string ⟨#[]⟩,.int .i64 0,.slice none 0 0],24)]):=by exact HWf
     clear HWf
     have HGne_2:Hid (g≠w.heap.size):=by have h1:=HGb.out.1;have h2:=HSz.out;show _≠_;omega
     have HGne_3:Hid (g≠(w.heap.size+1)):=by have h1:=HGb.out.1;have h2:=HSz.out;show _≠_;omega
     go_wp2_with fail
     clear hcb
     have HTg:Hid (wr.drew.heap[g]?=wr.heap[g]?):=by exact rfl
     replace HW:=ħ (HW.out.quiet (grown_drew wr))
     refine wp_region_held_drew (S:=(fun w9=>(∀ o,w9.cell? ⟨b,o,none⟩=(#[Value.slice (some ⟨g,0,none⟩) K.length pc,.int .i64 pp.length,.bool true]:Array Value)[o]?)∧w9.cell? ⟨g,pp.length*3+2,none⟩=some (.int .i64 tok.at_))) (by kernel_rfl) (⟨HW.out.c0,HTk.out _ HTg.out⟩) (fun hHd=>?_)
     generalize wr.drew=w9 at *
     refine tq 0 ?_
     simp only [qq]
     refine tq 1 ?_
     simp only [qq]
     refine tq 2 ?_
     simp only [qq]
     refine tq 3 ?_
     simp only [qq]
     refine tq 4 ?_
     simp only [qq]
     refine tq 5 ?_ (hy:=by (intro w hSw;obtain ⟨hs1,hs2⟩:=hSw;go_simp)<;>with_reducible rfl)
     simp only [qq]
     refine tq 6 ?_
     simp only [qq]
     refine tq 7 ?_
     simp only [qq]
     refine tq 8 ?_ (hy:=by (intro w hSw;obtain ⟨hs1,hs2⟩:=hSw;go_simp)<;>with_reducible rfl)
     simp only [qq]
     refine tq 9 ?_
     simp only [qq]
     refine rq 10 fun K hK=>?_
     have hc10:=HW.out.c4
     have hf11:=HW.out.f4
     replace HW:=ħ (HW.out.s4 (.int .i64 0) (.string ⟨#[]⟩) (.int .i64 0) (.slice none 0 0))
     replace HTg:Hid (((((w9.setCell ⟨w.heap.size,0,none⟩ (.int .i64 0)).setCell ⟨w.heap.size,1,none⟩ (.string ⟨#[]⟩)).setCell ⟨w.heap.size,2,none⟩ (.int .i64 0)).setCell ⟨w.heap.size,3,none⟩ (.slice none 0 0)).heap[g]?=wr.heap[g]?):=by exact (set4_other HGne_2.out).trans HTg.out
     go_simp
     refine hK.out _ _ (⟨HW.out.c0,HTk.out _ HTg.out⟩) (fun hHd=>?_)
     clear hK K
     try simp only [qq]
     generalize (((w9.setCell _ _).setCell _ _).setCell _ _).setCell _ _=w12 at *
     clear hc10 hf11
     refine rq 11 fun K hK=>?_
     have hc13:=HW.out.c3
     have hf14:=HW.out.f3
     replace HW:=ħ (HW.out.r30 (.int .i64 2))
     replace HTg:Hid ((w12.setCell ⟨(w.heap.size+1),0,none⟩ (.int .i64 2)).heap[g]?=wr.heap[g]?):=by exact (heap_setCell_other _ _ g _ HGne_3.out).trans HTg.out
     replace HW:=ħ (HW.out.r31 (.int .i64 tok.at_))
     replace HTg:Hid (((w12.setCell ⟨(w.heap.size+1),0,none⟩ (.int .i64 2)).setCell ⟨(w.heap.size+1),1,none⟩ (.int .i64 tok.at_)).heap[g]?=wr.heap[g]?):=by exact (heap_setCell_other _ _ g _ HGne_3.out).trans HTg.out
     go_simp
     refine hK.out _ _ (⟨HW.out.c0,HTk.out _ HTg.out⟩) (fun hHd=>?_)
     clear hK K
     try simp only [qq]
     generalize (w12.setCell _ _).setCell _ _=w15 at *
     clear hc13 hf14
     refine wpAnyH_done (by kernel_rfl) ?_ _
     have hc16:=HW.out.c4
     have hl17:=HW.out.l4
     have hc18:=HW.out.c3
     have hl19:=HW.out.l3
     go_wp2_with fail
     refine bodyPost_ret (v:=.tuple #[(.agg #[.int .i64 0,.string ⟨#[]⟩,.int .i64 0,.slice none 0 0]),(.agg #[.int .i64 2,.int .i64 tok.at_])]) (by simp [results,Tryz.results7,go_sem,hc16,hl17,hc18,hl19]) rfl ?_
     exact ⟨HW.out.grown,Or.inr ⟨_,_,Or.inr ⟨by rw [← HSc.out];exact HZc.out,Or.inl ⟨tok::rest,by rw [← HSc.out];exact HS.out,by rw [← HSc.out];exact HA.out,rfl,rfl⟩⟩,rfl⟩⟩
   have HJ:=ħ hJ
   clear hJ HI
   cases r with
   | nil=>
    have hge:¬ (pp.length:Int)<K.length:=by have hlp:=HLp.out;have hK4:=HFit.out.2.1;simp at hlp;omega
    have hge2:¬ pp.length<K.length:=by have hlp:=HLp.out;have hK4:=HFit.out.2.1;simp at hlp;omega
    have HR:Hid (R (.unitL []) (tk K) (.ok (.nd (.mk 1 [] 0 l)) [])):=ui_end HJ.out
    have HBd:=ħ (R_bd HFit.out.2.2 HR.out)
    have HN_n:=ħ (HM_l.out.node 1 [] 0)
    have HZ_n:Hid (w.heap.size≤wx.heap.size):=HW.out.grown.size
    have HNo:=ħ (HN_n.out.toO HBd.out)
    have HW00:=HW
    have HWf:=ħ (wf_back HW.out HV.out hk2)
    replace HW:Hid (Wf w wr [(b,#[.slice pa K.length pc,.int .i64 pp.length,.bool false],41),((b+1),#[.int .i64 1,.string ⟨#[]⟩,.int .i64 0,.slice a0 n0 c0],24),(w2.heap.size,#[.int .i64 sc,.int .i64 (sa:Int)],27),((w.heap.size+1),#[.int .i64 0,.int .i64 0],27),(w.heap.size,#[.int .i64 0,.string ⟨#[]⟩,.int .i64 0,.slice none 0 0],24)]):=by exact HWf
    clear HWf
    replace HN_n:Hid (NdV wr (Av wx.heap.size [(b,#[.slice pa K.length pc,.int .i64 pp.length,.bool false],41),((b+1),#[.int .i64 1,.string ⟨#[]⟩,.int .i64 0,.slice a0 n0 c0],24),(w2.heap.size,#[.int .i64 sc,.int .i64 (sa:Int)],27),((w.heap.size+1),#[.int .i64 0,.int .i64 0],27),(w.heap.size,#[.int .i64 0,.string ⟨#[]⟩,.int .i64 0,.slice none 0 0],24)]) (.mk 1 [] 0 l) (.agg #[.int .i64 1,.string ⟨#[]⟩,.int .i64 0,.slice a0 n0 c0])):=by exact nd_back HW00.out HN_n.out
    clear HW00
    have hc9:=HW.out.c1
    go_wp2_with fail
    clear hcb hc9
    go_at_call 15
    refine (T.rfits_any (w0:=wr) (Below.refl _ _) (.mk 1 [] 0 l) _ HNo.out).mono ?_
    rintro e w10 ⟨rfl,hB⟩
    replace HN_n:=ħ ((Mv.quiet (grown_below hB)).nd HN_n.out)
    replace HW:=ħ (HW.out.quiet (grown_below hB))
    clear hB HNo
    cases hft:fitB (.mk 1 [] 0 l) with
    | false=>
     have HFt:=ħ hft
     clear hft
     have hc11:=HW.out.c1
     have hc12:=HW.out.c4
     have hc13:=HW.out.c3
     have hf14:=HW.out.f4
     have hf15:=HW.out.f3
     replace HW:=ħ (HW.out.s4 (.int .i64 0) (.string ⟨#[]⟩) (.int .i64 0) (.slice none 0 0))
     replace HN_n:=HW.out.ms4.N HN_n
     have hc16:=HW.out.c3
     have hf17:=HW.out.f3
     replace HW:=ħ (HW.out.r30 (.int .i64 1))
     replace HN_n:=HW.out.mr30.N HN_n
     have hc18:=HW.out.c3
     have hf19:=HW.out.f3
     replace HW:=ħ (HW.out.r31 (.int .i64 0))
     replace HN_n:=HW.out.mr31.N HN_n
     have hc20:=HW.out.c4
     have hl21:=HW.out.l4
     have hc22:=HW.out.c3
     have hl23:=HW.out.l3
     go_wp2_with fail
     generalize (((((w10.setCell _ _).setCell _ _).setCell _ _).setCell _ _).setCell _ _).setCell _ _=w24 at *
     clear hc11 hc12 hc13 hf14 hf15 hc16 hf17 hc18 hf19
     refine bodyPost_ret (v:=.tuple #[(.agg #[.int .i64 0,.string ⟨#[]⟩,.int .i64 0,.slice none 0 0]),(.agg #[.int .i64 1,.int .i64 0])]) (by simp [results,Tryz.results7,go_sem,hc20,hl21,hc22,hl23]) rfl ?_
     exact ⟨HW.out.grown,Or.inr ⟨_,_,Or.inr ⟨by rw [← HSc.out];exact HZc.out,Or.inr ⟨.mk 1 [] 0 l,by rw [← HSc.out];exact HR.out,HFt.out,rfl,rfl⟩⟩,rfl⟩⟩
    | true=>
     have HFt:=ħ hft
     clear hft
     have hc25:=HW.out.c1
     have hc26:=HW.out.c4
     have hc27:=HW.out.c3
     have hf28:=HW.out.f4
     have hf29:=HW.out.f3
     replace HW:=ħ (HW.out.s4 (.int .i64 1) (.string ⟨#[]⟩) (.int .i64 0) (.slice a0 n0 c0))
     replace HN_n:=HW.out.ms4.N HN_n
     have hc30:=HW.out.c3
     have hf31:=HW.out.f3
     replace HW:=ħ (HW.out.r30 (.int .i64 0))
     replace HN_n:=HW.out.mr30.N HN_n
     have hc32:=HW.out.c3
     have hf33:=HW.out.f3
     replace HW:=ħ (HW.out.r31 (.int .i64 0))
     replace HN_n:=HW.out.mr31.N HN_n
     have hc34:=HW.out.c4
     have hl35:=HW.out.l4
     have hc36:=HW.out.c3
     have hl37:=HW.out.l3
     go_wp2_with fail
     generalize (((((w10.setCell _ _).setCell _ _).setCell _ _).setCell _ _).setCell _ _).setCell _ _=w38 at *
     clear hc25 hc26 hc27 hf28 hf29 hc30 hf31 hc32 hf33
     refine bodyPost_ret (v:=.tuple #[(.agg #[.int .i64 1,.string ⟨#[]⟩,.int .i64 0,.slice a0 n0 c0]),(.agg #[.int .i64 0,.int .i64 0])]) (by simp [results,Tryz.results7,go_sem,hc34,hl35,hc36,hl37]) rfl ?_
     exact ⟨HW.out.grown,Or.inl ⟨.mk 1 [] 0 l,_,by rw [← HSc.out];exact HZc.out,by rw [← HSc.out];exact HR.out,HFt.out,rfl,HN_n.out.mono (fun k hk _=>Nat.le_trans HZ_n.out hk.1)⟩⟩
   | cons tok rest=>
    have hlt:(pp.length:Int)<K.length:=by have hlp:=HLp.out;have hK4:=HFit.out.2.1;simp at hlp;omega
    have hlt2:pp.length<K.length:=by have hlp:=HLp.out;have hK4:=HFit.out.2.1;simp at hlp;omega
    clear hk2 hk3
    have HF:Hid (Fits K):=HFit.out.1
    have HW0:=HW
    replace HW:=HV
    go_wp2_with fail
    clear hcb
    go_at_call 14
    refine (decl_gd wr HW.out.ps (HF.out.suf HS.out)).mono ?_
    rintro e w39 hp
    obtain ⟨n_y,k_y,t_y,v_y,a_y,l_y,c_y,β39,r39,rfl,HR_y,HN_y,HZ_y,HS_y,HL,hS,hW,hG⟩:=HW.out.okN HS.out hp
    have HO_l:=ħ HM_l.out.lt
    replace HM_l:=HW.out.kR HZ_l hG HM_l
    replace HW:=hW
    replace HS:=hS
    clear hG hp
    replace HW:=HW.out.am w39.heap.size HN_y
    replace HN_y:=HW.out.nA HN_y
    replace HM_l:=HW.out.rA HM_l
    have hc40:=HW.out.c0
    have hc41:=HW.out.c1
    replace HW:=HW.out.am (w39.heap.size+1) HN_y
    replace HN_y:=HW.out.nA HN_y
    replace HM_l:=HW.out.rA HM_l
    have hc42:=HW.out.c0
    have hc43:=HW.out.c1
    have hc44:=HW.out.c2
    go_wp2_with (at_builtin;refine app_l0 _ _ rfl rfl HW.out HM_l.out HN_y.out HZ_l.out HZ_y.out HO_l.out (by have:=HG_l.out;omega) ⟨rfl,rfl,rfl,rfl⟩ ?e1 ?e2 ?_;(case e1=>rfl);(case e2=>rfl);skip)
    intro g45 c45 w45 hW hM hG
    clear HM_l HN_y HZ_l HZ_y HO_l
    replace HW:=ħ hW
    have HM_l2:=ħ hM
    have HZ_l2:=zz wx
    clear hW hM hG
    have hc46:=HW.out.c1
    have hf47:=HW.out.f1
    replace HW:=ħ (HW.out.p13 ((.slice (some ⟨g45,0,none⟩) (l.length+1) c45)))
    replace HM_l2:=HW.out.mp13.R HM_l2
    go_wp2_with fail
    generalize w45.setCell _ _=w48 at *
    clear hc46 hf47
    replace HM_l2:=(Mv.d0 _).R HM_l2
    replace HW:=ħ HW.out.d0
    go_roundw
    case rel=>exact ⟨_,_,_,_,_,_,HW,HM_l2,HS,lu_next HLi.out HR_y.out,ui_next HJ.out HR_y.out⟩
    case measure=>rw [HW.out.ps.leftR,HMu.out];exact less_left HS_y.out.length_le HR_y.out.prog
 have hz':(sc == 0)=false:=by simpa using hz
 have HZc:=ħ hz
 clear hz
 go_wp2_with fail
 generalize w2.alloc _=w4 at *
 clear hc3
 replace HW:=ħ (HW.out.quiet (grown_drew w4))
 refine wp_region_held_drew (S:=(fun _=>True)) (by kernel_rfl) trivial fun hHd=>?_
 generalize w4.drew=w5 at *
 refine tq 0 ?_
 simp only [qq]
 refine rq2 1 2 (fun K hK=>?_) fun K hK=>?_
 ·have hc6:=HW.out.c0
  go_simp
  clear hc6
  refine hK.out _ _ trivial fun hHd=>?_
  clear hK K
  try simp only [qq]
  refine rq 2 fun K hK=>?_
  have hc7:=HW.out.c2
  have hf8:=HW.out.f2
  replace HW:=ħ (HW.out.s2 (.int .i64 0) (.string ⟨#[]⟩) (.int .i64 0) (.slice none 0 0))
  go_simp
  refine hK.out _ _ trivial fun hHd=>?_
  clear hK K
  try simp only [qq]
  generalize (((w5.setCell _ _).setCell _ _).setCell _ _).setCell _ _=w9 at *
  clear hc7 hf8
  refine rq 3 fun K hK=>?_
  have hc10:=HW.out.c1
  have hf11:=HW.out.f1
  replace HW:=ħ (HW.out.r10 (.int .i64 sc))
  replace HW:=ħ (HW.out.r11 (.int .i64 (sa:Int)))
  go_simp
  refine hK.out _ _ trivial fun hHd=>?_
  clear hK K
  try simp only [qq]
  generalize (w9.setCell _ _).setCell _ _=w12 at *
  clear hc10 hf11
  refine wpAnyH_done (by kernel_rfl) ?_ _
  have hc13:=HW.out.c2
  have hl14:=HW.out.l2
  have hc15:=HW.out.c1
  have hl16:=HW.out.l1
  go_wp2_with fail
  refine bodyPost_ret (v:=.tuple #[(.agg #[.int .i64 0,.string ⟨#[]⟩,.int .i64 0,.slice none 0 0]),(.agg #[.int .i64 sc,.int .i64 (sa:Int)])]) (by simp [results,Tryz.results7,go_sem,hc13,hl14,hc15,hl16]) rfl ?_
  exact ⟨HW.out.grown,Or.inr ⟨_,_,Or.inl ⟨HZc.out,by rw [← HSc.out],by rw [← HSc.out]⟩,rfl⟩⟩
 have hc17:=HW.out.c2
 have hf18:=HW.out.f2
 replace HW:=ħ (HW.out.s2 (.int .i64 0) (.string ⟨#[]⟩) (.int .i64 0) (.slice none 0 0))
 go_simp
 refine hK.out _ _ trivial fun hHd=>?_
 clear hK K
 try simp only [qq]
 generalize (((w5.setCell _ _).setCell _ _).setCell _ _).setCell _ _=w19 at *
 clear hc17 hf18
 refine rq 1 fun K hK=>?_
 have hc20:=HW.out.c0
 go_simp
 clear hc20
 refine hK.out _ _ trivial fun hHd=>?_
 clear hK K
 try simp only [qq]
 refine rq 3 fun K hK=>?_
 have hc21:=HW.out.c1
 have hf22:=HW.out.f1
 replace HW:=ħ (HW.out.r10 (.int .i64 sc))
 replace HW:=ħ (HW.out.r11 (.int .i64 (sa:Int)))
 go_simp
 refine hK.out _ _ trivial fun hHd=>?_
 clear hK K
 try simp only [qq]
 generalize (w19.setCell _ _).setCell _ _=w23 at *
 clear hc21 hf22
 refine wpAnyH_done (by kernel_rfl) ?_ _
 have hc24:=HW.out.c2
 have hl25:=HW.out.l2
 have hc26:=HW.out.c1
 have hl27:=HW.out.l1
 go_wp2_with fail
 refine bodyPost_ret (v:=.tuple #[(.agg #[.int .i64 0,.string ⟨#[]⟩,.int .i64 0,.slice none 0 0]),(.agg #[.int .i64 sc,.int .i64 (sa:Int)])]) (by simp [results,Tryz.results7,go_sem,hc24,hl25,hc26,hl27]) rfl ?_
 exact ⟨HW.out.grown,Or.inr ⟨_,_,Or.inl ⟨HZc.out,by rw [← HSc.out],by rw [← HSc.out]⟩,rfl⟩⟩
end Z
end Go.Proofs.YthcfianhdkolhaaGreatDoor.Y
namespace Go.Proofs.YthcfianhdkolhaaGreatDoor.Y
open Go.RowKit Go.Proofs.YthcfianhdkolhaaGreatDoor.T Go.Proofs.YthcfianhdkolhaaGreatDoor.S
open Go.Proofs.YthcfianhdkolhaaGreatDoor.X (Tok toks scan)
set_option linter.unusedVariables false
set_option linter.unusedSimpArgs false
set_option maxRecDepth 100000
set_option maxHeartbeats 4000000
variable {w w' w0 : World} {L : List Bk}
theorem PaNo.one {t:ByteArray} {c a c' a':Int} (h:PaNo t c a) (k:PaNo t c' a'):c=c'∧a=a':=by
 rcases h with ⟨h1,h2,h3⟩|⟨h0,h⟩
 ·rcases k with ⟨_,k2,k3⟩|⟨k0,_⟩
  ·exact ⟨h2.symm.trans k2,h3.symm.trans k3⟩
  exact absurd (h2.symm.trans k0) h1
 rcases k with ⟨k1,k2,_⟩|⟨k0,k⟩
 ·exact absurd (k2.symm.trans h0) k1
 rcases h with ⟨r,hr,hR,rfl,rfl⟩|⟨n,hR,hf,rfl,rfl⟩
 ·rcases k with ⟨r',kr,kR,rfl,rfl⟩|⟨n,kR,_,_,_⟩
  ·have e:=R_one hR kR
   injection e with e
   have el:r.length=r'.length:=by
    have:=congrArg List.length e
    simpa [tk] using this
   obtain ⟨p1,e1⟩:=hr
   obtain ⟨p2,e2⟩:=kr
   have:r=r':=(List.append_inj' (e1.trans e2.symm) el).2
   exact ⟨rfl,by rw [this]⟩
  cases R_one hR kR
 rcases k with ⟨r',_,kR,_,_⟩|⟨m,_,_,rfl,rfl⟩
 ·cases R_one hR kR
 exact ⟨rfl,rfl⟩
theorem PaNo.not {t:ByteArray} {c a:Int} {n:Nd} (h:PaNo t c a) (h0:(scan t).2.1=0) (hR:R (.unitL []) (tk (scan t).1) (.ok (.nd n) [])) (hf:fitB n=true):False:=by
 rcases h with ⟨h1,h2,_⟩|⟨_,⟨r,_,kR,_,_⟩|⟨m,kR,kf,_,_⟩⟩
 ·exact h1 (h2.symm.trans h0)
 ·cases R_one hR kR
 have e:=R_one hR kR
 injection e with e _
 injection e with e
 rw [e,kf] at hf
 cases hf
theorem zero_o (w:World):T.NdO w (.mk 0 [] 0 []) zNode:=(NdV.bare (w:=w) (A:=fun _=>True) 0 [] 0 none 0).toO (bd0 bdL_nil)
theorem parses_true (hX:X.Gl w) (hT:Og w) (t:ByteArray) (hm:t.size≤9223372036854775807):Calls Tryz.prog 3 #[.string t] w fun e w'=>e=.returned (.bool true)∧Below w.heap.size w w':=by
 have HW:Hid (Wf w w []):=Wf.start w
 have HX:=ħ hX
 have HT:=ħ hT
 clear hX hT
 go_enter Tryz.func3,Tryz.ntmps3
 go_wp2_with fail
 go_at_call 6
 refine (parse_post (HX.out.below (below_grown HW.out.grown)) (HT.out.below (below_grown HW.out.grown)) t hm).mono ?_
 rintro e w1 ⟨hG,⟨n,v,h0,hR,hf,rfl,hN⟩|⟨c,a,hP,rfl⟩⟩
 ·obtain ⟨k_n,t_n,v_n,a_n,l_n,c_n,rfl⟩:=hN.form
  have HN_n:=ħ (HW.out.given hN)
  have HZ_n:=zz w
  have HR:=ħ (And.intro h0 (And.intro hR hf))
  clear h0 hR hf hN
  replace HW:=ħ (HW.out.quiet hG)
  clear hG
  replace HW:=HW.out.am w1.heap.size HN_n
  replace HN_n:=HW.out.nA HN_n
  replace HW:=ħ (HW.out.alloc' (w1.heap.size+1) (by simp) #[.int .i64 0,.int .i64 0] 27)
  replace HN_n:=HW.out.nA HN_n
  go_wp2_with fail
  generalize (w1.alloc _).alloc _=w2 at *
  go_at_call 7
  refine (Z.ref_post t hm).mono ?_
  rintro e w3 ⟨hG2,⟨m,v2,g0,gR,gf,rfl,hN2⟩|⟨c2,a2,hP2,rfl⟩⟩
  ·obtain ⟨k_m,t_m,v_m,a_m,l_m,c_m,rfl⟩:=hN2.form
   have e9:=R_one HR.out.2.1 gR
   injection e9 with e9 _
   injection e9 with e9
   subst e9
   have HN_m:=ħ (HW.out.given hN2)
   have HZ_m:Hid (w.heap.size≤w2.heap.size):=HW.out.grown.size
   clear g0 gR gf hN2
   replace HN_n:=(Mv.quiet hG2).N HN_n
   replace HW:=ħ (HW.out.quiet hG2)
   clear hG2
   replace HW:=HW.out.am w3.heap.size HN_m
   replace HN_n:=HW.out.nA HN_n
   replace HN_m:=HW.out.nA HN_m
   replace HW:=ħ (HW.out.alloc' (w3.heap.size+1) (by simp) #[.int .i64 0,.int .i64 0] 27)
   replace HN_n:=HW.out.nA HN_n
   replace HN_m:=HW.out.nA HN_m
   have hc4:=HW.out.c0
   have hc5:=HW.out.c1
   have hc6:=HW.out.c2
   have hc7:=HW.out.c3
   go_wp2_with fail
   generalize (w3.alloc _).alloc _=w8 at *
   clear hc4 hc5 hc6 hc7
   go_at_call 8
   refine (same_any n _ _ _ (HN_n.out.toO (R_bd (scan_fits HR.out.1).2.2 HR.out.2.1)) (HN_m.out.toO (R_bd (scan_fits HR.out.1).2.2 HR.out.2.1))).mono ?_
   rintro e w9 ⟨rfl,hB⟩
   replace HW:=ħ (HW.out.quiet (grown_below hB))
   clear hB
   clear HN_n HN_m HZ_n HZ_m
   go_wp2_with fail
   go_ret
   exact ⟨by simp,below_grown HW.out.grown⟩
  exact (hP2.not HR.out.1 HR.out.2.1 HR.out.2.2).elim
 have HP:=ħ hP
 clear hP
 replace HW:=ħ (HW.out.quiet hG)
 clear hG
 replace HW:=HW.out.az w1.heap.size
 replace HW:=ħ (HW.out.alloc' (w1.heap.size+1) (by simp) #[.int .i64 c,.int .i64 a] 27)
 go_wp2_with fail
 generalize (w1.alloc _).alloc _=w10 at *
 go_at_call 7
 refine (Z.ref_post t hm).mono ?_
 rintro e w11 ⟨hG2,⟨m,v2,g0,gR,gf,rfl,hN2⟩|⟨c2,a2,hP2,rfl⟩⟩
 ·exact (HP.out.not g0 gR gf).elim
 obtain ⟨rfl,rfl⟩:=HP.out.one hP2
 clear hP2
 replace HW:=ħ (HW.out.quiet hG2)
 clear hG2
 replace HW:=HW.out.az w11.heap.size
 replace HW:=ħ (HW.out.alloc' (w11.heap.size+1) (by simp) #[.int .i64 c,.int .i64 a] 27)
 have hc12:=HW.out.c0
 have hc13:=HW.out.c1
 have hc14:=HW.out.c2
 have hc15:=HW.out.c3
 go_wp2_with fail
 generalize (w11.alloc _).alloc _=w16 at *
 clear hc12 hc13 hc14 hc15
 go_at_call 8
 refine (same_any (.mk 0 [] 0 []) _ _ _ (zero_o _) (zero_o _)).mono ?_
 rintro e w17 ⟨rfl,hB⟩
 replace HW:=ħ (HW.out.quiet (grown_below hB))
 clear hB
 go_wp2_with fail
 go_ret
 exact ⟨by simp,below_grown HW.out.grown⟩
end Go.Proofs.YthcfianhdkolhaaGreatDoor.Y
namespace Go.Proofs.YthcfianhdkolhaaGreatDoor.syntaxParses
open Go.Proofs.YthcfianhdkolhaaGreatDoor Go.Proofs.YthcfianhdkolhaaGreatDoor.T
open Go.ChangeShapes Go.WideShapes Go.ChangeAt Go.RowKit
set_option maxRecDepth 100000
set_option maxHeartbeats 2000000
set_option linter.unusedVariables false
theorem own:ownKnob Tryz.prog.godebug=none:=by kernel_rfl

theorem glob_of {W:World} (h:laidMetH Tryz.prog Rows.syntaxParsesRow.laid W):X.Gl W∧Y.Og W:=by
 have h' : laidMet Tryz.prog [("math/bits.deBruijn32tab", Rows.laid_math_bits_deBruijn32tab), ("math/bits.deBruijn64tab", Rows.laid_math_bits_deBruijn64tab), ("internal/strconv.uint64pow10", Rows.laid_internal_strconv_uint64pow10), ("strconv.ErrRange", Rows.laid_strconv_ErrRange), ("strconv.ErrSyntax", Rows.laid_strconv_ErrSyntax), ("scarfjoint/syntax.operators", Rows.laid_scarfjoint_syntax_operators)] W := by
  rw [MakeChecks.laidMetH_plain _ _ _ (by kernel_rfl)] at h
  exact h
 exact ⟨er_of h'.tail.tail.tail,⟨fun k hk=>opers_of h'.tail.tail.tail.tail.tail k hk⟩⟩

theorem door_met (os:Os) (args:Array Value):laidMetH Tryz.prog Rows.syntaxParsesRow.laid ((World.doorLaid Tryz.prog 200 os).forCall (fun _ _=>0) ⟨#[],args,[]⟩).memory:=
 laidMetH_of_parts3 (fuel:=8) (laidMet_of_run' 8 (by kernel_rfl) (by kernel_rfl)) (by kernel_rfl) (by kernel_rfl)

theorem lifted (os:Os) (started:os.Started) (H:Type) (enc:TypeId × Value→H):
  ReturnsInHanded {} Tryz.checked os 3 .any (fun w args=>(Rows.syntaxParsesSpec.pre enc Tryz.prog Tryz.f3 [] false w args∧laidMetH Tryz.prog Rows.syntaxParsesRow.laid w)∧sizedMet enc Tryz.prog Tryz.f3 (OpenSpec.ofChange Rows.syntaxParsesSpec) false w args)
   (Rows.syntaxParsesSpec.post enc Tryz.prog Tryz.f3 false true false false):=by
 refine returnsInHanded_of_change_and (C:=Tryz.checked) (X:=fun w _=>laidMetH Tryz.prog Rows.syntaxParsesRow.laid w) (fun _ _ _ hh h=>h.of_heap hh) own started (by kernel_rfl) Tryz.func3
  (ChangeSpec.witness_shaped (enc:=enc) (C:=Tryz.checked) (os:=os) (X:=fun w _=>laidMetH Tryz.prog Rows.syntaxParsesRow.laid w) false (World.doorLaid Tryz.prog 200 os) #[.string ⟨#[]⟩] 8 rfl (World.shaped_of_RefB (by kernel_rfl) (by kernel_rfl)) (by kernel_rfl) (by kernel_rfl) (by kernel_rfl) (door_met os _)) ?_
 intro W base args ds gs before hval0 hW _ hsz hL _
 have hval:∀ (j:Nat) t v,Tryz.f3.params[j]?=some t→args[j]?=some v→Value.okWide Tryz.prog W .any base t v:=hval0
 have hW':=hW
 obtain ⟨p,q,hA0,hV,rfl,hfz,hnd⟩:=hW
 have hA:DataW.TrodAll enc Tryz.prog W 0 (fun _=>true) true Tryz.f3.params.toList args.toList ds p:=hA0
 rw [Tryz.params3] at hA hval
 obtain ⟨v0,d0,rfl,rfl,h0⟩:=trodAll_one hA
 obtain ⟨rfl,rfl⟩:=trodVars_none hV
 obtain ⟨s,rfl,rfl,rfl,ws⟩:=Go.ChangeMaps.open_string Tryz.underlying9 (hval 0 9 v0 rfl rfl) h0
 have hsz2:(DataW.weightsEach Tryz.prog (Tryz.f3.params.toList++Rows.syntaxParsesSpec.plain.varTypes Tryz.prog) ([.lit (.string s.data.toList)]++[])).all (·≤reachBytes)=true:=hsz
 rw [Tryz.params3] at hsz2
 have hsz1:s.size≤9223372036854775807:=by
  have h1:=sized_string hsz2 (j:=0) (t:=9) rfl rfl
  have h47:=reachBytes_lt
  have e1:s.size=s.data.size:=rfl
  have e2:s.data.toList.length=s.data.size:=Array.length_toList
  have e3:(2:Nat) ^ 47=140737488355328:=by decide
  omega
 obtain ⟨G1,G2⟩:=glob_of hL
 clear hA0 hval0
 simp only [List.append_nil] at hW'
 refine (Y.parses_true G1 G2 s hsz1).mono fun e W' ⟨he,hg⟩=>?_
 subst he
 exact ⟨_,rfl,post_below (pa:=[]) (pv:=[]) hW' (fun _ _ _=>trodAll_mk1 (shut_bool Tryz.underlying4 _)) (fun sp _=>trodAll_mk1 (Go.ChangeMaps.shut_string Tryz.underlying9 ws)) (fun _ _=>rfl) rfl hg⟩

theorem over:Rows.SyntaxParsesSaid:=
 OpenClaim.holds_of_wide 3 Tryz.f3 rfl rfl rfl rfl rfl rfl rfl ⟨rfl,rfl,rfl,rfl,rfl⟩ rfl rfl rfl rfl rfl (by kernel_rfl) Tryz.func3 (by kernel_rfl)
  (of_decide_eq_true (by kernel_rfl)) (by unfold Func.isWrapper;first|(rw [if_pos (by decide +kernel)];kernel_rfl)|(rw [if_neg (by decide +kernel)];exact ⟨rfl,rfl⟩))
  (fun os started H enc _=>lifted os started H enc)

theorem proved:Rows.SyntaxParsesCardSaid:=
 Claim7.holds_tied_plain_at .later [] [.data, .data, .data, .sentinel, .sentinel, .data] true (true, "4fe14abebd8bc01ad2f6c04ca73406663449811d2f37149aeaebcbf29af9cf77") true
  over (fun _ h=>by cases h) (by kernel_rfl) (fun _ h=>by cases h) syntaxParses_row_tie rfl ⟨rfl,rfl⟩ (by kernel_rfl) rfl
  (fun f fn hf hfn=>by
   obtain rfl : f = 3 := Option.some.inj ((show Tryz.prog.funcNamed "scarfjoint/scarfjointlaw.SyntaxParses" = some 3 by kernel_rfl).symm.trans hf) |>.symm
   obtain rfl:fn=Tryz.f3:=(Option.some.inj (Tryz.func3.symm.trans hfn)).symm
   exact ⟨by kernel_rfl,fun j t ht=>by
    rw [Tryz.params3] at ht
    have hm:t∈[9]:=by simpa using Array.mem_of_getElem? ht
    have hall:([9].all fun u=>!Tryz.prog.wantsStandIn u)=true:=by kernel_rfl
    exact (show Tryz.prog.wantsStandIn t=false by simpa using List.all_eq_true.1 hall t hm)⟩)
  (by kernel_rfl)
#print axioms proved
end Go.Proofs.YthcfianhdkolhaaGreatDoor.syntaxParses
