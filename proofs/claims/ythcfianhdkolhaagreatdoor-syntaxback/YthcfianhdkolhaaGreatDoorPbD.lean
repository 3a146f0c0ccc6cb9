/- PbD -/
import Derived.Test.YthcfianhdkolhaaGreatDoorPbB
import Derived.Laws.OwnMore
namespace Go.Proofs.YthcfianhdkolhaaGreatDoor.Y
open Go.RowKit Go.Proofs.YthcfianhdkolhaaGreatDoor.X Go.Proofs.YthcfianhdkolhaaGreatDoor.T Go.Proofs.YthcfianhdkolhaaGreatDoor.S
set_option linter.unusedVariables false
set_option linter.unusedSimpArgs false
variable {w w' w0 : World} {b g : Nat} {m : Value} {ts : List Tok} {t : Tok}
theorem cellsN_length (l:List (Value × Value × Value × Value)):(cellsN l).length=l.length*4:=by
 induction l with
 | nil=>rfl
 | cons x r ih=>
  obtain ⟨a,b,c,d⟩:=x
  show (cellsN r).length+1+1+1+1=(r.length+1)*4
  omega
theorem RowN.shape {A:Nat→Prop} {v:Value} {l:List Nd} (h:RowN w A v l):(v=.slice none 0 0∧l=[])∨∃ q cap,v=.slice (some ⟨q,0,none⟩) l.length cap∧l.length≤cap∧cap≤maxLen:=by
 obtain ⟨cs,h1,h2,h3⟩:=h.row
 rcases h2.2 with ⟨rfl,hl⟩|⟨g,cap,cu,rfl,hb,hh,r⟩
 ·exact Or.inl ⟨rfl,List.eq_nil_of_length_eq_zero hl⟩
 ·exact Or.inr ⟨g,cap,rfl,r.1,r.2.1⟩
theorem NdV.cells {A:Nat→Prop} {n:Nd} {a b c d:Value} (h:NdV w A n (.agg #[a,b,c,d])):a.oneCell'=true∧b.oneCell'=true∧c.oneCell'=true∧d.oneCell'=true:=by
 obtain ⟨k,t,v,ka,kn,kc,e⟩:=h.form
 have e':#[a,b,c,d]=#[.int .i64 k,.string t,.int .i64 v,.slice ka kn kc]:=Value.agg.inj e
 have e2:=congrArg Array.toList e'
 simp at e2
 obtain ⟨rfl,rfl,rfl,rfl⟩:=e2
 exact ⟨rfl,rfl,rfl,rfl⟩
theorem mem_cells:∀ (l:List (Value × Value × Value × Value)) (u:Value),u∈cellsN l→∃ j,∃ (h:j<l.length),u=l[j].1∨u=l[j].2.1∨u=l[j].2.2.1∨u=l[j].2.2.2
 | [],u,h=>by simp [cellsN] at h
 | (a,b,c,d)::r,u,h=>by
  have h':u=a∨u=b∨u=c∨u=d∨u∈cellsN r:=by simpa [cellsN] using h
  rcases h' with h'|h'|h'|h'|h'
  ·exact ⟨0,by simp,Or.inl h'⟩
  ·exact ⟨0,by simp,Or.inr (Or.inl h')⟩
  ·exact ⟨0,by simp,Or.inr (Or.inr (Or.inl h'))⟩
  ·exact ⟨0,by simp,Or.inr (Or.inr (Or.inr h'))⟩
  ·obtain ⟨j,hj,e⟩:=mem_cells r u h'
   exact ⟨j+1,by simpa using hj,by simpa using e⟩
theorem app_rows {A:Nat→Prop} {v v2:Value} {l l2:List Nd} (hown:RowN w A v l) (h2:RowN w (fun k=>A k∧some k≠v.ownBlock) v2 l2) (hn:l.length+l2.length≤16000) (hA':A w.heap.size) (ty:TypeId):
  (v2=.slice none 0 0∧l2=[]∧(Builtin.append_ #[22,22] ty #[v,v2]).run Tryz.prog w=.ok v w)∨(l2=[]) ∨
  ∃ gg cap w',(Builtin.append_ #[22,22] ty #[v,v2]).run Tryz.prog w=.ok (.slice (some ⟨gg,0,none⟩) (l++l2).length cap) w'∧RowN w' A (.slice (some ⟨gg,0,none⟩) (l++l2).length cap) (l++l2)∧w.grownBy w' v.ownBlock:=by
 obtain ⟨i0,hi,hz0,hz1,hz2⟩:=info_parts info24
 obtain ⟨cs,c1,c2,c3⟩:=hown.row
 obtain ⟨ds,d1,d2,d3⟩:=h2.row
 by_cases he:l2=[]
 ·exact Or.inr (Or.inl he)
 have hpos:0<l2.length:=List.length_pos_iff.2 he
 rcases d2.2 with ⟨rfl,hl⟩|⟨q,cap2,cu,rfl,hb2,hh2,r1,r2,r3,r4⟩
 ·exact absurd hl (by omega)
 refine Or.inr (Or.inr ?_)
 have hnews:∀ j u,(cellsN ds)[j]?=some u→w.cell? ((⟨q,0,none⟩:Addr).add j)=some u:=fun j u hu=>by
  have hj:j<l2.length*4:=by
   have:=(List.getElem?_eq_some_iff.1 hu).1
   rw [cellsN_length,d1] at this
   exact this
  have e:w.cell? ⟨q,j,none⟩=(cellsN ds)[j]?:=by
   rw [← r4,List.getElem?_take_of_lt hj,Array.getElem?_toList]
   simp [World.cell?,hh2]
  have e3:((⟨q,0,none⟩:Addr).add j)=⟨q,j,none⟩:=by simp [Addr.add];omega
  rw [e3,e]
  exact hu
 have h1:∀ u∈cellsN ds,u.oneCell'=true:=fun u hu=>by
  obtain ⟨j,hj,e⟩:=mem_cells ds u hu
  have hc:=(d3 j (by omega) hj).cells
  rcases e with rfl|rfl|rfl|rfl
  ·exact hc.1
  ·exact hc.2.1
  ·exact hc.2.2.1
  ·exact hc.2.2.2
 obtain ⟨gg,cap,w',hr,h3,h4,h5,h6⟩:=run_append_lies (P:=Tryz.prog) w 22 ty 0 24 i0 _ 4 56 Tryz.underlying22 hi hz0 hz1 hz2 rfl (by decide) v l.length (cellsN cs) c2 ⟨q,0,none⟩ l2.length cap2 (cellsN ds) (by rw [cellsN_length,d1]) hnews h1 hpos (by unfold maxLen;omega) (by omega) (Nat.zero_le _) w.heap.size rfl
 have el:(l++l2).length=l.length+l2.length:=by simp
 have hgA:A gg:=by
  rcases h5 with e|e
  ·exact hown.own gg e
  ·rw [e];exact hA'
 refine ⟨gg,cap,w',by rw [el];exact hr,?_,h4⟩
 have hn1:∀ n u,NdV w (fun k=>A k∧some k≠v.ownBlock) n u→NdV w' (fun k=>A k∧some k≠some gg) n u:=fun n u hu=>hu.move (fun k hk' hlt=>⟨h4.block k hlt hk'.2,hk'.1,fun e2=>by
  injection e2 with e2
  rcases h5 with e|e
  ·exact hk'.2 (by rw [e,e2])
  ·omega⟩)
 refine ⟨fun k hk'=>?_,cs++ds,by simp [c1,d1],?_,fun j hj hj'=>?_⟩
 ·obtain rfl:gg=k:=by simpa [Value.ownBlock] using hk'
  exact hgA
 ·rw [cellsN_app,el]
  exact h3
 ·by_cases q':j<l.length
  ·have q'':j<cs.length:=by omega
   rw [List.getElem_append_left q']
   simp only [List.getElem_append_left q'']
   exact hn1 _ _ (c3 j q' q'')
  ·have q2:l.length≤j:=by omega
   have q3:cs.length≤j:=by omega
   have q4:j - l.length<l2.length:=by rw [el] at hj;omega
   have q5:j - l.length<ds.length:=by omega
   rw [List.getElem_append_right q2]
   simp only [List.getElem_append_right q3,c1]
   exact hn1 _ _ ((d3 (j - l.length) q4 q5).mono (fun k hk' _=>hk'.1))
theorem app_rows_step {ops:Array Oper} {o:Oper} {a:Act} {K:Act→World→Prop} {Q:Exit→Act→World→Prop} {E:Prop} {L:List Bk} (p q:Operand) (hgd:o.guard=none)
  (ho:o.op=.call { callee:=.builtin .append,args:=#[p,q],argTypes:=#[22,22] }) {s0:Nat} {v v2:Value} {l l2:List Nd}
  (HW:Wd w0 w b g m ts L) (HM:RowN w (Av s0 L) v l) (HM2:RowN w (fun k=>Av w0.heap.size L k∧some k≠v.ownBlock) v2 l2) (hz:w0.heap.size≤s0) (hn:l.length+l2.length≤16000) (hnil:l2=[]→v2=.slice none 0 0) (hv:l≠[])
  (hs:a.eval p=v) (hx:a.eval q=v2)
  (h:∀ gg cap w',Wd w0 w' b g m ts L→RowN w' (Av w0.heap.size L) (.slice (some ⟨gg,0,none⟩) (l++l2).length cap) (l++l2)→w.grownBy w' v.ownBlock→K (a.put o.dst (.slice (some ⟨gg,0,none⟩) (l++l2).length cap)) w'):
  if Region.wanted o (yielded ops a.tmps)=true then Oper.wp Tryz.prog o a w K Q else E:=by
 have hw:Region.wanted o (yielded ops a.tmps)=true:=by simp [Region.wanted,hgd]
 rw [if_pos hw]
 have hA':Av w0.heap.size L w.heap.size:=⟨HW.grown.size,fun y hy=>by have:=HW.lt y hy;omega⟩
 by_cases he:l2=[]
 ·subst he
  obtain rfl:=hnil rfl
  obtain ⟨i0,hi,hz0,hz1',hz2⟩:=info_parts info24
  obtain ⟨cs,c1,c2,c3⟩:=HM.row
  have hr:=run_append_owned_none (P:=Tryz.prog) (w:=w) 0 22 o.type 24 i0 4 Tryz.underlying22 hi v l.length (cellsN cs) c2
  rcases HM.shape with ⟨rfl,e⟩|⟨gg,cap,rfl,_⟩
  ·exact absurd e hv
  unfold Oper.wp execOp
  simp only [ho,resolve,invoke,builtin,Sem.run_bind,Sem.run_pure,Result.andThen_ok,List.map_toArray,List.map_cons,List.map_nil,hs,hx,hr]
  have:=h gg cap w HW (by rw [List.append_nil];exact HM.less hz) ⟨rfl,rfl,rfl,Nat.le_refl _,fun _ _ _=>rfl⟩
  rw [List.append_nil] at this
  exact this
 ·rcases app_rows (HM.less hz) HM2 hn hA' o.type with ⟨_,e,_⟩|e|⟨gg,cap,w',hr,h3,h4⟩
  ·exact absurd e he
  ·exact absurd e he
  unfold Oper.wp execOp
  simp only [ho,resolve,invoke,builtin,Sem.run_bind,Sem.run_pure,Result.andThen_ok,List.map_toArray,List.map_cons,List.map_nil,hs,hx,hr]
  exact h gg cap w' (HW.rowed h4 (Nat.le_refl _) (fun j hj=>(HM.less hz).own j hj)) h3 h4
theorem apart_old {L:List Bk} {s1:Nat} {v v2:Value} {l2:List Nd} (h:RowN w (Av s1 L) v2 l2) (hz:w0.heap.size≤s1) (hk:∀ j,v.ownBlock=some j→j<s1):RowN w (fun k=>Av w0.heap.size L k∧some k≠v.ownBlock) v2 l2:=
 h.move (fun k hk' _=>⟨rfl,⟨Nat.le_trans hz hk'.1,hk'.2⟩,fun e=>by have:=hk k e.symm;have:=hk'.1;omega⟩)
theorem apart_new {L:List Bk} {s1 q cp n:Nat} {x:Bk} {v2:Value} {l2:List Nd} (h:RowN w (Av s1 (x::L)) v2 l2) (hz:w0.heap.size≤s1) (hq:x.1=q):RowN w (fun k=>Av w0.heap.size L k∧some k≠(Value.slice (some ⟨q,0,none⟩) n cp).ownBlock) v2 l2:=
 h.move (fun k hk' _=>⟨rfl,⟨Nat.le_trans hz hk'.1,fun y hy=>hk'.2 y (List.mem_cons_of_mem _ hy)⟩,fun e=>hk'.2 x List.mem_cons_self (by have:k=q:=Option.some.inj e;omega)⟩)
structure Loop (c:List UInt8) (J:List Nd→List Tk→Prop) (Kp:Option (List Nd)→List Tk→Prop) (ts:List Tk):Prop where
 z:hd ts=c→Kp (some []) ts.tail
 j0:¬ hd ts=c→J [] ts
 no:∀ acc t r,J acc t→R .expr t (.no r)→Kp none r
 comma:∀ acc t x r,J acc t→R .expr t (.ok (.nd x) r)→hd r=sCOMMA→J (acc++[x]) r.tail
 done:∀ acc t x r,J acc t→R .expr t (.ok (.nd x) r)→¬ hd r=sCOMMA→hd r=c→Kp (some (acc++[x])) r.tail
 bad:∀ acc t x r,J acc t→R .expr t (.ok (.nd x) r)→¬ hd r=sCOMMA→¬ hd r=c→Kp none r
def PartsP (Kp:Option (List Nd)→List Tk→Prop) (w:World) (b g:Nat) (m:Value) (ts:List Tok) (e:Ending) (w':World):Prop:=w.grownBy w' (some b)∧∃ r,r <:+ ts ∧
 ((∃ l v,r.length<ts.length∧l.length+r.length≤ts.length∧Kp (some l) (tk r)∧e=.returned v∧RowN w' (fun k=>w.heap.size≤k) v l∧(l=[]→v=.slice none 0 0)∧Ps w' b g m r)∨(Kp none (tk r)∧e=up r))
def PostB (n:Nd) (w0:World) (b g:Nat) (m:Value) (ts:List Tok) (L:List Bk) (e:Ending) (w':World):Prop:=w0.grownBy w' (some b)∧∃ r,r <:+ ts ∧
 ((∃ n' v,R (.postL n) (tk ts) (.ok (.nd n') (tk r))∧e=.returned v∧NdV w' (Av w0.heap.size L) n' v∧Wd w0 w' b g m r L)∨(R (.postL n) (tk ts) (.no (tk r))∧e=up r))
theorem Ps.cell1 (h:Ps w b g m ts):w.cell? ⟨b,1,none⟩=some m:=by
 obtain ⟨a,o,c,h1,_⟩:=h.blk
 exact cells_at h1 1
end Go.Proofs.YthcfianhdkolhaaGreatDoor.Y
