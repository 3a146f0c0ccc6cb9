/- PbK PbL PbM -/
import Derived.Test.YthcfianhdkolhaaGreatDoorPbJ
import Derived.Test.YthcfianhdkolhaaGreatDoorPrD
namespace Go.Proofs.YthcfianhdkolhaaGreatDoor.Y
open Go.RowKit Go.Proofs.YthcfianhdkolhaaGreatDoor.X Go.Proofs.YthcfianhdkolhaaGreatDoor.T Go.Proofs.YthcfianhdkolhaaGreatDoor.S
set_option maxRecDepth 100000
set_option maxHeartbeats 2000000
set_option linter.unusedVariables false
set_option linter.unusedSimpArgs false
variable {w w' : World} {b g : Nat} {m : Value} {ts : List Tok} {t : Tok}
theorem RowN.both {A A' B:Nat→Prop} {v:Value} {l:List Nd} (h:RowN w (fun k=>A k∧B k) v l) (hm:Mv w w' A A'):RowN w' (fun k=>A' k∧B k) v l:=h.move (fun k hk hl=>⟨(hm k hk.1 hl).1,(hm k hk.1 hl).2,hk.2⟩)
theorem apart_bnd {w0 w:World} {L:List Bk} {s s1:Nat} {v v2:Value} {l l2:List Nd} (h:RowN w (fun k=>Av s L k∧k<s1) v2 l2) (hz:w0.heap.size≤s) (hM:RowN w (Av s1 L) v l):RowN w (fun k=>Av w0.heap.size L k∧some k≠v.ownBlock) v2 l2:=
 h.move (fun k hk _=>⟨rfl,⟨Nat.le_trans hz hk.1.1,hk.1.2⟩,fun e=>by have:=(hM.own k e.symm).1;have:=hk.2;omega⟩)
theorem app_rows_list {w0 w:World} {ops:Array Oper} {rest:List Oper} {o:Oper} {a:Act} {Q:Exit→Act→World→Prop} {L:List Bk} (p q:Operand) (hgd:o.guard=none)
  (ho:o.op=.call { callee:=.builtin .append,args:=#[p,q],argTypes:=#[22,22] }) {s0:Nat} {v v2:Value} {l l2:List Nd}
  (HW:Wd w0 w b g m ts L) (HM:RowN w (Av s0 L) v l) (HM2:RowN w (fun k=>Av w0.heap.size L k∧some k≠v.ownBlock) v2 l2) (hz:w0.heap.size≤s0) (hn:l.length+l2.length≤16000) (hnil:l2≠[]) (hu:True)
  (hs:a.eval p=v) (hx:a.eval q=v2)
  (h:∀ gg cap w',Wd w0 w' b g m ts L→RowN w' (Av w0.heap.size L) (.slice (some ⟨gg,0,none⟩) (l++l2).length cap) (l++l2)→w.grownBy w' v.ownBlock→wpList Tryz.prog ops Q rest (a.put o.dst (.slice (some ⟨gg,0,none⟩) (l++l2).length cap)) w'):
  wpList Tryz.prog ops Q (o::rest) a w:=by
 have hA':Av w0.heap.size L w.heap.size:=⟨HW.grown.size,fun y hy=>by have:=HW.lt y hy;omega⟩
 rcases app_rows (HM.less hz) HM2 hn hA' o.type with ⟨_,e,_⟩|e|⟨gg,cap,w',hr,h3,h4⟩
 ·exact absurd e hnil
 ·exact absurd e hnil
 refine wpList_plain hgd fun K hK=>?_
 unfold Oper.wp execOp
 simp only [ho,resolve,invoke,builtin,Sem.run_bind,Sem.run_pure,Result.andThen_ok,List.map_toArray,List.map_cons,List.map_nil,hs,hx,hr]
 exact hK _ _ (h gg cap w' (HW.rowed h4 (Nat.le_refl _) (fun j hj=>(HM.less hz).own j hj)) h3 h4)
theorem param_later (hb5:4<b) (ts:List Tok):Later 123 (.item 1) b g m ts:=fun r _ _=>param_any hb5 r
def PostF (qn:Nat) (k:Value) (s:Value) (t:Nd) (w0:World) (b g:Nat) (m:Value) (ts:List Tok) (L:List Bk) (e:Ending) (w':World):Prop:=w0.grownBy w' (some b)∧∃ r,r <:+ ts ∧
 ((∃ l d gg cap,r.length<ts.length∧l.length+r.length≤ts.length∧R (.rows 1) (tk ts) (.ok (.row l d) (tk r))∧e=.returned (.tuple #[])∧Wd w0 w' b g m r ((qn,#[k,s,.int .i64 (b2n d),.slice (some ⟨gg,0,none⟩) (l.length+1) cap],24)::L)∧RowN w' (Av w0.heap.size ((qn,#[k,s,.int .i64 (b2n d),.slice (some ⟨gg,0,none⟩) (l.length+1) cap],24)::L)) (.slice (some ⟨gg,0,none⟩) (l.length+1) cap) (l++[t]))∨(R (.rows 1) (tk ts) (.no (tk r))∧e=up r))
theorem function_any {w0 w:World} {L:List Bk} {qn q:Nat} {kk v:Int} {s:ByteArray} {t:Nd} (hW:Wd w0 w b g m ts ((qn,#[.int .i64 kk,.string s,.int .i64 v,.slice (some ⟨q,0,none⟩) 1 1],24)::L)) (hM:RowN w (Av w0.heap.size ((qn,#[.int .i64 kk,.string s,.int .i64 v,.slice (some ⟨q,0,none⟩) 1 1],24)::L)) (.slice (some ⟨q,0,none⟩) 1 1) [t]) (hF:Fits ts) (hlen:ts.length≤4000):Calls Tryz.prog 96 #[.pointer (some ⟨b,0,none⟩),.pointer (some ⟨qn,0,none⟩)] w (PostF qn (.int .i64 kk) (.string s) t w0 b g m ts L):=by
 have HW:Hid (Wd w0 w b g m ts ((qn,#[.int .i64 kk,.string s,.int .i64 v,.slice (some ⟨q,0,none⟩) 1 1],24)::L)):=hW
 have HS:Hid (ts <:+ ts):=List.suffix_refl _
 have HF:Hid (Fits ts):=hF
 have HLn:Hid (ts.length≤4000):=hlen
 have HM_a:=hide hM
 have HZ_a:Hid (w0.heap.size≤w0.heap.size):=Nat.le_refl _
 clear hW hF hlen hM
 go_enter Tryz.func96,Tryz.ntmps96
 go_wp2_with fail
 replace HM_a:Hid (RowN w (fun j=>Av w0.heap.size ((qn,#[.int .i64 kk,.string s,.int .i64 v,.slice (some ⟨q,0,none⟩) 1 1],24)::L) j∧j<w.heap.size) (.slice (some ⟨q,0,none⟩) 1 1) [t]):=HM_a.out.move (fun j hj hl=>⟨rfl,hj,hl⟩)
 go_at_call 122
 refine (open_param HW.out.ps HW.out.two HW.out.glo HW.out.bg HW.out.glt (HF.out.suf HS.out) (Nat.le_trans HS.out.length_le HLn.out) (param_later HW.out.bg _)).mono ?_
 rintro e w1 ⟨hG1,r1,hsu,⟨l_l,d_l,vv_l,hlt,hll,hR,rfl,hM,hP1⟩|⟨hR,rfl⟩⟩
 rotate_left
 ·exact ⟨rfl,grown_trans HW.out.grown hG1,_,hsu.trans HS.out,Or.inr ⟨hR,rfl⟩⟩
 have HR_l:=hide hR
 have HLl_l:Hid (l_l.length+r1.length≤ts.length):=hll
 have HM_l:=hide (hM.given HW.out)
 have HZ_l:Hid (w0.heap.size≤w.heap.size):=HW.out.grown.size
 have HSl:Hid (r1 <:+ ts):=hsu
 have HL:Hid (r1.length<ts.length):=Nat.lt_of_lt_of_le hlt HS.out.length_le
 replace HM_a:=hide (HM_a.out.both (Mv.call (Nat.lt_of_lt_of_le HW.out.bl HZ_a.out) hG1 _))
 replace HW:=hide (HW.out.call hG1 hP1)
 replace HS:=hide ((hsu).trans HS.out)
 clear hP1 hG1 hR hM hsu hlt hll
 have hc2:=HW.out.c0
 have hf3:=HW.out.f0
 replace HW:=hide (HW.out.p02 (.int .i64 (b2n d_l)))
 replace HM_a:=hide (HM_a.out.both (HW.out.mp02))
 replace HM_l:=hide ((HW.out.mp02).row HM_l.out)
 have hc4:=HW.out.c0
 have hf5:=HW.out.f0
 go_wp2_with (at_builtin;refine app_rows_list _ _ rfl rfl HW.out HM_l.out (apart_bnd HM_a.out HZ_a.out HM_l.out) HZ_l.out (by have h1:=HLl_l.out;have h2:=HLn.out;simp only [List.length_cons,List.length_nil];omega) (by simp) (trivial) ?e1 ?e2 ?_;(case e1=>rfl);(case e2=>rfl);skip)
 intro g6 c6 w6 hW6 hM6 hG6
 clear HM_l HM_a HZ_l HZ_a
 replace HW:=hide (hW6)
 have HM_c:Hid (RowN w6 (Av w0.heap.size ((qn,#[.int .i64 kk,.string s,.int .i64 (b2n d_l),.slice (some ⟨q,0,none⟩) 1 1],24)::L)) (.slice (some ⟨g6,0,none⟩) (l_l.length+1) c6) (l_l++[t])):=hM6
 have HZ_c:Hid (w0.heap.size≤w0.heap.size):=Nat.le_refl _
 clear hW6 hM6 hG6
 have hc7:=HW.out.c0
 have hf8:=HW.out.f0
 replace HW:=hide (HW.out.p03 ((.slice (some ⟨g6,0,none⟩) (l_l.length+1) c6)))
 replace HM_c:=hide ((HW.out.mp03).row HM_c.out)
 go_wp2_with fail
 generalize w6.setCell _ _=w9 at *
 clear hc7 hf8
 go_end0
 exact ⟨HW.out.grown,_,HS.out,Or.inl ⟨_,_,_,_,HL.out,HLl_l.out,HR_l.out,rfl,HW.out,HM_c.out⟩⟩
theorem num_bound {l:List UInt8} {v:Int} (h:∃ c r,l=c::r∧48≤c.toNat∧c.toNat≤57) (e:Lib.parseIntB 64 l=.ok v):0≤v∧v≤9223372036854775807:=by
 obtain ⟨c,r,rfl,h1,h2⟩:=h
 have n1:¬ (c.toNat=43∨c.toNat=45):=by omega
 have n2:¬ c.toNat=45:=by omega
 simp only [Lib.parseIntB,if_neg n1] at e
 cases hu:Lib.parseUintB 64 (c::r) with
 | «syntax»=>rw [hu] at e;cases e
 | range=>rw [hu] at e;cases e
 | ok u=>
  rw [hu] at e
  simp only [n2] at e
  by_cases h3:2 ^ (64 - 1)≤u
  ·simp [h3] at e
  ·have h3':u<9223372036854775808:=by simpa using h3
   simp [h3] at e
   omega
theorem number_bound {k x:Int} {r:List Tk} (hF:Fits ts) (h:number (tk ts)=some (.ok (.nd (.mk k [] x [])) r)):0≤x∧x≤9223372036854775807:=by
 cases ts with
 | nil=>cases h
 | cons t ts=>
  have h':number (⟨t.kind,t.text.data.toList⟩::tk ts)=some (.ok (.nd (.mk k [] x [])) r):=h
  unfold number at h'
  simp only at h'
  have hf:=hF t List.mem_cons_self
  by_cases h2:t.kind=2
  ·rw [if_pos h2] at h'
   obtain ⟨h3,h4⟩:=hf.num (Or.inl h2)
   have e:digits t.text.data.toList 0=x:=by injection h' with h';injection h' with h' _;injection h' with h';injection h'
   rw [e] at h4
   exact num_bound h3 h4
  ·rw [if_neg h2] at h'
   by_cases h3:t.kind=3
   ·rw [if_pos h3] at h'
    obtain ⟨h5,h4⟩:=hf.num (Or.inr h3)
    have e:digits t.text.data.toList 0=x:=by injection h' with h';injection h' with h' _;injection h' with h';injection h'
    rw [e] at h4
    exact num_bound h5 h4
   ·rw [if_neg h3] at h'
    cases h'
def PostV (w:World) (b g:Nat) (m:Value) (ts:List Tok) (e:Ending) (w':World):Prop:=w.grownBy w' (some b)∧∃ r,r <:+ ts ∧
 ((∃ k x,r.length<ts.length∧number (if hd (tk ts)=sMINUS then (tk ts).tail else tk ts)=some (.ok (.nd (.mk k [] x [])) (tk r))∧e=.returned (.agg #[.int .i64 k,.string ⟨#[]⟩,.int .i64 (if hd (tk ts)=sMINUS then -x else x),.slice none 0 0])∧Ps w' b g m r)∨(number (if hd (tk ts)=sMINUS then (tk ts).tail else tk ts)=some (.no (tk r))∧e=up r))
theorem value_any (h:Ps w b g m ts) (hT:Two w b m) (hGl:T.Gl w) (hb5:4<b) (hgl:g<w.heap.size) (hF:Fits ts) (hlen:ts.length≤4000):Calls Tryz.prog 97 #[.pointer (some ⟨b,0,none⟩)] w (PostV w b g m ts):=by
 have HW:Hid (Wd w w b g m ts []):=Wd.start h hT hGl hb5 hgl
 have HS:Hid (ts <:+ ts):=List.suffix_refl _
 have HF:Hid (Fits ts):=hF
 have HLn:Hid (ts.length≤4000):=hlen
 clear h hT hGl hgl hF hlen
 go_enter Tryz.func97,Tryz.ntmps97
 replace HW:=hide (HW.out.alloc' w.heap.size (by simp) #[.int .i64 0,.string ⟨#[]⟩,.int .i64 0,.slice none 0 0] 24)
 go_wp2_with fail
 generalize w.alloc _=w1 at *
 by_cases hq:tx ts=str sMINUS
 ·have HQ:Hid (hd (tk ts)=sMINUS):=(tx_hd (HF.out.suf HS.out) sMINUS (⟨_,_,rfl,by decide⟩)).1 hq
  go_at_call 67
  refine (HW.out.tkY HS.out (x:=str sMINUS) (by decide) hq).mono ?_
  rintro e w2 ⟨rfl,HL,HLs,hS,hW,hG⟩
  replace HW:=hW
  replace HS:=hS
  clear hG
  clear hq
  go_wp2_with fail
  go_at_call 124
  refine (number_any HW.out.ps (HF.out.suf HS.out)).mono ?_
  rintro e w3 ⟨hG3,⟨kk,x,hnum,rfl,hP3⟩|⟨hnum,rfl⟩⟩
  rotate_left
  ·exact ⟨rfl,grown_trans HW.out.grown hG3,_,HS.out,Or.inr ⟨by rw [if_pos HQ.out,← tk_tail];exact hnum,rfl⟩⟩
  have HNum:Hid (number (if hd (tk ts)=sMINUS then (tk ts).tail else tk ts)=some (.ok (.nd (.mk kk [] x [])) (tk ts.tail.tail))):=by rw [if_pos HQ.out,← tk_tail];exact hnum
  obtain ⟨hx0,hx1⟩:=number_bound (HF.out.suf HS.out) hnum
  have HL:Hid (ts.tail.tail.length<ts.length):=Nat.lt_of_lt_of_le (number_lt hnum) HS.out.length_le
  replace HW:=hide (HW.out.call hG3 hP3)
  replace HS:=hide ((List.tail_suffix _).trans HS.out)
  clear hP3 hG3 hnum
  replace HW:=hide (HW.out.alloc' w3.heap.size (by simp) #[.int .i64 kk,.string ⟨#[]⟩,.int .i64 (-x),.slice none 0 0] 24)
  have hc4:=HW.out.c0
  have hc5:=HW.out.c1
  have hf6:=HW.out.f1
  have hf7:=HW.out.f1
  replace HW:=hide (HW.out.s1 (.int .i64 kk) (.string ⟨#[]⟩) (.int .i64 (-x)) (.slice none 0 0))
  have hc8:=HW.out.c1
  have hl9:=HW.out.l1
  go_wp2_with fail
  generalize ((((w3.alloc _).setCell _ _).setCell _ _).setCell _ _).setCell _ _=w10 at *
  refine bodyPost_ret (v:=(.agg #[.int .i64 kk,.string ⟨#[]⟩,.int .i64 (-x),.slice none 0 0])) (by simp [results,Tryz.results97,go_sem,hc8,hl9]) rfl ?_
  exact ⟨HW.out.grown,_,HS.out,Or.inl ⟨kk,x,HL.out,HNum.out,by rw [if_pos HQ.out],HW.out.ps⟩⟩
 ·have HQ:Hid (¬ hd (tk ts)=sMINUS):=fun e=>hq ((tx_hd (HF.out.suf HS.out) sMINUS (⟨_,_,rfl,by decide⟩)).2 e)
  go_at_call 67
  refine (HW.out.tkN (x:=str sMINUS) (by decide) hq).mono ?_
  rintro e w11 ⟨rfl,hW,hG⟩
  replace HW:=hW
  clear hG
  clear hq
  go_wp2_with fail
  go_at_call 124
  refine (number_any HW.out.ps (HF.out.suf HS.out)).mono ?_
  rintro e w12 ⟨hG12,⟨kk,x,hnum,rfl,hP12⟩|⟨hnum,rfl⟩⟩
  rotate_left
  ·exact ⟨rfl,grown_trans HW.out.grown hG12,_,HS.out,Or.inr ⟨by rw [if_neg HQ.out];exact hnum,rfl⟩⟩
  have HNum:Hid (number (if hd (tk ts)=sMINUS then (tk ts).tail else tk ts)=some (.ok (.nd (.mk kk [] x [])) (tk ts.tail))):=by rw [if_neg HQ.out];exact hnum
  obtain ⟨hx0,hx1⟩:=number_bound (HF.out.suf HS.out) hnum
  have HL:Hid (ts.tail.length<ts.length):=Nat.lt_of_lt_of_le (number_lt hnum) HS.out.length_le
  replace HW:=hide (HW.out.call hG12 hP12)
  replace HS:=hide ((List.tail_suffix _).trans HS.out)
  clear hP12 hG12 hnum
  replace HW:=hide (HW.out.alloc' w12.heap.size (by simp) #[.int .i64 kk,.string ⟨#[]⟩,.int .i64 x,.slice none 0 0] 24)
  have hc13:=HW.out.c0
  have hc14:=HW.out.c1
  have hf15:=HW.out.f1
  have hf16:=HW.out.f1
  replace HW:=hide (HW.out.s1 (.int .i64 kk) (.string ⟨#[]⟩) (.int .i64 x) (.slice none 0 0))
  have hc17:=HW.out.c1
  have hl18:=HW.out.l1
  go_wp2_with fail
  generalize ((((w12.alloc _).setCell _ _).setCell _ _).setCell _ _).setCell _ _=w19 at *
  refine bodyPost_ret (v:=(.agg #[.int .i64 kk,.string ⟨#[]⟩,.int .i64 x,.slice none 0 0])) (by simp [results,Tryz.results97,go_sem,hc17,hl18]) rfl ?_
  exact ⟨HW.out.grown,_,HS.out,Or.inl ⟨kk,x,HL.out,HNum.out,by rw [if_neg HQ.out],HW.out.ps⟩⟩
end Go.Proofs.YthcfianhdkolhaaGreatDoor.Y
namespace Go.Proofs.YthcfianhdkolhaaGreatDoor.Y
open Go.RowKit Go.Proofs.YthcfianhdkolhaaGreatDoor.X Go.Proofs.YthcfianhdkolhaaGreatDoor.T Go.Proofs.YthcfianhdkolhaaGreatDoor.S
set_option maxRecDepth 100000
set_option maxHeartbeats 2000000
set_option linter.unusedVariables false
set_option linter.unusedSimpArgs false
variable {w w' : World} {b g : Nat} {m : Value} {ts : List Tok} {t : Tok}
inductive Ch:Nd→Bool→Prop
 | nm (s:List UInt8):Ch (.mk 23 s 0 []) false
 | dot (s:List UInt8) (x:Nd) (c:Bool):Ch x c→Ch (.mk 24 s 0 [x]) c
 | call (x:Nd) (l:List Nd) (c:Bool):Ch x c→Ch (.mk 25 [] 0 (x::l)) true
def kindN:Nd→Int|.mk k _ _ _=>k
theorem NdV.kid0 {A:Nat→Prop} {k v:Int} {t:List UInt8} {x:Nd} {l:List Nd} {vv:Value} (h:NdV w A (.mk k t v (x::l)) vv):∃ g kc k2 t2 v2 a2 n2 c2,vv=.agg #[.int .i64 k,.string (str t),.int .i64 v,.slice (some ⟨g,0,none⟩) (l.length+1) kc]∧A g∧w.cell? ⟨g,0,none⟩=some (.int .i64 k2)∧w.cell? ⟨g,1,none⟩=some (.string t2)∧w.cell? ⟨g,2,none⟩=some (.int .i64 v2)∧w.cell? ⟨g,3,none⟩=some (.slice a2 n2 c2)∧NdV w A x (.agg #[.int .i64 k2,.string t2,.int .i64 v2,.slice a2 n2 c2])∧l.length+1≤kc∧kc≤9223372036854775807:=by
 cases h with
 | full _ _ _ _ g kc c hne h1 h2 hA hc hs=>
  have hx:NdV w A x (.agg #[c 0 0,c 0 1,c 0 2,c 0 3]):=hs 0 (by simp)
  obtain ⟨k2,t2,v2,a2,n2,c2,e⟩:=hx.form
  have e':c 0 0=.int .i64 k2∧c 0 1=.string t2∧c 0 2=.int .i64 v2∧c 0 3=.slice a2 n2 c2:=by simpa using e
  have q0:=hc 0 0 (by simp) (by omega)
  have q1:=hc 0 1 (by simp) (by omega)
  have q2:=hc 0 2 (by simp) (by omega)
  have q3:=hc 0 3 (by simp) (by omega)
  rw [e'.1] at q0
  rw [e'.2.1] at q1
  rw [e'.2.2.1] at q2
  rw [e'.2.2.2] at q3
  rw [e'.1,e'.2.1,e'.2.2.1,e'.2.2.2] at hx
  exact ⟨g,kc,k2,t2,v2,a2,n2,c2,rfl,hA,q0,q1,q2,q3,hx,h1,h2⟩
theorem NdV.none0 {A:Nat→Prop} {k v:Int} {t:List UInt8} {vv:Value} (h:NdV w A (.mk k t v []) vv):∃ ka kc,vv=.agg #[.int .i64 k,.string (str t),.int .i64 v,.slice ka 0 kc]:=by
 cases h with
 | leaf _ _ _ ka kc hk=>exact ⟨ka,kc,rfl⟩
 | full _ _ _ _ g kc c hne=>exact absurd rfl hne
def Hc (q:Nat) (c:Bool) (k:Nat) (w:World):Prop:=∃ n v,SizeOf.sizeOf n=k∧NdV w (fun j=>j<q) n (.agg v)∧Ch n c∧w.heap[q]?=some (.cells v 24 (0,0))
theorem Hc.kid {q:Nat} {c:Bool} {x:Nd} {k2 v2:Int} {t2:ByteArray} {a2:Option Addr} {n2 c2:Nat} {o0 o1 o2 o3:Value} (hx:NdV w (fun j=>j<q) x (.agg #[.int .i64 k2,.string t2,.int .i64 v2,.slice a2 n2 c2])) (hc:Ch x c) (hq:w.heap[q]?=some (.cells #[o0,o1,o2,o3] 24 (0,0))):
  Hc q c (SizeOf.sizeOf x) ((((w.setCell ⟨q,0,none⟩ (.int .i64 k2)).setCell ⟨q,1,none⟩ (.string t2)).setCell ⟨q,2,none⟩ (.int .i64 v2)).setCell ⟨q,3,none⟩ (.slice a2 n2 c2)):=by
 refine ⟨x,_,rfl,hx.move (fun j hj hl=>⟨?_,hj⟩),hc,(Y.set4 (.int .i64 k2) (.string t2) (.int .i64 v2) (.slice a2 n2 c2) hq).1⟩
 have hne:j≠q:=by have:j<q:=hj;omega
 rw [heap_setCell_other _ _ j _ hne,heap_setCell_other _ _ j _ hne,heap_setCell_other _ _ j _ hne,heap_setCell_other _ _ j _ hne]
theorem place_ch {A:Nat→Prop} {n0:Nd} {v0:Value} {c0:Bool} (hv:NdV w A n0 v0) (hc:Ch n0 c0):Calls Tryz.prog 148 #[v0] w fun e w'=>e=.returned (.bool (!c0))∧w.grownBy w' none:=by
 obtain ⟨k1,t1,v1,a1,n1,c1,rfl⟩:=hv.form
 have HH:Hid (Hc w.heap.size c0 (SizeOf.sizeOf n0) (w.alloc (.cells #[.int .i64 k1,.string t1,.int .i64 v1,.slice a1 n1 c1] 24))):=⟨n0,_,rfl,hv.move (fun j hj hl=>⟨Below.heap_alloc w _ _ hl,hl⟩),hc,heap_new w _ _⟩
 have HB0:Hid (w.grownBy (w.alloc (.cells #[.int .i64 k1,.string t1,.int .i64 v1,.slice a1 n1 c1] 24)) none):=grown_alloc w _
 clear hv hc
 go_enter Tryz.func148,Tryz.ntmps148
 go_wp2_with fail
 generalize w.alloc (.cells #[.int .i64 k1,.string t1,.int .i64 v1,.slice a1 n1 c1] 24)=W at *
 go_loopw [] (fun wr=>Hid ((∃ k,Hc w.heap.size c0 k wr)∧w.grownBy wr none)) (fun wr=>least fun k=>Hc w.heap.size c0 k wr)
 case atStart=>exact ⟨⟨_,HH.out⟩,HB0.out⟩
 case round=>
  have hL:=least_spec hrel.out.1
  have HBr:=hide hrel.out.2
  generalize hmu:(least fun k=>Hc w.heap.size c0 k wr)=mu at *
  have HMu:=hide hmu
  clear hmu hrel
  obtain ⟨n,vv,hsz,hnd,hch,hcell⟩:=hL
  have HSz:=hide hsz
  clear hsz
  cases hch with
  | nm s=>
   obtain ⟨ka,kc,hvv⟩:=hnd.none0
   obtain rfl:vv=_:=Value.agg.inj hvv
   have hcq:=cells_at hcell
   clear hvv hcell hnd
   go_wp2_with fail
   go_ret
   exact ⟨rfl,HBr.out⟩
  | dot s x c hch=>
   obtain ⟨g1,kc,k2,t2,v2,a2,n2,c2,hvv,hg1,q0,q1,q2,q3,hx,hk1,hk2⟩:=hnd.kid0
   obtain rfl:vv=_:=Value.agg.inj hvv
   have hcq:=cells_at hcell
   have hfq:=frozen_at hcell
   have HH2:=hide (Hc.kid hx hch hcell)
   have HB2:Hid (w.grownBy ((((wr.setCell ⟨w.heap.size,0,none⟩ (.int .i64 k2)).setCell ⟨w.heap.size,1,none⟩ (.string t2)).setCell ⟨w.heap.size,2,none⟩ (.int .i64 v2)).setCell ⟨w.heap.size,3,none⟩ (.slice a2 n2 c2)) none):=grown_set (grown_set (grown_set (grown_set HBr.out (Nat.le_refl _)) (Nat.le_refl _)) (Nat.le_refl _)) (Nat.le_refl _)
   have HLt:Hid (SizeOf.sizeOf x<mu):=by show _<_;rw [← HSz.out];exact kid_lt (by simp)
   have hgne:g1≠w.heap.size:=by have:g1<w.heap.size:=hg1;omega
   clear hvv hx hcell hnd hg1
   go_wp2_with fail
   go_roundw
   case rel=>exact ⟨⟨_,HH2.out⟩,HB2.out⟩
   case measure=>exact Nat.lt_of_le_of_lt (least_le HH2.out) HLt.out
  | call x l c hch=>
   obtain ⟨g1,kc,k2,t2,v2,a2,n2,c2,hvv,hg1,q0,q1,q2,q3,hx,hk1,hk2⟩:=hnd.kid0
   obtain rfl:vv=_:=Value.agg.inj hvv
   have hcq:=cells_at hcell
   clear hvv hx hcell hnd hg1 q0 q1 q2 q3
   go_wp2_with fail
   go_ret
   exact ⟨rfl,HBr.out⟩
theorem call_ch {A:Nat→Prop} {n0:Nd} {v0:Value} {c0:Bool} (hv:NdV w A n0 v0) (hc:Ch n0 c0):Calls Tryz.prog 149 #[v0] w fun e w'=>e=.returned (.bool (decide (kindN n0=25)))∧w.grownBy w' none:=by
 have hk0:∃ t v kids,n0=.mk (kindN n0) t v kids:=by obtain ⟨k,t,v,kids⟩:=n0;exact ⟨t,v,kids,rfl⟩
 obtain ⟨k1,t1,v1,a1,n1,c1,rfl⟩:=hv.form
 have hk1:k1=kindN n0:=by
  obtain ⟨k,t,v,kids⟩:=n0
  cases hv with
  | leaf=>rfl
  | full=>rfl
 have HH:Hid (Hc w.heap.size c0 (SizeOf.sizeOf n0) (w.alloc (.cells #[.int .i64 k1,.string t1,.int .i64 v1,.slice a1 n1 c1] 24))):=⟨n0,_,rfl,hv.move (fun j hj hl=>⟨Below.heap_alloc w _ _ hl,hl⟩),hc,heap_new w _ _⟩
 have HB0:Hid (w.grownBy (w.alloc (.cells #[.int .i64 k1,.string t1,.int .i64 v1,.slice a1 n1 c1] 24)) none):=grown_alloc w _
 have hcn:=cells_at (heap_new w #[.int .i64 k1,.string t1,.int .i64 v1,.slice a1 n1 c1] 24)
 rw [← hk1]
 clear hv hc hk0 hk1
 by_cases h25:k1=25
 ·subst h25
  go_enter Tryz.func149,Tryz.ntmps149
  go_wp2_with fail
  generalize w.alloc (.cells #[.int .i64 25,.string t1,.int .i64 v1,.slice a1 n1 c1] 24)=W at *
  go_loopw [] (fun wr=>Hid ((∃ k c,Hc w.heap.size c k wr)∧w.grownBy wr none)) (fun wr=>least fun k=>∃ c,Hc w.heap.size c k wr)
  case atStart=>exact ⟨⟨_,_,HH.out⟩,HB0.out⟩
  case round=>
   have hL:=least_spec hrel.out.1
   have HBr:=hide hrel.out.2
   generalize hmu:(least fun k=>∃ c,Hc w.heap.size c k wr)=mu at *
   have HMu:=hide hmu
   clear hmu hrel hcn
   obtain ⟨c',n,vv,hsz,hnd,hch,hcell⟩:=hL
   have HSz:=hide hsz
   clear hsz
   cases hch with
   | nm s=>
    obtain ⟨ka,kc,hvv⟩:=hnd.none0
    obtain rfl:vv=_:=Value.agg.inj hvv
    have hcq:=cells_at hcell
    clear hvv hcell hnd
    go_wp2_with fail
    go_ret
    exact ⟨rfl,HBr.out⟩
   | dot s x c hch=>
    obtain ⟨g1,kc,k2,t2,v2,a2,n2,c2,hvv,hg1,q0,q1,q2,q3,hx,hk1,hk2⟩:=hnd.kid0
    obtain rfl:vv=_:=Value.agg.inj hvv
    have hcq:=cells_at hcell
    have hfq:=frozen_at hcell
    have HH2:=hide (Hc.kid hx hch hcell)
    have HB2:Hid (w.grownBy ((((wr.setCell ⟨w.heap.size,0,none⟩ (.int .i64 k2)).setCell ⟨w.heap.size,1,none⟩ (.string t2)).setCell ⟨w.heap.size,2,none⟩ (.int .i64 v2)).setCell ⟨w.heap.size,3,none⟩ (.slice a2 n2 c2)) none):=grown_set (grown_set (grown_set (grown_set HBr.out (Nat.le_refl _)) (Nat.le_refl _)) (Nat.le_refl _)) (Nat.le_refl _)
    have HLt:Hid (SizeOf.sizeOf x<mu):=by show _<_;rw [← HSz.out];exact kid_lt (by simp)
    have hgne:g1≠w.heap.size:=by have:g1<w.heap.size:=hg1;omega
    clear hvv hx hcell hnd hg1
    go_wp2_with fail
    go_roundw
    case rel=>exact ⟨⟨_,_,HH2.out⟩,HB2.out⟩
    case measure=>exact Nat.lt_of_le_of_lt (least_le ⟨_,HH2.out⟩) HLt.out
   | call x l c hch=>
    obtain ⟨g1,kc,k2,t2,v2,a2,n2,c2,hvv,hg1,q0,q1,q2,q3,hx,hk1,hk2⟩:=hnd.kid0
    obtain rfl:vv=_:=Value.agg.inj hvv
    have hcq:=cells_at hcell
    have hfq:=frozen_at hcell
    have HH2:=hide (Hc.kid hx hch hcell)
    have HB2:Hid (w.grownBy ((((wr.setCell ⟨w.heap.size,0,none⟩ (.int .i64 k2)).setCell ⟨w.heap.size,1,none⟩ (.string t2)).setCell ⟨w.heap.size,2,none⟩ (.int .i64 v2)).setCell ⟨w.heap.size,3,none⟩ (.slice a2 n2 c2)) none):=grown_set (grown_set (grown_set (grown_set HBr.out (Nat.le_refl _)) (Nat.le_refl _)) (Nat.le_refl _)) (Nat.le_refl _)
    have HLt:Hid (SizeOf.sizeOf x<mu):=by show _<_;rw [← HSz.out];exact kid_lt (by simp)
    have hgne:g1≠w.heap.size:=by have:g1<w.heap.size:=hg1;omega
    clear hvv hx hcell hnd hg1
    go_wp2_with fail
    go_roundw
    case rel=>exact ⟨⟨_,_,HH2.out⟩,HB2.out⟩
    case measure=>exact Nat.lt_of_le_of_lt (least_le ⟨_,HH2.out⟩) HLt.out
 ·have h25':(k1 == 25)=false:=by simpa using h25
  rw [decide_eq_false h25]
  go_enter Tryz.func149,Tryz.ntmps149
  go_wp2_with fail
  go_ret
  exact ⟨rfl,HB0.out⟩
end Go.Proofs.YthcfianhdkolhaaGreatDoor.Y
namespace Go.Proofs.YthcfianhdkolhaaGreatDoor.Y
open Go.RowKit Go.Proofs.YthcfianhdkolhaaGreatDoor.X Go.Proofs.YthcfianhdkolhaaGreatDoor.T Go.Proofs.YthcfianhdkolhaaGreatDoor.S
set_option linter.unusedVariables false
set_option linter.unusedSimpArgs false
variable {w w' w0 : World} {b g : Nat} {m : Value} {ts : List Tok} {t : Tok}
theorem RowN.two (L1 L2:List Bk) {q s:Nat} {k1 v1 k2 v2:Int} {t1 t2:ByteArray} {a1 a2:Option Addr} {n1 c1 n2 c2:Nat} {x y:Nd} (h:Wd w0 w b g m ts (L1++(q,#[.int .i64 k1,.string t1,.int .i64 v1,.slice a1 n1 c1,.int .i64 k2,.string t2,.int .i64 v2,.slice a2 n2 c2],24)::L2)) (hs:s≤q)
  (hx:NdV w (Av s (L1++(q,#[.int .i64 k1,.string t1,.int .i64 v1,.slice a1 n1 c1,.int .i64 k2,.string t2,.int .i64 v2,.slice a2 n2 c2],24)::L2)) x (.agg #[.int .i64 k1,.string t1,.int .i64 v1,.slice a1 n1 c1]))
  (hy:NdV w (Av s (L1++(q,#[.int .i64 k1,.string t1,.int .i64 v1,.slice a1 n1 c1,.int .i64 k2,.string t2,.int .i64 v2,.slice a2 n2 c2],24)::L2)) y (.agg #[.int .i64 k2,.string t2,.int .i64 v2,.slice a2 n2 c2])):
  RowN w (Av s (L1++L2)) (.slice (some ⟨q,0,none⟩) 2 2) [x,y]:=by
 obtain ⟨p1,p2,p3,p4⟩:=pairwise_mid (c':=#[]) (T':=0) h.ord
 have hq:=(h.blk (q,#[.int .i64 k1,.string t1,.int .i64 v1,.slice a1 n1 c1,.int .i64 k2,.string t2,.int .i64 v2,.slice a2 n2 c2],24) (by simp)).2
 have hm:∀ n v,NdV w (Av s (L1++(q,#[.int .i64 k1,.string t1,.int .i64 v1,.slice a1 n1 c1,.int .i64 k2,.string t2,.int .i64 v2,.slice a2 n2 c2],24)::L2)) n v→NdV w (fun k=>Av s (L1++L2) k∧some k≠(Value.slice (some ⟨q,0,none⟩) 2 2).ownBlock) n v:=fun n v hn=>
  hn.mono (fun k hk _=>⟨⟨hk.1,fun y hy=>hk.2 y (by
   rcases List.mem_append.1 hy with hy|hy
   ·simp [hy]
   ·simp [hy])⟩,fun e=>hk.2 (q,#[.int .i64 k1,.string t1,.int .i64 v1,.slice a1 n1 c1,.int .i64 k2,.string t2,.int .i64 v2,.slice a2 n2 c2],24) (by simp) (Option.some.inj e).symm⟩)
 refine ⟨fun k hk=>?_,[(.int .i64 k1,.string t1,.int .i64 v1,.slice a1 n1 c1),(.int .i64 k2,.string t2,.int .i64 v2,.slice a2 n2 c2)],rfl,⟨by simp [cellsN],Or.inr ⟨q,2,#[.int .i64 k1,.string t1,.int .i64 v1,.slice a1 n1 c1,.int .i64 k2,.string t2,.int .i64 v2,.slice a2 n2 c2],rfl,Nat.zero_le _,hq,by simp,by decide,rfl,rfl⟩⟩,fun j hj hj'=>?_⟩
 ·obtain rfl:q=k:=by simpa [Value.ownBlock] using hk
  refine ⟨hs,fun y hy=>?_⟩
  rcases List.mem_append.1 hy with hy|hy
  ·exact p2 y hy
  ·exact fun e=>p3 y hy e.symm
 ·have hj2:j=0∨j=1:=by have:j<2:=(by simpa using hj);omega
  rcases hj2 with rfl|rfl
  ·exact hm _ _ hx
  ·exact hm _ _ hy
theorem RowN.t0 {L:List Bk} {q:Nat} {k1 v1 k2 v2:Int} {t1 t2:ByteArray} {a1 a2:Option Addr} {n1 c1 n2 c2:Nat} {x y:Nd} (h:Wd w0 w b g m ts ((q,#[.int .i64 k1,.string t1,.int .i64 v1,.slice a1 n1 c1,.int .i64 k2,.string t2,.int .i64 v2,.slice a2 n2 c2],24)::L)) (hx:NdV w (Av w0.heap.size ((q,#[.int .i64 k1,.string t1,.int .i64 v1,.slice a1 n1 c1,.int .i64 k2,.string t2,.int .i64 v2,.slice a2 n2 c2],24)::L)) x (.agg #[.int .i64 k1,.string t1,.int .i64 v1,.slice a1 n1 c1])) (hy:NdV w (Av w0.heap.size ((q,#[.int .i64 k1,.string t1,.int .i64 v1,.slice a1 n1 c1,.int .i64 k2,.string t2,.int .i64 v2,.slice a2 n2 c2],24)::L)) y (.agg #[.int .i64 k2,.string t2,.int .i64 v2,.slice a2 n2 c2])):RowN w (Av w0.heap.size (L)) (.slice (some ⟨q,0,none⟩) 2 2) [x,y]:=RowN.two [] L h (h.blk (q,#[.int .i64 k1,.string t1,.int .i64 v1,.slice a1 n1 c1,.int .i64 k2,.string t2,.int .i64 v2,.slice a2 n2 c2],24) List.mem_cons_self).1 hx hy
theorem RowN.t1 {L:List Bk} {y0:Bk} {q:Nat} {k1 v1 k2 v2:Int} {t1 t2:ByteArray} {a1 a2:Option Addr} {n1 c1 n2 c2:Nat} {x y:Nd} (h:Wd w0 w b g m ts (y0::(q,#[.int .i64 k1,.string t1,.int .i64 v1,.slice a1 n1 c1,.int .i64 k2,.string t2,.int .i64 v2,.slice a2 n2 c2],24)::L)) (hx:NdV w (Av w0.heap.size (y0::(q,#[.int .i64 k1,.string t1,.int .i64 v1,.slice a1 n1 c1,.int .i64 k2,.string t2,.int .i64 v2,.slice a2 n2 c2],24)::L)) x (.agg #[.int .i64 k1,.string t1,.int .i64 v1,.slice a1 n1 c1])) (hy:NdV w (Av w0.heap.size (y0::(q,#[.int .i64 k1,.string t1,.int .i64 v1,.slice a1 n1 c1,.int .i64 k2,.string t2,.int .i64 v2,.slice a2 n2 c2],24)::L)) y (.agg #[.int .i64 k2,.string t2,.int .i64 v2,.slice a2 n2 c2])):RowN w (Av w0.heap.size (y0::L)) (.slice (some ⟨q,0,none⟩) 2 2) [x,y]:=RowN.two [y0] L h (h.blk (q,#[.int .i64 k1,.string t1,.int .i64 v1,.slice a1 n1 c1,.int .i64 k2,.string t2,.int .i64 v2,.slice a2 n2 c2],24) (List.mem_cons_of_mem _ List.mem_cons_self)).1 hx hy
theorem RowN.t2 {L:List Bk} {y0 y1:Bk} {q:Nat} {k1 v1 k2 v2:Int} {t1 t2:ByteArray} {a1 a2:Option Addr} {n1 c1 n2 c2:Nat} {x y:Nd} (h:Wd w0 w b g m ts (y0::y1::(q,#[.int .i64 k1,.string t1,.int .i64 v1,.slice a1 n1 c1,.int .i64 k2,.string t2,.int .i64 v2,.slice a2 n2 c2],24)::L)) (hx:NdV w (Av w0.heap.size (y0::y1::(q,#[.int .i64 k1,.string t1,.int .i64 v1,.slice a1 n1 c1,.int .i64 k2,.string t2,.int .i64 v2,.slice a2 n2 c2],24)::L)) x (.agg #[.int .i64 k1,.string t1,.int .i64 v1,.slice a1 n1 c1])) (hy:NdV w (Av w0.heap.size (y0::y1::(q,#[.int .i64 k1,.string t1,.int .i64 v1,.slice a1 n1 c1,.int .i64 k2,.string t2,.int .i64 v2,.slice a2 n2 c2],24)::L)) y (.agg #[.int .i64 k2,.string t2,.int .i64 v2,.slice a2 n2 c2])):RowN w (Av w0.heap.size (y0::y1::L)) (.slice (some ⟨q,0,none⟩) 2 2) [x,y]:=RowN.two [y0,y1] L h (h.blk (q,#[.int .i64 k1,.string t1,.int .i64 v1,.slice a1 n1 c1,.int .i64 k2,.string t2,.int .i64 v2,.slice a2 n2 c2],24) (List.mem_cons_of_mem _ (List.mem_cons_of_mem _ List.mem_cons_self))).1 hx hy
theorem post_simple:∀ (n:Nat) (x:Nd) (c:Bool) (t:List Tk) (res:Res),Ch x c→P n (.postL x) t=some res →
  (∀ y r,res=.ok (.nd y) r→∃ c',Ch y c'∧¬ hd r=sDOT∧¬ hd r=sLP∧∀ q,R (.simpleL y c') r q→R (.simpleL x c) t q)∧(∀ r,res=.no r→R (.simpleL x c) t (.no r)):=by
 intro n
 induction n with
 | zero=>intro x c t res hx h;cases h
 | succ n ih=>
  intro x c t res hx h
  have h':F (P n) (.postL x) t=some res:=h
  simp only [F] at h'
  by_cases h1:hd t=sDOT
  ·rw [if_pos h1] at h'
   unfold S.name at h'
   by_cases h2:nameB (hd t.tail)=true
   ·rw [if_pos h2] at h'
    obtain ⟨i1,i2⟩:=ih _ c _ _ (Ch.dot (hd t.tail) x c hx) h'
    have step:∀ q,R (.simpleL (.mk 24 (hd t.tail) 0 [x]) c) t.tail.tail q→R (.simpleL x c) t q:=fun q k=>by
     obtain ⟨n,e⟩:=k
     exact ⟨n+1,by simp [P,F,h1,S.name,h2,e]⟩
    refine ⟨fun y r e=>?_,fun r e=>step _ (i2 r e)⟩
    obtain ⟨c',k1,k2,k3,k4⟩:=i1 y r e
    exact ⟨c',k1,k2,k3,fun q k=>step q (k4 q k)⟩
   ·rw [if_neg h2] at h'
    injection h' with h'
    subst h'
    refine ⟨fun y r e=>(by cases e),fun r e=>?_⟩
    injection e with e
    subst e
    exact ⟨1,by simp [P,F,h1,S.name,h2]⟩
  ·rw [if_neg h1] at h'
   by_cases h2:hd t=sLP
   ·rw [if_pos h2] at h'
    cases hr:P n (.rows 2) t with
    | none=>rw [hr] at h';cases h'
    | some rr=>
     rw [hr] at h'
     cases rr with
     | no r0=>
      have e0:some (Res.no r0)=some res:=h'
      injection e0 with e0
      subst e0
      refine ⟨fun y r e=>(by cases e),fun r e=>?_⟩
      injection e with e
      subst e
      exact ⟨n+1,by simp [P,F,h1,h2,andR,hr]⟩
     | ok v r0=>
      cases v with
      | nd a=>cases h'
      | row l d=>
       have h'':P n (.postL (.mk 25 [] 0 (x::l))) r0=some res:=h'
       obtain ⟨i1,i2⟩:=ih _ true _ _ (Ch.call x l c hx) h''
       have step:∀ q,R (.simpleL (.mk 25 [] 0 (x::l)) true) r0 q→R (.simpleL x c) t q:=fun q k=>by
        obtain ⟨n2,e1,e2⟩:=both ⟨n,hr⟩ k
        exact ⟨n2+1,by simp [P,F,h1,h2,andR,e1,e2]⟩
       refine ⟨fun y r e=>?_,fun r e=>step _ (i2 r e)⟩
       obtain ⟨c',k1,k2,k3,k4⟩:=i1 y r e
       exact ⟨c',k1,k2,k3,fun q k=>step q (k4 q k)⟩
   ·rw [if_neg h2] at h'
    have e0:some (Res.ok (V.nd x) t)=some res:=h'
    injection e0 with e0
    subst e0
    refine ⟨fun y r e=>?_,fun r e=>(by cases e)⟩
    injection e with e1 e2
    injection e1 with e1
    subst e1 e2
    exact ⟨c,hx,h1,h2,fun q k=>k⟩
theorem post_ok {x y:Nd} {c:Bool} {t r:List Tk} (hx:Ch x c) (h:R (.postL x) t (.ok (.nd y) r)):∃ c',Ch y c'∧¬ hd r=sDOT∧¬ hd r=sLP∧∀ q,R (.simpleL y c') r q→R (.simpleL x c) t q:=by
 obtain ⟨n,e⟩:=h
 exact (post_simple n x c t _ hx e).1 y r rfl
theorem post_no {x:Nd} {c:Bool} {t r:List Tk} (hx:Ch x c) (h:R (.postL x) t (.no r)):R (.simpleL x c) t (.no r):=by
 obtain ⟨n,e⟩:=h
 exact (post_simple n x c t _ hx e).2 r rfl
def SOk (ts:List Tk) (n:Nd) (r:List Tk):Prop:=nameB (hd ts)=true∧R (.simpleL (.mk 23 (hd ts) 0 []) false) ts.tail (.ok (.nd n) r)
def SNo (ts r:List Tk):Prop:=(nameB (hd ts)=false∧r=ts)∨(nameB (hd ts)=true∧R (.simpleL (.mk 23 (hd ts) 0 []) false) ts.tail (.no r))
def PostS (w:World) (b g:Nat) (m:Value) (ts:List Tok) (e:Ending) (w':World):Prop:=w.grownBy w' (some b)∧∃ r,r <:+ ts ∧
 ((∃ n v,r.length<ts.length∧SOk (tk ts) n (tk r)∧e=.returned v∧NdV w' (fun k=>w.heap.size≤k) n v∧Ps w' b g m r)∨(SNo (tk ts) (tk r)∧e=up r))
theorem Ch.kind {n:Nd} {c:Bool} (h:Ch n c) (hk:kindN n=25):c=true:=by
 cases h with
 | nm s=>cases hk
 | dot s x c h=>cases hk
 | call x l c h=>rfl
theorem r_sL_do {n:Nd} {t:List Tk} (h1:¬ hd t=sDOT) (h2:¬ hd t=sLP) (hk:kindN n=25):R (.simpleL n true) t (.ok (.nd (.mk 20 [] 0 [n])) t):=by
 obtain ⟨k,a,v,kids⟩:=n
 have hk':k=25:=hk
 exact ⟨1,by simp [P,F,h1,h2,hk',okN]⟩
theorem r_sL_no {n:Nd} {t:List Tk} (h1:¬ hd t=sDOT) (h2:¬ hd t=sLP) (hk:¬ kindN n=25):R (.simpleL n true) t (.no t):=by
 obtain ⟨k,a,v,kids⟩:=n
 have hk':¬ k=25:=hk
 exact ⟨1,by simp [P,F,h1,h2,hk']⟩
theorem r_sL_eq0 {n:Nd} {t:List Tk} (h1:¬ hd t=sDOT) (h2:¬ hd t=sLP) (h3:¬ hd t=sEQ):R (.simpleL n false) t (.no t):=by
 obtain ⟨k,a,v,kids⟩:=n
 exact ⟨1,by simp [P,F,h1,h2,must,h3]⟩
theorem r_sL_eq1 {n:Nd} {t r:List Tk} (h1:¬ hd t=sDOT) (h2:¬ hd t=sLP) (h3:hd t=sEQ) (a:R .expr t.tail (.no r)):R (.simpleL n false) t (.no r):=by
 obtain ⟨k,a',v,kids⟩:=n
 obtain ⟨i,e⟩:=a
 exact ⟨i+1,by simp [P,F,h3,must,andN,e]⟩
theorem r_sL_eq2 {n x:Nd} {t r:List Tk} (h1:¬ hd t=sDOT) (h2:¬ hd t=sLP) (h3:hd t=sEQ) (a:R .expr t.tail (.ok (.nd x) r)):R (.simpleL n false) t (.ok (.nd (.mk 15 [] 0 [n,x])) r):=by
 obtain ⟨k,a',v,kids⟩:=n
 obtain ⟨i,e⟩:=a
 exact ⟨i+1,by simp [P,F,h3,must,andN,e,okN]⟩
end Go.Proofs.YthcfianhdkolhaaGreatDoor.Y
