/- PbE PbF PbG -/
import Derived.Test.YthcfianhdkolhaaGreatDoorSign
import Derived.Test.YthcfianhdkolhaaGreatDoorPbD
namespace Go.Proofs.YthcfianhdkolhaaGreatDoor.Y
open Go.RowKit Go.Proofs.YthcfianhdkolhaaGreatDoor.X Go.Proofs.YthcfianhdkolhaaGreatDoor.T Go.Proofs.YthcfianhdkolhaaGreatDoor.S
set_option maxRecDepth 100000
set_option maxHeartbeats 2000000
set_option linter.unusedVariables false
set_option linter.unusedSimpArgs false
variable {w w' : World} {b g : Nat} {m : Value} {ts : List Tok} {t : Tok}
theorem parts_any (h:Ps w b g m ts) (hT:Two w b m) (hGl:Og w) (hb5:4<b) (hgl:g<w.heap.size) (hF:Fits ts) (hlen:ts.length≤4000) (cc:List UInt8) (hcw:Word cc) (hcz:(str cc).size≠0) (J:List Nd→List Tk→Prop) (Kp:Option (List Nd)→List Tk→Prop) (hJ:Loop cc J Kp (tk ts)) (hMe:Meth 143 .expr b g m ts) (hLt:Later 143 .expr b g m ts):
  Calls Tryz.prog 165 #[.pointer (some ⟨b,0,none⟩),.func (.func 143) #[.pointer (some ⟨b,0,none⟩)] #[],.string (str cc)] w (PartsP Kp w b g m ts):=by
 have HW:Hid (Wd w w b g m ts []):=Wd.start h hT hGl hb5 hgl
 have HS:=su ts
 have HF:=ħ hF
 have HLn:=ħ hlen
 have HMe:=hide hMe
 have HLt:=hide hLt
 have HJ:=hide hJ
 clear hMe hLt hJ
 clear h hT hGl hgl hF hlen
 go_enter Tryz.func165,Tryz.ntmps165
 go_wp2_with fail
 by_cases hq:tx ts=str cc
 ·have HQ:Hid (hd (tk ts)=cc):=(tx_hd (HF.out.suf HS.out) cc hcw).1 hq
  go_at_call 67
  refine (HW.out.tkY HS.out (x:=str cc) (hcz) hq).mono ?_
  rintro e w1 ⟨rfl,HL,HLs,HS,HW,hG⟩
  clear hG
  go_wp2_with fail
  go_ret
  exact ⟨HW.out.grown,_,HS.out,Or.inl ⟨[],_,HL.out,by have:=HL.out;show 0+_≤_;omega,by rw [tk_tail];exact HJ.out.z HQ.out,rfl,RowN.nil _ _,fun _=>rfl,HW.out.ps⟩⟩
 have HQ:Hid (¬ hd (tk ts)=cc):=fun e=>hq ((tx_hd (HF.out.suf HS.out) cc hcw).2 e)
 go_at_call 67
 refine (HW.out.tkN (x:=str cc) (hcz) hq).mono ?_
 rintro e w2 ⟨rfl,HW,hG⟩
 clear hG
 go_wp2_with fail
 go_at_call 143
 refine (HMe.out w2 HW.out.ps HW.out.two HW.out.glo HW.out.glt (HF.out.suf HS.out) (Nat.le_trans HS.out.length_le HLn.out)).mono ?_
 rintro e w3 hp
 obtain ⟨r3,n_x,k_x,t_x,v_x,a_x,l_x,c_x,rfl,HR_x,HN_x,HZ_x,HL,HSx,HLs2,hS,hW,hG⟩|⟨r,hR,rfl,h1,h2⟩:=HW.out.okN HS.out hp
 rotate_left
 ·exact ⟨rfl,h1,_,h2,Or.inr ⟨HJ.out.no _ _ _ (HJ.out.j0 HQ.out) hR,rfl⟩⟩
 replace HW:=hW
 replace HS:=hS
 clear hG hp
 replace HW:=HW.out.an HN_x
 replace HN_x:=HW.out.nA HN_x
 go_wp2_with fail
 generalize w3.alloc _=w4 at *
 have HM_a:=ħ (RowN.o0 HW.out (HN_x.out.less HZ_x.out))
 have HZ_a:=zz w
 clear HN_x HZ_x
 replace HW:=hide HW.out.d0
 go_loopw [7] (fun v7 wr=>∃ (r:List Tok) (l:List Nd) (q cp ln:Nat),ln=l.length∧v7=.slice (some ⟨q,0,none⟩) ln cp∧Hid (Wd w wr b g m r [])∧Hid (RowN wr (Av w.heap.size []) (.slice (some ⟨q,0,none⟩) ln cp) l)∧Hid (l≠[])∧Hid (r <:+ ts)∧Hid (r.length<ts.length)∧Hid (l.length+r.length≤ts.length)∧Hid (∃ acc t x,J acc t∧R .expr t (.ok (.nd x) (tk r))∧l=acc++[x])) (fun _ wr=>leftOf b wr)
 case atStart=>exact ⟨_,_,_,_,_,rfl,rfl,HW,HM_a,(by simp [Hid]:_≠[]),HS,HL,(by have:=HL.out;show 1+_≤_;omega),⟨[],_,_,HJ.out.j0 HQ.out,HR_x.out,rfl⟩⟩
 case round=>
  obtain ⟨r,l,q,cp,ln,hln,rfl,HW,HM_l,HNe,HS,HL,HLl,HI⟩:=hrel
  have HLn2:=hide hln
  clear hln
  have HZ_l:=zz w
  have hmu:=HW.out.ps.leftOf
  have HMu:=hide hmu
  clear hmu
  go_wp2_with fail
  by_cases hq2:tx r=str sCOMMA
  ·have HQ2:Hid (hd (tk r)=sCOMMA):=(tx_hd (HF.out.suf HS.out) sCOMMA (⟨_,_,rfl,by decide⟩)).1 hq2
   go_at_call 67
   refine (HW.out.tkY HS.out (x:=str sCOMMA) (by decide) hq2).mono ?_
   rintro e w21 ⟨rfl,HL,HLs,hS,hW,hG⟩
   replace HM_l:=HW.out.kR HZ_l hG HM_l
   replace HW:=hW
   replace HS:=hS
   clear hG
   go_wp2_with fail
   obtain ⟨acc,t,x,hJ1,hR1,hl1⟩:=HI.out
   have HJ2:Hid (J l (tk r.tail)):=by rw [hl1,tk_tail];exact HJ.out.comma _ _ _ _ hJ1 hR1 HQ2.out
   clear hJ1 hR1 hl1 x t acc
   go_at_call 143
   refine (HLt.out r.tail HS.out HL.out w21 HW.out.ps HW.out.two HW.out.glo HW.out.glt (HF.out.suf HS.out) (Nat.le_trans HS.out.length_le HLn.out)).mono ?_
   rintro e w22 hp
   obtain ⟨r22,n_y,k_y,t_y,v_y,a_y,l_y,c_y,rfl,HR_y,HN_y,HZ_y,HL,HSy,HLs2,hS,hW,hG⟩|⟨r,hR,rfl,h1,h2⟩:=HW.out.okN HS.out hp
   rotate_left
   ·exact ⟨rfl,h1,_,h2,Or.inr ⟨HJ.out.no _ _ _ HJ2.out hR,rfl⟩⟩
   have HO_l:=hide HM_l.out.lt
   replace HM_l:=HW.out.kR HZ_l hG HM_l
   replace HW:=hW
   replace HS:=hS
   clear hG hp
   replace HW:=HW.out.an HN_y
   replace HN_y:=HW.out.nA HN_y
   replace HM_l:=HW.out.rA HM_l
   go_wp2_with (at_builtin;refine app_l0 _ _ rfl rfl HW.out HM_l.out HN_y.out HZ_l.out HZ_y.out HO_l.out (by have:=HLl.out;have:=HLn.out;omega) ⟨rfl,rfl,rfl,rfl⟩ ?e1 ?e2 ?_;(case e1=>rfl);(case e2=>rfl);skip)
   intro g23 c23 w23 hW hM hG
   clear HM_l HN_y HZ_l HZ_y HO_l
   replace HW:=hide hW
   have HM_l2:=hide hM
   have HZ_l2:=zz w
   clear hW hM hG
   go_wp2_with fail
   go_roundw
   case rel=>exact ⟨_,_,_,_,_,by simp,rfl,HW,HM_l2,(by simp [Hid]:_≠[]),HS,HL,(by have h1:=HLl.out;have h2:=HLs.out;have h3:=HSy.out.length_le;have h4:=HLs2.out;show (l++[n_y]).length+_≤_;rw [List.length_append,List.length_singleton];omega),⟨_,_,_,HJ2.out,HR_y.out,rfl⟩⟩
   case measure=>rw [HW.out.ps.leftOf,HMu.out];exact Nat.lt_of_le_of_lt HSy.out.length_le HLs.out
  have HQ2:Hid (¬ hd (tk r)=sCOMMA):=fun e=>hq2 ((tx_hd (HF.out.suf HS.out) sCOMMA (⟨_,_,rfl,by decide⟩)).2 e)
  go_at_call 67
  refine (HW.out.tkN (x:=str sCOMMA) (by decide) hq2).mono ?_
  rintro e w24 ⟨rfl,hW,hG⟩
  replace HM_l:=HW.out.kR HZ_l hG HM_l
  replace HW:=hW
  clear hG
  obtain ⟨acc,t,x,hJ1,hR1,hl1⟩:=HI.out
  have HJ1:=hide hJ1
  have HR1:=hide hR1
  have HE1:=hide hl1
  clear hJ1 hR1 hl1
  have HA:=ħ (HW.out.ask1 HS.out HF.out (s:=cc) hcw (hcz) (q:=w24.heap.size) (by simp))
  go_wp2_with fail
  go_at_call 94
  refine HA.out.mono ?_
  clear HA
  rintro e w25 (⟨HQ3,rfl,HL,hS,hW,hG⟩|⟨hq,rfl,h1⟩)
  rotate_left
  ·exact ⟨rfl,h1,_,HS.out,Or.inr ⟨HJ.out.bad _ _ _ _ HJ1.out HR1.out HQ2.out hq,rfl⟩⟩
  replace HM_l:=HW.out.kR HZ_l hG HM_l
  replace HW:=hW
  replace HS:=hS
  clear hG
  go_wp2_with fail
  go_ret
  exact ⟨HW.out.grown,_,HS.out,Or.inl ⟨l,_,HL.out,by have:=HLl.out;have:=(List.tail_suffix r).length_le;omega,by rw [HE1.out,tk_tail];exact HJ.out.done _ _ _ _ HJ1.out HR1.out HQ2.out HQ3.out,rfl,HM_l.out.move (fun k hk _=>⟨rfl,hk.1⟩),fun e=>absurd e HNe.out,HW.out.ps⟩⟩
theorem r_pL0 {x:Nd} {ts:List Tk} (h1:¬ hd ts=sDOT) (h2:¬ hd ts=sLP):R (.postL x) ts (.ok (.nd x) ts):=⟨1,by simp [P,F,h1,h2,okN]⟩
theorem r_pL1 {x:Nd} {ts:List Tk} (h1:hd ts=sDOT) (h2:nameB (hd ts.tail)=false):R (.postL x) ts (.no ts.tail):=⟨1,by simp [P,F,h1,S.name,h2]⟩
theorem r_pL2 {x:Nd} {ts:List Tk} {q:Res} (h1:hd ts=sDOT) (h2:nameB (hd ts.tail)=true) (k:R (.postL (.mk 24 (hd ts.tail) 0 [x])) ts.tail.tail q):R (.postL x) ts q:=by
 obtain ⟨n,e⟩:=k
 exact ⟨n+1,by simp [P,F,h1,S.name,h2,e]⟩
theorem r_pL3 {x:Nd} {ts r:List Tk} (h1:hd ts=sLP) (k:R (.rows 2) ts (.no r)):R (.postL x) ts (.no r):=by
 obtain ⟨n,e⟩:=k
 exact ⟨n+1,by simp [P,F,h1,andR,e]⟩
theorem r_pL4 {x:Nd} {ts r:List Tk} {l:List Nd} {d:Bool} {q:Res} (h1:hd ts=sLP) (k:R (.rows 2) ts (.ok (.row l d) r)) (k2:R (.postL (.mk 25 [] 0 (x::l))) r q):R (.postL x) ts q:=by
 obtain ⟨n,e1,e2⟩:=both k k2
 exact ⟨n+1,by simp [P,F,h1,andR,e1,e2]⟩
def KArg (ts:List Tk) (o:Option (List Nd)) (r:List Tk):Prop:=R (.rows 2) ts (match o with|some l=>.ok (.row l false) r|none=>.no r)
def JArg (ts:List Tk) (acc:List Nd) (t:List Tk):Prop:=∀ q,R (.rowsL 2 acc) t q→R (.rows 2) ts q
theorem loop_arg {ts:List Tk} (h:hd ts=sLP):Loop sRP (JArg ts) (KArg ts) ts.tail where
 z h1:=⟨1,by simp [P,F,must,h,h1]⟩
 j0 h1:=fun q k=>by
  obtain ⟨n,e⟩:=k
  exact ⟨n+1,by simp [P,F,must,h,h1,e]⟩
 no acc t r j k:=j _ (by
  obtain ⟨n,e⟩:=k
  exact ⟨n+1+1,by simp [P,F,andN,e]⟩)
 comma acc t x r j k h1:=fun q k2=>j _ (by
  obtain ⟨n,e1,e2⟩:=both k k2
  have e4:P (n+1) (.item 2) t=some (.ok (.nd x) r):=by simp [P,F,e1]
  have e5:=P_succ e2
  exact ⟨n+1+1,by show F (P (n+1)) _ _=_;simp only [F,e4,andN,h1];simp [e5]⟩)
 done acc t x r j k h1 h2:=j _ (by
  obtain ⟨n,e1⟩:=k
  exact ⟨n+1+1,by simp [P,F,andN,e1,must,h2]⟩)
 bad acc t x r j k h1 h2:=j _ (by
  obtain ⟨n,e1⟩:=k
  exact ⟨n+1+1,by simp [P,F,andN,e1,h1,must,h2]⟩)
theorem behind_any {w0 w:World} {L:List Bk} (hW:Wd w0 w b g m ts L) (hF:Fits ts) (hlen:ts.length≤4000) (n0:Nd) (k1 v1:Int) (t1:ByteArray) (a1:Option Addr) (l1 c1:Nat) (hN:NdV w (Av w0.heap.size L) n0 (.agg #[.int .i64 k1,.string t1,.int .i64 v1,.slice a1 l1 c1])) (hLt:Later 143 .expr b g m ts):
  Calls Tryz.prog 156 #[.pointer (some ⟨b,0,none⟩),.agg #[.int .i64 k1,.string t1,.int .i64 v1,.slice a1 l1 c1]] w (PostB n0 w0 b g m ts L):=by
 have HW:Hid (Wd w0 w b g m ts (L)):=hW
 have HS:=su ts
 have HF:=ħ hF
 have HLn:=ħ hlen
 have HLt:=hide hLt
 have HN_n:=hide hN
 have HZ_n:=zz w0
 clear hW hF hlen hLt hN
 go_enter Tryz.func156,Tryz.ntmps156
 replace HW:=HW.out.al w.heap.size #[.int .i64 k1,.string t1,.int .i64 v1,.slice a1 l1 c1]
 replace HN_n:=HW.out.nA HN_n
 replace HW:=HW.out.al (w.heap.size+1) #[.int .i64 0,.string ⟨#[]⟩,.int .i64 0,.slice none 0 0]
 replace HN_n:=HW.out.nA HN_n
 go_wp2_with fail
 generalize (w.alloc _).alloc _=w1 at *
 go_loopw [] (fun wr=>∃ (r:List Tok) (n:Nd) (k0:Int) (t0:ByteArray) (v0:Int) (a0:Option Addr) (l0 c0:Nat),Hid (Wd w0 wr b g m r (((w.heap.size+1),#[.int .i64 0,.string ⟨#[]⟩,.int .i64 0,.slice none 0 0],24)::(w.heap.size,#[.int .i64 k0,.string t0,.int .i64 v0,.slice a0 l0 c0],24)::L))∧Hid (NdV wr (Av w0.heap.size (((w.heap.size+1),#[.int .i64 0,.string ⟨#[]⟩,.int .i64 0,.slice none 0 0],24)::(w.heap.size,#[.int .i64 k0,.string t0,.int .i64 v0,.slice a0 l0 c0],24)::L)) n (.agg #[.int .i64 k0,.string t0,.int .i64 v0,.slice a0 l0 c0]))∧Hid (r <:+ ts)∧Hid (∀ res,R (.postL n) (tk r) res→R (.postL n0) (tk ts) res)) (fun wr=>leftOf b wr)
 case atStart=>exact ⟨_,_,_,_,_,_,_,_,HW,HN_n,HS,fun res hr=>hr⟩
 case round=>
  obtain ⟨r,n,k0,t0,v0,a0,l0,c0,HW,HN_n,HS,HI⟩:=hrel
  have hmu:=HW.out.ps.leftOf
  have HMu:=hide hmu
  clear hmu
  go_wp2_with fail
  by_cases hq:tx r=str sDOT
  ·have HQ:Hid (hd (tk r)=sDOT):=(tx_hd (HF.out.suf HS.out) sDOT (⟨_,_,rfl,by decide⟩)).1 hq
   go_at_call 67
   refine (HW.out.tkY HS.out (x:=str sDOT) (by decide) hq).mono ?_
   rintro e w21 ⟨rfl,HL,HLs,hS,hW,hG⟩
   replace HN_n:=HW.out.kN HZ_n hG HN_n
   replace HW:=hW
   replace HS:=hS
   clear hG
   go_wp2_with fail
   replace HN_n:=ħ ((Mv.quiet (grown_drew w21)).nd HN_n.out)
   replace HW:=ħ (HW.out.quiet (grown_drew w21))
   refine wp_region_held_drew (S:=(fun _=>True)) (by kernel_rfl) trivial fun hHd=>?_
   generalize w21.drew=w22 at *
   refine tq 0 ?_
   simp only [qq]
   refine rq2 1 2 (fun K hK=>?_) fun K hK=>?_
   ·go_simp
    refine (HW.out.nm HS.out HF.out).mono ?_
    rintro e w23 (⟨HQ_s,rfl,HL,hS,hW,hG⟩|⟨hn,rfl,h1⟩)
    rotate_left
    ·exact ⟨rfl,h1,_,HS.out,Or.inr ⟨HI.out _ (by rw [tk_tail];exact r_pL1 HQ.out (by rw [← tk_tail];exact hn)),rfl⟩⟩
    replace HN_n:=HW.out.kN HZ_n hG HN_n
    replace HW:=hW
    replace HS:=hS
    clear hG
    refine hK.out _ _ trivial fun hHd=>?_
    clear hK K
    try simp only [qq]
    refine rq 2 fun K hK=>?_
    have hc24:=HW.out.c1
    go_simp
    clear hc24
    refine hK.out _ _ trivial fun hHd=>?_
    clear hK K
    try simp only [qq]
    refine rq 3 fun K hK=>?_
    replace HW:=HW.out.al w23.heap.size #[.int .i64 k0,.string t0,.int .i64 v0,.slice a0 l0 c0]
    replace HN_n:=HW.out.nA HN_n
    go_simp
    refine hK.out _ _ trivial fun hHd=>?_
    clear hK K
    try simp only [qq]
    generalize w23.alloc _=w25 at *
    refine tq 4 ?_
    simp only [qq]
    refine rq 5 fun K hK=>?_
    have HM_a:=ħ (RowN.o0 HW.out (HN_n.out.less HZ_n.out))
    have HZ_a:=zz w0
    clear HN_n HZ_n
    replace HW:=hide HW.out.d0
    have HN_z:=ħ (HM_a.out.node 24 (hd (tk r.tail)) 0)
    have HZ_z:=HZ_a
    clear HM_a HZ_a
    have hc26:=HW.out.c1
    have hf27:=HW.out.f1
    replace HW:=ħ (HW.out.s1 (.int .i64 24) (.string (str (hd (tk r.tail)))) (.int .i64 0) ((.slice (some ⟨w23.heap.size,0,none⟩) 1 1)))
    replace HN_z:=HW.out.ms1.N HN_z
    go_simp
    refine hK.out _ _ trivial fun hHd=>?_
    clear hK K
    try simp only [qq]
    generalize (((w25.setCell _ _).setCell _ _).setCell _ _).setCell _ _=w28 at *
    clear hc26 hf27
    refine wpAnyH_done (by kernel_rfl) ?_ _
    go_wp2_with fail
    go_roundw
    case rel=>exact ⟨_,_,_,_,_,_,_,_,HW,HN_z,HS,fun res hr=>HI.out res (r_pL2 HQ.out (by rw [← tk_tail];exact HQ_s.out) (by rw [← tk_tail,← tk_tail];exact hr))⟩
    case measure=>rw [HW.out.ps.leftOf,HMu.out];exact Nat.lt_of_le_of_lt (List.tail_suffix _).length_le HLs.out
   have hc29:=HW.out.c1
   go_simp
   clear hc29
   refine hK.out _ _ trivial fun hHd=>?_
   clear hK K
   try simp only [qq]
   refine rq2 1 3 (fun K hK=>?_) fun K hK=>?_
   ·go_simp
    refine (HW.out.nm HS.out HF.out).mono ?_
    rintro e w30 (⟨HQ_s,rfl,HL,hS,hW,hG⟩|⟨hn,rfl,h1⟩)
    rotate_left
    ·exact ⟨rfl,h1,_,HS.out,Or.inr ⟨HI.out _ (by rw [tk_tail];exact r_pL1 HQ.out (by rw [← tk_tail];exact hn)),rfl⟩⟩
    replace HN_n:=HW.out.kN HZ_n hG HN_n
    replace HW:=hW
    replace HS:=hS
    clear hG
    refine hK.out _ _ trivial fun hHd=>?_
    clear hK K
    try simp only [qq]
    refine rq 3 fun K hK=>?_
    replace HW:=HW.out.al w30.heap.size #[.int .i64 k0,.string t0,.int .i64 v0,.slice a0 l0 c0]
    replace HN_n:=HW.out.nA HN_n
    go_simp
    refine hK.out _ _ trivial fun hHd=>?_
    clear hK K
    try simp only [qq]
    generalize w30.alloc _=w31 at *
    refine tq 4 ?_
    simp only [qq]
    refine rq 5 fun K hK=>?_
    have HM_a:=ħ (RowN.o0 HW.out (HN_n.out.less HZ_n.out))
    have HZ_a:=zz w0
    clear HN_n HZ_n
    replace HW:=hide HW.out.d0
    have HN_z:=ħ (HM_a.out.node 24 (hd (tk r.tail)) 0)
    have HZ_z:=HZ_a
    clear HM_a HZ_a
    have hc32:=HW.out.c1
    have hf33:=HW.out.f1
    replace HW:=ħ (HW.out.s1 (.int .i64 24) (.string (str (hd (tk r.tail)))) (.int .i64 0) ((.slice (some ⟨w30.heap.size,0,none⟩) 1 1)))
    replace HN_z:=HW.out.ms1.N HN_z
    go_simp
    refine hK.out _ _ trivial fun hHd=>?_
    clear hK K
    try simp only [qq]
    generalize (((w31.setCell _ _).setCell _ _).setCell _ _).setCell _ _=w34 at *
    clear hc32 hf33
    refine wpAnyH_done (by kernel_rfl) ?_ _
    go_wp2_with fail
    go_roundw
    case rel=>exact ⟨_,_,_,_,_,_,_,_,HW,HN_z,HS,fun res hr=>HI.out res (r_pL2 HQ.out (by rw [← tk_tail];exact HQ_s.out) (by rw [← tk_tail,← tk_tail];exact hr))⟩
    case measure=>rw [HW.out.ps.leftOf,HMu.out];exact Nat.lt_of_le_of_lt (List.tail_suffix _).length_le HLs.out
   replace HW:=HW.out.al w22.heap.size #[.int .i64 k0,.string t0,.int .i64 v0,.slice a0 l0 c0]
   replace HN_n:=HW.out.nA HN_n
   go_simp
   refine hK.out _ _ trivial fun hHd=>?_
   clear hK K
   try simp only [qq]
   generalize w22.alloc _=w35 at *
   refine rq 1 fun K hK=>?_
   go_simp
   refine (HW.out.nm HS.out HF.out).mono ?_
   rintro e w36 (⟨HQ_s,rfl,HL,hS,hW,hG⟩|⟨hn,rfl,h1⟩)
   rotate_left
   ·exact ⟨rfl,h1,_,HS.out,Or.inr ⟨HI.out _ (by rw [tk_tail];exact r_pL1 HQ.out (by rw [← tk_tail];exact hn)),rfl⟩⟩
   replace HN_n:=HW.out.kN HZ_n hG HN_n
   replace HW:=hW
   replace HS:=hS
   clear hG
   refine hK.out _ _ trivial fun hHd=>?_
   clear hK K
   try simp only [qq]
   refine tq 4 ?_
   simp only [qq]
   refine rq 5 fun K hK=>?_
   have HM_a:=ħ (RowN.o0 HW.out (HN_n.out.less HZ_n.out))
   have HZ_a:=zz w0
   clear HN_n HZ_n
   replace HW:=hide HW.out.d0
   have HN_z:=ħ (HM_a.out.node 24 (hd (tk r.tail)) 0)
   have HZ_z:=HZ_a
   clear HM_a HZ_a
   have hc37:=HW.out.c1
   have hf38:=HW.out.f1
   replace HW:=ħ (HW.out.s1 (.int .i64 24) (.string (str (hd (tk r.tail)))) (.int .i64 0) ((.slice (some ⟨w22.heap.size,0,none⟩) 1 1)))
   replace HN_z:=HW.out.ms1.N HN_z
   go_simp
   refine hK.out _ _ trivial fun hHd=>?_
   clear hK K
   try simp only [qq]
   generalize (((w36.setCell _ _).setCell _ _).setCell _ _).setCell _ _=w39 at *
   clear hc37 hf38
   refine wpAnyH_done (by kernel_rfl) ?_ _
   go_wp2_with fail
   go_roundw
   case rel=>exact ⟨_,_,_,_,_,_,_,_,HW,HN_z,HS,fun res hr=>HI.out res (r_pL2 HQ.out (by rw [← tk_tail];exact HQ_s.out) (by rw [← tk_tail,← tk_tail];exact hr))⟩
   case measure=>rw [HW.out.ps.leftOf,HMu.out];exact Nat.lt_of_le_of_lt (List.tail_suffix _).length_le HLs.out
  have HQ:Hid (¬ hd (tk r)=sDOT):=fun e=>hq ((tx_hd (HF.out.suf HS.out) sDOT (⟨_,_,rfl,by decide⟩)).2 e)
  go_at_call 67
  refine (HW.out.tkN (x:=str sDOT) (by decide) hq).mono ?_
  rintro e w40 ⟨rfl,hW,hG⟩
  replace HN_n:=HW.out.kN HZ_n hG HN_n
  replace HW:=hW
  clear hG
  go_wp2_with fail
  by_cases hq2:tx r=str sLP
  ·have HQ2:Hid (hd (tk r)=sLP):=(tx_hd (HF.out.suf HS.out) sLP (⟨_,_,rfl,by decide⟩)).1 hq2
   go_at_call 67
   refine (HW.out.tkY HS.out (x:=str sLP) (by decide) hq2).mono ?_
   rintro e w41 ⟨rfl,HL,HLs,hS,hW,hG⟩
   replace HN_n:=HW.out.kN HZ_n hG HN_n
   replace HW:=hW
   replace HS:=hS
   clear hG
   go_wp2_with fail
   have HSr:=HS
   replace HN_n:=ħ ((Mv.quiet (grown_drew w41)).nd HN_n.out)
   replace HW:=ħ (HW.out.quiet (grown_drew w41))
   refine wp_region_held_drew (S:=(fun _=>True)) (by kernel_rfl) trivial fun hHd=>?_
   generalize w41.drew=w42 at *
   refine tq 2 ?_
   simp only [qq]
   refine tq 3 ?_
   simp only [qq]
   refine tq 4 ?_
   simp only [qq]
   refine rq2 0 5 (fun K hK=>?_) fun K hK=>?_
   ·have hc43:=HW.out.c1
    go_simp
    clear hc43
    refine hK.out _ _ trivial fun hHd=>?_
    clear hK K
    try simp only [qq]
    refine rq2 1 5 (fun K hK=>?_) fun K hK=>?_
    ·replace HW:=HW.out.al w42.heap.size #[.int .i64 k0,.string t0,.int .i64 v0,.slice a0 l0 c0]
     replace HN_n:=HW.out.nA HN_n
     go_simp
     refine hK.out _ _ trivial fun hHd=>?_
     clear hK K
     try simp only [qq]
     generalize w42.alloc _=w44 at *
     have HM_a:=ħ (RowN.o0 HW.out (HN_n.out.less HZ_n.out))
     have HZ_a:=zz w0
     clear HN_n HZ_n
     replace HW:=hide HW.out.d0
     refine rq 5 fun K hK=>?_
     go_simp
     refine (parts_any HW.out.ps HW.out.two HW.out.glo HW.out.bg HW.out.glt (HF.out.suf HS.out) (Nat.le_trans HS.out.length_le HLn.out) sRP (⟨_,_,rfl,by decide⟩) (by decide) (JArg (tk r)) (KArg (tk r)) (by rw [tk_tail];exact loop_arg HQ2.out) (HLt.out _ HS.out HL.out) (HLt.out.suf HS.out)).mono ?_
     rintro e w45 ⟨hG45,r45,hsu,⟨l2,v2,hlt,hll,hK2,rfl,hM2,hnil,hP45⟩|⟨hK2,rfl⟩⟩
     rotate_left
     ·exact ⟨rfl,grown_trans HW.out.grown hG45,_,hsu.trans HS.out,Or.inr ⟨HI.out _ (r_pL3 HQ2.out hK2),rfl⟩⟩
     have HK2:=hide hK2
     have HM_p:=ħ (hM2.given HW.out)
     have HZ_p:Hid (w0.heap.size≤w44.heap.size):=HW.out.grown.size
     have HNil:=hide hnil
     have HLl:Hid (l2.length+r45.length≤r.tail.length):=hll
     have HSp:Hid (r45 <:+ r.tail):=hsu
     have HO_a:Hid (∀ k,((.slice (some ⟨w42.heap.size,0,none⟩) 1 1):Value).ownBlock=some k→k<w44.heap.size):=HM_a.out.lt
     replace HM_a:=HW.out.kR HZ_a hG45 HM_a
     replace HW:=ħ (HW.out.call hG45 hP45)
     replace HS:=ħ ((hsu).trans HS.out)
     clear hP45 hG45 hsu hlt hll hK2 hM2 hnil
     refine hK.out _ _ trivial fun hHd=>?_
     clear hK K
     try simp only [qq]
     refine rq 6 fun K hK=>?_
     refine app_rows_step _ _ rfl rfl HW.out HM_a.out (apart_old HM_p.out HZ_p.out HO_a.out) HZ_a.out (by have h1:=HLl.out;have h2:=HS.out.length_le;have h3:=HLn.out;have h4:=HLs.out;have h5:=HSr.out.length_le;simp only [List.length_cons,List.length_nil];omega) HNil.out (by simp) rfl rfl ?_
     intro g46 c46 w46 hW46 hM46 hG46
     clear HM_a HM_p HZ_a HZ_p
     replace HW:=ħ (hW46)
     have HM_c:Hid (RowN w46 (Av w0.heap.size (((w.heap.size+1),#[.int .i64 0,.string ⟨#[]⟩,.int .i64 0,.slice none 0 0],24)::(w.heap.size,#[.int .i64 k0,.string t0,.int .i64 v0,.slice a0 l0 c0],24)::L)) (.slice (some ⟨g46,0,none⟩) (l2.length+1) c46) ([n]++l2)):=hM46
     have HZ_c:=zz w0
     clear hW46 hM46 hG46
     refine hK.out _ _ trivial fun hHd=>?_
     clear hK K
     try simp only [qq]
     refine tq 7 ?_
     simp only [qq]
     refine rq 8 fun K hK=>?_
     have HN_z:=ħ (HM_c.out.node 25 [] 0)
     have HZ_z:=HZ_c
     clear HM_c HZ_c
     have hc47:=HW.out.c1
     have hf48:=HW.out.f1
     replace HW:=ħ (HW.out.s1 (.int .i64 25) (.string ⟨#[]⟩) (.int .i64 0) ((.slice (some ⟨g46,0,none⟩) (l2.length+1) c46)))
     replace HN_z:=HW.out.ms1.N HN_z
     go_simp
     refine hK.out _ _ trivial fun hHd=>?_
     clear hK K
     try simp only [qq]
     generalize (((w46.setCell _ _).setCell _ _).setCell _ _).setCell _ _=w49 at *
     clear hc47 hf48
     refine wpAnyH_done (by kernel_rfl) ?_ _
     go_wp2_with fail
     go_roundw
     case rel=>exact ⟨_,_,_,_,_,_,_,_,HW,HN_z,HS,fun res hr=>HI.out res (r_pL4 HQ2.out HK2.out hr)⟩
     case measure=>rw [HW.out.ps.leftOf,HMu.out];exact Nat.lt_of_le_of_lt HSp.out.length_le HLs.out
    go_simp
    refine (parts_any HW.out.ps HW.out.two HW.out.glo HW.out.bg HW.out.glt (HF.out.suf HS.out) (Nat.le_trans HS.out.length_le HLn.out) sRP (⟨_,_,rfl,by decide⟩) (by decide) (JArg (tk r)) (KArg (tk r)) (by rw [tk_tail];exact loop_arg HQ2.out) (HLt.out _ HS.out HL.out) (HLt.out.suf HS.out)).mono ?_
    rintro e w50 ⟨hG50,r50,hsu,⟨l2,v2,hlt,hll,hK2,rfl,hM2,hnil,hP50⟩|⟨hK2,rfl⟩⟩
    rotate_left
    ·exact ⟨rfl,grown_trans HW.out.grown hG50,_,hsu.trans HS.out,Or.inr ⟨HI.out _ (r_pL3 HQ2.out hK2),rfl⟩⟩
    have HK2:=hide hK2
    have HM_p:=ħ (hM2.given HW.out)
    have HZ_p:Hid (w0.heap.size≤w42.heap.size):=HW.out.grown.size
    have HNil:=hide hnil
    have HLl:Hid (l2.length+r50.length≤r.tail.length):=hll
    have HSp:Hid (r50 <:+ r.tail):=hsu
    replace HN_n:=HW.out.kN HZ_n hG50 HN_n
    replace HW:=ħ (HW.out.call hG50 hP50)
    replace HS:=ħ ((hsu).trans HS.out)
    clear hP50 hG50 hsu hlt hll hK2 hM2 hnil
    refine hK.out _ _ trivial fun hHd=>?_
    clear hK K
    try simp only [qq]
    refine rq 1 fun K hK=>?_
    replace HW:=HW.out.al w50.heap.size #[.int .i64 k0,.string t0,.int .i64 v0,.slice a0 l0 c0]
    replace HN_n:=HW.out.nA HN_n
    replace HM_p:=HW.out.rA HM_p
    go_simp
    refine hK.out _ _ trivial fun hHd=>?_
    clear hK K
    try simp only [qq]
    generalize w50.alloc _=w51 at *
    have HD:Hid _:=apart_new (n:=1) (cp:=1) HM_p.out HZ_p.out rfl
    have HM_a:=ħ (RowN.o0 HW.out (HN_n.out.less HZ_n.out))
    have HZ_a:=zz w0
    clear HN_n HZ_n
    replace HM_p:=(Mv.d0 _).R HM_p
    replace HW:=hide HW.out.d0
    refine rq 6 fun K hK=>?_
    refine app_rows_step _ _ rfl rfl HW.out HM_a.out HD.out HZ_a.out (by have h1:=HLl.out;have h2:=HS.out.length_le;have h3:=HLn.out;have h4:=HLs.out;have h5:=HSr.out.length_le;simp only [List.length_cons,List.length_nil];omega) HNil.out (by simp) rfl rfl ?_
    intro g52 c52 w52 hW52 hM52 hG52
    clear HM_a HM_p HZ_a HZ_p
    replace HW:=ħ (hW52)
    have HM_c:Hid (RowN w52 (Av w0.heap.size (((w.heap.size+1),#[.int .i64 0,.string ⟨#[]⟩,.int .i64 0,.slice none 0 0],24)::(w.heap.size,#[.int .i64 k0,.string t0,.int .i64 v0,.slice a0 l0 c0],24)::L)) (.slice (some ⟨g52,0,none⟩) (l2.length+1) c52) ([n]++l2)):=hM52
    have HZ_c:=zz w0
    clear hW52 hM52 hG52
    refine hK.out _ _ trivial fun hHd=>?_
    clear hK K
    try simp only [qq]
    refine tq 7 ?_
    simp only [qq]
    refine rq 8 fun K hK=>?_
    have HN_z:=ħ (HM_c.out.node 25 [] 0)
    have HZ_z:=HZ_c
    clear HM_c HZ_c
    have hc53:=HW.out.c1
    have hf54:=HW.out.f1
    replace HW:=ħ (HW.out.s1 (.int .i64 25) (.string ⟨#[]⟩) (.int .i64 0) ((.slice (some ⟨g52,0,none⟩) (l2.length+1) c52)))
    replace HN_z:=HW.out.ms1.N HN_z
    go_simp
    refine hK.out _ _ trivial fun hHd=>?_
    clear hK K
    try simp only [qq]
    generalize (((w52.setCell _ _).setCell _ _).setCell _ _).setCell _ _=w55 at *
    clear hc53 hf54
    refine wpAnyH_done (by kernel_rfl) ?_ _
    go_wp2_with fail
    go_roundw
    case rel=>exact ⟨_,_,_,_,_,_,_,_,HW,HN_z,HS,fun res hr=>HI.out res (r_pL4 HQ2.out HK2.out hr)⟩
    case measure=>rw [HW.out.ps.leftOf,HMu.out];exact Nat.lt_of_le_of_lt HSp.out.length_le HLs.out
   go_simp
   refine (parts_any HW.out.ps HW.out.two HW.out.glo HW.out.bg HW.out.glt (HF.out.suf HS.out) (Nat.le_trans HS.out.length_le HLn.out) sRP (⟨_,_,rfl,by decide⟩) (by decide) (JArg (tk r)) (KArg (tk r)) (by rw [tk_tail];exact loop_arg HQ2.out) (HLt.out _ HS.out HL.out) (HLt.out.suf HS.out)).mono ?_
   rintro e w56 ⟨hG56,r56,hsu,⟨l2,v2,hlt,hll,hK2,rfl,hM2,hnil,hP56⟩|⟨hK2,rfl⟩⟩
   rotate_left
   ·exact ⟨rfl,grown_trans HW.out.grown hG56,_,hsu.trans HS.out,Or.inr ⟨HI.out _ (r_pL3 HQ2.out hK2),rfl⟩⟩
   have HK2:=hide hK2
   have HM_p:=ħ (hM2.given HW.out)
   have HZ_p:Hid (w0.heap.size≤w42.heap.size):=HW.out.grown.size
   have HNil:=hide hnil
   have HLl:Hid (l2.length+r56.length≤r.tail.length):=hll
   have HSp:Hid (r56 <:+ r.tail):=hsu
   replace HN_n:=HW.out.kN HZ_n hG56 HN_n
   replace HW:=ħ (HW.out.call hG56 hP56)
   replace HS:=ħ ((hsu).trans HS.out)
   clear hP56 hG56 hsu hlt hll hK2 hM2 hnil
   refine hK.out _ _ trivial fun hHd=>?_
   clear hK K
   try simp only [qq]
   refine rq 0 fun K hK=>?_
   have hc57:=HW.out.c1
   go_simp
   clear hc57
   refine hK.out _ _ trivial fun hHd=>?_
   clear hK K
   try simp only [qq]
   refine rq 1 fun K hK=>?_
   replace HW:=HW.out.al w56.heap.size #[.int .i64 k0,.string t0,.int .i64 v0,.slice a0 l0 c0]
   replace HN_n:=HW.out.nA HN_n
   replace HM_p:=HW.out.rA HM_p
   go_simp
   refine hK.out _ _ trivial fun hHd=>?_
   clear hK K
   try simp only [qq]
   generalize w56.alloc _=w58 at *
   have HD:Hid _:=apart_new (n:=1) (cp:=1) HM_p.out HZ_p.out rfl
   have HM_a:=ħ (RowN.o0 HW.out (HN_n.out.less HZ_n.out))
   have HZ_a:=zz w0
   clear HN_n HZ_n
   replace HM_p:=(Mv.d0 _).R HM_p
   replace HW:=hide HW.out.d0
   refine rq 6 fun K hK=>?_
   refine app_rows_step _ _ rfl rfl HW.out HM_a.out HD.out HZ_a.out (by have h1:=HLl.out;have h2:=HS.out.length_le;have h3:=HLn.out;have h4:=HLs.out;have h5:=HSr.out.length_le;simp only [List.length_cons,List.length_nil];omega) HNil.out (by simp) rfl rfl ?_
   intro g59 c59 w59 hW59 hM59 hG59
   clear HM_a HM_p HZ_a HZ_p
   replace HW:=ħ (hW59)
   have HM_c:Hid (RowN w59 (Av w0.heap.size (((w.heap.size+1),#[.int .i64 0,.string ⟨#[]⟩,.int .i64 0,.slice none 0 0],24)::(w.heap.size,#[.int .i64 k0,.string t0,.int .i64 v0,.slice a0 l0 c0],24)::L)) (.slice (some ⟨g59,0,none⟩) (l2.length+1) c59) ([n]++l2)):=hM59
   have HZ_c:=zz w0
   clear hW59 hM59 hG59
   refine hK.out _ _ trivial fun hHd=>?_
   clear hK K
   try simp only [qq]
   refine tq 7 ?_
   simp only [qq]
   refine rq 8 fun K hK=>?_
   have HN_z:=ħ (HM_c.out.node 25 [] 0)
   have HZ_z:=HZ_c
   clear HM_c HZ_c
   have hc60:=HW.out.c1
   have hf61:=HW.out.f1
   replace HW:=ħ (HW.out.s1 (.int .i64 25) (.string ⟨#[]⟩) (.int .i64 0) ((.slice (some ⟨g59,0,none⟩) (l2.length+1) c59)))
   replace HN_z:=HW.out.ms1.N HN_z
   go_simp
   refine hK.out _ _ trivial fun hHd=>?_
   clear hK K
   try simp only [qq]
   generalize (((w59.setCell _ _).setCell _ _).setCell _ _).setCell _ _=w62 at *
   clear hc60 hf61
   refine wpAnyH_done (by kernel_rfl) ?_ _
   go_wp2_with fail
   go_roundw
   case rel=>exact ⟨_,_,_,_,_,_,_,_,HW,HN_z,HS,fun res hr=>HI.out res (r_pL4 HQ2.out HK2.out hr)⟩
   case measure=>rw [HW.out.ps.leftOf,HMu.out];exact Nat.lt_of_le_of_lt HSp.out.length_le HLs.out
  have HQ2:Hid (¬ hd (tk r)=sLP):=fun e=>hq2 ((tx_hd (HF.out.suf HS.out) sLP (⟨_,_,rfl,by decide⟩)).2 e)
  go_at_call 67
  refine (HW.out.tkN (x:=str sLP) (by decide) hq2).mono ?_
  rintro e w63 ⟨rfl,hW,hG⟩
  replace HN_n:=HW.out.kN HZ_n hG HN_n
  replace HW:=hW
  clear hG
  have hc64:=HW.out.c1
  have hc65:=HW.out.c0
  have hf66:=HW.out.f0
  replace HW:=ħ (HW.out.s0 (.int .i64 k0) (.string t0) (.int .i64 v0) (.slice a0 l0 c0))
  replace HN_n:=HW.out.ms0.N HN_n
  go_wp2_with fail
  generalize (((w63.setCell _ _).setCell _ _).setCell _ _).setCell _ _=w69 at *
  refine bodyPost_ret (rt rfl rfl HW.out.b0) rfl ?_
  exact ⟨HW.out.grown,_,HS.out,Or.inl ⟨n,_,HI.out _ (r_pL0 HQ.out HQ2.out),rfl,(Mv.drop [] L _).nd ((Mv.drop [] (_::L) _).nd HN_n.out),(HW.out.drop [] (_::L)).drop [] L⟩⟩
theorem inside1 {w0 w:World} {L:List Bk} {q:Nat} {x:ByteArray} (HW:Wd w0 w b g m ts ((q,#[.string x],9)::L)) (hx:x.size≠0) (hq:tx ts=x) (hF:Fits ts) (hlen:ts.length≤4000) (hLt:Later 143 .expr b g m ts):Calls Tryz.prog 141 #[.pointer (some ⟨b,0,none⟩),.slice (some ⟨q,0,none⟩) 1 1] w (PostN .round w b g m ts.tail):=by
 have hB:=HW.blk (q,#[.string x],9) List.mem_cons_self
 have hlt:=HW.lt (q,#[.string x],9) List.mem_cons_self
 have hbl:=HW.bl
 have hb1:w0.heap.size≤q:=hB.1
 have ht:=tail_lt hx hq
 refine inside_any HW.ps HW.glt HW.two [x] (by simpa using hx) (some ⟨q,0,none⟩) 1 q (fun _=>rfl) (by omega) hlt (fun j hj=>?_) (by simp) ts.tail (by simp [asks,hq]) (hF.suf (List.tail_suffix _)) (fun w1 hg hP hT hgl=>hLt _ ((List.tail_suffix _).trans (List.tail_suffix _)) (Nat.lt_of_le_of_lt (List.tail_suffix _).length_le ht) w1 hP hT (Gl_kept HW.glo HW.bg hg) hgl (hF.suf ((List.tail_suffix _).trans (List.tail_suffix _))) (Nat.le_trans ((List.tail_suffix _).trans (List.tail_suffix _)).length_le hlen))
 obtain rfl:j=0:=by simpa using hj
 exact cells_at hB.2 0
theorem inside0 {w0 w:World} {L:List Bk} (HW:Wd w0 w b g m ts L) (hq:tx ts=str sLP) (hF:Fits ts) (hlen:ts.length≤4000) (hLt:Later 143 .expr b g m ts):Calls Tryz.prog 141 #[.pointer (some ⟨b,0,none⟩),.slice none 0 0] w (PostN .round w b g m ts):=by
 have ht:=tail_lt (by decide) hq
 have hbl:=HW.bl
 have hgr:=HW.grown.size
 have hgl:=HW.gl
 have hpn:=HW.ps.ne
 exact inside_any HW.ps HW.glt HW.two [] (by simp) none 0 g (fun h=>absurd rfl h) hpn HW.glt (fun j hj=>by simp at hj) (by simp) ts (by simp [asks]) hF (fun w1 hg hP hT hgl=>hLt _ (List.tail_suffix _) ht w1 hP hT (Gl_kept HW.glo HW.bg hg) hgl (hF.suf (List.tail_suffix _)) (Nat.le_trans (List.tail_suffix _).length_le hlen))
theorem pass_tx {x:ByteArray} (h:Ps w b g m ts) (hx:x.size≠0) (hq:tx ts=x):Calls Tryz.prog 92 #[.pointer (some ⟨b,0,none⟩)] w fun e w'=>e=.returned (.tuple #[])∧Ps w' b g m ts.tail∧w.grownBy w' (some b):=by
 obtain ⟨t,r,rfl⟩:=tx_len ts x hx hq
 exact pass_any h
theorem r_un {x:Nd} {ts r:List Tk} {q:Res} (h1:¬ hd ts=sMINUS) (h2:¬ hd ts=sNOT) (a:R .first ts (.ok (.nd x) r)) (k:R (.postL x) r q):R .unary ts q:=by
 obtain ⟨n,e1,e2⟩:=both a k
 exact ⟨n+1,by simp [P,F,h1,h2,andN,e1,e2]⟩
theorem r_un0 {ts r:List Tk} (h1:¬ hd ts=sMINUS) (h2:¬ hd ts=sNOT) (a:R .first ts (.no r)):R .unary ts (.no r):=by
 obtain ⟨n,e1⟩:=a
 exact ⟨n+1,by simp [P,F,h1,h2,andN,e1]⟩
theorem unary_any (h:Ps w b g m ts) (hT:Two w b m) (hGl:Og w) (hb5:4<b) (hgl:g<w.heap.size) (hF:Fits ts) (hlen:ts.length≤4000) (hFi:Meth 176 .first b g m ts) (hU:Later 173 .unary b g m ts) (hE:Later 143 .expr b g m ts):Calls Tryz.prog 173 #[.pointer (some ⟨b,0,none⟩)] w (PostN .unary w b g m ts):=by
 have HW:Hid (Wd w w b g m ts []):=Wd.start h hT hGl hb5 hgl
 have HS:=su ts
 have HF:=ħ hF
 have HLn:=ħ hlen
 have HFi:=hide hFi
 have HU:=hide hU
 have HE:=hide hE
 clear hFi hU hE
 clear h hT hGl hgl hF hlen
 go_enter Tryz.func173,Tryz.ntmps173
 replace HW:=HW.out.az
 go_wp2_with fail
 generalize w.alloc _=w1 at *
 by_cases hqsMINUS:tx ts=str sMINUS
 ·have HQ:Hid (hd (tk ts)=sMINUS):=(tx_hd (HF.out.suf HS.out) sMINUS (⟨_,_,rfl,by decide⟩)).1 hqsMINUS
  go_at_call 67
  refine (HW.out.tkY HS.out (x:=str sMINUS) (by decide) hqsMINUS).mono ?_
  rintro e w2 ⟨rfl,HL,HLs,HS,HW,hG⟩
  clear hG
  go_wp2_with fail
  go_at_call 173
  refine (HU.out ts.tail HS.out HL.out w2 HW.out.ps HW.out.two HW.out.glo HW.out.glt (HF.out.suf HS.out) (Nat.le_trans HS.out.length_le HLn.out)).mono ?_
  rintro e w3 hp
  obtain ⟨r3,n_x,k_x,t_x,v_x,a_x,l_x,c_x,rfl,HR_x,HN_x,HZ_x,HL,HSx,HLs2,hS,hW,hG⟩|⟨r,hR,rfl,h1,h2⟩:=HW.out.okN HS.out hp
  rotate_left
  ·exact ⟨rfl,h1,_,h2,Or.inr ⟨r_neg0 HQ.out (by rw [← tk_tail];exact hR),rfl⟩⟩
  replace HW:=hW
  replace HS:=hS
  clear hG hp
  replace HW:=HW.out.an HN_x
  replace HN_x:=HW.out.nA HN_x
  go_wp2_with fail
  generalize w3.alloc _=w4 at *
  go_at_call 140
  refine (node_any 28 (some ⟨w3.heap.size,0,none⟩) 1 1 w4).mono ?_
  rintro e w5 ⟨rfl,hG5⟩
  replace HN_x:=(Mv.quiet hG5).N HN_x
  replace HW:=ħ (HW.out.quiet hG5)
  clear hG5
  have HM_a:=ħ (RowN.o0 HW.out (HN_x.out.less HZ_x.out))
  have HZ_a:=zz w
  clear HN_x HZ_x
  replace HW:=hide HW.out.d0
  have HN_z:=ħ (HM_a.out.node 28 [] 0)
  have HZ_z:=HZ_a
  clear HM_a HZ_a
  have hc6:=HW.out.c0
  have hf7:=HW.out.f0
  replace HW:=ħ (HW.out.s0 (.int .i64 28) (.string ⟨#[]⟩) (.int .i64 0) ((.slice (some ⟨w3.heap.size,0,none⟩) 1 1)))
  replace HN_z:=HW.out.ms0.N HN_z
  go_wp2_with fail
  generalize (((w5.setCell _ _).setCell _ _).setCell _ _).setCell _ _=w10 at *
  refine bodyPost_ret (rt rfl rfl HW.out.b0) rfl ?_
  exact HW.out.post HS.out (r_neg HQ.out (by rw [← tk_tail];exact HR_x.out)) HL.out HZ_z.out HN_z.out
 have HQ1:Hid (¬ hd (tk ts)=sMINUS):=fun e=>hqsMINUS ((tx_hd (HF.out.suf HS.out) sMINUS (⟨_,_,rfl,by decide⟩)).2 e)
 go_at_call 67
 refine (HW.out.tkN (x:=str sMINUS) (by decide) hqsMINUS).mono ?_
 rintro e w11 ⟨rfl,HW,hG⟩
 clear hG
 go_wp2_with fail
 by_cases hqsNOT:tx ts=str sNOT
 ·have HQ:Hid (hd (tk ts)=sNOT):=(tx_hd (HF.out.suf HS.out) sNOT (⟨_,_,rfl,by decide⟩)).1 hqsNOT
  go_at_call 67
  refine (HW.out.tkY HS.out (x:=str sNOT) (by decide) hqsNOT).mono ?_
  rintro e w12 ⟨rfl,HL,HLs,HS,HW,hG⟩
  clear hG
  go_wp2_with fail
  go_at_call 173
  refine (HU.out ts.tail HS.out HL.out w12 HW.out.ps HW.out.two HW.out.glo HW.out.glt (HF.out.suf HS.out) (Nat.le_trans HS.out.length_le HLn.out)).mono ?_
  rintro e w13 hp
  obtain ⟨r13,n_x,k_x,t_x,v_x,a_x,l_x,c_x,rfl,HR_x,HN_x,HZ_x,HL,HSx,HLs2,hS,hW,hG⟩|⟨r,hR,rfl,h1,h2⟩:=HW.out.okN HS.out hp
  rotate_left
  ·exact ⟨rfl,h1,_,h2,Or.inr ⟨r_not0 HQ.out (by rw [← tk_tail];exact hR),rfl⟩⟩
  replace HW:=hW
  replace HS:=hS
  clear hG hp
  replace HW:=HW.out.an HN_x
  replace HN_x:=HW.out.nA HN_x
  go_wp2_with fail
  generalize w13.alloc _=w14 at *
  go_at_call 140
  refine (node_any 29 (some ⟨w13.heap.size,0,none⟩) 1 1 w14).mono ?_
  rintro e w15 ⟨rfl,hG15⟩
  replace HN_x:=(Mv.quiet hG15).N HN_x
  replace HW:=ħ (HW.out.quiet hG15)
  clear hG15
  have HM_a:=ħ (RowN.o0 HW.out (HN_x.out.less HZ_x.out))
  have HZ_a:=zz w
  clear HN_x HZ_x
  replace HW:=hide HW.out.d0
  have HN_z:=ħ (HM_a.out.node 29 [] 0)
  have HZ_z:=HZ_a
  clear HM_a HZ_a
  have hc16:=HW.out.c0
  have hf17:=HW.out.f0
  replace HW:=ħ (HW.out.s0 (.int .i64 29) (.string ⟨#[]⟩) (.int .i64 0) ((.slice (some ⟨w13.heap.size,0,none⟩) 1 1)))
  replace HN_z:=HW.out.ms0.N HN_z
  go_wp2_with fail
  generalize (((w15.setCell _ _).setCell _ _).setCell _ _).setCell _ _=w20 at *
  refine bodyPost_ret (rt rfl rfl HW.out.b0) rfl ?_
  exact HW.out.post HS.out (r_not HQ.out (by rw [← tk_tail];exact HR_x.out)) HL.out HZ_z.out HN_z.out
 have HQ2:Hid (¬ hd (tk ts)=sNOT):=fun e=>hqsNOT ((tx_hd (HF.out.suf HS.out) sNOT (⟨_,_,rfl,by decide⟩)).2 e)
 go_at_call 67
 refine (HW.out.tkN (x:=str sNOT) (by decide) hqsNOT).mono ?_
 rintro e w21 ⟨rfl,HW,hG⟩
 clear hG
 go_wp2_with fail
 go_at_call 176
 refine (HFi.out w21 HW.out.ps HW.out.two HW.out.glo HW.out.glt (HF.out.suf HS.out) (Nat.le_trans HS.out.length_le HLn.out)).mono ?_
 rintro e w22 hp
 obtain ⟨r22,n_x,k_x,t_x,v_x,a_x,l_x,c_x,rfl,HR_x,HN_x,HZ_x,HL,HSx,HLs2,hS,hW,hG⟩|⟨r,hR,rfl,h1,h2⟩:=HW.out.okN HS.out hp
 rotate_left
 ·exact ⟨rfl,h1,_,h2,Or.inr ⟨r_un0 HQ1.out HQ2.out hR,rfl⟩⟩
 replace HW:=hW
 replace HS:=hS
 clear hG hp
 go_wp2_with fail
 go_at_call 156
 refine (behind_any HW.out (HF.out.suf HS.out) (Nat.le_trans HS.out.length_le HLn.out) n_x _ _ _ _ _ _ (HN_x.out.less HZ_x.out) (HE.out.suf HS.out)).mono ?_
 rintro e w23 ⟨hG23,r23,hsu,⟨n_y,vv,hR,rfl,hN,hW23⟩|⟨hR,rfl⟩⟩
 rotate_left
 ·exact ⟨rfl,hG23,_,hsu.trans HS.out,Or.inr ⟨r_un HQ1.out HQ2.out HR_x.out hR,rfl⟩⟩
 obtain ⟨k_y,t_y,v_y,a_y,l_y,c_y,rfl⟩:=hN.form
 have HR_y:=hide hR
 have HN_y:=hide hN
 have HZ_y:=zz w
 clear HN_x HZ_x
 replace HL:=ħ (Nat.lt_of_le_of_lt hsu.length_le HL.out)
 replace HS:=ħ (hsu.trans HS.out)
 replace HW:=ħ (hW23)
 clear hR hN hsu hW23 hG23
 have hc24:=HW.out.c0
 have hf25:=HW.out.f0
 replace HW:=ħ (HW.out.s0 (.int .i64 k_y) (.string t_y) (.int .i64 v_y) (.slice a_y l_y c_y))
 replace HN_y:=HW.out.ms0.N HN_y
 go_wp2_with fail
 generalize (((w23.setCell _ _).setCell _ _).setCell _ _).setCell _ _=w28 at *
 refine bodyPost_ret (rt rfl rfl HW.out.b0) rfl ?_
 exact HW.out.post HS.out (r_un HQ1.out HQ2.out HR_x.out HR_y.out) HL.out HZ_y.out HN_y.out
theorem r_fi_lp {ts:List Tk} {q:Res} (h:hd ts=sLP) (a:R .round ts q):R .first ts q:=by
 obtain ⟨n,e⟩:=a
 exact ⟨n+1,by simp [P,F,h,e]⟩
theorem r_fi_int {x:Nd} {ts r:List Tk} (h:hd ts=sINT) (a:R .round ts.tail (.ok (.nd x) r)):R .first ts (.ok (.nd (.mk 30 [] 0 [x])) r):=by
 obtain ⟨n,e⟩:=a
 exact ⟨n+1,by simp [P,F,h,andN,e,okN]⟩
theorem r_fi_int0 {ts r:List Tk} (h:hd ts=sINT) (a:R .round ts.tail (.no r)):R .first ts (.no r):=by
 obtain ⟨n,e⟩:=a
 exact ⟨n+1,by simp [P,F,h,andN,e]⟩
theorem r_fi_long {x:Nd} {ts r:List Tk} (h:hd ts=sLONG) (a:R .round ts.tail (.ok (.nd x) r)):R .first ts (.ok (.nd (.mk 31 [] 0 [x])) r):=by
 obtain ⟨n,e⟩:=a
 exact ⟨n+1,by simp [P,F,h,andN,e,okN]⟩
theorem r_fi_long0 {ts r:List Tk} (h:hd ts=sLONG) (a:R .round ts.tail (.no r)):R .first ts (.no r):=by
 obtain ⟨n,e⟩:=a
 exact ⟨n+1,by simp [P,F,h,andN,e]⟩
theorem r_fi_extra {x:Nd} {ts r:List Tk} (h:hd ts=sEXTRA) (a:R .round ts.tail (.ok (.nd x) r)):R .first ts (.ok (.nd (.mk 34 [] 0 [x])) r):=by
 obtain ⟨n,e⟩:=a
 exact ⟨n+1,by simp [P,F,h,andN,e,okN]⟩
theorem r_fi_extra0 {ts r:List Tk} (h:hd ts=sEXTRA) (a:R .round ts.tail (.no r)):R .first ts (.no r):=by
 obtain ⟨n,e⟩:=a
 exact ⟨n+1,by simp [P,F,h,andN,e]⟩
theorem r_fi_amp {ts:List Tk} (h:hd ts=sAMP) (h2:nameB (hd ts.tail)=true):R .first ts (.ok (.nd (.mk 26 (hd ts.tail) 0 [])) ts.tail.tail):=⟨1,by simp [P,F,h,S.name,h2,okN]⟩
theorem r_fi_amp0 {ts:List Tk} (h:hd ts=sAMP) (h2:nameB (hd ts.tail)=false):R .first ts (.no ts.tail):=⟨1,by simp [P,F,h,S.name,h2]⟩
theorem r_fi_count {ts:List Tk} (h:hd ts=sCOUNT):R .first ts (.ok (.nd (.mk 33 [] 0 [])) ts.tail):=⟨1,by simp [P,F,h,okN]⟩
theorem r_fi_num {ts:List Tk} {q:Res} (n1:¬ hd ts=sLP) (n2:¬ hd ts=sAMP) (n3:¬ hd ts=sCOUNT) (n4:¬ hd ts=sINT) (n5:¬ hd ts=sLONG) (n6:¬ hd ts=sEXTRA) (h:nameB (hd ts)=false) (e:number ts=some q):R .first ts q:=⟨1,by simp [P,F,n1,n2,n3,n4,n5,n6,h,e]⟩
theorem r_fi_name {ts:List Tk} (n1:¬ hd ts=sLP) (n2:¬ hd ts=sAMP) (n3:¬ hd ts=sCOUNT) (n4:¬ hd ts=sINT) (n5:¬ hd ts=sLONG) (n6:¬ hd ts=sEXTRA) (h:nameB (hd ts)=true) (h2:¬ hd ts.tail=sLB):R .first ts (.ok (.nd (.mk 23 (hd ts) 0 [])) ts.tail):=⟨1,by simp [P,F,n1,n2,n3,n4,n5,n6,h,h2,okN]⟩
def KMk (ts:List Tk) (o:Option (List Nd)) (r:List Tk):Prop:=R .first ts (match o with|some l=>.ok (.nd (.mk 27 (hd ts) 0 l)) r|none=>.no r)
def JMk (ts:List Tk) (acc:List Nd) (t:List Tk):Prop:=∀ q,R (.makeL (hd ts) acc) t q→R .first ts q
theorem loop_mk {ts:List Tk} (n1:¬ hd ts=sLP) (n2:¬ hd ts=sAMP) (n3:¬ hd ts=sCOUNT) (n4:¬ hd ts=sINT) (n5:¬ hd ts=sLONG) (n6:¬ hd ts=sEXTRA) (h:nameB (hd ts)=true) (h2:hd ts.tail=sLB):Loop sRB (JMk ts) (KMk ts) ts.tail.tail where
 z h1:=⟨1,by simp [P,F,n1,n2,n3,n4,n5,n6,h,h2,h1,okN]⟩
 j0 h1:=fun q k=>by
  obtain ⟨n,e⟩:=k
  exact ⟨n+1,by simp [P,F,n1,n2,n3,n4,n5,n6,h,h2,h1,e]⟩
 no acc t r j k:=j _ (by
  obtain ⟨n,e⟩:=k
  exact ⟨n+1,by simp [P,F,andN,e]⟩)
 comma acc t x r j k h1:=fun q k2=>j _ (by
  obtain ⟨n,e1,e2⟩:=both k k2
  exact ⟨n+1,by simp [P,F,andN,e1,h1,e2]⟩)
 done acc t x r j k h1 h2:=j _ (by
  obtain ⟨n,e1⟩:=k
  exact ⟨n+1,by simp [P,F,andN,e1,must,h2,okN]⟩)
 bad acc t x r j k h1 h2:=j _ (by
  obtain ⟨n,e1⟩:=k
  exact ⟨n+1,by simp [P,F,andN,e1,h1,must,h2]⟩)
theorem cmp_str (x:ByteArray) (s:List UInt8):(x.toList == s)=decide (x=str s):=by
 have h:=str_neq x (str s)
 have e:(str s).toList=s:=by rw [ByteArray.toList_eq];simp [str]
 rwa [e] at h
theorem tx_short (h:Fits ts):(tx ts).size≤4000:=by
 cases ts with
 | nil=>show (0:Nat)≤4000;omega
 | cons t r=>exact (h t List.mem_cons_self).short
theorem number_lt {ts:List Tok} {v:V} {r:List Tk} (h:number (tk ts)=some (.ok v r)):ts.tail.length<ts.length:=by
 cases ts with
 | nil=>cases h
 | cons t r=>simp
theorem first_int (h:Ps w b g m ts) (hT:Two w b m) (hGl:Og w) (hb5:4<b) (hgl:g<w.heap.size) (hF:Fits ts) (hlen:ts.length≤4000) (hq:tx ts=str sINT) (hE:Later 143 .expr b g m ts):Calls Tryz.prog 176 #[.pointer (some ⟨b,0,none⟩)] w (PostN .first w b g m ts):=by
 have HW:Hid (Wd w w b g m ts []):=Wd.start h hT hGl hb5 hgl
 have HS:=su ts
 have HF:=ħ hF
 have HLn:=ħ hlen
 have HE:=hide hE
 have HSz:Hid ((tx ts).size≤4000):=tx_short hF
 have H2:Hid (twoOf (tx ts)=(9,30,true)):=by rw [hq];rfl
 have HQ:Hid (hd (tk ts)=sINT):=(tx_hd hF sINT (⟨_,_,rfl,by decide⟩)).1 hq
 have HQx:=hide hq
 clear hq
 clear hE
 clear h hT hGl hgl hF hlen
 go_enter Tryz.func176,Tryz.ntmps176
 replace HW:=HW.out.az
 go_wp2_with fail
 generalize w.alloc _=w1 at *
 replace HW:=ħ (HW.out.quiet (grown_drew w1))
 refine wp_region_held_drew (S:=(fun w'=>w'.cell? ⟨b,1,none⟩=some m∧Two w' b m)) (by kernel_rfl) (⟨HW.out.ps.cell1,HW.out.two⟩) (fun hHd=>?_)
 generalize w1.drew=w2 at *
 refine tq 0 ?_
 simp only [qq]
 refine tq 1 ?_
 simp only [qq]
 refine tq 2 ?_
 simp only [qq]
 refine tq 3 ?_ (hy:=by (intro w hSw;obtain ⟨hs1,hs2⟩:=hSw;go_simp)<;>with_reducible rfl)
 simp only [qq]
 refine tq 4 ?_
 simp only [qq]
 refine rq2 5 10 (fun K hK=>?_) fun K hK=>?_
 ·go_simp
  refine (text_any HW.out.ps).mono ?_
  rintro e w3 ⟨rfl,hww⟩
  replace hww:w2=w3:=hww.symm
  subst hww
  refine hK.out _ _ (⟨HW.out.ps.cell1,HW.out.two⟩) (fun hHd=>?_)
  clear hK K
  try simp only [qq]
  refine tq 6 ?_ (hy:=by (intro w hSw;have hlk:=hSw.2.look (tx ts) HSz.out;rw [H2.out] at hlk;clear hSw;go_simp)<;>with_reducible rfl)
  simp only [qq]
  refine tq 7 ?_
  simp only [qq]
  refine tq 8 ?_
  simp only [qq]
  refine tq 9 ?_
  simp only [qq]
  refine rq 10 fun K hK=>?_
  replace HW:=ħ (HW.out.alloc' w2.heap.size (by simp) #[.int .i64 0,.int .i64 0] 52)
  go_simp
  refine hK.out _ _ (⟨HW.out.ps.cell1,HW.out.two⟩) (fun hHd=>?_)
  clear hK K
  try simp only [qq]
  generalize w2.alloc _=w4 at *
  refine rq 11 fun K hK=>?_
  have hc5:=HW.out.c0
  have hf6:=HW.out.f0
  replace HW:=ħ (HW.out.r00 (.int .i64 9))
  replace HW:=ħ (HW.out.r01 (.int .i64 30))
  go_simp
  refine hK.out _ _ (⟨HW.out.ps.cell1,HW.out.two⟩) (fun hHd=>?_)
  clear hK K
  try simp only [qq]
  generalize (w4.setCell _ _).setCell _ _=w7 at *
  clear hc5 hf6
  refine tq 12 ?_
  simp only [qq]
  refine wpAnyH_done (by kernel_rfl) ?_ _
  go_wp2_with fail
  replace HW:=ħ (HW.out.quiet (grown_drew w7))
  refine wp_region_held_drew (S:=(fun w'=>∀ oo,w'.cell? ⟨w2.heap.size,oo,none⟩=(#[Value.int .i64 9,.int .i64 30])[oo]?)) (by kernel_rfl) (cells_at (HW.out.blk (w2.heap.size,#[.int .i64 9,.int .i64 30],52) (List.mem_cons_self)).2) (fun hHd=>?_)
  generalize w7.drew=w8 at *
  refine tq 0 ?_
  simp only [qq]
  refine tq 1 ?_
  simp only [qq]
  refine tq 2 ?_
  simp only [qq]
  refine tq 3 ?_
  simp only [qq]
  refine rq 4 fun K hK=>?_
  go_simp
  refine (text_any HW.out.ps).mono ?_
  rintro e w9 ⟨rfl,hww⟩
  replace hww:w8=w9:=hww.symm
  subst hww
  refine hK.out _ _ (cells_at (HW.out.blk (w2.heap.size,#[.int .i64 9,.int .i64 30],52) (List.mem_cons_self)).2) (fun hHd=>?_)
  clear hK K
  try simp only [qq]
  refine rq 5 fun K hK=>?_
  replace HW:=ħ (HW.out.alloc' w8.heap.size (by simp) #[.string (tx ts)] 9)
  go_simp
  refine hK.out _ _ (cells_at (HW.out.blk (w2.heap.size,#[.int .i64 9,.int .i64 30],52) ((List.mem_cons_of_mem _ List.mem_cons_self))).2) (fun hHd=>?_)
  clear hK K
  try simp only [qq]
  generalize w8.alloc _=w10 at *
  refine rq 6 fun K hK=>?_
  have hxz:(tx ts).size≠0:=by rw [HQx.out];decide
  go_simp
  refine (inside1 HW.out hxz rfl (HF.out.suf HS.out) (Nat.le_trans HS.out.length_le HLn.out) (HE.out.suf HS.out)).mono ?_
  rintro e w11 ⟨hG11,r11,hsu,⟨n_x,vv,hlt,hR,rfl,hN,hP11⟩|⟨hR,rfl⟩⟩
  rotate_left
  ·exact ⟨rfl,grown_trans HW.out.grown hG11,_,(hsu.trans (List.tail_suffix _)).trans HS.out,Or.inr ⟨r_fi_int0 HQ.out (by rw [← tk_tail];exact hR),rfl⟩⟩
  obtain ⟨k_x,t_x,v_x,a_x,l_x,c_x,rfl⟩:=hN.form
  have HR_x:=hide hR
  have HN_x:=ħ (hN.given HW.out)
  have HZ_x:Hid (w.heap.size≤w10.heap.size):=HW.out.grown.size
  have HL:Hid (r11.length<ts.length):=Nat.lt_of_lt_of_le hlt (Nat.le_trans (List.tail_suffix _).length_le HS.out.length_le)
  replace HW:=ħ (HW.out.call hG11 hP11)
  replace HS:=ħ ((hsu.trans (List.tail_suffix _)).trans HS.out)
  clear hP11 hG11 hR hN hsu hlt
  refine hK.out _ _ (cells_at (HW.out.blk (w2.heap.size,#[.int .i64 9,.int .i64 30],52) ((List.mem_cons_of_mem _ List.mem_cons_self))).2) (fun hHd=>?_)
  clear hK K
  try simp only [qq]
  refine rq 7 fun K hK=>?_
  replace HW:=HW.out.an HN_x
  replace HN_x:=HW.out.nA HN_x
  go_simp
  refine hK.out _ _ (cells_at (HW.out.blk (w2.heap.size,#[.int .i64 9,.int .i64 30],52) ((List.mem_cons_of_mem _ (List.mem_cons_of_mem _ List.mem_cons_self)))).2) (fun hHd=>?_)
  clear hK K
  try simp only [qq]
  generalize w11.alloc _=w12 at *
  refine rq 8 fun K hK=>?_
  go_simp
  refine (node_any 30 (some ⟨w11.heap.size,0,none⟩) 1 1 w12).mono ?_
  rintro e w13 ⟨rfl,hG13⟩
  replace HN_x:=(Mv.quiet hG13).N HN_x
  replace HW:=ħ (HW.out.quiet hG13)
  clear hG13
  refine hK.out _ _ (cells_at (HW.out.blk (w2.heap.size,#[.int .i64 9,.int .i64 30],52) ((List.mem_cons_of_mem _ (List.mem_cons_of_mem _ List.mem_cons_self)))).2) (fun hHd=>?_)
  clear hK K
  try simp only [qq]
  refine rq 9 fun K hK=>?_
  have HM_a:=ħ (RowN.o0 HW.out (HN_x.out.less HZ_x.out))
  have HZ_a:=zz w
  clear HN_x HZ_x
  replace HW:=hide HW.out.d0
  have HN_z:=ħ (HM_a.out.node 30 [] 0)
  have HZ_z:=HZ_a
  clear HM_a HZ_a
  have hc14:=HW.out.c2
  have hf15:=HW.out.f2
  replace HW:=ħ (HW.out.s2 (.int .i64 30) (.string ⟨#[]⟩) (.int .i64 0) ((.slice (some ⟨w11.heap.size,0,none⟩) 1 1)))
  replace HN_z:=HW.out.ms2.N HN_z
  go_simp
  refine hK.out _ _ (cells_at (HW.out.blk (w2.heap.size,#[.int .i64 9,.int .i64 30],52) ((List.mem_cons_of_mem _ List.mem_cons_self))).2) (fun hHd=>?_)
  clear hK K
  try simp only [qq]
  generalize (((w13.setCell _ _).setCell _ _).setCell _ _).setCell _ _=w16 at *
  clear hc14 hf15
  refine wpAnyH_done (by kernel_rfl) ?_ _
  have hc17:=HW.out.c0
  have hc18:=HW.out.c1
  have hc19:=HW.out.c2
  have hl20:=HW.out.l2
  go_wp2_with fail
  refine bodyPost_ret (v:=(.agg #[.int .i64 30,.string ⟨#[]⟩,.int .i64 0,(.slice (some ⟨w11.heap.size,0,none⟩) 1 1)])) (by simp [results,Tryz.results176,go_sem,hc17,hc18,hc19,hl20]) rfl ?_
  exact HW.out.post HS.out (r_fi_int HQ.out (by rw [← tk_tail];exact HR_x.out)) HL.out HZ_z.out HN_z.out
 replace HW:=ħ (HW.out.alloc' w2.heap.size (by simp) #[.int .i64 0,.int .i64 0] 52)
 go_simp
 refine hK.out _ _ (⟨HW.out.ps.cell1,HW.out.two⟩) (fun hHd=>?_)
 clear hK K
 try simp only [qq]
 generalize w2.alloc _=w21 at *
 refine rq 5 fun K hK=>?_
 go_simp
 refine (text_any HW.out.ps).mono ?_
 rintro e w22 ⟨rfl,hww⟩
 replace hww:w21=w22:=hww.symm
 subst hww
 refine hK.out _ _ (⟨HW.out.ps.cell1,HW.out.two⟩) (fun hHd=>?_)
 clear hK K
 try simp only [qq]
 refine tq 6 ?_ (hy:=by (intro w hSw;have hlk:=hSw.2.look (tx ts) HSz.out;rw [H2.out] at hlk;clear hSw;go_simp)<;>with_reducible rfl)
 simp only [qq]
 refine tq 7 ?_
 simp only [qq]
 refine tq 8 ?_
 simp only [qq]
 refine tq 9 ?_
 simp only [qq]
 refine rq 11 fun K hK=>?_
 have hc23:=HW.out.c0
 have hf24:=HW.out.f0
 replace HW:=ħ (HW.out.r00 (.int .i64 9))
 replace HW:=ħ (HW.out.r01 (.int .i64 30))
 go_simp
 refine hK.out _ _ (⟨HW.out.ps.cell1,HW.out.two⟩) (fun hHd=>?_)
 clear hK K
 try simp only [qq]
 generalize (w21.setCell _ _).setCell _ _=w25 at *
 clear hc23 hf24
 refine tq 12 ?_
 simp only [qq]
 refine wpAnyH_done (by kernel_rfl) ?_ _
 go_wp2_with fail
 replace HW:=ħ (HW.out.quiet (grown_drew w25))
 refine wp_region_held_drew (S:=(fun w'=>∀ oo,w'.cell? ⟨w2.heap.size,oo,none⟩=(#[Value.int .i64 9,.int .i64 30])[oo]?)) (by kernel_rfl) (cells_at (HW.out.blk (w2.heap.size,#[.int .i64 9,.int .i64 30],52) (List.mem_cons_self)).2) (fun hHd=>?_)
 generalize w25.drew=w26 at *
 refine tq 0 ?_
 simp only [qq]
 refine tq 1 ?_
 simp only [qq]
 refine tq 2 ?_
 simp only [qq]
 refine tq 3 ?_
 simp only [qq]
 refine rq 4 fun K hK=>?_
 go_simp
 refine (text_any HW.out.ps).mono ?_
 rintro e w27 ⟨rfl,hww⟩
 replace hww:w26=w27:=hww.symm
 subst hww
 refine hK.out _ _ (cells_at (HW.out.blk (w2.heap.size,#[.int .i64 9,.int .i64 30],52) (List.mem_cons_self)).2) (fun hHd=>?_)
 clear hK K
 try simp only [qq]
 refine rq 5 fun K hK=>?_
 replace HW:=ħ (HW.out.alloc' w26.heap.size (by simp) #[.string (tx ts)] 9)
 go_simp
 refine hK.out _ _ (cells_at (HW.out.blk (w2.heap.size,#[.int .i64 9,.int .i64 30],52) ((List.mem_cons_of_mem _ List.mem_cons_self))).2) (fun hHd=>?_)
 clear hK K
 try simp only [qq]
 generalize w26.alloc _=w28 at *
 refine rq 6 fun K hK=>?_
 have hxz:(tx ts).size≠0:=by rw [HQx.out];decide
 go_simp
 refine (inside1 HW.out hxz rfl (HF.out.suf HS.out) (Nat.le_trans HS.out.length_le HLn.out) (HE.out.suf HS.out)).mono ?_
 rintro e w29 ⟨hG29,r29,hsu,⟨n_x,vv,hlt,hR,rfl,hN,hP29⟩|⟨hR,rfl⟩⟩
 rotate_left
 ·exact ⟨rfl,grown_trans HW.out.grown hG29,_,(hsu.trans (List.tail_suffix _)).trans HS.out,Or.inr ⟨r_fi_int0 HQ.out (by rw [← tk_tail];exact hR),rfl⟩⟩
 obtain ⟨k_x,t_x,v_x,a_x,l_x,c_x,rfl⟩:=hN.form
 have HR_x:=hide hR
 have HN_x:=ħ (hN.given HW.out)
 have HZ_x:Hid (w.heap.size≤w28.heap.size):=HW.out.grown.size
 have HL:Hid (r29.length<ts.length):=Nat.lt_of_lt_of_le hlt (Nat.le_trans (List.tail_suffix _).length_le HS.out.length_le)
 replace HW:=ħ (HW.out.call hG29 hP29)
 replace HS:=ħ ((hsu.trans (List.tail_suffix _)).trans HS.out)
 clear hP29 hG29 hR hN hsu hlt
 refine hK.out _ _ (cells_at (HW.out.blk (w2.heap.size,#[.int .i64 9,.int .i64 30],52) ((List.mem_cons_of_mem _ List.mem_cons_self))).2) (fun hHd=>?_)
 clear hK K
 try simp only [qq]
 refine rq 7 fun K hK=>?_
 replace HW:=HW.out.an HN_x
 replace HN_x:=HW.out.nA HN_x
 go_simp
 refine hK.out _ _ (cells_at (HW.out.blk (w2.heap.size,#[.int .i64 9,.int .i64 30],52) ((List.mem_cons_of_mem _ (List.mem_cons_of_mem _ List.mem_cons_self)))).2) (fun hHd=>?_)
 clear hK K
 try simp only [qq]
 generalize w29.alloc _=w30 at *
 refine rq 8 fun K hK=>?_
 go_simp
 refine (node_any 30 (some ⟨w29.heap.size,0,none⟩) 1 1 w30).mono ?_
 rintro e w31 ⟨rfl,hG31⟩
 replace HN_x:=(Mv.quiet hG31).N HN_x
 replace HW:=ħ (HW.out.quiet hG31)
 clear hG31
 refine hK.out _ _ (cells_at (HW.out.blk (w2.heap.size,#[.int .i64 9,.int .i64 30],52) ((List.mem_cons_of_mem _ (List.mem_cons_of_mem _ List.mem_cons_self)))).2) (fun hHd=>?_)
 clear hK K
 try simp only [qq]
 refine rq 9 fun K hK=>?_
 have HM_a:=ħ (RowN.o0 HW.out (HN_x.out.less HZ_x.out))
 have HZ_a:=zz w
 clear HN_x HZ_x
 replace HW:=hide HW.out.d0
 have HN_z:=ħ (HM_a.out.node 30 [] 0)
 have HZ_z:=HZ_a
 clear HM_a HZ_a
 have hc32:=HW.out.c2
 have hf33:=HW.out.f2
 replace HW:=ħ (HW.out.s2 (.int .i64 30) (.string ⟨#[]⟩) (.int .i64 0) ((.slice (some ⟨w29.heap.size,0,none⟩) 1 1)))
 replace HN_z:=HW.out.ms2.N HN_z
 go_simp
 refine hK.out _ _ (cells_at (HW.out.blk (w2.heap.size,#[.int .i64 9,.int .i64 30],52) ((List.mem_cons_of_mem _ List.mem_cons_self))).2) (fun hHd=>?_)
 clear hK K
 try simp only [qq]
 generalize (((w31.setCell _ _).setCell _ _).setCell _ _).setCell _ _=w34 at *
 clear hc32 hf33
 refine wpAnyH_done (by kernel_rfl) ?_ _
 have hc35:=HW.out.c0
 have hc36:=HW.out.c1
 have hc37:=HW.out.c2
 have hl38:=HW.out.l2
 go_wp2_with fail
 refine bodyPost_ret (v:=(.agg #[.int .i64 30,.string ⟨#[]⟩,.int .i64 0,(.slice (some ⟨w29.heap.size,0,none⟩) 1 1)])) (by simp [results,Tryz.results176,go_sem,hc35,hc36,hc37,hl38]) rfl ?_
 exact HW.out.post HS.out (r_fi_int HQ.out (by rw [← tk_tail];exact HR_x.out)) HL.out HZ_z.out HN_z.out
end Go.Proofs.YthcfianhdkolhaaGreatDoor.Y
