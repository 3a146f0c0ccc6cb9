/- PbW PbX PbY PbZ -/
import Derived.Test.YthcfianhdkolhaaGreatDoorSign
import Derived.Test.YthcfianhdkolhaaGreatDoorPbV
import Derived.Maps.Own
import Derived.Maps.Views
import Derived.StringKeys
import Derived.Defers
import Derived.Recover
import Derived.Test.YthcfianhdkolhaaGreatDoorRfA
namespace Go.Proofs.YthcfianhdkolhaaGreatDoor.Y
open Go.RowKit Go.Proofs.YthcfianhdkolhaaGreatDoor.X Go.Proofs.YthcfianhdkolhaaGreatDoor.T Go.Proofs.YthcfianhdkolhaaGreatDoor.S
set_option maxRecDepth 100000
set_option maxHeartbeats 2000000
set_option linter.unusedVariables false
set_option linter.unusedSimpArgs false
variable {w w' : World} {b g : Nat} {m : Value} {ts : List Tok} {t : Tok}
theorem rd_st {ts:List Tk} {q:Res} (h:hd ts=sSTRUCT) (k:KSt ts.tail q):R .decl ts q:=by
 obtain ⟨n,e⟩:=k
 exact ⟨n+1,by simp only [P,F,if_pos h];exact e⟩
theorem rd_ex {ts:List Tk} {q:Res} (h0:¬ hd ts=sSTRUCT) (h:hd ts=sEXTERN) (k:KEx ts.tail q):R .decl ts q:=by
 obtain ⟨n,e⟩:=k
 exact ⟨n+1,by simp only [P,F,if_neg h0,if_pos h];exact e⟩
theorem rd_sc {ts:List Tk} {q:Res} (h0:¬ hd ts=sSTRUCT) (h1:¬ hd ts=sEXTERN) (h:hd ts=sSTATIC) (k:KDe true ts.tail q):R .decl ts q:=by
 obtain ⟨n,e⟩:=k
 exact ⟨n+1,by simp only [P,F,if_neg h0,if_neg h1,if_pos h,decide_eq_true h];exact e⟩
theorem rd_pl {ts:List Tk} {q:Res} (h0:¬ hd ts=sSTRUCT) (h1:¬ hd ts=sEXTERN) (h:¬ hd ts=sSTATIC) (k:KDe false ts q):R .decl ts q:=by
 obtain ⟨n,e⟩:=k
 exact ⟨n+1,by simp only [P,F,if_neg h0,if_neg h1,if_neg h,decide_eq_false h];exact e⟩
theorem decl_any (hb5:4<b) (ts:List Tok):Meth 48 .decl b g m ts:=by
 intro w h hT hGl hgl hF hlen
 have HW:Hid (Wd w w b g m ts []):=Wd.start h hT hGl hb5 hgl
 have HS:=su ts
 have HF:=ħ hF
 have HLn:=ħ hlen
 clear h hT hGl hgl hF hlen
 go_enter Tryz.func48,Tryz.ntmps48
 replace HW:=HW.out.az
 go_wp2_with fail
 generalize w.alloc _=w1 at *
 by_cases hq1:tx ts=str sSTRUCT
 ·have HQ1:Hid (hd (tk ts)=sSTRUCT):=(tx_hd (HF.out.suf HS.out) sSTRUCT (⟨_,_,rfl,by decide⟩)).1 hq1
  go_at_call 67
  refine (HW.out.tkY HS.out (x:=str sSTRUCT) (by decide) hq1).mono ?_
  rintro e w2 ⟨rfl,HL,HLs,HS,HW,hG⟩
  clear hG
  clear hq1
  go_wp2_with fail
  go_at_call 68
  refine (structure_any HW.out.ps HW.out.two HW.out.glo HW.out.bg HW.out.glt (HF.out.suf HS.out) (Nat.le_trans HS.out.length_le HLn.out)).mono ?_
  rintro e w3 ⟨hG3,r3,hsu,⟨n_x,vv,hlt,hR,rfl,hN,hP3⟩|⟨hR,rfl⟩⟩
  rotate_left
  ·exact ⟨rfl,grown_trans HW.out.grown hG3,_,hsu.trans HS.out,Or.inr ⟨rd_st HQ1.out (by rw [← tk_tail];exact hR),rfl⟩⟩
  obtain ⟨k_x,t_x,v_x,a_x,l_x,c_x,rfl⟩:=hN.form
  have HR_x:=hide hR
  have HN_x:=ħ (hN.given HW.out)
  have HZ_x:Hid (w.heap.size≤w2.heap.size):=HW.out.grown.size
  have HL:Hid (r3.length<ts.length):=Nat.lt_of_lt_of_le hlt HS.out.length_le
  have HSx:Hid (r3 <:+ ts.tail):=hsu
  have HLs2:Hid (r3.length<ts.tail.length):=hlt
  replace HW:=ħ (HW.out.call hG3 hP3)
  replace HS:=ħ ((hsu).trans HS.out)
  clear hP3 hG3 hR hN hsu hlt
  have hc4:=HW.out.c0
  have hf5:=HW.out.f0
  replace HW:=ħ (HW.out.s0 (.int .i64 k_x) (.string t_x) (.int .i64 v_x) (.slice a_x l_x c_x))
  replace HN_x:=HW.out.ms0.N HN_x
  go_wp2_with fail
  generalize (((w3.setCell _ _).setCell _ _).setCell _ _).setCell _ _=w8 at *
  refine bodyPost_ret (rt rfl rfl HW.out.b0) rfl ?_
  exact HW.out.post HS.out (rd_st HQ1.out (by rw [← tk_tail];exact HR_x.out)) HL.out HZ_x.out HN_x.out
 have HQ1:Hid (¬ hd (tk ts)=sSTRUCT):=fun e=>hq1 ((tx_hd (HF.out.suf HS.out) sSTRUCT (⟨_,_,rfl,by decide⟩)).2 e)
 go_at_call 67
 refine (HW.out.tkN (x:=str sSTRUCT) (by decide) hq1).mono ?_
 rintro e w9 ⟨rfl,HW,hG⟩
 clear hG
 clear hq1
 go_wp2_with fail
 by_cases hq2:tx ts=str sEXTERN
 ·have HQ2:Hid (hd (tk ts)=sEXTERN):=(tx_hd (HF.out.suf HS.out) sEXTERN (⟨_,_,rfl,by decide⟩)).1 hq2
  go_at_call 67
  refine (HW.out.tkY HS.out (x:=str sEXTERN) (by decide) hq2).mono ?_
  rintro e w10 ⟨rfl,HL,HLs,HS,HW,hG⟩
  clear hG
  clear hq2
  go_wp2_with fail
  go_at_call 69
  refine (extern_any HW.out.ps HW.out.two HW.out.glo HW.out.bg HW.out.glt (HF.out.suf HS.out) (Nat.le_trans HS.out.length_le HLn.out)).mono ?_
  rintro e w11 ⟨hG11,r11,hsu,⟨n_x,vv,hlt,hR,rfl,hN,hP11⟩|⟨hR,rfl⟩⟩
  rotate_left
  ·exact ⟨rfl,grown_trans HW.out.grown hG11,_,hsu.trans HS.out,Or.inr ⟨rd_ex HQ1.out HQ2.out (by rw [← tk_tail];exact hR),rfl⟩⟩
  obtain ⟨k_x,t_x,v_x,a_x,l_x,c_x,rfl⟩:=hN.form
  have HR_x:=hide hR
  have HN_x:=ħ (hN.given HW.out)
  have HZ_x:Hid (w.heap.size≤w10.heap.size):=HW.out.grown.size
  have HL:Hid (r11.length<ts.length):=Nat.lt_of_lt_of_le hlt HS.out.length_le
  have HSx:Hid (r11 <:+ ts.tail):=hsu
  have HLs2:Hid (r11.length<ts.tail.length):=hlt
  replace HW:=ħ (HW.out.call hG11 hP11)
  replace HS:=ħ ((hsu).trans HS.out)
  clear hP11 hG11 hR hN hsu hlt
  have hc12:=HW.out.c0
  have hf13:=HW.out.f0
  replace HW:=ħ (HW.out.s0 (.int .i64 k_x) (.string t_x) (.int .i64 v_x) (.slice a_x l_x c_x))
  replace HN_x:=HW.out.ms0.N HN_x
  go_wp2_with fail
  generalize (((w11.setCell _ _).setCell _ _).setCell _ _).setCell _ _=w16 at *
  refine bodyPost_ret (rt rfl rfl HW.out.b0) rfl ?_
  exact HW.out.post HS.out (rd_ex HQ1.out HQ2.out (by rw [← tk_tail];exact HR_x.out)) HL.out HZ_x.out HN_x.out
 have HQ2:Hid (¬ hd (tk ts)=sEXTERN):=fun e=>hq2 ((tx_hd (HF.out.suf HS.out) sEXTERN (⟨_,_,rfl,by decide⟩)).2 e)
 go_at_call 67
 refine (HW.out.tkN (x:=str sEXTERN) (by decide) hq2).mono ?_
 rintro e w17 ⟨rfl,HW,hG⟩
 clear hG
 clear hq2
 go_wp2_with fail
 by_cases hq3:tx ts=str sSTATIC
 ·have HQ3:Hid (hd (tk ts)=sSTATIC):=(tx_hd (HF.out.suf HS.out) sSTATIC (⟨_,_,rfl,by decide⟩)).1 hq3
  go_at_call 67
  refine (HW.out.tkY HS.out (x:=str sSTATIC) (by decide) hq3).mono ?_
  rintro e w18 ⟨rfl,HL,HLs,HS,HW,hG⟩
  clear hG
  clear hq3
  go_wp2_with fail
  go_at_call 70
  refine (defined_any HW.out.ps HW.out.two HW.out.glo HW.out.bg HW.out.glt (HF.out.suf HS.out) (Nat.le_trans HS.out.length_le HLn.out) true).mono ?_
  rintro e w19 ⟨hG19,r19,hsu,⟨n_x,vv,hlt,hR,rfl,hN,hP19⟩|⟨hR,rfl⟩⟩
  rotate_left
  ·exact ⟨rfl,grown_trans HW.out.grown hG19,_,hsu.trans HS.out,Or.inr ⟨rd_sc HQ1.out HQ2.out HQ3.out (by rw [← tk_tail];exact hR),rfl⟩⟩
  obtain ⟨k_x,t_x,v_x,a_x,l_x,c_x,rfl⟩:=hN.form
  have HR_x:=hide hR
  have HN_x:=ħ (hN.given HW.out)
  have HZ_x:Hid (w.heap.size≤w18.heap.size):=HW.out.grown.size
  have HL:Hid (r19.length<ts.length):=Nat.lt_of_lt_of_le hlt HS.out.length_le
  have HSx:Hid (r19 <:+ ts.tail):=hsu
  have HLs2:Hid (r19.length<ts.tail.length):=hlt
  replace HW:=ħ (HW.out.call hG19 hP19)
  replace HS:=ħ ((hsu).trans HS.out)
  clear hP19 hG19 hR hN hsu hlt
  have hc20:=HW.out.c0
  have hf21:=HW.out.f0
  replace HW:=ħ (HW.out.s0 (.int .i64 k_x) (.string t_x) (.int .i64 v_x) (.slice a_x l_x c_x))
  replace HN_x:=HW.out.ms0.N HN_x
  go_wp2_with fail
  generalize (((w19.setCell _ _).setCell _ _).setCell _ _).setCell _ _=w24 at *
  refine bodyPost_ret (rt rfl rfl HW.out.b0) rfl ?_
  exact HW.out.post HS.out (rd_sc HQ1.out HQ2.out HQ3.out (by rw [← tk_tail];exact HR_x.out)) HL.out HZ_x.out HN_x.out
 have HQ3:Hid (¬ hd (tk ts)=sSTATIC):=fun e=>hq3 ((tx_hd (HF.out.suf HS.out) sSTATIC (⟨_,_,rfl,by decide⟩)).2 e)
 go_at_call 67
 refine (HW.out.tkN (x:=str sSTATIC) (by decide) hq3).mono ?_
 rintro e w25 ⟨rfl,HW,hG⟩
 clear hG
 clear hq3
 go_wp2_with fail
 go_at_call 70
 refine (defined_any HW.out.ps HW.out.two HW.out.glo HW.out.bg HW.out.glt (HF.out.suf HS.out) (Nat.le_trans HS.out.length_le HLn.out) false).mono ?_
 rintro e w26 ⟨hG26,r26,hsu,⟨n_x,vv,hlt,hR,rfl,hN,hP26⟩|⟨hR,rfl⟩⟩
 rotate_left
 ·exact ⟨rfl,grown_trans HW.out.grown hG26,_,hsu.trans HS.out,Or.inr ⟨rd_pl HQ1.out HQ2.out HQ3.out hR,rfl⟩⟩
 obtain ⟨k_x,t_x,v_x,a_x,l_x,c_x,rfl⟩:=hN.form
 have HR_x:=hide hR
 have HN_x:=ħ (hN.given HW.out)
 have HZ_x:Hid (w.heap.size≤w25.heap.size):=HW.out.grown.size
 have HL:Hid (r26.length<ts.length):=Nat.lt_of_lt_of_le hlt HS.out.length_le
 have HSx:Hid (r26 <:+ ts):=hsu
 have HLs2:Hid (r26.length<ts.length):=hlt
 replace HW:=ħ (HW.out.call hG26 hP26)
 replace HS:=ħ ((hsu).trans HS.out)
 clear hP26 hG26 hR hN hsu hlt
 have hc27:=HW.out.c0
 have hf28:=HW.out.f0
 replace HW:=ħ (HW.out.s0 (.int .i64 k_x) (.string t_x) (.int .i64 v_x) (.slice a_x l_x c_x))
 replace HN_x:=HW.out.ms0.N HN_x
 go_wp2_with fail
 generalize (((w26.setCell _ _).setCell _ _).setCell _ _).setCell _ _=w31 at *
 refine bodyPost_ret (rt rfl rfl HW.out.b0) rfl ?_
 exact HW.out.post HS.out (rd_pl HQ1.out HQ2.out HQ3.out HR_x.out) HL.out HZ_x.out HN_x.out
theorem ru0 {l:List Nd}:R (.unitL l) [] (.ok (.nd (.mk 1 [] 0 l)) []):=⟨1,by simp [P,F,okN]⟩
theorem ru1 {l:List Nd} {ts r:List Tk} (h:ts≠[]) (a:R .decl ts (.no r)):R (.unitL l) ts (.no r):=by
 cases ts with
 | nil=>exact absurd rfl h
 | cons t ts=>
  obtain ⟨n,e⟩:=a
  exact ⟨n+1,by simp [P,F,andN,e]⟩
theorem ru2 {l:List Nd} {ts r:List Tk} {x:Nd} {q:Res} (h:ts≠[]) (a:R .decl ts (.ok (.nd x) r)) (k:R (.unitL (l++[x])) r q):R (.unitL l) ts q:=by
 cases ts with
 | nil=>exact absurd rfl h
 | cons t ts=>
  obtain ⟨n,e,e2⟩:=both a k
  exact ⟨n+1,by simp [P,F,andN,e,e2]⟩
def PostU (w:World) (b g:Nat) (m:Value) (ts:List Tok) (e:Ending) (w':World):Prop:=w.grownBy w' (some b)∧∃ r,r <:+ ts ∧
 ((∃ n v,R (.unitL []) (tk ts) (.ok (.nd n) [])∧e=.returned v∧NdV w' (fun k=>w.heap.size≤k) n v)∨(R (.unitL []) (tk ts) (.no (tk r))∧e=up r))
theorem unit_post (h:Ps w b g m ts) (hT:Two w b m) (hGl:Og w) (hb5:4<b) (hgl:g<w.heap.size) (hF:Fits ts) (hlen:ts.length≤4000):Calls Tryz.prog 20 #[.pointer (some ⟨b,0,none⟩)] w (PostU w b g m ts):=by
 have HW:Hid (Wd w w b g m ts []):=Wd.start h hT hGl hb5 hgl
 have HS:=su ts
 have HF:=ħ hF
 have HLn:=ħ hlen
 have HDe:Hid (∀ r,Meth 48 .decl b g m r):=fun r=>decl_any hb5 r
 clear h hT hGl hgl hF hlen
 go_enter Tryz.func20,Tryz.ntmps20
 replace HW:=HW.out.az
 replace HW:=HW.out.al (w.heap.size+1) #[.int .i64 1,.string ⟨#[]⟩,.int .i64 0,.slice none 0 0]
 go_wp2_with fail
 generalize (w.alloc _).alloc _=w1 at *
 go_loopw [] (fun wr=>∃ (r:List Tok) (l:List Nd) (a1:Option Addr) (n1 c1:Nat),Hid (Wd w wr b g m r [((w.heap.size+1),#[.int .i64 1,.string ⟨#[]⟩,.int .i64 0,.slice a1 n1 c1],24),(w.heap.size,#[.int .i64 0,.string ⟨#[]⟩,.int .i64 0,.slice none 0 0],24)])∧Hid (RowN wr (Av w.heap.size [((w.heap.size+1),#[.int .i64 1,.string ⟨#[]⟩,.int .i64 0,.slice a1 n1 c1],24),(w.heap.size,#[.int .i64 0,.string ⟨#[]⟩,.int .i64 0,.slice none 0 0],24)]) (.slice a1 n1 c1) l)∧Hid (r <:+ ts)∧Hid (l.length+r.length≤ts.length)∧Hid (∀ q,R (.unitL l) (tk r) q→R (.unitL []) (tk ts) q)) (fun wr=>leftOf b wr)
 case atStart=>exact ⟨_,[],_,_,_,HW,RowN.nil _ _,HS,(by show 0+_≤_;omega),fun q hr=>hr⟩
 case round=>
  obtain ⟨r,l,a1,n1,c1,HW,HM_l,HS,HLl,HI⟩:=hrel
  have HZ_l:=zz w
  have hmu:=HW.out.ps.leftOf
  have HMu:=hide hmu
  clear hmu
  obtain ⟨pa,po,pc,hpb,hpl,hpc,_,_⟩:=HW.out.ps.blk
  have hcp:=cells_at hpb
  clear hpb
  by_cases hr0:r=[]
  ·have hz:¬ ((0:Int)<((r.length:Nat):Int)):=by rw [hr0];simp
   have HR0:=hide hr0
   clear hr0
   have HN_z:=ħ (HM_l.out.node 1 [] 0)
   have HZ_z:=HZ_l
   clear HM_l HZ_l
   have hc21:=HW.out.c0
   have hc22:=HW.out.c1
   have hf23:=HW.out.f1
   replace HW:=ħ (HW.out.s1 (.int .i64 1) (.string ⟨#[]⟩) (.int .i64 0) ((.slice a1 n1 c1)))
   replace HN_z:=HW.out.ms1.N HN_z
   go_wp2_with fail
   generalize (((wr.setCell _ _).setCell _ _).setCell _ _).setCell _ _=w26 at *
   refine bodyPost_ret (rt rfl rfl HW.out.b1) rfl ?_
   exact ⟨HW.out.grown,_,HS.out,Or.inl ⟨_,_,HI.out _ (by rw [HR0.out];exact ru0),rfl,HN_z.out.mono (fun k hk _=>hk.1)⟩⟩
  have hz:(0:Int)<((r.length:Nat):Int):=by have:=List.length_pos_iff.2 hr0;omega
  have HNe:Hid (tk r≠[]):=fun e=>hr0 (by cases r with|nil=>rfl|cons t r=>cases e)
  generalize hrl:r.length=rl at *
  clear hr0
  go_wp2_with fail
  subst hrl
  clear hcp hz hpl hpc
  replace HM_l:=ħ ((Mv.quiet (grown_drew wr)).row HM_l.out)
  replace HW:=ħ (HW.out.quiet (grown_drew wr))
  refine wp_region_held_drew (S:=(fun _=>True)) (by kernel_rfl) trivial fun hHd=>?_
  generalize wr.drew=w27 at *
  refine tq 0 ?_
  simp only [qq]
  refine tq 2 ?_
  simp only [qq]
  refine rq2 1 3 (fun K hK=>?_) fun K hK=>?_
  ·have hc28:=HW.out.c0
   go_simp
   clear hc28
   refine hK.out _ _ trivial fun hHd=>?_
   clear hK K
   try simp only [qq]
   refine rq 3 fun K hK=>?_
   go_simp
   refine (HDe.out r w27 HW.out.ps HW.out.two HW.out.glo HW.out.glt (HF.out.suf HS.out) (Nat.le_trans HS.out.length_le HLn.out)).mono ?_
   rintro e w29 hp
   obtain ⟨r29,n_y,k_y,t_y,v_y,a_y,l_y,c_y,rfl,HR_y,HN_y,HZ_y,HL,HSy,HLs2,hS,hW,hG⟩|⟨r,hR,rfl,h1,h2⟩:=HW.out.okN HS.out hp
   rotate_left
   ·exact ⟨rfl,h1,_,h2,Or.inr ⟨HI.out _ (ru1 HNe.out hR),rfl⟩⟩
   have HO_l:=hide HM_l.out.lt
   replace HM_l:=HW.out.kR HZ_l hG HM_l
   replace HW:=hW
   replace HS:=hS
   clear hG hp
   refine hK.out _ _ trivial fun hHd=>?_
   clear hK K
   try simp only [qq]
   refine rq 4 fun K hK=>?_
   replace HW:=HW.out.an HN_y
   replace HN_y:=HW.out.nA HN_y
   replace HM_l:=HW.out.rA HM_l
   go_simp
   refine hK.out _ _ trivial fun hHd=>?_
   clear hK K
   try simp only [qq]
   generalize w29.alloc _=w30 at *
   refine rq 5 fun K hK=>?_
   refine app_s0 _ _ rfl rfl HW.out HM_l.out HN_y.out HZ_l.out HZ_y.out HO_l.out (by have:=HLl.out;have:=HLn.out;omega) ⟨rfl,rfl,rfl,rfl⟩ rfl rfl ?_
   intro g31 c31 w31 hW hM hG
   clear HM_l HN_y HZ_l HZ_y HO_l
   replace HW:=hide hW
   have HM_l2:=hide hM
   have HZ_l2:=zz w
   clear hW hM hG
   refine hK.out _ _ trivial fun hHd=>?_
   clear hK K
   try simp only [qq]
   refine tq 6 ?_
   simp only [qq]
   refine rq 7 fun K hK=>?_
   have hc32:=HW.out.c0
   have hf33:=HW.out.f0
   replace HW:=ħ (HW.out.p03 ((.slice (some ⟨g31,0,none⟩) (l.length+1) c31)))
   replace HM_l2:=HW.out.mp03.R HM_l2
   go_simp
   refine hK.out _ _ trivial fun hHd=>?_
   clear hK K
   try simp only [qq]
   generalize w31.setCell _ _=w34 at *
   clear hc32 hf33
   refine wpAnyH_done (by kernel_rfl) ?_ _
   go_wp2_with fail
   go_roundw
   case rel=>exact ⟨_,_,_,_,_,HW,HM_l2,HS,(by have h1:=HLl.out;have h2:=HLs2.out;show (l++[n_y]).length+_≤_;rw [List.length_append,List.length_singleton];omega),fun q hr=>HI.out q (ru2 HNe.out HR_y.out hr)⟩
   case measure=>rw [HW.out.ps.leftOf,HMu.out];exact HLs2.out
  go_simp
  refine (HDe.out r w27 HW.out.ps HW.out.two HW.out.glo HW.out.glt (HF.out.suf HS.out) (Nat.le_trans HS.out.length_le HLn.out)).mono ?_
  rintro e w35 hp
  obtain ⟨r35,n_y,k_y,t_y,v_y,a_y,l_y,c_y,rfl,HR_y,HN_y,HZ_y,HL,HSy,HLs2,hS,hW,hG⟩|⟨r,hR,rfl,h1,h2⟩:=HW.out.okN HS.out hp
  rotate_left
  ·exact ⟨rfl,h1,_,h2,Or.inr ⟨HI.out _ (ru1 HNe.out hR),rfl⟩⟩
  have HO_l:=hide HM_l.out.lt
  replace HM_l:=HW.out.kR HZ_l hG HM_l
  replace HW:=hW
  replace HS:=hS
  clear hG hp
  refine hK.out _ _ trivial fun hHd=>?_
  clear hK K
  try simp only [qq]
  refine rq2 1 4 (fun K hK=>?_) fun K hK=>?_
  ·have hc36:=HW.out.c0
   go_simp
   clear hc36
   refine hK.out _ _ trivial fun hHd=>?_
   clear hK K
   try simp only [qq]
   refine rq 4 fun K hK=>?_
   replace HW:=HW.out.an HN_y
   replace HN_y:=HW.out.nA HN_y
   replace HM_l:=HW.out.rA HM_l
   go_simp
   refine hK.out _ _ trivial fun hHd=>?_
   clear hK K
   try simp only [qq]
   generalize w35.alloc _=w37 at *
   refine rq 5 fun K hK=>?_
   refine app_s0 _ _ rfl rfl HW.out HM_l.out HN_y.out HZ_l.out HZ_y.out HO_l.out (by have:=HLl.out;have:=HLn.out;omega) ⟨rfl,rfl,rfl,rfl⟩ rfl rfl ?_
   intro g38 c38 w38 hW hM hG
   clear HM_l HN_y HZ_l HZ_y HO_l
   replace HW:=hide hW
   have HM_l2:=hide hM
   have HZ_l2:=zz w
   clear hW hM hG
   refine hK.out _ _ trivial fun hHd=>?_
   clear hK K
   try simp only [qq]
   refine tq 6 ?_
   simp only [qq]
   refine rq 7 fun K hK=>?_
   have hc39:=HW.out.c0
   have hf40:=HW.out.f0
   replace HW:=ħ (HW.out.p03 ((.slice (some ⟨g38,0,none⟩) (l.length+1) c38)))
   replace HM_l2:=HW.out.mp03.R HM_l2
   go_simp
   refine hK.out _ _ trivial fun hHd=>?_
   clear hK K
   try simp only [qq]
   generalize w38.setCell _ _=w41 at *
   clear hc39 hf40
   refine wpAnyH_done (by kernel_rfl) ?_ _
   go_wp2_with fail
   go_roundw
   case rel=>exact ⟨_,_,_,_,_,HW,HM_l2,HS,(by have h1:=HLl.out;have h2:=HLs2.out;show (l++[n_y]).length+_≤_;rw [List.length_append,List.length_singleton];omega),fun q hr=>HI.out q (ru2 HNe.out HR_y.out hr)⟩
   case measure=>rw [HW.out.ps.leftOf,HMu.out];exact HLs2.out
  replace HW:=HW.out.an HN_y
  replace HN_y:=HW.out.nA HN_y
  replace HM_l:=HW.out.rA HM_l
  go_simp
  refine hK.out _ _ trivial fun hHd=>?_
  clear hK K
  try simp only [qq]
  generalize w35.alloc _=w42 at *
  refine rq 1 fun K hK=>?_
  have hc43:=HW.out.c1
  go_simp
  clear hc43
  refine hK.out _ _ trivial fun hHd=>?_
  clear hK K
  try simp only [qq]
  refine rq 5 fun K hK=>?_
  refine app_s0 _ _ rfl rfl HW.out HM_l.out HN_y.out HZ_l.out HZ_y.out HO_l.out (by have:=HLl.out;have:=HLn.out;omega) ⟨rfl,rfl,rfl,rfl⟩ rfl rfl ?_
  intro g44 c44 w44 hW hM hG
  clear HM_l HN_y HZ_l HZ_y HO_l
  replace HW:=hide hW
  have HM_l2:=hide hM
  have HZ_l2:=zz w
  clear hW hM hG
  refine hK.out _ _ trivial fun hHd=>?_
  clear hK K
  try simp only [qq]
  refine tq 6 ?_
  simp only [qq]
  refine rq 7 fun K hK=>?_
  have hc45:=HW.out.c0
  have hf46:=HW.out.f0
  replace HW:=ħ (HW.out.p03 ((.slice (some ⟨g44,0,none⟩) (l.length+1) c44)))
  replace HM_l2:=HW.out.mp03.R HM_l2
  go_simp
  refine hK.out _ _ trivial fun hHd=>?_
  clear hK K
  try simp only [qq]
  generalize w44.setCell _ _=w47 at *
  clear hc45 hf46
  refine wpAnyH_done (by kernel_rfl) ?_ _
  go_wp2_with fail
  go_roundw
  case rel=>exact ⟨_,_,_,_,_,HW,HM_l2,HS,(by have h1:=HLl.out;have h2:=HLs2.out;show (l++[n_y]).length+_≤_;rw [List.length_append,List.length_singleton];omega),fun q hr=>HI.out q (ru2 HNe.out HR_y.out hr)⟩
  case measure=>rw [HW.out.ps.leftOf,HMu.out];exact HLs2.out
end Go.Proofs.YthcfianhdkolhaaGreatDoor.Y
namespace Go.Proofs.YthcfianhdkolhaaGreatDoor.Y
open Go.RowKit Go.Proofs.YthcfianhdkolhaaGreatDoor.X Go.Proofs.YthcfianhdkolhaaGreatDoor.T Go.Proofs.YthcfianhdkolhaaGreatDoor.S
set_option linter.unusedVariables false
set_option linter.unusedSimpArgs false
variable {w w' w0 : World} {b g : Nat} {m : Value} {ts : List Tok} {t : Tok}
abbrev V1:Value:=.agg #[.int .i64 9,.int .i64 30]
abbrev V2:Value:=.agg #[.int .i64 10,.int .i64 31]
abbrev D0 (k:Int):DataW Unit:=.lit (.int .i64 k)
def Rw:Value→Option (DataW Unit × List MemPlace)
 | .agg a=>if a.toList.length=2 then (match a.toList with|[.int .i64 x,.int .i64 y]=>if x=9∧y=30 then some (D0 1,[]) else if x=10∧y=31 then some (D0 2,[]) else none|_=>none) else none
 | _=>none
theorem Rw_one:Rw V1=some (D0 1,[]):=rfl
theorem Rw_two:Rw V2=some (D0 2,[]):=rfl
theorem Rw_inv {v:Value} {y:DataW Unit × List MemPlace} (h:Rw v=some y):(v=V1∧y.1=D0 1)∨(v=V2∧y.1=D0 2):=by
 unfold Rw at h
 split at h
 ·rename_i a
  split at h
  ·split at h
   ·rename_i x y' he
    have ea:a=#[.int .i64 x,.int .i64 y']:=Array.toList_inj.1 he
    split at h
    ·rename_i hc
     obtain ⟨rfl,rfl⟩:=hc
     injection h with h
     subst h
     exact Or.inl ⟨by rw [ea],rfl⟩
    split at h
    ·rename_i hc
     obtain ⟨rfl,rfl⟩:=hc
     injection h with h
     subst h
     exact Or.inr ⟨by rw [ea],rfl⟩
    cases h
   cases h
  cases h
 cases h
def Mp (w:World) (mb k:Nat) (A:ByteArray→DataW Unit→DataW Unit):Prop:=∃ D,w.ownsMap Tryz.prog 9 Rw mb k D∧Maps.IsMap D∧∀ s zd,D.atKey (.string s.data.toList) zd=A s zd
theorem Mp.made (w:World):Mp (w.alloc (.map #[] 0)) w.heap.size 0 (fun _ zd=>zd):=⟨_,World.ownsMap_made w _ _ _,Maps.isMap_empty,fun s zd=>WideAt.atKey_none _ (by simp)⟩
theorem Mp.put {mb k:Nat} {A:ByteArray→DataW Unit→DataW Unit} (h:Mp w mb k A) (hk:k<1000) (x:ByteArray) (hx:x.size≤maxLen) {v:Value} {d:DataW Unit} (hv:Rw v=some (d,[])):
  ∃ w',(Instr.mapUpdate 53 (.map (some mb)) (.string x) v).run Tryz.prog w=.ok () w'∧(∀ A',(∀ s zd,A' s zd=if s=x then d else A s zd)→Mp w' mb (k+1) A')∧w.grownBy w' (some mb):=by
 obtain ⟨D,h1,h2,h3⟩:=h
 have hm:maxLen=9223372036854775807:=rfl
 obtain ⟨w',k1,k2,k3⟩:=h1.update (t:=53) (e:=52) (Maps.string_keyed Tryz.underlying9) Tryz.underlying53 (by omega) (WideMaps.keyOf_string_mk Tryz.underlying9 hx) hv
 refine ⟨w',k1,fun A' hA=>⟨_,k2,h2.put _ _,fun s zd=>?_⟩,k3⟩
 rw [hA]
 by_cases e:s=x
 ·subst e
  rw [Maps.atKey_put_same h2 (show WideAt.IsKeyLit (.string s.data.toList) from trivial),if_pos rfl]
 rw [Maps.atKey_put_other (fun q=>e (ByteArray.ext (Array.toList_inj.1 (by injection q with y)))),h3,if_neg e]
def A2 (s:ByteArray) (zd:DataW Unit):DataW Unit:=if s=str sLONG then D0 2 else if s=str sINT then D0 1 else zd
theorem Mp.two {mb:Nat} (h:Mp w mb 2 A2) (hne:mb≠b):Two w b (.map (some mb)):=by
 obtain ⟨D,h1,h2,h3⟩:=h
 refine ⟨mb,rfl,hne,h1.lt,fun w' hw s hs=>?_⟩
 obtain ⟨es,clock,hb,F,hn,rfl⟩:=h1
 have hb':=hw.trans hb
 have hm:maxLen=9223372036854775807:=rfl
 have hz:(zeroValue 52).run Tryz.prog w'=.ok (.agg #[.int .i64 0,.int .i64 0]) w':=Tryz.zeroValue52 w'
 rcases Maps.fit_look true (Maps.string_keyed Tryz.underlying9) Tryz.underlying53 hz hb' F (WideMaps.keyOf_string_mk Tryz.underlying9 (show s.size≤maxLen by omega)) with ⟨hrun,_,hat⟩|⟨e0,y,_,_,hrun,hRv,hat,_⟩
 ·have e1:=(h3 s (D0 0)).symm.trans (hat (D0 0))
  have n2:¬ s=str sLONG:=fun e=>by unfold A2 at e1;rw [if_pos e] at e1;cases e1
  have n1:¬ s=str sINT:=fun e=>by unfold A2 at e1;rw [if_neg n2,if_pos e] at e1;cases e1
  rw [hrun]
  unfold twoOf
  rw [if_neg n1,if_neg n2]
  rfl
 have e1:=(h3 s (D0 0)).symm.trans (hat (D0 0))
 rw [hrun]
 unfold A2 at e1
 by_cases n2:s=str sLONG
 ·rw [if_pos n2] at e1
  rcases Rw_inv hRv with ⟨_,e2⟩|⟨e2,_⟩
  ·rw [← e1] at e2;cases e2
  rw [e2,n2];rfl
 rw [if_neg n2] at e1
 by_cases n1:s=str sINT
 ·rw [if_pos n1] at e1
  rcases Rw_inv hRv with ⟨e2,_⟩|⟨_,e2⟩
  ·rw [e2,n1];rfl
  rw [← e1] at e2;cases e2
 rw [if_neg n1] at e1
 rcases Rw_inv hRv with ⟨_,e2⟩|⟨_,e2⟩
 ·rw [← e1] at e2;cases e2
 rw [← e1] at e2;cases e2
end Go.Proofs.YthcfianhdkolhaaGreatDoor.Y
namespace Go.Proofs.YthcfianhdkolhaaGreatDoor.Y
open Go.RowKit Go.Proofs.YthcfianhdkolhaaGreatDoor.X Go.Proofs.YthcfianhdkolhaaGreatDoor.T Go.Proofs.YthcfianhdkolhaaGreatDoor.S
set_option maxRecDepth 100000
set_option maxHeartbeats 2000000
set_option linter.unusedVariables false
set_option linter.unusedSimpArgs false
theorem hand_idle (q p:Nat) (w:World):
  CallsD Tryz.prog 19 #[.pointer (some ⟨q,0,none⟩),.pointer (some ⟨p,0,none⟩)] .returning w fun e u' w'=>e=.returned (.tuple #[])∧u'=.returning∧w'=w:=by
 have hta:∀ (w:World),(Instr.typeAssert .nilIface 20 47 true).run Tryz.prog w=.ok (.tuple #[.agg #[.int .i64 0,.string ⟨#[]⟩,.int .i64 0],.bool false]) w:=fun _=>by kernel_rfl
 have htb:∀ (w:World),(Instr.typeAssert .nilIface 20 49 true).run Tryz.prog w=.ok (.tuple #[.agg #[],.bool false]) w:=fun _=>by kernel_rfl
 refine callsD_of_wpS Tryz.func19 rfl fun c₀ cs hu=>?_
 apply wpS_seq
 apply wpS_region
 simp [wpOpsS,go_sem,recoverD,hu,Tryz.ntmps19,Exit.thenS]
 refine wpS_of_wp ?_
 change Code.wp _ _ _ ⟨#[.pointer (some ⟨q,0,none⟩),.pointer (some ⟨p,0,none⟩),undef,undef,.nilIface,undef,undef,undef,undef,undef,undef,undef,undef,undef,undef,undef],[]⟩ _
 go_wp2
 cases c₀
 simp_all [bodyPostS,results,Tryz.results19]
theorem hand_wrong (q p:Nat) (k a:Int) (x:ByteArray) (y0 y1:Value) (older:List PanicEntry) (w:World) (hc:w.heap[q]?=some (.cells #[y0,y1] 27 (0,0))):
  CallsD Tryz.prog 19 #[.pointer (some ⟨q,0,none⟩),.pointer (some ⟨p,0,none⟩)] (.panicking ({ v:=.iface 47 (.agg #[.int .i64 k,.string x,.int .i64 a]),recovered:=false }::older)) w fun e u' w'=>
   e=.returned (.tuple #[])∧u'=.panicking ({ v:=.iface 47 (.agg #[.int .i64 k,.string x,.int .i64 a]),recovered:=true }::older)∧w'=((w.setCell ⟨q,0,none⟩ (.int .i64 2)).setCell ⟨q,1,none⟩ (.int .i64 a)).alloc (.cells #[.int .i64 k,.string x,.int .i64 a] 47):=by
 have hta:∀ (w:World),(Instr.typeAssert (.iface 47 (.agg #[.int .i64 k,.string x,.int .i64 a])) 20 47 true).run Tryz.prog w=.ok (.tuple #[.agg #[.int .i64 k,.string x,.int .i64 a],.bool true]) w:=fun _=>by kernel_rfl
 have hlt:=(Array.getElem?_eq_some_iff.1 hc).1
 have hc1:(w.setCell ⟨q,0,none⟩ (.int .i64 2)).heap[q]?=some (.cells #[.int .i64 2,y1] 27 (0,0)):=(heap_setCell_same w q 0 _ 27 _ hc).trans rfl
 have hc2:((w.setCell ⟨q,0,none⟩ (.int .i64 2)).alloc (.cells #[.int .i64 k,.string x,.int .i64 a] 47)).heap[q]?=some (.cells #[.int .i64 2,y1] 27 (0,0)):=(Below.heap_alloc _ _ _ (by simpa using hlt)).trans hc1
 have hcc:=cells_at hc
 have hff:=frozen_at hc
 have hcc1:=cells_at hc1
 have hff1:=frozen_at hc1
 have hcc2:=cells_at hc2
 have hff2:=frozen_at hc2
 have hne:q≠w.heap.size:=by omega
 clear hc hc1 hc2
 refine callsD_of_wpS Tryz.func19 rfl fun c₀ cs hu=>?_
 apply wpS_seq
 apply wpS_region
 simp [wpOpsS,go_sem,recoverD,hu,Tryz.ntmps19,Exit.thenS]
 refine wpS_of_wp ?_
 change Code.wp _ _ _ ⟨#[.pointer (some ⟨q,0,none⟩),.pointer (some ⟨p,0,none⟩),undef,undef,.iface 47 (.agg #[.int .i64 k,.string x,.int .i64 a]),undef,undef,undef,undef,undef,undef,undef,undef,undef,undef,undef],[]⟩ _
 go_wp2
 simp [bodyPostS,results,Tryz.results19]
theorem hand_short (q p:Nat) (a:Int) (y0 y1:Value) (older:List PanicEntry) (w:World) (hc:w.heap[q]?=some (.cells #[y0,y1] 27 (0,0))) (hp:w.heap[p]?=some (.cells #[.int .i64 a] 3 (0,0))):
  CallsD Tryz.prog 19 #[.pointer (some ⟨q,0,none⟩),.pointer (some ⟨p,0,none⟩)] (.panicking ({ v:=.iface 49 (.agg #[]),recovered:=false }::older)) w fun e u' w'=>
   e=.returned (.tuple #[])∧u'=.panicking ({ v:=.iface 49 (.agg #[]),recovered:=true }::older)∧w'=((w.setCell ⟨q,0,none⟩ (.int .i64 2)).setCell ⟨q,1,none⟩ (.int .i64 a)).alloc (.cells #[] 49):=by
 have hta:∀ (w:World),(Instr.typeAssert (.iface 49 (.agg #[])) 20 47 true).run Tryz.prog w=.ok (.tuple #[.agg #[.int .i64 0,.string ⟨#[]⟩,.int .i64 0],.bool false]) w:=fun _=>by kernel_rfl
 have htb:∀ (w:World),(Instr.typeAssert (.iface 49 (.agg #[])) 20 49 true).run Tryz.prog w=.ok (.tuple #[.agg #[],.bool true]) w:=fun _=>by kernel_rfl
 have hlt:=(Array.getElem?_eq_some_iff.1 hc).1
 have hlp:=(Array.getElem?_eq_some_iff.1 hp).1
 have hc1:(w.setCell ⟨q,0,none⟩ (.int .i64 2)).heap[q]?=some (.cells #[.int .i64 2,y1] 27 (0,0)):=(heap_setCell_same w q 0 _ 27 _ hc).trans rfl
 have hc2:((w.setCell ⟨q,0,none⟩ (.int .i64 2)).alloc (.cells #[] 49)).heap[q]?=some (.cells #[.int .i64 2,y1] 27 (0,0)):=(Below.heap_alloc _ _ _ (by simpa using hlt)).trans hc1
 have hp1:(w.alloc (.cells #[] 49)).heap[p]?=some (.cells #[.int .i64 a] 3 (0,0)):=(Below.heap_alloc w _ _ hlp).trans hp
 have hcc:=cells_at hc
 have hff:=frozen_at hc
 have hcc1:=cells_at hc1
 have hff1:=frozen_at hc1
 have hcc2:=cells_at hc2
 have hff2:=frozen_at hc2
 have hpp:=cells_at hp1
 have hpq:=cells_at hp
 clear hc hc1 hc2 hp hp1
 refine callsD_of_wpS Tryz.func19 rfl fun c₀ cs hu=>?_
 apply wpS_seq
 apply wpS_region
 simp [wpOpsS,go_sem,recoverD,hu,Tryz.ntmps19,Exit.thenS]
 refine wpS_of_wp ?_
 change Code.wp _ _ _ ⟨#[.pointer (some ⟨q,0,none⟩),.pointer (some ⟨p,0,none⟩),undef,undef,.iface 49 (.agg #[]),undef,undef,undef,undef,undef,undef,undef,undef,undef,undef,undef],[]⟩ _
 go_wp2
 simp [bodyPostS,results,Tryz.results19]
end Go.Proofs.YthcfianhdkolhaaGreatDoor.Y
namespace Go.Proofs.YthcfianhdkolhaaGreatDoor.Y
open Go.RowKit Go.Proofs.YthcfianhdkolhaaGreatDoor.X Go.Proofs.YthcfianhdkolhaaGreatDoor.T Go.Proofs.YthcfianhdkolhaaGreatDoor.S
set_option maxRecDepth 100000
set_option maxHeartbeats 2000000
set_option linter.unusedVariables false
set_option linter.unusedSimpArgs false
variable {w w' w0 : World} {b g : Nat} {m : Value} {ts : List Tok} {t : Tok}
abbrev zNode:Value:=.agg #[.int .i64 0,.string ⟨#[]⟩,.int .i64 0,.slice none 0 0]
def atOf (nb:Int):List Tok→Int
 | []=>nb
 | t::_=>t.at_
def PostA (w:World) (ts:List Tok) (nb:Int) (e:Ending) (w':World):Prop:=w.grownBy w' none ∧
 ((∃ n v,R (.unitL []) (tk ts) (.ok (.nd n) [])∧e=.returned (.tuple #[v,.agg #[.int .i64 0,.int .i64 0]])∧NdV w' (fun k=>w.heap.size≤k) n v) ∨
  (∃ r,r <:+ ts∧R (.unitL []) (tk ts) (.no (tk r))∧e=.returned (.tuple #[zNode,.agg #[.int .i64 2,.int .i64 (atOf nb r)]])))
theorem results_cell_cell {P:Program} {fn:Func} {t u:Tmp} {ty ty2:TypeId} {q q2:Addr} {v v2:Value} (h:fn.results=#[.cell t ty,.cell u ty2]) (tmps:Array Value) (ht:tmps.getD t undef=.pointer (some q)) (hu:tmps.getD u undef=.pointer (some q2)) (w:World) (hr:(loadVar ty q).run P w=.ok v w) (hr2:(loadVar ty2 q2).run P w=.ok v2 w):(results fn tmps).run P w=.ok (.tuple #[v,v2]) w:=by
 have ht':tmps[t]?.getD undef=.pointer (some q):=by simpa using ht
 have hu':tmps[u]?.getD undef=.pointer (some q2):=by simpa using hu
 simp [results,h,asAddr,ht',hu',hr,hr2]
theorem load24 {w:World} {q:Nat} {k v:Int} {x:ByteArray} {a:Option Addr} {n c:Nat} (h:w.heap[q]?=some (.cells #[.int .i64 k,.string x,.int .i64 v,.slice a n c] 24 (0,0))):(loadVar 24 ⟨q,0,none⟩).run Tryz.prog w=.ok (.agg #[.int .i64 k,.string x,.int .i64 v,.slice a n c]) w:=by
 have hc:=cells_at h
 simp [loadVar,go_sem,hc]
theorem load27 {w:World} {q:Nat} {k v:Int} (h:w.heap[q]?=some (.cells #[.int .i64 k,.int .i64 v] 27 (0,0))):(loadVar 27 ⟨q,0,none⟩).run Tryz.prog w=.ok (.agg #[.int .i64 k,.int .i64 v]) w:=by
 have hc:=cells_at h
 simp [loadVar,go_sem,hc]
theorem leaves_cc {tmps:Array Value} {R:Ending→World→Prop} {w:World} {q q2:Addr} {v v2:Value} (ht:tmps.getD 4 undef=.pointer (some q)) (hu:tmps.getD 5 undef=.pointer (some q2)) (hr:(loadVar 24 q).run Tryz.prog w=.ok v w) (hr2:(loadVar 27 q2).run Tryz.prog w=.ok v2 w) (h:R (.returned (.tuple #[v,v2])) w):Leaves Tryz.prog Tryz.f11 tmps R [] .returning w:=
 ⟨_,results_cell_cell Tryz.results11 tmps ht hu w hr hr2,h⟩
theorem hand_blocks {W:World} {q qn:Nat} {y0 y1:Value} {a:Int} {cs:Array Value} {T:TypeId} (hq:W.heap[q]?=some (.cells #[y0,y1] 27 (0,0))) (hne:qn≠q) {zs:Array Value} (hn:W.heap[qn]?=some (.cells zs 24 (0,0))):
  (((W.setCell ⟨q,0,none⟩ (.int .i64 2)).setCell ⟨q,1,none⟩ (.int .i64 a)).alloc (.cells cs T)).heap[q]?=some (.cells #[.int .i64 2,.int .i64 a] 27 (0,0))∧(((W.setCell ⟨q,0,none⟩ (.int .i64 2)).setCell ⟨q,1,none⟩ (.int .i64 a)).alloc (.cells cs T)).heap[qn]?=some (.cells zs 24 (0,0))∧W.grownBy (((W.setCell ⟨q,0,none⟩ (.int .i64 2)).setCell ⟨q,1,none⟩ (.int .i64 a)).alloc (.cells cs T)) (some q):=by
 have k1:(W.setCell ⟨q,0,none⟩ (.int .i64 2)).heap[q]?=some (.cells #[.int .i64 2,y1] 27 (0,0)):=(heap_setCell_same W q 0 _ 27 _ hq).trans rfl
 have k2:((W.setCell ⟨q,0,none⟩ (.int .i64 2)).setCell ⟨q,1,none⟩ (.int .i64 a)).heap[q]?=some (.cells #[.int .i64 2,.int .i64 a] 27 (0,0)):=(heap_setCell_same _ q 1 _ 27 _ k1).trans rfl
 have l1:=(Array.getElem?_eq_some_iff.1 hq).1
 have l2:=(Array.getElem?_eq_some_iff.1 hn).1
 refine ⟨(Below.heap_alloc _ _ _ (by simpa using l1)).trans k2,?_,⟨rfl,rfl,rfl,by simp,fun k hk hn=>?_⟩⟩
 ·rw [Below.heap_alloc _ _ _ (by simpa using l2),heap_setCell_other _ _ _ _ hne,heap_setCell_other _ _ _ _ hne]
  exact hn
 have hne':k≠q:=fun e=>hn (by rw [e])
 rw [Below.heap_alloc _ _ _ (by simpa using hk),heap_setCell_other _ _ _ _ hne',heap_setCell_other _ _ _ _ hne']
theorem parsed_any (hGl:Og w) (a:Option Addr) (c g o:Nat) (hlc:ts.length≤c) (hc:c≤9223372036854775807) (ha:ts≠[]→a=some ⟨g,o,none⟩) (hat:TokAt w g o ts) (hg:g<w.heap.size) (hF:Fits ts) (hlen:ts.length≤4000) (nb:Int):
  Calls Tryz.prog 11 #[.slice a ts.length c,.int .i64 nb] w (PostA w ts nb):=by
 have hmf:∀ (fn:Fn) (first cap:Array Value) (w:World),(Instr.makeFunc fn first cap).run Tryz.prog w=.ok (.func fn first cap) w:=fun _ _ _ _=>rfl
 have hmm:=@run_makeMap Tryz.prog
 have hw4:4<w.heap.size:=hGl.lt.2
 obtain ⟨W3,hW3⟩:∃ W3,W3=((w.alloc (.cells #[.int .i64 nb] 3)).alloc (.cells #[.int .i64 0,.string ⟨#[]⟩,.int .i64 0,.slice none 0 0] 24)).alloc (.cells #[.int .i64 0,.int .i64 0] 27):=⟨_,rfl⟩
 have hz3:W3.heap.size=w.heap.size+3:=by rw [hW3];simp
 have g3:w.grownBy W3 none:=by rw [hW3];exact grown_none (grown_none (grown_alloc w _) (grown_alloc _ _)) (grown_alloc _ _)
 have b0:W3.heap[w.heap.size]?=some (.cells #[.int .i64 nb] 3 (0,0)):=by
  rw [hW3,Below.heap_alloc _ _ _ (by simp;omega),Below.heap_alloc _ _ _ (by simp)]
  exact heap_new w _ _
 have b1:W3.heap[w.heap.size+1]?=some (.cells #[.int .i64 0,.string ⟨#[]⟩,.int .i64 0,.slice none 0 0] 24 (0,0)):=by
  have:=heap_new (w.alloc (.cells #[.int .i64 nb] 3)) #[.int .i64 0,.string ⟨#[]⟩,.int .i64 0,.slice none 0 0] 24
  rw [World.size_alloc] at this
  rw [hW3,Below.heap_alloc _ _ _ (by simp)]
  exact this
 have b2:W3.heap[w.heap.size+2]?=some (.cells #[.int .i64 0,.int .i64 0] 27 (0,0)):=by
  have:=heap_new ((w.alloc (.cells #[.int .i64 nb] 3)).alloc (.cells #[.int .i64 0,.string ⟨#[]⟩,.int .i64 0,.slice none 0 0] 24)) #[.int .i64 0,.int .i64 0] 27
  rw [World.size_alloc,World.size_alloc] at this
  rw [hW3]
  exact this
 have M0:=Mp.made W3
 obtain ⟨W5,u1,m1,g5⟩:=M0.put (by omega) ⟨#[105,110,116]⟩ (by decide) Rw_one
 have M1:=m1 (fun s zd=>if s=str sINT then D0 1 else zd) (fun s zd=>rfl)
 obtain ⟨W6,u2,m2,g6⟩:=M1.put (by omega) ⟨#[108,111,110,103]⟩ (by decide) Rw_two
 have M2:Mp W6 W3.heap.size 2 A2:=m2 A2 (fun s zd=>rfl)
 have g36:W3.grownBy W6 none:=⟨g6.os.trans (g5.os.trans rfl),g6.tape.trans (g5.tape.trans rfl),g6.output.trans (g5.output.trans rfl),Nat.le_trans (by simp) (Nat.le_trans g5.size g6.size),fun k hk _=>by
  have hne:some k≠some W3.heap.size:=fun e=>by have:=Option.some.inj e;omega
  have hk4:k<(W3.alloc (.map #[] 0)).heap.size:=by simp;omega
  exact (g6.block k (Nat.lt_of_lt_of_le hk4 g5.size) hne).trans ((g5.block k hk4 hne).trans (Below.heap_alloc _ _ _ hk))⟩
 have h36:=g36.size
 have hmb:W3.heap.size<W6.heap.size:=Nat.lt_of_lt_of_le (by simp) (Nat.le_trans g5.size g6.size)
 have HT:Hid (Two (W6.alloc (.cells #[.slice a ts.length c,.map (some W3.heap.size)] 55)) W6.heap.size (.map (some W3.heap.size))):=(M2.two (b:=W6.heap.size) (by omega)).kept (grown_some (grown_alloc W6 _))
 have g07:w.grownBy (W6.alloc (.cells #[.slice a ts.length c,.map (some W3.heap.size)] 55)) none:=grown_none (grown_none g3 g36) (grown_alloc W6 _)
 have hPs:Ps (W6.alloc (.cells #[.slice a ts.length c,.map (some W3.heap.size)] 55)) W6.heap.size g (.map (some W3.heap.size)) ts:=⟨by omega,a,o,c,heap_new W6 _ _,hlc,hc,ha,hat.same (g07.block g hg (by simp))⟩
 have hb5:4<W6.heap.size:=by omega
 have HU:=ħ (unit_post hPs HT.out (Gl_kept (b:=W6.heap.size) hGl hb5 (grown_some g07)) hb5 (Nat.lt_of_lt_of_le hg g07.size) hF hlen)
 have HK:Hid (∀ w8,(W6.alloc (.cells #[.slice a ts.length c,.map (some W3.heap.size)] 55)).grownBy w8 (some W6.heap.size)→(∀ k,k<W3.heap.size→w8.heap[k]?=W3.heap[k]?)∧w.grownBy w8 none):=fun w8 h8=>by
  have e:∀ k,k<W6.heap.size→w8.heap[k]?=W6.heap[k]?:=fun k hk=>(h8.block k (by simp;omega) (fun e=>by have:=Option.some.inj e;omega)).trans (Below.heap_alloc _ _ _ hk)
  refine ⟨fun k hk=>(e k (by omega)).trans (g36.block k hk (by simp)),⟨h8.os.trans g07.os,h8.tape.trans g07.tape,h8.output.trans g07.output,Nat.le_trans g07.size h8.size,fun k hk _=>?_⟩⟩
  have hk6:k<W6.heap.size:=by have:=g3.size;omega
  exact (e k hk6).trans ((g36.block k (by have:=g3.size;omega) (by simp)).trans (g3.block k hk (by simp)))
 have HB0:=hide b0
 have HB1:=hide b1
 have HB2:=hide b2
 have HZ3:=hide hz3
 have HG6:Hid (w.heap.size≤W6.heap.size):=by show _≤_;omega
 rw [hz3] at u1 u2 HU HK
 clear M0 m1 g5 M1 m2 g6 M2 g36 HT g07 hPs hb5 b0 b1 b2 hat hF ha hGl g3
 have hu1:∀ W,W=W3.alloc (.map #[] 0)→(Instr.mapUpdate 53 (.map (some (w.heap.size+3))) (.string ⟨#[105,110,116]⟩) (.agg #[.int .i64 9,.int .i64 30])).run Tryz.prog W=.ok () W5:=fun W e=>by rw [e];exact u1
 have hu1':=hu1 ((((w.alloc (.cells #[.int .i64 nb] 3)).alloc (.cells #[.int .i64 0,.string ⟨#[]⟩,.int .i64 0,.slice none 0 0] 24)).alloc (.cells #[.int .i64 0,.int .i64 0] 27)).alloc (.map #[] 0)) (by rw [hW3])
 clear hu1 u1
 clear hW3
 go_enter_defers Tryz.func11,Tryz.ntmps11
 go_wp2_with fail
 go_at_call 20
 refine HU.out.mono ?_
 rintro e w8 ⟨hG8,r,hsu,⟨n,v,hR,rfl,hN⟩|⟨hR,rfl⟩⟩
 ·obtain ⟨k8,G8⟩:=HK.out w8 hG8
  obtain ⟨kk,x,num,ka,kn,kc,rfl⟩:=hN.form
  have hz:=HZ3.out
  have c1:=(k8 (w.heap.size+1) (by omega)).trans HB1.out
  have c2:=(k8 (w.heap.size+2) (by omega)).trans HB2.out
  obtain ⟨s1,_,_⟩:=Y.set4 (.int .i64 kk) (.string x) (.int .i64 num) (.slice ka kn kc) c1
  have hne21:w.heap.size+2≠w.heap.size+1:=by omega
  have hne12:w.heap.size+1≠w.heap.size+2:=by omega
  have s2:((((w8.setCell ⟨w.heap.size+1,0,none⟩ (.int .i64 kk)).setCell ⟨w.heap.size+1,1,none⟩ (.string x)).setCell ⟨w.heap.size+1,2,none⟩ (.int .i64 num)).setCell ⟨w.heap.size+1,3,none⟩ (.slice ka kn kc)).heap[w.heap.size+2]?=some (.cells #[.int .i64 0,.int .i64 0] 27 (0,0)):=by
   rw [heap_setCell_other _ _ _ _ hne21,heap_setCell_other _ _ _ _ hne21,heap_setCell_other _ _ _ _ hne21,heap_setCell_other _ _ _ _ hne21]
   exact c2
  have hw1:=cells_at c1
  have hf1:=frozen_at c1
  have hw2:=cells_at s2
  have hf2:=frozen_at s2
  have HS1:=hide s1
  have HS2:=hide s2
  have HG8:=hide G8
  have HR:=hide hR
  have HN:=hide hN
  have HF1:Hid (((((((w8.setCell ⟨w.heap.size+1,0,none⟩ (.int .i64 kk)).setCell ⟨w.heap.size+1,1,none⟩ (.string x)).setCell ⟨w.heap.size+1,2,none⟩ (.int .i64 num)).setCell ⟨w.heap.size+1,3,none⟩ (.slice ka kn kc)).setCell ⟨w.heap.size+2,0,none⟩ (.int .i64 0)).setCell ⟨w.heap.size+2,1,none⟩ (.int .i64 0)).heap[w.heap.size+1]?=some (.cells #[.int .i64 kk,.string x,.int .i64 num,.slice ka kn kc] 24 (0,0))):=by
   show _=_
   rw [heap_setCell_other _ _ _ _ hne12,heap_setCell_other _ _ _ _ hne12]
   exact s1
  have HF2:Hid (((((((w8.setCell ⟨w.heap.size+1,0,none⟩ (.int .i64 kk)).setCell ⟨w.heap.size+1,1,none⟩ (.string x)).setCell ⟨w.heap.size+1,2,none⟩ (.int .i64 num)).setCell ⟨w.heap.size+1,3,none⟩ (.slice ka kn kc)).setCell ⟨w.heap.size+2,0,none⟩ (.int .i64 0)).setCell ⟨w.heap.size+2,1,none⟩ (.int .i64 0)).heap[w.heap.size+2]?=some (.cells #[.int .i64 0,.int .i64 0] 27 (0,0))):=by
   have t1:=heap_setCell_same ((((w8.setCell ⟨w.heap.size+1,0,none⟩ (.int .i64 kk)).setCell ⟨w.heap.size+1,1,none⟩ (.string x)).setCell ⟨w.heap.size+1,2,none⟩ (.int .i64 num)).setCell ⟨w.heap.size+1,3,none⟩ (.slice ka kn kc)) (w.heap.size+2) 0 _ 27 (.int .i64 0) s2
   exact (heap_setCell_same _ (w.heap.size+2) 1 _ 27 (.int .i64 0) t1).trans rfl
  have HGF:Hid (w.grownBy ((((((w8.setCell ⟨w.heap.size+1,0,none⟩ (.int .i64 kk)).setCell ⟨w.heap.size+1,1,none⟩ (.string x)).setCell ⟨w.heap.size+1,2,none⟩ (.int .i64 num)).setCell ⟨w.heap.size+1,3,none⟩ (.slice ka kn kc)).setCell ⟨w.heap.size+2,0,none⟩ (.int .i64 0)).setCell ⟨w.heap.size+2,1,none⟩ (.int .i64 0)) none):=grown_set (grown_set (grown_set (grown_set (grown_set (grown_set G8 (by omega)) (by omega)) (by omega)) (by omega)) (by omega)) (by omega)
  have HNF:Hid (NdV ((((((w8.setCell ⟨w.heap.size+1,0,none⟩ (.int .i64 kk)).setCell ⟨w.heap.size+1,1,none⟩ (.string x)).setCell ⟨w.heap.size+1,2,none⟩ (.int .i64 num)).setCell ⟨w.heap.size+1,3,none⟩ (.slice ka kn kc)).setCell ⟨w.heap.size+2,0,none⟩ (.int .i64 0)).setCell ⟨w.heap.size+2,1,none⟩ (.int .i64 0)) (fun k=>w.heap.size≤k) n (.agg #[.int .i64 kk,.string x,.int .i64 num,.slice ka kn kc])):=by
   refine hN.move (fun k hk hl=>⟨?_,?_⟩)
   ·have hk':W6.heap.size+1≤k:=by simpa using hk
    have h6:=HG6.out
    have hk1:k≠w.heap.size+1:=by omega
    have hk2:k≠w.heap.size+2:=by omega
    rw [heap_setCell_other _ _ _ _ hk2,heap_setCell_other _ _ _ _ hk2,heap_setCell_other _ _ _ _ hk1,heap_setCell_other _ _ _ _ hk1,heap_setCell_other _ _ _ _ hk1,heap_setCell_other _ _ _ _ hk1]
   have hk':W6.heap.size+1≤k:=by simpa using hk
   have h6:=HG6.out
   show w.heap.size≤k
   omega
  clear k8 G8 c1 c2 s1 s2 hR hN hG8 hsu
  go_wp2_with fail
  refine leaves_cons (f:=19) (args:=#[.pointer (some ⟨w.heap.size+2,0,none⟩),.pointer (some ⟨w.heap.size,0,none⟩)]) (by simp) (by simp [go_sem]) ?_
  refine (hand_idle _ _ _).mono ?_
  rintro e u' w5 ⟨rfl,rfl,rfl⟩
  refine leaves_cc (q:=⟨w.heap.size+1,0,none⟩) (q2:=⟨w.heap.size+2,0,none⟩) rfl rfl (load24 HF1.out) (load27 HF2.out) ?_
  exact ⟨HGF.out,Or.inl ⟨n,_,HR.out,rfl,HNF.out⟩⟩
 obtain ⟨k8,G8⟩:=HK.out w8 hG8
 have hz:=HZ3.out
 have c0:=(k8 w.heap.size (by omega)).trans HB0.out
 have c1:=(k8 (w.heap.size+1) (by omega)).trans HB1.out
 have c2:=(k8 (w.heap.size+2) (by omega)).trans HB2.out
 refine leaves_cons (f:=19) (args:=#[.pointer (some ⟨w.heap.size+2,0,none⟩),.pointer (some ⟨w.heap.size,0,none⟩)]) (by simp) (by simp [go_sem]) ?_
 cases r with
 | nil=>
  refine (hand_short (w.heap.size+2) w.heap.size nb _ _ [] w8 c2 c0).mono ?_
  rintro e u' w9 ⟨rfl,rfl,rfl⟩
  obtain ⟨d1,d2,d3⟩:=hand_blocks (a:=nb) (cs:=#[]) (T:=49) c2 (show w.heap.size+1≠w.heap.size+2 by omega) c1
  refine leaves_cc (q:=⟨w.heap.size+1,0,none⟩) (q2:=⟨w.heap.size+2,0,none⟩) rfl rfl (load24 d2) (load27 d1) ?_
  exact ⟨⟨d3.os.trans G8.os,d3.tape.trans G8.tape,d3.output.trans G8.output,Nat.le_trans G8.size d3.size,fun k hk _=>(d3.block k (Nat.lt_of_lt_of_le hk G8.size) (fun e=>by have:=Option.some.inj e;omega)).trans (G8.block k hk (by simp))⟩,Or.inr ⟨[],hsu,hR,rfl⟩⟩
 | cons t r=>
  refine (hand_wrong (w.heap.size+2) w.heap.size t.kind t.at_ t.text _ _ [] w8 c2).mono ?_
  rintro e u' w9 ⟨rfl,rfl,rfl⟩
  obtain ⟨d1,d2,d3⟩:=hand_blocks (a:=t.at_) (cs:=#[.int .i64 t.kind,.string t.text,.int .i64 t.at_]) (T:=47) c2 (show w.heap.size+1≠w.heap.size+2 by omega) c1
  refine leaves_cc (q:=⟨w.heap.size+1,0,none⟩) (q2:=⟨w.heap.size+2,0,none⟩) rfl rfl (load24 d2) (load27 d1) ?_
  exact ⟨⟨d3.os.trans G8.os,d3.tape.trans G8.tape,d3.output.trans G8.output,Nat.le_trans G8.size d3.size,fun k hk _=>(d3.block k (Nat.lt_of_lt_of_le hk G8.size) (fun e=>by have:=Option.some.inj e;omega)).trans (G8.block k hk (by simp))⟩,Or.inr ⟨t::r,hsu,hR,rfl⟩⟩
end Go.Proofs.YthcfianhdkolhaaGreatDoor.Y
