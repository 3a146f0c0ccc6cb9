/- PbJ PbK PbL -/
import Derived.Test.YthcfianhdkolhaaGreatDoorSign
import Derived.Test.YthcfianhdkolhaaGreatDoorPbI
import Derived.Test.YthcfianhdkolhaaGreatDoorRfA
namespace Go.Proofs.YthcfianhdkolhaaGreatDoor.Y
open Go.RowKit Go.Proofs.YthcfianhdkolhaaGreatDoor.X Go.Proofs.YthcfianhdkolhaaGreatDoor.T Go.Proofs.YthcfianhdkolhaaGreatDoor.S
set_option maxRecDepth 100000
set_option maxHeartbeats 2000000
set_option linter.unusedVariables false
set_option linter.unusedSimpArgs false
variable {w w' : World} {b g : Nat} {m : Value} {ts : List Tok} {t : Tok}
theorem r_ty_int {ts:List Tk} (h:hd ts=sINT):R .typ ts (.ok (.nd (.mk 9 [] 0 [])) ts.tail):=⟨1,by simp [P,F,h,okN]⟩
theorem r_ty_long {ts:List Tk} (h:hd ts=sLONG):R .typ ts (.ok (.nd (.mk 10 [] 0 [])) ts.tail):=⟨1,by simp [P,F,h,okN]⟩
theorem r_ty_fn0 {ts r:List Tk} (h:hd ts=sFN) (a:R (.rows 0) ts.tail (.no r)):R .typ ts (.no r):=by
 obtain ⟨n,e⟩:=a
 exact ⟨n+1,by simp [P,F,h,andR,e]⟩
theorem r_ty_fn1 {ts r r2:List Tk} {l:List Nd} {d:Bool} (h:hd ts=sFN) (a:R (.rows 0) ts.tail (.ok (.row l d) r)) (k:R .typ r (.no r2)):R .typ ts (.no r2):=by
 obtain ⟨n,e,e2⟩:=both a k
 exact ⟨n+1,by simp [P,F,h,andR,e,andN,e2]⟩
theorem r_ty_fn2 {ts r r2:List Tk} {l:List Nd} {d:Bool} {t:Nd} (h:hd ts=sFN) (a:R (.rows 0) ts.tail (.ok (.row l d) r)) (k:R .typ r (.ok (.nd t) r2)):R .typ ts (.ok (.nd (.mk 12 [] (b2n d) (l++[t]))) r2):=by
 obtain ⟨n,e,e2⟩:=both a k
 exact ⟨n+1,by simp [P,F,h,andR,e,andN,e2,okN]⟩
theorem r_ty_nm {ts:List Tk} (n1:¬ hd ts=sINT) (n2:¬ hd ts=sLONG) (n3:¬ hd ts=sFN) (h:nameB (hd ts)=true):R .typ ts (.ok (.nd (.mk 11 (hd ts) 0 [])) ts.tail):=⟨1,by simp [P,F,n1,n2,n3,S.name,h,okN]⟩
theorem r_ty_nm0 {ts:List Tk} (n1:¬ hd ts=sINT) (n2:¬ hd ts=sLONG) (n3:¬ hd ts=sFN) (h:nameB (hd ts)=false):R .typ ts (.no ts):=⟨1,by simp [P,F,n1,n2,n3,S.name,h]⟩
theorem r_it0 {ts:List Tk} {q:Res} (a:R .typ ts q):R (.item 0) ts q:=by
 obtain ⟨n,e⟩:=a
 exact ⟨n+1,by simp [P,F,e]⟩
def TyOk (ts:List Tk) (t:Nd) (s:List UInt8) (r:List Tk):Prop:=∃ r1,R .typ ts (.ok (.nd t) r1)∧nameB (hd r1)=true∧s=hd r1∧r=r1.tail
def TyNo (ts r:List Tk):Prop:=R .typ ts (.no r)∨∃ t,R .typ ts (.ok (.nd t) r)∧nameB (hd r)=false
def PostT (kind:Int) (w:World) (b g:Nat) (m:Value) (ts:List Tok) (e:Ending) (w':World):Prop:=w.grownBy w' (some b)∧∃ r,r <:+ ts ∧
 ((∃ t s q,r.length<ts.length∧TyOk (tk ts) t s (tk r)∧e=.returned (.agg #[.int .i64 kind,.string (str s),.int .i64 0,.slice (some ⟨q,0,none⟩) 1 1])∧RowN w' (fun k=>w.heap.size≤k) (.slice (some ⟨q,0,none⟩) 1 1) [t]∧Ps w' b g m r)∨(TyNo (tk ts) (tk r)∧e=up r))
theorem r_it1 {ts r:List Tk} {t:Nd} {s:List UInt8} (h:TyOk ts t s r):R (.item 1) ts (.ok (.nd (.mk 8 s 0 [t])) r):=by
 obtain ⟨r1,⟨n,e⟩,h2,rfl,rfl⟩:=h
 exact ⟨n+1,by simp [P,F,andN,e,S.name,h2,okN]⟩
theorem r_it1n {ts r:List Tk} (h:TyNo ts r):R (.item 1) ts (.no r):=by
 rcases h with ⟨n,e⟩|⟨t,⟨n,e⟩,h2⟩
 ·exact ⟨n+1,by simp [P,F,andN,e]⟩
 exact ⟨n+1,by simp [P,F,andN,e,S.name,h2]⟩
theorem typ_fn (h:Ps w b g m ts) (hT:Two w b m) (hGl:Og w) (hb5:4<b) (hgl:g<w.heap.size) (hF:Fits ts) (hlen:ts.length≤4000) (hq:tx ts=str sFN) (hLt:Later 121 .typ b g m ts):Calls Tryz.prog 121 #[.pointer (some ⟨b,0,none⟩)] w (PostN .typ w b g m ts):=by
 have HW:Hid (Wd w w b g m ts []):=Wd.start h hT hGl hb5 hgl
 have HS:=su ts
 have HF:=ħ hF
 have HLn:=ħ hlen
 have HLt:=hide hLt
 have HI0:Hid (Later 121 (.item 0) b g m ts):=fun r hr hl=>(hLt r hr hl).turn (fun _=>r_it0)
 have HSz:Hid ((tx ts).size≤4000):=tx_short hF
 clear hLt
 clear h hT hGl hgl hF hlen
 go_enter Tryz.func121,Tryz.ntmps121
 replace HW:=HW.out.az
 go_wp2_with fail
 generalize w.alloc _=w1 at *
 have HQ:Hid (hd (tk ts)=sFN):=(tx_hd (HF.out.suf HS.out) sFN (⟨_,_,rfl,by decide⟩)).1 hq
 go_at_call 67
 refine (HW.out.tkY HS.out (x:=str sFN) (by decide) hq).mono ?_
 rintro e w2 ⟨rfl,HL,HLs,HS,HW,hG⟩
 clear hG
 clear hq
 go_wp2_with fail
 go_at_call 122
 refine (open_typ HW.out.ps HW.out.two HW.out.glo HW.out.bg HW.out.glt (HF.out.suf HS.out) (Nat.le_trans HS.out.length_le HLn.out) (HI0.out.suf HS.out)).mono ?_
 rintro e w3 ⟨hG3,r3,hsu,⟨l_l,d_l,vv_l,hlt,hll,hR,rfl,hM,hP3⟩|⟨hR,rfl⟩⟩
 rotate_left
 ·exact ⟨rfl,grown_trans HW.out.grown hG3,_,hsu.trans HS.out,Or.inr ⟨r_ty_fn0 HQ.out (by rw [← tk_tail];exact hR),rfl⟩⟩
 have HR_l:=hide hR
 have HLl_l:Hid (l_l.length+r3.length≤ts.tail.length):=hll
 have HM_l:=ħ (hM.given HW.out)
 have HZ_l:Hid (w.heap.size≤w2.heap.size):=HW.out.grown.size
 have HSl:Hid (r3 <:+ ts.tail):=hsu
 have HL:Hid (r3.length<ts.length):=Nat.lt_of_lt_of_le hlt HS.out.length_le
 replace HW:=ħ (HW.out.call hG3 hP3)
 replace HS:=ħ ((hsu).trans HS.out)
 clear hP3 hG3 hR hM hsu hlt hll
 go_wp2_with fail
 go_at_call 121
 refine (HLt.out r3 HS.out HL.out w3 HW.out.ps HW.out.two HW.out.glo HW.out.glt (HF.out.suf HS.out) (Nat.le_trans HS.out.length_le HLn.out)).mono ?_
 rintro e w4 hp
 obtain ⟨r4,n_t,k_t,t_t,v_t,a_t,l_t,c_t,rfl,HR_t,HN_t,HZ_t,HL,HSt,HLs2,hS,hW,hG⟩|⟨r,hR,rfl,h1,h2⟩:=HW.out.okN HS.out hp
 rotate_left
 ·exact ⟨rfl,h1,_,h2,Or.inr ⟨r_ty_fn1 HQ.out (by rw [← tk_tail];exact HR_l.out) hR,rfl⟩⟩
 have HO_l:=hide HM_l.out.lt
 replace HM_l:=HW.out.kR HZ_l hG HM_l
 replace HW:=hW
 replace HS:=hS
 clear hG hp
 replace HW:=HW.out.an HN_t
 replace HN_t:=HW.out.nA HN_t
 replace HM_l:=HW.out.rA HM_l
 go_wp2_with (at_builtin;refine app_l0 _ _ rfl rfl HW.out HM_l.out HN_t.out HZ_l.out HZ_t.out HO_l.out (by have h1:=HLl_l.out;have h2:=HLn.out;have h3:=(List.tail_suffix ts).length_le;omega) ⟨rfl,rfl,rfl,rfl⟩ ?e1 ?e2 ?_;(case e1=>rfl);(case e2=>rfl);skip)
 intro g5 c5 w5 hW hM hG
 clear HM_l HN_t HZ_l HZ_t HO_l
 replace HW:=hide hW
 have HM_l2:=hide hM
 have HZ_l2:=zz w
 clear hW hM hG
 have HN_z:=ħ (HM_l2.out.node 12 [] (b2n d_l))
 have HZ_z:=HZ_l2
 clear HM_l2 HZ_l2
 have hc6:=HW.out.c0
 have hf7:=HW.out.f0
 replace HW:=ħ (HW.out.s0 (.int .i64 12) (.string ⟨#[]⟩) (.int .i64 (b2n d_l)) ((.slice (some ⟨g5,0,none⟩) (l_l.length+1) c5)))
 replace HN_z:=HW.out.ms0.N HN_z
 go_wp2_with fail
 generalize (((w5.setCell _ _).setCell _ _).setCell _ _).setCell _ _=w10 at *
 refine bodyPost_ret (rt rfl rfl HW.out.b0) rfl ?_
 exact HW.out.post HS.out (r_ty_fn2 HQ.out (by rw [← tk_tail];exact HR_l.out) HR_t.out) HL.out HZ_z.out HN_z.out
theorem typ_int (h:Ps w b g m ts) (hT:Two w b m) (hGl:Og w) (hb5:4<b) (hgl:g<w.heap.size) (hF:Fits ts) (hlen:ts.length≤4000) (hqf:¬ tx ts=str sFN) (hq:tx ts=str sINT) (hLt:Later 121 .typ b g m ts):Calls Tryz.prog 121 #[.pointer (some ⟨b,0,none⟩)] w (PostN .typ w b g m ts):=by
 have HW:Hid (Wd w w b g m ts []):=Wd.start h hT hGl hb5 hgl
 have HS:=su ts
 have HF:=ħ hF
 have HLn:=ħ hlen
 have HLt:=hide hLt
 have HI0:Hid (Later 121 (.item 0) b g m ts):=fun r hr hl=>(hLt r hr hl).turn (fun _=>r_it0)
 have HSz:Hid ((tx ts).size≤4000):=tx_short hF
 have H2:Hid (twoOf (tx ts)=(9,30,true)):=by rw [hq];rfl
 have HQ:Hid (hd (tk ts)=sINT):=(tx_hd hF sINT (⟨_,_,rfl,by decide⟩)).1 hq
 have HQx:=hide hq
 clear hq
 clear hLt
 clear h hT hGl hgl hF hlen
 go_enter Tryz.func121,Tryz.ntmps121
 replace HW:=HW.out.az
 go_wp2_with fail
 generalize w.alloc _=w1 at *
 go_at_call 67
 refine (HW.out.tkN (x:=str sFN) (by decide) hqf).mono ?_
 rintro e w2 ⟨rfl,HW,hG⟩
 clear hG
 clear hqf
 go_wp2_with fail
 replace HW:=ħ (HW.out.quiet (grown_drew w2))
 refine wp_region_held_drew (S:=(fun w'=>w'.cell? ⟨b,1,none⟩=some m∧Two w' b m)) (by kernel_rfl) (⟨HW.out.ps.cell1,HW.out.two⟩) (fun hHd=>?_)
 generalize w2.drew=w3 at *
 refine tq 0 ?_
 simp only [qq]
 refine tq 1 ?_
 simp only [qq]
 refine tq 2 ?_
 simp only [qq]
 refine tq 3 ?_ (hy:=by (intro w hSw;obtain ⟨hs1,hs2⟩:=hSw;go_simp)<;>with_reducible rfl)
 simp only [qq]
 refine tq 4 ?_
 simp only [qq]
 refine rq2 5 10 (fun K hK=>?_) fun K hK=>?_
 ·go_simp
  refine (text_any HW.out.ps).mono ?_
  rintro e w4 ⟨rfl,hww⟩
  replace hww:w3=w4:=hww.symm
  subst hww
  refine hK.out _ _ (⟨HW.out.ps.cell1,HW.out.two⟩) (fun hHd=>?_)
  clear hK K
  try simp only [qq]
  refine tq 6 ?_ (hy:=by (intro w hSw;have hlk:=hSw.2.look (tx ts) HSz.out;rw [H2.out] at hlk;clear hSw;go_simp)<;>with_reducible rfl)
  simp only [qq]
  refine tq 7 ?_
  simp only [qq]
  refine tq 8 ?_
  simp only [qq]
  refine tq 9 ?_
  simp only [qq]
  refine rq 10 fun K hK=>?_
  replace HW:=ħ (HW.out.alloc' w3.heap.size (by simp) #[.int .i64 0,.int .i64 0] 52)
  go_simp
  refine hK.out _ _ (⟨HW.out.ps.cell1,HW.out.two⟩) (fun hHd=>?_)
  clear hK K
  try simp only [qq]
  generalize w3.alloc _=w5 at *
  refine rq 11 fun K hK=>?_
  have hc6:=HW.out.c0
  have hf7:=HW.out.f0
  replace HW:=ħ (HW.out.r00 (.int .i64 9))
  replace HW:=ħ (HW.out.r01 (.int .i64 30))
  go_simp
  refine hK.out _ _ (⟨HW.out.ps.cell1,HW.out.two⟩) (fun hHd=>?_)
  clear hK K
  try simp only [qq]
  generalize (w5.setCell _ _).setCell _ _=w8 at *
  clear hc6 hf7
  refine tq 12 ?_
  simp only [qq]
  refine wpAnyH_done (by kernel_rfl) ?_ _
  go_wp2_with fail
  go_at_call 92
  refine (pass_tx HW.out.ps (by decide) HQx.out).mono ?_
  rintro e w9 ⟨rfl,hP9,hG9⟩
  have HL:Hid (ts.tail.length<ts.length):=Nat.lt_of_lt_of_le (tail_lt (by decide) HQx.out) HS.out.length_le
  replace HW:=ħ (HW.out.call hG9 hP9)
  replace HS:=ħ ((List.tail_suffix _).trans HS.out)
  clear hP9 hG9
  have HN_z:Hid (NdV w9 (Av w.heap.size [(w3.heap.size,#[.int .i64 9,.int .i64 30],52),(w.heap.size,#[.int .i64 0,.string ⟨#[]⟩,.int .i64 0,.slice none 0 0],24)]) (.mk 9 [] 0 []) (.agg #[.int .i64 9,.string (str []),.int .i64 0,.slice none 0 0])):=NdV.bare 9 [] 0 none 0
  have HZ_z:=zz w
  have hc10:=HW.out.c0
  have hc11:=HW.out.c1
  have hf12:=HW.out.f1
  replace HW:=ħ (HW.out.s1 (.int .i64 9) (.string ⟨#[]⟩) (.int .i64 0) (.slice none 0 0))
  replace HN_z:=HW.out.ms1.N HN_z
  go_wp2_with fail
  generalize (((w9.setCell _ _).setCell _ _).setCell _ _).setCell _ _=w15 at *
  refine bodyPost_ret (rt rfl rfl HW.out.b1) rfl ?_
  exact HW.out.post HS.out (by rw [tk_tail];exact r_ty_int HQ.out) HL.out HZ_z.out HN_z.out
 replace HW:=ħ (HW.out.alloc' w3.heap.size (by simp) #[.int .i64 0,.int .i64 0] 52)
 go_simp
 refine hK.out _ _ (⟨HW.out.ps.cell1,HW.out.two⟩) (fun hHd=>?_)
 clear hK K
 try simp only [qq]
 generalize w3.alloc _=w16 at *
 refine rq 5 fun K hK=>?_
 go_simp
 refine (text_any HW.out.ps).mono ?_
 rintro e w17 ⟨rfl,hww⟩
 replace hww:w16=w17:=hww.symm
 subst hww
 refine hK.out _ _ (⟨HW.out.ps.cell1,HW.out.two⟩) (fun hHd=>?_)
 clear hK K
 try simp only [qq]
 refine tq 6 ?_ (hy:=by (intro w hSw;have hlk:=hSw.2.look (tx ts) HSz.out;rw [H2.out] at hlk;clear hSw;go_simp)<;>with_reducible rfl)
 simp only [qq]
 refine tq 7 ?_
 simp only [qq]
 refine tq 8 ?_
 simp only [qq]
 refine tq 9 ?_
 simp only [qq]
 refine rq 11 fun K hK=>?_
 have hc18:=HW.out.c0
 have hf19:=HW.out.f0
 replace HW:=ħ (HW.out.r00 (.int .i64 9))
 replace HW:=ħ (HW.out.r01 (.int .i64 30))
 go_simp
 refine hK.out _ _ (⟨HW.out.ps.cell1,HW.out.two⟩) (fun hHd=>?_)
 clear hK K
 try simp only [qq]
 generalize (w16.setCell _ _).setCell _ _=w20 at *
 clear hc18 hf19
 refine tq 12 ?_
 simp only [qq]
 refine wpAnyH_done (by kernel_rfl) ?_ _
 go_wp2_with fail
 go_at_call 92
 refine (pass_tx HW.out.ps (by decide) HQx.out).mono ?_
 rintro e w21 ⟨rfl,hP21,hG21⟩
 have HL:Hid (ts.tail.length<ts.length):=Nat.lt_of_lt_of_le (tail_lt (by decide) HQx.out) HS.out.length_le
 replace HW:=ħ (HW.out.call hG21 hP21)
 replace HS:=ħ ((List.tail_suffix _).trans HS.out)
 clear hP21 hG21
 have HN_z:Hid (NdV w21 (Av w.heap.size [(w3.heap.size,#[.int .i64 9,.int .i64 30],52),(w.heap.size,#[.int .i64 0,.string ⟨#[]⟩,.int .i64 0,.slice none 0 0],24)]) (.mk 9 [] 0 []) (.agg #[.int .i64 9,.string (str []),.int .i64 0,.slice none 0 0])):=NdV.bare 9 [] 0 none 0
 have HZ_z:=zz w
 have hc22:=HW.out.c0
 have hc23:=HW.out.c1
 have hf24:=HW.out.f1
 replace HW:=ħ (HW.out.s1 (.int .i64 9) (.string ⟨#[]⟩) (.int .i64 0) (.slice none 0 0))
 replace HN_z:=HW.out.ms1.N HN_z
 go_wp2_with fail
 generalize (((w21.setCell _ _).setCell _ _).setCell _ _).setCell _ _=w27 at *
 refine bodyPost_ret (rt rfl rfl HW.out.b1) rfl ?_
 exact HW.out.post HS.out (by rw [tk_tail];exact r_ty_int HQ.out) HL.out HZ_z.out HN_z.out
theorem typ_long (h:Ps w b g m ts) (hT:Two w b m) (hGl:Og w) (hb5:4<b) (hgl:g<w.heap.size) (hF:Fits ts) (hlen:ts.length≤4000) (hqf:¬ tx ts=str sFN) (hq:tx ts=str sLONG) (hLt:Later 121 .typ b g m ts):Calls Tryz.prog 121 #[.pointer (some ⟨b,0,none⟩)] w (PostN .typ w b g m ts):=by
 have HW:Hid (Wd w w b g m ts []):=Wd.start h hT hGl hb5 hgl
 have HS:=su ts
 have HF:=ħ hF
 have HLn:=ħ hlen
 have HLt:=hide hLt
 have HI0:Hid (Later 121 (.item 0) b g m ts):=fun r hr hl=>(hLt r hr hl).turn (fun _=>r_it0)
 have HSz:Hid ((tx ts).size≤4000):=tx_short hF
 have H2:Hid (twoOf (tx ts)=(10,31,true)):=by rw [hq];rfl
 have HQ:Hid (hd (tk ts)=sLONG):=(tx_hd hF sLONG (⟨_,_,rfl,by decide⟩)).1 hq
 have HQx:=hide hq
 clear hq
 clear hLt
 clear h hT hGl hgl hF hlen
 go_enter Tryz.func121,Tryz.ntmps121
 replace HW:=HW.out.az
 go_wp2_with fail
 generalize w.alloc _=w1 at *
 go_at_call 67
 refine (HW.out.tkN (x:=str sFN) (by decide) hqf).mono ?_
 rintro e w2 ⟨rfl,HW,hG⟩
 clear hG
 clear hqf
 go_wp2_with fail
 replace HW:=ħ (HW.out.quiet (grown_drew w2))
 refine wp_region_held_drew (S:=(fun w'=>w'.cell? ⟨b,1,none⟩=some m∧Two w' b m)) (by kernel_rfl) (⟨HW.out.ps.cell1,HW.out.two⟩) (fun hHd=>?_)
 generalize w2.drew=w3 at *
 refine tq 0 ?_
 simp only [qq]
 refine tq 1 ?_
 simp only [qq]
 refine tq 2 ?_
 simp only [qq]
 refine tq 3 ?_ (hy:=by (intro w hSw;obtain ⟨hs1,hs2⟩:=hSw;go_simp)<;>with_reducible rfl)
 simp only [qq]
 refine tq 4 ?_
 simp only [qq]
 refine rq2 5 10 (fun K hK=>?_) fun K hK=>?_
 ·go_simp
  refine (text_any HW.out.ps).mono ?_
  rintro e w4 ⟨rfl,hww⟩
  replace hww:w3=w4:=hww.symm
  subst hww
  refine hK.out _ _ (⟨HW.out.ps.cell1,HW.out.two⟩) (fun hHd=>?_)
  clear hK K
  try simp only [qq]
  refine tq 6 ?_ (hy:=by (intro w hSw;have hlk:=hSw.2.look (tx ts) HSz.out;rw [H2.out] at hlk;clear hSw;go_simp)<;>with_reducible rfl)
  simp only [qq]
  refine tq 7 ?_
  simp only [qq]
  refine tq 8 ?_
  simp only [qq]
  refine tq 9 ?_
  simp only [qq]
  refine rq 10 fun K hK=>?_
  replace HW:=ħ (HW.out.alloc' w3.heap.size (by simp) #[.int .i64 0,.int .i64 0] 52)
  go_simp
  refine hK.out _ _ (⟨HW.out.ps.cell1,HW.out.two⟩) (fun hHd=>?_)
  clear hK K
  try simp only [qq]
  generalize w3.alloc _=w5 at *
  refine rq 11 fun K hK=>?_
  have hc6:=HW.out.c0
  have hf7:=HW.out.f0
  replace HW:=ħ (HW.out.r00 (.int .i64 10))
  replace HW:=ħ (HW.out.r01 (.int .i64 31))
  go_simp
  refine hK.out _ _ (⟨HW.out.ps.cell1,HW.out.two⟩) (fun hHd=>?_)
  clear hK K
  try simp only [qq]
  generalize (w5.setCell _ _).setCell _ _=w8 at *
  clear hc6 hf7
  refine tq 12 ?_
  simp only [qq]
  refine wpAnyH_done (by kernel_rfl) ?_ _
  go_wp2_with fail
  go_at_call 92
  refine (pass_tx HW.out.ps (by decide) HQx.out).mono ?_
  rintro e w9 ⟨rfl,hP9,hG9⟩
  have HL:Hid (ts.tail.length<ts.length):=Nat.lt_of_lt_of_le (tail_lt (by decide) HQx.out) HS.out.length_le
  replace HW:=ħ (HW.out.call hG9 hP9)
  replace HS:=ħ ((List.tail_suffix _).trans HS.out)
  clear hP9 hG9
  have HN_z:Hid (NdV w9 (Av w.heap.size [(w3.heap.size,#[.int .i64 10,.int .i64 31],52),(w.heap.size,#[.int .i64 0,.string ⟨#[]⟩,.int .i64 0,.slice none 0 0],24)]) (.mk 10 [] 0 []) (.agg #[.int .i64 10,.string (str []),.int .i64 0,.slice none 0 0])):=NdV.bare 10 [] 0 none 0
  have HZ_z:=zz w
  have hc10:=HW.out.c0
  have hc11:=HW.out.c1
  have hf12:=HW.out.f1
  replace HW:=ħ (HW.out.s1 (.int .i64 10) (.string ⟨#[]⟩) (.int .i64 0) (.slice none 0 0))
  replace HN_z:=HW.out.ms1.N HN_z
  go_wp2_with fail
  generalize (((w9.setCell _ _).setCell _ _).setCell _ _).setCell _ _=w15 at *
  refine bodyPost_ret (rt rfl rfl HW.out.b1) rfl ?_
  exact HW.out.post HS.out (by rw [tk_tail];exact r_ty_long HQ.out) HL.out HZ_z.out HN_z.out
 replace HW:=ħ (HW.out.alloc' w3.heap.size (by simp) #[.int .i64 0,.int .i64 0] 52)
 go_simp
 refine hK.out _ _ (⟨HW.out.ps.cell1,HW.out.two⟩) (fun hHd=>?_)
 clear hK K
 try simp only [qq]
 generalize w3.alloc _=w16 at *
 refine rq 5 fun K hK=>?_
 go_simp
 refine (text_any HW.out.ps).mono ?_
 rintro e w17 ⟨rfl,hww⟩
 replace hww:w16=w17:=hww.symm
 subst hww
 refine hK.out _ _ (⟨HW.out.ps.cell1,HW.out.two⟩) (fun hHd=>?_)
 clear hK K
 try simp only [qq]
 refine tq 6 ?_ (hy:=by (intro w hSw;have hlk:=hSw.2.look (tx ts) HSz.out;rw [H2.out] at hlk;clear hSw;go_simp)<;>with_reducible rfl)
 simp only [qq]
 refine tq 7 ?_
 simp only [qq]
 refine tq 8 ?_
 simp only [qq]
 refine tq 9 ?_
 simp only [qq]
 refine rq 11 fun K hK=>?_
 have hc18:=HW.out.c0
 have hf19:=HW.out.f0
 replace HW:=ħ (HW.out.r00 (.int .i64 10))
 replace HW:=ħ (HW.out.r01 (.int .i64 31))
 go_simp
 refine hK.out _ _ (⟨HW.out.ps.cell1,HW.out.two⟩) (fun hHd=>?_)
 clear hK K
 try simp only [qq]
 generalize (w16.setCell _ _).setCell _ _=w20 at *
 clear hc18 hf19
 refine tq 12 ?_
 simp only [qq]
 refine wpAnyH_done (by kernel_rfl) ?_ _
 go_wp2_with fail
 go_at_call 92
 refine (pass_tx HW.out.ps (by decide) HQx.out).mono ?_
 rintro e w21 ⟨rfl,hP21,hG21⟩
 have HL:Hid (ts.tail.length<ts.length):=Nat.lt_of_lt_of_le (tail_lt (by decide) HQx.out) HS.out.length_le
 replace HW:=ħ (HW.out.call hG21 hP21)
 replace HS:=ħ ((List.tail_suffix _).trans HS.out)
 clear hP21 hG21
 have HN_z:Hid (NdV w21 (Av w.heap.size [(w3.heap.size,#[.int .i64 10,.int .i64 31],52),(w.heap.size,#[.int .i64 0,.string ⟨#[]⟩,.int .i64 0,.slice none 0 0],24)]) (.mk 10 [] 0 []) (.agg #[.int .i64 10,.string (str []),.int .i64 0,.slice none 0 0])):=NdV.bare 10 [] 0 none 0
 have HZ_z:=zz w
 have hc22:=HW.out.c0
 have hc23:=HW.out.c1
 have hf24:=HW.out.f1
 replace HW:=ħ (HW.out.s1 (.int .i64 10) (.string ⟨#[]⟩) (.int .i64 0) (.slice none 0 0))
 replace HN_z:=HW.out.ms1.N HN_z
 go_wp2_with fail
 generalize (((w21.setCell _ _).setCell _ _).setCell _ _).setCell _ _=w27 at *
 refine bodyPost_ret (rt rfl rfl HW.out.b1) rfl ?_
 exact HW.out.post HS.out (by rw [tk_tail];exact r_ty_long HQ.out) HL.out HZ_z.out HN_z.out
theorem typ_name (h:Ps w b g m ts) (hT:Two w b m) (hGl:Og w) (hb5:4<b) (hgl:g<w.heap.size) (hF:Fits ts) (hlen:ts.length≤4000) (hqf:¬ tx ts=str sFN) (hq_i:¬ tx ts=str sINT) (hq_l:¬ tx ts=str sLONG) (hLt:Later 121 .typ b g m ts):Calls Tryz.prog 121 #[.pointer (some ⟨b,0,none⟩)] w (PostN .typ w b g m ts):=by
 have HW:Hid (Wd w w b g m ts []):=Wd.start h hT hGl hb5 hgl
 have HS:=su ts
 have HF:=ħ hF
 have HLn:=ħ hlen
 have HLt:=hide hLt
 have HI0:Hid (Later 121 (.item 0) b g m ts):=fun r hr hl=>(hLt r hr hl).turn (fun _=>r_it0)
 have HSz:Hid ((tx ts).size≤4000):=tx_short hF
 have H2:Hid (twoOf (tx ts)=(0,0,false)):=by show twoOf (tx ts)=_;unfold twoOf;rw [if_neg hq_i,if_neg hq_l]
 have HQ_i:Hid (¬ hd (tk ts)=sINT):=fun e=>hq_i ((tx_hd hF sINT (⟨_,_,rfl,by decide⟩)).2 e)
 have HQ_l:Hid (¬ hd (tk ts)=sLONG):=fun e=>hq_l ((tx_hd hF sLONG (⟨_,_,rfl,by decide⟩)).2 e)
 have HQ_f:Hid (¬ hd (tk ts)=sFN):=fun e=>hqf ((tx_hd hF sFN (⟨_,_,rfl,by decide⟩)).2 e)
 clear hq_i hq_l
 clear hLt
 clear h hT hGl hgl hF hlen
 go_enter Tryz.func121,Tryz.ntmps121
 replace HW:=HW.out.az
 go_wp2_with fail
 generalize w.alloc _=w1 at *
 go_at_call 67
 refine (HW.out.tkN (x:=str sFN) (by decide) hqf).mono ?_
 rintro e w2 ⟨rfl,HW,hG⟩
 clear hG
 clear hqf
 go_wp2_with fail
 replace HW:=ħ (HW.out.quiet (grown_drew w2))
 refine wp_region_held_drew (S:=(fun w'=>w'.cell? ⟨b,1,none⟩=some m∧Two w' b m)) (by kernel_rfl) (⟨HW.out.ps.cell1,HW.out.two⟩) (fun hHd=>?_)
 generalize w2.drew=w3 at *
 refine tq 0 ?_
 simp only [qq]
 refine tq 1 ?_
 simp only [qq]
 refine tq 2 ?_
 simp only [qq]
 refine tq 3 ?_ (hy:=by (intro w hSw;obtain ⟨hs1,hs2⟩:=hSw;go_simp)<;>with_reducible rfl)
 simp only [qq]
 refine tq 4 ?_
 simp only [qq]
 refine rq2 5 10 (fun K hK=>?_) fun K hK=>?_
 ·go_simp
  refine (text_any HW.out.ps).mono ?_
  rintro e w4 ⟨rfl,hww⟩
  replace hww:w3=w4:=hww.symm
  subst hww
  refine hK.out _ _ (⟨HW.out.ps.cell1,HW.out.two⟩) (fun hHd=>?_)
  clear hK K
  try simp only [qq]
  refine tq 6 ?_ (hy:=by (intro w hSw;have hlk:=hSw.2.look (tx ts) HSz.out;rw [H2.out] at hlk;clear hSw;go_simp)<;>with_reducible rfl)
  simp only [qq]
  refine tq 7 ?_
  simp only [qq]
  refine tq 8 ?_
  simp only [qq]
  refine tq 9 ?_
  simp only [qq]
  refine rq 10 fun K hK=>?_
  replace HW:=ħ (HW.out.alloc' w3.heap.size (by simp) #[.int .i64 0,.int .i64 0] 52)
  go_simp
  refine hK.out _ _ (⟨HW.out.ps.cell1,HW.out.two⟩) (fun hHd=>?_)
  clear hK K
  try simp only [qq]
  generalize w3.alloc _=w5 at *
  refine rq 11 fun K hK=>?_
  have hc6:=HW.out.c0
  have hf7:=HW.out.f0
  replace HW:=ħ (HW.out.r00 (.int .i64 0))
  replace HW:=ħ (HW.out.r01 (.int .i64 0))
  go_simp
  refine hK.out _ _ (⟨HW.out.ps.cell1,HW.out.two⟩) (fun hHd=>?_)
  clear hK K
  try simp only [qq]
  generalize (w5.setCell _ _).setCell _ _=w8 at *
  clear hc6 hf7
  refine tq 12 ?_
  simp only [qq]
  refine wpAnyH_done (by kernel_rfl) ?_ _
  go_wp2_with fail
  go_at_call 93
  refine (HW.out.nm HS.out HF.out).mono ?_
  rintro e w9 (⟨HQ_s,rfl,HL,hS,hW,hG⟩|⟨hn,rfl,h1⟩)
  rotate_left
  ·exact ⟨rfl,h1,_,HS.out,Or.inr ⟨r_ty_nm0 HQ_i.out HQ_l.out HQ_f.out hn,rfl⟩⟩
  replace HW:=hW
  replace HS:=hS
  clear hG
  have HN_z:Hid (NdV w9 (Av w.heap.size [(w3.heap.size,#[.int .i64 0,.int .i64 0],52),(w.heap.size,#[.int .i64 0,.string ⟨#[]⟩,.int .i64 0,.slice none 0 0],24)]) (.mk 11 (hd (tk ts)) 0 []) (.agg #[.int .i64 11,.string (str (hd (tk ts))),.int .i64 0,.slice none 0 0])):=NdV.bare 11 (hd (tk ts)) 0 none 0
  have HZ_z:=zz w
  have hc10:=HW.out.c0
  have hc11:=HW.out.c1
  have hf12:=HW.out.f1
  replace HW:=ħ (HW.out.s1 (.int .i64 11) (.string (str (hd (tk ts)))) (.int .i64 0) (.slice none 0 0))
  replace HN_z:=HW.out.ms1.N HN_z
  go_wp2_with fail
  generalize (((w9.setCell _ _).setCell _ _).setCell _ _).setCell _ _=w15 at *
  refine bodyPost_ret (rt rfl rfl HW.out.b1) rfl ?_
  exact HW.out.post HS.out (by rw [tk_tail];exact r_ty_nm HQ_i.out HQ_l.out HQ_f.out HQ_s.out) HL.out HZ_z.out HN_z.out
 replace HW:=ħ (HW.out.alloc' w3.heap.size (by simp) #[.int .i64 0,.int .i64 0] 52)
 go_simp
 refine hK.out _ _ (⟨HW.out.ps.cell1,HW.out.two⟩) (fun hHd=>?_)
 clear hK K
 try simp only [qq]
 generalize w3.alloc _=w16 at *
 refine rq 5 fun K hK=>?_
 go_simp
 refine (text_any HW.out.ps).mono ?_
 rintro e w17 ⟨rfl,hww⟩
 replace hww:w16=w17:=hww.symm
 subst hww
 refine hK.out _ _ (⟨HW.out.ps.cell1,HW.out.two⟩) (fun hHd=>?_)
 clear hK K
 try simp only [qq]
 refine tq 6 ?_ (hy:=by (intro w hSw;have hlk:=hSw.2.look (tx ts) HSz.out;rw [H2.out] at hlk;clear hSw;go_simp)<;>with_reducible rfl)
 simp only [qq]
 refine tq 7 ?_
 simp only [qq]
 refine tq 8 ?_
 simp only [qq]
 refine tq 9 ?_
 simp only [qq]
 refine rq 11 fun K hK=>?_
 have hc18:=HW.out.c0
 have hf19:=HW.out.f0
 replace HW:=ħ (HW.out.r00 (.int .i64 0))
 replace HW:=ħ (HW.out.r01 (.int .i64 0))
 go_simp
 refine hK.out _ _ (⟨HW.out.ps.cell1,HW.out.two⟩) (fun hHd=>?_)
 clear hK K
 try simp only [qq]
 generalize (w16.setCell _ _).setCell _ _=w20 at *
 clear hc18 hf19
 refine tq 12 ?_
 simp only [qq]
 refine wpAnyH_done (by kernel_rfl) ?_ _
 go_wp2_with fail
 go_at_call 93
 refine (HW.out.nm HS.out HF.out).mono ?_
 rintro e w21 (⟨HQ_s,rfl,HL,hS,hW,hG⟩|⟨hn,rfl,h1⟩)
 rotate_left
 ·exact ⟨rfl,h1,_,HS.out,Or.inr ⟨r_ty_nm0 HQ_i.out HQ_l.out HQ_f.out hn,rfl⟩⟩
 replace HW:=hW
 replace HS:=hS
 clear hG
 have HN_z:Hid (NdV w21 (Av w.heap.size [(w3.heap.size,#[.int .i64 0,.int .i64 0],52),(w.heap.size,#[.int .i64 0,.string ⟨#[]⟩,.int .i64 0,.slice none 0 0],24)]) (.mk 11 (hd (tk ts)) 0 []) (.agg #[.int .i64 11,.string (str (hd (tk ts))),.int .i64 0,.slice none 0 0])):=NdV.bare 11 (hd (tk ts)) 0 none 0
 have HZ_z:=zz w
 have hc22:=HW.out.c0
 have hc23:=HW.out.c1
 have hf24:=HW.out.f1
 replace HW:=ħ (HW.out.s1 (.int .i64 11) (.string (str (hd (tk ts)))) (.int .i64 0) (.slice none 0 0))
 replace HN_z:=HW.out.ms1.N HN_z
 go_wp2_with fail
 generalize (((w21.setCell _ _).setCell _ _).setCell _ _).setCell _ _=w27 at *
 refine bodyPost_ret (rt rfl rfl HW.out.b1) rfl ?_
 exact HW.out.post HS.out (by rw [tk_tail];exact r_ty_nm HQ_i.out HQ_l.out HQ_f.out HQ_s.out) HL.out HZ_z.out HN_z.out
theorem typ_meth (hb5:4<b):∀ (n:Nat) (ts:List Tok),ts.length=n→Meth 121 .typ b g m ts:=by
 intro n
 induction n using Nat.strongRecOn with
 | ind n ih=>
  intro ts hts w h hT hGl hgl hF hlen
  have L:Later 121 .typ b g m ts:=fun r _ hl=>ih r.length (by omega) r rfl
  by_cases q0:tx ts=str sFN
  ·exact typ_fn h hT hGl hb5 hgl hF hlen q0 L
  by_cases q1:tx ts=str sINT
  ·exact typ_int h hT hGl hb5 hgl hF hlen q0 q1 L
  by_cases q2:tx ts=str sLONG
  ·exact typ_long h hT hGl hb5 hgl hF hlen q0 q2 L
  exact typ_name h hT hGl hb5 hgl hF hlen q0 q1 q2 L
theorem typ_any (hb5:4<b) (ts:List Tok):Meth 121 .typ b g m ts:=typ_meth hb5 _ ts rfl
theorem typed_any (h:Ps w b g m ts) (hT:Two w b m) (hGl:Og w) (hb5:4<b) (hgl:g<w.heap.size) (hF:Fits ts) (hlen:ts.length≤4000) (kind:Int):Calls Tryz.prog 95 #[.pointer (some ⟨b,0,none⟩),.int .i64 kind] w (PostT kind w b g m ts):=by
 have HW:Hid (Wd w w b g m ts []):=Wd.start h hT hGl hb5 hgl
 have HS:=su ts
 have HF:=ħ hF
 have HLn:=ħ hlen
 have HMe:Hid (Meth 121 .typ b g m ts):=typ_any hb5 ts
 clear h hT hGl hgl hF hlen
 go_enter Tryz.func95,Tryz.ntmps95
 replace HW:=HW.out.az
 go_wp2_with fail
 generalize w.alloc _=w1 at *
 go_at_call 121
 refine (HMe.out w1 HW.out.ps HW.out.two HW.out.glo HW.out.glt (HF.out.suf HS.out) (Nat.le_trans HS.out.length_le HLn.out)).mono ?_
 rintro e w2 hp
 obtain ⟨r2,n_t,k_t,t_t,v_t,a_t,l_t,c_t,rfl,HR_t,HN_t,HZ_t,HL,HSt,HLs2,hS,hW,hG⟩|⟨r,hR,rfl,h1,h2⟩:=HW.out.okN HS.out hp
 rotate_left
 ·exact ⟨rfl,h1,_,h2,Or.inr ⟨Or.inl hR,rfl⟩⟩
 replace HW:=hW
 replace HS:=hS
 clear hG hp
 replace HW:=HW.out.an HN_t
 replace HN_t:=HW.out.nA HN_t
 go_wp2_with fail
 generalize w2.alloc _=w3 at *
 replace HN_t:=ħ ((Mv.quiet (grown_drew w3)).nd HN_t.out)
 replace HW:=ħ (HW.out.quiet (grown_drew w3))
 refine wp_region_held_drew (S:=(fun _=>True)) (by kernel_rfl) trivial fun hHd=>?_
 generalize w3.drew=w4 at *
 refine tq 0 ?_
 simp only [qq]
 refine tq 1 ?_
 simp only [qq]
 refine rq2 2 3 (fun K hK=>?_) fun K hK=>?_
 ·go_simp
  refine (HW.out.nm HS.out HF.out).mono ?_
  rintro e w5 (⟨HQ_s,rfl,HL,hS,hW,hG⟩|⟨hn,rfl,h1⟩)
  rotate_left
  ·exact ⟨rfl,h1,_,HS.out,Or.inr ⟨Or.inr ⟨_,HR_t.out,hn⟩,rfl⟩⟩
  replace HN_t:=HW.out.kN HZ_t hG HN_t
  replace HW:=hW
  replace HS:=hS
  clear hG
  refine hK.out _ _ trivial fun hHd=>?_
  clear hK K
  try simp only [qq]
  refine rq 3 fun K hK=>?_
  have hc6:=HW.out.c0
  go_simp
  clear hc6
  refine hK.out _ _ trivial fun hHd=>?_
  clear hK K
  try simp only [qq]
  refine rq 4 fun K hK=>?_
  replace HW:=HW.out.an HN_t
  replace HN_t:=HW.out.nA HN_t
  go_simp
  refine hK.out _ _ trivial fun hHd=>?_
  clear hK K
  try simp only [qq]
  generalize w5.alloc _=w7 at *
  refine tq 5 ?_
  simp only [qq]
  refine rq 6 fun K hK=>?_
  have HM_a:=ħ (RowN.o0 HW.out (HN_t.out.less HZ_t.out))
  have HZ_a:=zz w
  clear HN_t HZ_t
  replace HW:=hide HW.out.d0
  have hc8:=HW.out.c1
  have hf9:=HW.out.f1
  replace HW:=ħ (HW.out.s1 (.int .i64 kind) (.string (str (hd (tk r2)))) (.int .i64 0) ((.slice (some ⟨w5.heap.size,0,none⟩) 1 1)))
  replace HM_a:=HW.out.ms1.R HM_a
  go_simp
  refine hK.out _ _ trivial fun hHd=>?_
  clear hK K
  try simp only [qq]
  generalize (((w7.setCell _ _).setCell _ _).setCell _ _).setCell _ _=w10 at *
  clear hc8 hf9
  refine wpAnyH_done (by kernel_rfl) ?_ _
  go_wp2_with fail
  refine bodyPost_ret (rt rfl rfl HW.out.b1) rfl ?_
  exact ⟨HW.out.grown,_,HS.out,Or.inl ⟨_,_,_,HL.out,⟨_,HR_t.out,HQ_s.out,rfl,tk_tail _⟩,rfl,HM_a.out.move (fun k hk _=>⟨rfl,hk.1⟩),HW.out.ps⟩⟩
 have hc13:=HW.out.c0
 go_simp
 clear hc13
 refine hK.out _ _ trivial fun hHd=>?_
 clear hK K
 try simp only [qq]
 refine rq2 2 4 (fun K hK=>?_) fun K hK=>?_
 ·go_simp
  refine (HW.out.nm HS.out HF.out).mono ?_
  rintro e w14 (⟨HQ_s,rfl,HL,hS,hW,hG⟩|⟨hn,rfl,h1⟩)
  rotate_left
  ·exact ⟨rfl,h1,_,HS.out,Or.inr ⟨Or.inr ⟨_,HR_t.out,hn⟩,rfl⟩⟩
  replace HN_t:=HW.out.kN HZ_t hG HN_t
  replace HW:=hW
  replace HS:=hS
  clear hG
  refine hK.out _ _ trivial fun hHd=>?_
  clear hK K
  try simp only [qq]
  refine rq 4 fun K hK=>?_
  replace HW:=HW.out.an HN_t
  replace HN_t:=HW.out.nA HN_t
  go_simp
  refine hK.out _ _ trivial fun hHd=>?_
  clear hK K
  try simp only [qq]
  generalize w14.alloc _=w15 at *
  refine tq 5 ?_
  simp only [qq]
  refine rq 6 fun K hK=>?_
  have HM_a:=ħ (RowN.o0 HW.out (HN_t.out.less HZ_t.out))
  have HZ_a:=zz w
  clear HN_t HZ_t
  replace HW:=hide HW.out.d0
  have hc16:=HW.out.c1
  have hf17:=HW.out.f1
  replace HW:=ħ (HW.out.s1 (.int .i64 kind) (.string (str (hd (tk r2)))) (.int .i64 0) ((.slice (some ⟨w14.heap.size,0,none⟩) 1 1)))
  replace HM_a:=HW.out.ms1.R HM_a
  go_simp
  refine hK.out _ _ trivial fun hHd=>?_
  clear hK K
  try simp only [qq]
  generalize (((w15.setCell _ _).setCell _ _).setCell _ _).setCell _ _=w18 at *
  clear hc16 hf17
  refine wpAnyH_done (by kernel_rfl) ?_ _
  go_wp2_with fail
  refine bodyPost_ret (rt rfl rfl HW.out.b1) rfl ?_
  exact ⟨HW.out.grown,_,HS.out,Or.inl ⟨_,_,_,HL.out,⟨_,HR_t.out,HQ_s.out,rfl,tk_tail _⟩,rfl,HM_a.out.move (fun k hk _=>⟨rfl,hk.1⟩),HW.out.ps⟩⟩
 replace HW:=HW.out.an HN_t
 replace HN_t:=HW.out.nA HN_t
 go_simp
 refine hK.out _ _ trivial fun hHd=>?_
 clear hK K
 try simp only [qq]
 generalize w4.alloc _=w21 at *
 refine rq 2 fun K hK=>?_
 go_simp
 refine (HW.out.nm HS.out HF.out).mono ?_
 rintro e w22 (⟨HQ_s,rfl,HL,hS,hW,hG⟩|⟨hn,rfl,h1⟩)
 rotate_left
 ·exact ⟨rfl,h1,_,HS.out,Or.inr ⟨Or.inr ⟨_,HR_t.out,hn⟩,rfl⟩⟩
 replace HN_t:=HW.out.kN HZ_t hG HN_t
 replace HW:=hW
 replace HS:=hS
 clear hG
 refine hK.out _ _ trivial fun hHd=>?_
 clear hK K
 try simp only [qq]
 refine tq 5 ?_
 simp only [qq]
 refine rq 6 fun K hK=>?_
 have HM_a:=ħ (RowN.o0 HW.out (HN_t.out.less HZ_t.out))
 have HZ_a:=zz w
 clear HN_t HZ_t
 replace HW:=hide HW.out.d0
 have hc23:=HW.out.c1
 have hf24:=HW.out.f1
 replace HW:=ħ (HW.out.s1 (.int .i64 kind) (.string (str (hd (tk r2)))) (.int .i64 0) ((.slice (some ⟨w4.heap.size,0,none⟩) 1 1)))
 replace HM_a:=HW.out.ms1.R HM_a
 go_simp
 refine hK.out _ _ trivial fun hHd=>?_
 clear hK K
 try simp only [qq]
 generalize (((w22.setCell _ _).setCell _ _).setCell _ _).setCell _ _=w25 at *
 clear hc23 hf24
 refine wpAnyH_done (by kernel_rfl) ?_ _
 go_wp2_with fail
 refine bodyPost_ret (rt rfl rfl HW.out.b1) rfl ?_
 exact ⟨HW.out.grown,_,HS.out,Or.inl ⟨_,_,_,HL.out,⟨_,HR_t.out,HQ_s.out,rfl,tk_tail _⟩,rfl,HM_a.out.move (fun k hk _=>⟨rfl,hk.1⟩),HW.out.ps⟩⟩
theorem param_any (hb5:4<b) (ts:List Tok):Meth 123 (.item 1) b g m ts:=by
 intro w h hT hGl hgl hF hlen
 have HW:Hid (Wd w w b g m ts []):=Wd.start h hT hGl hb5 hgl
 have HS:=su ts
 have HF:=ħ hF
 have HLn:=ħ hlen
 clear h hT hGl hgl hF hlen
 go_enter Tryz.func123,Tryz.ntmps123
 replace HW:=HW.out.az
 go_wp2_with fail
 generalize w.alloc _=w1 at *
 go_at_call 95
 refine (typed_any HW.out.ps HW.out.two HW.out.glo HW.out.bg HW.out.glt (HF.out.suf HS.out) (Nat.le_trans HS.out.length_le HLn.out) 8).mono ?_
 rintro e w2 ⟨hG2,r2,hsu,⟨t_x,s_x,q_x,hlt,hO,rfl,hM,hP2⟩|⟨hO,rfl⟩⟩
 rotate_left
 ·exact ⟨rfl,grown_trans HW.out.grown hG2,_,hsu.trans HS.out,Or.inr ⟨r_it1n hO,rfl⟩⟩
 have HT_x:=hide hO
 have HM_x:=ħ (hM.given HW.out)
 have HZ_x:Hid (w.heap.size≤w1.heap.size):=HW.out.grown.size
 have HSx:Hid (r2 <:+ ts):=hsu
 have HLs2:Hid (r2.length<ts.length):=hlt
 have HL:Hid (r2.length<ts.length):=Nat.lt_of_lt_of_le hlt HS.out.length_le
 replace HW:=ħ (HW.out.call hG2 hP2)
 replace HS:=ħ ((hsu).trans HS.out)
 clear hP2 hG2 hO hM hsu hlt
 have HN_z:=ħ (HM_x.out.node 8 s_x 0)
 have HZ_z:=HZ_x
 clear HM_x HZ_x
 have hc3:=HW.out.c0
 have hf4:=HW.out.f0
 replace HW:=ħ (HW.out.s0 (.int .i64 8) (.string (str s_x)) (.int .i64 0) ((.slice (some ⟨q_x,0,none⟩) 1 1)))
 replace HN_z:=HW.out.ms0.N HN_z
 go_wp2_with fail
 generalize (((w2.setCell _ _).setCell _ _).setCell _ _).setCell _ _=w7 at *
 refine bodyPost_ret (rt rfl rfl HW.out.b0) rfl ?_
 exact HW.out.post HS.out (r_it1 HT_x.out) HL.out HZ_z.out HN_z.out
theorem RowN.both {A A' B:Nat→Prop} {v:Value} {l:List Nd} (h:RowN w (fun k=>A k∧B k) v l) (hm:Mv w w' A A'):RowN w' (fun k=>A' k∧B k) v l:=h.move (fun k hk hl=>⟨(hm k hk.1 hl).1,(hm k hk.1 hl).2,hk.2⟩)
theorem apart_bnd {w0 w:World} {L:List Bk} {s s1:Nat} {v v2:Value} {l l2:List Nd} (h:RowN w (fun k=>Av s L k∧k<s1) v2 l2) (hz:w0.heap.size≤s) (hM:RowN w (Av s1 L) v l):RowN w (fun k=>Av w0.heap.size L k∧some k≠v.ownBlock) v2 l2:=
 h.move (fun k hk _=>⟨rfl,⟨Nat.le_trans hz hk.1.1,hk.1.2⟩,fun e=>by have:=(hM.own k e.symm).1;have:=hk.2;omega⟩)
theorem app_rows_list {w0 w:World} {ops:Array Oper} {rest:List Oper} {o:Oper} {a:Act} {Q:Exit→Act→World→Prop} {L:List Bk} (p q:Operand) (hgd:o.guard=none)
  (ho:o.op=.call { callee:=.builtin .append,args:=#[p,q],argTypes:=#[22,22] }) {s0:Nat} {v v2:Value} {l l2:List Nd}
  (HW:Wd w0 w b g m ts L) (HM:RowN w (Av s0 L) v l) (HM2:RowN w (fun k=>Av w0.heap.size L k∧some k≠v.ownBlock) v2 l2) (hz:w0.heap.size≤s0) (hn:l.length+l2.length≤16000) (hnil:l2≠[]) (hu:True)
  (hs:a.eval p=v) (hx:a.eval q=v2)
  (h:∀ gg cap w',Wd w0 w' b g m ts L→RowN w' (Av w0.heap.size L) (.slice (some ⟨gg,0,none⟩) (l++l2).length cap) (l++l2)→w.grownBy w' v.ownBlock→wpList Tryz.prog ops Q rest (a.put o.dst (.slice (some ⟨gg,0,none⟩) (l++l2).length cap)) w'):
  wpList Tryz.prog ops Q (o::rest) a w:=by
 have hA':Av w0.heap.size L w.heap.size:=⟨HW.grown.size,fun y hy=>by have:=HW.lt y hy;omega⟩
 rcases app_rows (HM.less hz) HM2 hn hA' o.type with ⟨_,e,_⟩|e|⟨gg,cap,w',hr,h3,h4⟩
 ·exact absurd e hnil
 ·exact absurd e hnil
 refine wpList_plain hgd fun K hK=>?_
 unfold Oper.wp execOp
 simp only [ho,resolve,invoke,builtin,Sem.run_bind,Sem.run_pure,Result.andThen_ok,List.map_toArray,List.map_cons,List.map_nil,hs,hx,hr]
 exact hK _ _ (h gg cap w' (HW.rowed h4 (Nat.le_refl _) (fun j hj=>(HM.less hz).own j hj)) h3 h4)
theorem param_later (hb5:4<b) (ts:List Tok):Later 123 (.item 1) b g m ts:=fun r _ _=>param_any hb5 r
def PostF (qn:Nat) (k:Value) (s:Value) (t:Nd) (w0:World) (b g:Nat) (m:Value) (ts:List Tok) (L:List Bk) (e:Ending) (w':World):Prop:=w0.grownBy w' (some b)∧∃ r,r <:+ ts ∧
 ((∃ l d gg cap,r.length<ts.length∧l.length+r.length≤ts.length∧R (.rows 1) (tk ts) (.ok (.row l d) (tk r))∧e=.returned (.tuple #[])∧Wd w0 w' b g m r ((qn,#[k,s,.int .i64 (b2n d),.slice (some ⟨gg,0,none⟩) (l.length+1) cap],24)::L)∧RowN w' (Av w0.heap.size ((qn,#[k,s,.int .i64 (b2n d),.slice (some ⟨gg,0,none⟩) (l.length+1) cap],24)::L)) (.slice (some ⟨gg,0,none⟩) (l.length+1) cap) (l++[t]))∨(R (.rows 1) (tk ts) (.no (tk r))∧e=up r))
theorem function_any {w0 w:World} {L:List Bk} {qn q:Nat} {kk v:Int} {s:ByteArray} {t:Nd} (hW:Wd w0 w b g m ts ((qn,#[.int .i64 kk,.string s,.int .i64 v,.slice (some ⟨q,0,none⟩) 1 1],24)::L)) (hM:RowN w (Av w0.heap.size ((qn,#[.int .i64 kk,.string s,.int .i64 v,.slice (some ⟨q,0,none⟩) 1 1],24)::L)) (.slice (some ⟨q,0,none⟩) 1 1) [t]) (hF:Fits ts) (hlen:ts.length≤4000):Calls Tryz.prog 96 #[.pointer (some ⟨b,0,none⟩),.pointer (some ⟨qn,0,none⟩)] w (PostF qn (.int .i64 kk) (.string s) t w0 b g m ts L):=by
 have HW:Hid (Wd w0 w b g m ts ((qn,#[.int .i64 kk,.string s,.int .i64 v,.slice (some ⟨q,0,none⟩) 1 1],24)::L)):=hW
 have HS:=su ts
 have HF:=ħ hF
 have HLn:=ħ hlen
 have HM_a:=hide hM
 have HZ_a:=zz w0
 clear hW hF hlen hM
 go_enter Tryz.func96,Tryz.ntmps96
 go_wp2_with fail
 replace HM_a:Hid (RowN w (fun j=>Av w0.heap.size ((qn,#[.int .i64 kk,.string s,.int .i64 v,.slice (some ⟨q,0,none⟩) 1 1],24)::L) j∧j<w.heap.size) (.slice (some ⟨q,0,none⟩) 1 1) [t]):=HM_a.out.move (fun j hj hl=>⟨rfl,hj,hl⟩)
 go_at_call 122
 refine (open_param HW.out.ps HW.out.two HW.out.glo HW.out.bg HW.out.glt (HF.out.suf HS.out) (Nat.le_trans HS.out.length_le HLn.out) (param_later HW.out.bg _)).mono ?_
 rintro e w1 ⟨hG1,r1,hsu,⟨l_l,d_l,vv_l,hlt,hll,hR,rfl,hM,hP1⟩|⟨hR,rfl⟩⟩
 rotate_left
 ·exact ⟨rfl,grown_trans HW.out.grown hG1,_,hsu.trans HS.out,Or.inr ⟨hR,rfl⟩⟩
 have HR_l:=hide hR
 have HLl_l:Hid (l_l.length+r1.length≤ts.length):=hll
 have HM_l:=ħ (hM.given HW.out)
 have HZ_l:Hid (w0.heap.size≤w.heap.size):=HW.out.grown.size
 have HSl:Hid (r1 <:+ ts):=hsu
 have HL:Hid (r1.length<ts.length):=Nat.lt_of_lt_of_le hlt HS.out.length_le
 replace HM_a:=ħ (HM_a.out.both (Mv.call (Nat.lt_of_lt_of_le HW.out.bl HZ_a.out) hG1 _))
 replace HW:=ħ (HW.out.call hG1 hP1)
 replace HS:=ħ ((hsu).trans HS.out)
 clear hP1 hG1 hR hM hsu hlt hll
 have hc2:=HW.out.c0
 have hf3:=HW.out.f0
 replace HW:=ħ (HW.out.p02 (.int .i64 (b2n d_l)))
 replace HM_a:=ħ (HM_a.out.both (HW.out.mp02))
 replace HM_l:=HW.out.mp02.R HM_l
 have hc4:=HW.out.c0
 have hf5:=HW.out.f0
 go_wp2_with (at_builtin;refine app_rows_list _ _ rfl rfl HW.out HM_l.out (apart_bnd HM_a.out HZ_a.out HM_l.out) HZ_l.out (by have h1:=HLl_l.out;have h2:=HLn.out;simp only [List.length_cons,List.length_nil];omega) (by simp) (trivial) ?e1 ?e2 ?_;(case e1=>rfl);(case e2=>rfl);skip)
 intro g6 c6 w6 hW6 hM6 hG6
 clear HM_l HM_a HZ_l HZ_a
 replace HW:=ħ (hW6)
 have HM_c:Hid (RowN w6 (Av w0.heap.size ((qn,#[.int .i64 kk,.string s,.int .i64 (b2n d_l),.slice (some ⟨q,0,none⟩) 1 1],24)::L)) (.slice (some ⟨g6,0,none⟩) (l_l.length+1) c6) (l_l++[t])):=hM6
 have HZ_c:=zz w0
 clear hW6 hM6 hG6
 have hc7:=HW.out.c0
 have hf8:=HW.out.f0
 replace HW:=ħ (HW.out.p03 ((.slice (some ⟨g6,0,none⟩) (l_l.length+1) c6)))
 replace HM_c:=HW.out.mp03.R HM_c
 go_wp2_with fail
 generalize w6.setCell _ _=w9 at *
 clear hc7 hf8
 go_end0
 exact ⟨HW.out.grown,_,HS.out,Or.inl ⟨_,_,_,_,HL.out,HLl_l.out,HR_l.out,rfl,HW.out,HM_c.out⟩⟩
theorem num_bound {l:List UInt8} {v:Int} (h:∃ c r,l=c::r∧48≤c.toNat∧c.toNat≤57) (e:Lib.parseIntB 64 l=.ok v):0≤v∧v≤9223372036854775807:=by
 obtain ⟨c,r,rfl,h1,h2⟩:=h
 have n1:¬ (c.toNat=43∨c.toNat=45):=by omega
 have n2:¬ c.toNat=45:=by omega
 simp only [Lib.parseIntB,if_neg n1] at e
 cases hu:Lib.parseUintB 64 (c::r) with
 | «syntax»=>rw [hu] at e;cases e
 | range=>rw [hu] at e;cases e
 | ok u=>
  rw [hu] at e
  simp only [n2] at e
  by_cases h3:2 ^ (64 - 1)≤u
  ·simp [h3] at e
  have h3':u<9223372036854775808:=by simpa using h3
  simp [h3] at e
  omega
theorem number_bound {k x:Int} {r:List Tk} (hF:Fits ts) (h:number (tk ts)=some (.ok (.nd (.mk k [] x [])) r)):0≤x∧x≤9223372036854775807:=by
 cases ts with
 | nil=>cases h
 | cons t ts=>
  have h':number (⟨t.kind,t.text.data.toList⟩::tk ts)=some (.ok (.nd (.mk k [] x [])) r):=h
  unfold number at h'
  simp only at h'
  have hf:=hF t List.mem_cons_self
  by_cases h2:t.kind=2
  ·rw [if_pos h2] at h'
   obtain ⟨h3,h4⟩:=hf.num (Or.inl h2)
   have e:digits t.text.data.toList 0=x:=by injection h' with h';injection h' with h' _;injection h' with h';injection h'
   rw [e] at h4
   exact num_bound h3 h4
  rw [if_neg h2] at h'
  by_cases h3:t.kind=3
  ·rw [if_pos h3] at h'
   obtain ⟨h5,h4⟩:=hf.num (Or.inr h3)
   have e:digits t.text.data.toList 0=x:=by injection h' with h';injection h' with h' _;injection h' with h';injection h'
   rw [e] at h4
   exact num_bound h5 h4
  rw [if_neg h3] at h'
  cases h'
def PostV (w:World) (b g:Nat) (m:Value) (ts:List Tok) (e:Ending) (w':World):Prop:=w.grownBy w' (some b)∧∃ r,r <:+ ts ∧
 ((∃ k x,r.length<ts.length∧number (if hd (tk ts)=sMINUS then (tk ts).tail else tk ts)=some (.ok (.nd (.mk k [] x [])) (tk r))∧e=.returned (.agg #[.int .i64 k,.string ⟨#[]⟩,.int .i64 (if hd (tk ts)=sMINUS then -x else x),.slice none 0 0])∧Ps w' b g m r)∨(number (if hd (tk ts)=sMINUS then (tk ts).tail else tk ts)=some (.no (tk r))∧e=up r))
theorem value_any (h:Ps w b g m ts) (hT:Two w b m) (hGl:Og w) (hb5:4<b) (hgl:g<w.heap.size) (hF:Fits ts) (hlen:ts.length≤4000):Calls Tryz.prog 97 #[.pointer (some ⟨b,0,none⟩)] w (PostV w b g m ts):=by
 have HW:Hid (Wd w w b g m ts []):=Wd.start h hT hGl hb5 hgl
 have HS:=su ts
 have HF:=ħ hF
 have HLn:=ħ hlen
 clear h hT hGl hgl hF hlen
 go_enter Tryz.func97,Tryz.ntmps97
 replace HW:=HW.out.az
 go_wp2_with fail
 generalize w.alloc _=w1 at *
 by_cases hq:tx ts=str sMINUS
 ·have HQ:Hid (hd (tk ts)=sMINUS):=(tx_hd (HF.out.suf HS.out) sMINUS (⟨_,_,rfl,by decide⟩)).1 hq
  go_at_call 67
  refine (HW.out.tkY HS.out (x:=str sMINUS) (by decide) hq).mono ?_
  rintro e w2 ⟨rfl,HL,HLs,HS,HW,hG⟩
  clear hG
  clear hq
  go_wp2_with fail
  go_at_call 124
  refine (number_any HW.out.ps (HF.out.suf HS.out)).mono ?_
  rintro e w3 ⟨hG3,⟨kk,x,hnum,rfl,hP3⟩|⟨hnum,rfl⟩⟩
  rotate_left
  ·exact ⟨rfl,grown_trans HW.out.grown hG3,_,HS.out,Or.inr ⟨by rw [if_pos HQ.out,← tk_tail];exact hnum,rfl⟩⟩
  have HNum:Hid (number (if hd (tk ts)=sMINUS then (tk ts).tail else tk ts)=some (.ok (.nd (.mk kk [] x [])) (tk ts.tail.tail))):=by rw [if_pos HQ.out,← tk_tail];exact hnum
  obtain ⟨hx0,hx1⟩:=number_bound (HF.out.suf HS.out) hnum
  have HL:Hid (ts.tail.tail.length<ts.length):=Nat.lt_of_lt_of_le (number_lt hnum) HS.out.length_le
  replace HW:=ħ (HW.out.call hG3 hP3)
  replace HS:=ħ ((List.tail_suffix _).trans HS.out)
  clear hP3 hG3 hnum
  replace HW:=HW.out.al w3.heap.size #[.int .i64 kk,.string ⟨#[]⟩,.int .i64 (-x),.slice none 0 0]
  have hc4:=HW.out.c0
  have hc5:=HW.out.c1
  have hf6:=HW.out.f1
  have hf7:=HW.out.f1
  replace HW:=ħ (HW.out.s1 (.int .i64 kk) (.string ⟨#[]⟩) (.int .i64 (-x)) (.slice none 0 0))
  go_wp2_with fail
  generalize ((((w3.alloc _).setCell _ _).setCell _ _).setCell _ _).setCell _ _=w10 at *
  refine bodyPost_ret (rt rfl rfl HW.out.b1) rfl ?_
  exact ⟨HW.out.grown,_,HS.out,Or.inl ⟨kk,x,HL.out,HNum.out,by rw [if_pos HQ.out],HW.out.ps⟩⟩
 have HQ:Hid (¬ hd (tk ts)=sMINUS):=fun e=>hq ((tx_hd (HF.out.suf HS.out) sMINUS (⟨_,_,rfl,by decide⟩)).2 e)
 go_at_call 67
 refine (HW.out.tkN (x:=str sMINUS) (by decide) hq).mono ?_
 rintro e w11 ⟨rfl,HW,hG⟩
 clear hG
 clear hq
 go_wp2_with fail
 go_at_call 124
 refine (number_any HW.out.ps (HF.out.suf HS.out)).mono ?_
 rintro e w12 ⟨hG12,⟨kk,x,hnum,rfl,hP12⟩|⟨hnum,rfl⟩⟩
 rotate_left
 ·exact ⟨rfl,grown_trans HW.out.grown hG12,_,HS.out,Or.inr ⟨by rw [if_neg HQ.out];exact hnum,rfl⟩⟩
 have HNum:Hid (number (if hd (tk ts)=sMINUS then (tk ts).tail else tk ts)=some (.ok (.nd (.mk kk [] x [])) (tk ts.tail))):=by rw [if_neg HQ.out];exact hnum
 obtain ⟨hx0,hx1⟩:=number_bound (HF.out.suf HS.out) hnum
 have HL:Hid (ts.tail.length<ts.length):=Nat.lt_of_lt_of_le (number_lt hnum) HS.out.length_le
 replace HW:=ħ (HW.out.call hG12 hP12)
 replace HS:=ħ ((List.tail_suffix _).trans HS.out)
 clear hP12 hG12 hnum
 replace HW:=HW.out.al w12.heap.size #[.int .i64 kk,.string ⟨#[]⟩,.int .i64 x,.slice none 0 0]
 have hc13:=HW.out.c0
 have hc14:=HW.out.c1
 have hf15:=HW.out.f1
 have hf16:=HW.out.f1
 replace HW:=ħ (HW.out.s1 (.int .i64 kk) (.string ⟨#[]⟩) (.int .i64 x) (.slice none 0 0))
 go_wp2_with fail
 generalize ((((w12.alloc _).setCell _ _).setCell _ _).setCell _ _).setCell _ _=w19 at *
 refine bodyPost_ret (rt rfl rfl HW.out.b1) rfl ?_
 exact ⟨HW.out.grown,_,HS.out,Or.inl ⟨kk,x,HL.out,HNum.out,by rw [if_neg HQ.out],HW.out.ps⟩⟩
inductive Ch:Nd→Bool→Prop
 | nm (s:List UInt8):Ch (.mk 23 s 0 []) false
 | dot (s:List UInt8) (x:Nd) (c:Bool):Ch x c→Ch (.mk 24 s 0 [x]) c
 | call (x:Nd) (l:List Nd) (c:Bool):Ch x c→Ch (.mk 25 [] 0 (x::l)) true
def kindN:Nd→Int|.mk k _ _ _=>k
theorem NdV.kid0 {A:Nat→Prop} {k v:Int} {t:List UInt8} {x:Nd} {l:List Nd} {vv:Value} (h:NdV w A (.mk k t v (x::l)) vv):∃ g kc k2 t2 v2 a2 n2 c2,vv=.agg #[.int .i64 k,.string (str t),.int .i64 v,.slice (some ⟨g,0,none⟩) (l.length+1) kc]∧A g∧w.cell? ⟨g,0,none⟩=some (.int .i64 k2)∧w.cell? ⟨g,1,none⟩=some (.string t2)∧w.cell? ⟨g,2,none⟩=some (.int .i64 v2)∧w.cell? ⟨g,3,none⟩=some (.slice a2 n2 c2)∧NdV w A x (.agg #[.int .i64 k2,.string t2,.int .i64 v2,.slice a2 n2 c2])∧l.length+1≤kc∧kc≤9223372036854775807:=by
 cases h with
 | full _ _ _ _ g kc c hne h1 h2 hA hc hs=>
  have hx:NdV w A x (.agg #[c 0 0,c 0 1,c 0 2,c 0 3]):=hs 0 (by simp)
  obtain ⟨k2,t2,v2,a2,n2,c2,e⟩:=hx.form
  have e':c 0 0=.int .i64 k2∧c 0 1=.string t2∧c 0 2=.int .i64 v2∧c 0 3=.slice a2 n2 c2:=by simpa using e
  have q0:=hc 0 0 (by simp) (by omega)
  have q1:=hc 0 1 (by simp) (by omega)
  have q2:=hc 0 2 (by simp) (by omega)
  have q3:=hc 0 3 (by simp) (by omega)
  rw [e'.1] at q0
  rw [e'.2.1] at q1
  rw [e'.2.2.1] at q2
  rw [e'.2.2.2] at q3
  rw [e'.1,e'.2.1,e'.2.2.1,e'.2.2.2] at hx
  exact ⟨g,kc,k2,t2,v2,a2,n2,c2,rfl,hA,q0,q1,q2,q3,hx,h1,h2⟩
theorem NdV.none0 {A:Nat→Prop} {k v:Int} {t:List UInt8} {vv:Value} (h:NdV w A (.mk k t v []) vv):∃ ka kc,vv=.agg #[.int .i64 k,.string (str t),.int .i64 v,.slice ka 0 kc]:=by
 cases h with
 | leaf _ _ _ ka kc hk=>exact ⟨ka,kc,rfl⟩
 | full _ _ _ _ g kc c hne=>exact absurd rfl hne
def Hc (q:Nat) (c:Bool) (k:Nat) (w:World):Prop:=∃ n v,SizeOf.sizeOf n=k∧NdV w (fun j=>j<q) n (.agg v)∧Ch n c∧w.heap[q]?=some (.cells v 24 (0,0))
theorem Hc.kid {q:Nat} {c:Bool} {x:Nd} {k2 v2:Int} {t2:ByteArray} {a2:Option Addr} {n2 c2:Nat} {o0 o1 o2 o3:Value} (hx:NdV w (fun j=>j<q) x (.agg #[.int .i64 k2,.string t2,.int .i64 v2,.slice a2 n2 c2])) (hc:Ch x c) (hq:w.heap[q]?=some (.cells #[o0,o1,o2,o3] 24 (0,0))):
  Hc q c (SizeOf.sizeOf x) ((((w.setCell ⟨q,0,none⟩ (.int .i64 k2)).setCell ⟨q,1,none⟩ (.string t2)).setCell ⟨q,2,none⟩ (.int .i64 v2)).setCell ⟨q,3,none⟩ (.slice a2 n2 c2)):=by
 refine ⟨x,_,rfl,hx.move (fun j hj hl=>⟨?_,hj⟩),hc,(Y.set4 (.int .i64 k2) (.string t2) (.int .i64 v2) (.slice a2 n2 c2) hq).1⟩
 have hne:j≠q:=by have:j<q:=hj;omega
 rw [heap_setCell_other _ _ j _ hne,heap_setCell_other _ _ j _ hne,heap_setCell_other _ _ j _ hne,heap_setCell_other _ _ j _ hne]
theorem place_ch {A:Nat→Prop} {n0:Nd} {v0:Value} {c0:Bool} (hv:NdV w A n0 v0) (hc:Ch n0 c0):Calls Tryz.prog 148 #[v0] w fun e w'=>e=.returned (.bool (!c0))∧w.grownBy w' none:=by
 obtain ⟨k1,t1,v1,a1,n1,c1,rfl⟩:=hv.form
 have HH:Hid (Hc w.heap.size c0 (SizeOf.sizeOf n0) (w.alloc (.cells #[.int .i64 k1,.string t1,.int .i64 v1,.slice a1 n1 c1] 24))):=⟨n0,_,rfl,hv.move (fun j hj hl=>⟨Below.heap_alloc w _ _ hl,hl⟩),hc,heap_new w _ _⟩
 have HB0:Hid (w.grownBy (w.alloc (.cells #[.int .i64 k1,.string t1,.int .i64 v1,.slice a1 n1 c1] 24)) none):=grown_alloc w _
 clear hv hc
 go_enter Tryz.func148,Tryz.ntmps148
 go_wp2_with fail
 generalize w.alloc (.cells #[.int .i64 k1,.string t1,.int .i64 v1,.slice a1 n1 c1] 24)=W at *
 go_loopw [] (fun wr=>Hid ((∃ k,Hc w.heap.size c0 k wr)∧w.grownBy wr none)) (fun wr=>least fun k=>Hc w.heap.size c0 k wr)
 case atStart=>exact ⟨⟨_,HH.out⟩,HB0.out⟩
 case round=>
  have hL:=least_spec hrel.out.1
  have HBr:=hide hrel.out.2
  generalize hmu:(least fun k=>Hc w.heap.size c0 k wr)=mu at *
  have HMu:=hide hmu
  clear hmu hrel
  obtain ⟨n,vv,hsz,hnd,hch,hcell⟩:=hL
  have HSz:=hide hsz
  clear hsz
  cases hch with
  | nm s=>
   obtain ⟨ka,kc,hvv⟩:=hnd.none0
   obtain rfl:vv=_:=Value.agg.inj hvv
   have hcq:=cells_at hcell
   clear hvv hcell hnd
   go_wp2_with fail
   go_ret
   exact ⟨rfl,HBr.out⟩
  | dot s x c hch=>
   obtain ⟨g1,kc,k2,t2,v2,a2,n2,c2,hvv,hg1,q0,q1,q2,q3,hx,hk1,hk2⟩:=hnd.kid0
   obtain rfl:vv=_:=Value.agg.inj hvv
   have hcq:=cells_at hcell
   have hfq:=frozen_at hcell
   have HH2:=ħ (Hc.kid hx hch hcell)
   have HB2:Hid (w.grownBy ((((wr.setCell ⟨w.heap.size,0,none⟩ (.int .i64 k2)).setCell ⟨w.heap.size,1,none⟩ (.string t2)).setCell ⟨w.heap.size,2,none⟩ (.int .i64 v2)).setCell ⟨w.heap.size,3,none⟩ (.slice a2 n2 c2)) none):=grown_set (grown_set (grown_set (grown_set HBr.out (Nat.le_refl _)) (Nat.le_refl _)) (Nat.le_refl _)) (Nat.le_refl _)
   have HLt:Hid (SizeOf.sizeOf x<mu):=by show _<_;rw [← HSz.out];exact kid_lt (by simp)
   have hgne:g1≠w.heap.size:=by have:g1<w.heap.size:=hg1;omega
   clear hvv hx hcell hnd hg1
   go_wp2_with fail
   go_roundw
   case rel=>exact ⟨⟨_,HH2.out⟩,HB2.out⟩
   case measure=>exact Nat.lt_of_le_of_lt (least_le HH2.out) HLt.out
  | call x l c hch=>
   obtain ⟨g1,kc,k2,t2,v2,a2,n2,c2,hvv,hg1,q0,q1,q2,q3,hx,hk1,hk2⟩:=hnd.kid0
   obtain rfl:vv=_:=Value.agg.inj hvv
   have hcq:=cells_at hcell
   clear hvv hx hcell hnd hg1 q0 q1 q2 q3
   go_wp2_with fail
   go_ret
   exact ⟨rfl,HBr.out⟩
theorem call_ch {A:Nat→Prop} {n0:Nd} {v0:Value} {c0:Bool} (hv:NdV w A n0 v0) (hc:Ch n0 c0):Calls Tryz.prog 149 #[v0] w fun e w'=>e=.returned (.bool (decide (kindN n0=25)))∧w.grownBy w' none:=by
 have hk0:∃ t v kids,n0=.mk (kindN n0) t v kids:=by obtain ⟨k,t,v,kids⟩:=n0;exact ⟨t,v,kids,rfl⟩
 obtain ⟨k1,t1,v1,a1,n1,c1,rfl⟩:=hv.form
 have hk1:k1=kindN n0:=by
  obtain ⟨k,t,v,kids⟩:=n0
  cases hv with
  | leaf=>rfl
  | full=>rfl
 have HH:Hid (Hc w.heap.size c0 (SizeOf.sizeOf n0) (w.alloc (.cells #[.int .i64 k1,.string t1,.int .i64 v1,.slice a1 n1 c1] 24))):=⟨n0,_,rfl,hv.move (fun j hj hl=>⟨Below.heap_alloc w _ _ hl,hl⟩),hc,heap_new w _ _⟩
 have HB0:Hid (w.grownBy (w.alloc (.cells #[.int .i64 k1,.string t1,.int .i64 v1,.slice a1 n1 c1] 24)) none):=grown_alloc w _
 have hcn:=cells_at (heap_new w #[.int .i64 k1,.string t1,.int .i64 v1,.slice a1 n1 c1] 24)
 rw [← hk1]
 clear hv hc hk0 hk1
 by_cases h25:k1=25
 ·subst h25
  go_enter Tryz.func149,Tryz.ntmps149
  go_wp2_with fail
  generalize w.alloc (.cells #[.int .i64 25,.string t1,.int .i64 v1,.slice a1 n1 c1] 24)=W at *
  go_loopw [] (fun wr=>Hid ((∃ k c,Hc w.heap.size c k wr)∧w.grownBy wr none)) (fun wr=>least fun k=>∃ c,Hc w.heap.size c k wr)
  case atStart=>exact ⟨⟨_,_,HH.out⟩,HB0.out⟩
  case round=>
   have hL:=least_spec hrel.out.1
   have HBr:=hide hrel.out.2
   generalize hmu:(least fun k=>∃ c,Hc w.heap.size c k wr)=mu at *
   have HMu:=hide hmu
   clear hmu hrel hcn
   obtain ⟨c',n,vv,hsz,hnd,hch,hcell⟩:=hL
   have HSz:=hide hsz
   clear hsz
   cases hch with
   | nm s=>
    obtain ⟨ka,kc,hvv⟩:=hnd.none0
    obtain rfl:vv=_:=Value.agg.inj hvv
    have hcq:=cells_at hcell
    clear hvv hcell hnd
    go_wp2_with fail
    go_ret
    exact ⟨rfl,HBr.out⟩
   | dot s x c hch=>
    obtain ⟨g1,kc,k2,t2,v2,a2,n2,c2,hvv,hg1,q0,q1,q2,q3,hx,hk1,hk2⟩:=hnd.kid0
    obtain rfl:vv=_:=Value.agg.inj hvv
    have hcq:=cells_at hcell
    have hfq:=frozen_at hcell
    have HH2:=ħ (Hc.kid hx hch hcell)
    have HB2:Hid (w.grownBy ((((wr.setCell ⟨w.heap.size,0,none⟩ (.int .i64 k2)).setCell ⟨w.heap.size,1,none⟩ (.string t2)).setCell ⟨w.heap.size,2,none⟩ (.int .i64 v2)).setCell ⟨w.heap.size,3,none⟩ (.slice a2 n2 c2)) none):=grown_set (grown_set (grown_set (grown_set HBr.out (Nat.le_refl _)) (Nat.le_refl _)) (Nat.le_refl _)) (Nat.le_refl _)
    have HLt:Hid (SizeOf.sizeOf x<mu):=by show _<_;rw [← HSz.out];exact kid_lt (by simp)
    have hgne:g1≠w.heap.size:=by have:g1<w.heap.size:=hg1;omega
    clear hvv hx hcell hnd hg1
    go_wp2_with fail
    go_roundw
    case rel=>exact ⟨⟨_,_,HH2.out⟩,HB2.out⟩
    case measure=>exact Nat.lt_of_le_of_lt (least_le ⟨_,HH2.out⟩) HLt.out
   | call x l c hch=>
    obtain ⟨g1,kc,k2,t2,v2,a2,n2,c2,hvv,hg1,q0,q1,q2,q3,hx,hk1,hk2⟩:=hnd.kid0
    obtain rfl:vv=_:=Value.agg.inj hvv
    have hcq:=cells_at hcell
    have hfq:=frozen_at hcell
    have HH2:=ħ (Hc.kid hx hch hcell)
    have HB2:Hid (w.grownBy ((((wr.setCell ⟨w.heap.size,0,none⟩ (.int .i64 k2)).setCell ⟨w.heap.size,1,none⟩ (.string t2)).setCell ⟨w.heap.size,2,none⟩ (.int .i64 v2)).setCell ⟨w.heap.size,3,none⟩ (.slice a2 n2 c2)) none):=grown_set (grown_set (grown_set (grown_set HBr.out (Nat.le_refl _)) (Nat.le_refl _)) (Nat.le_refl _)) (Nat.le_refl _)
    have HLt:Hid (SizeOf.sizeOf x<mu):=by show _<_;rw [← HSz.out];exact kid_lt (by simp)
    have hgne:g1≠w.heap.size:=by have:g1<w.heap.size:=hg1;omega
    clear hvv hx hcell hnd hg1
    go_wp2_with fail
    go_roundw
    case rel=>exact ⟨⟨_,_,HH2.out⟩,HB2.out⟩
    case measure=>exact Nat.lt_of_le_of_lt (least_le ⟨_,HH2.out⟩) HLt.out
 have h25':(k1 == 25)=false:=by simpa using h25
 rw [decide_eq_false h25]
 go_enter Tryz.func149,Tryz.ntmps149
 go_wp2_with fail
 go_ret
 exact ⟨rfl,HB0.out⟩
end Go.Proofs.YthcfianhdkolhaaGreatDoor.Y
