/- PbJ -/
import Derived.Test.YthcfianhdkolhaaGreatDoorShelf
import Derived.Test.YthcfianhdkolhaaGreatDoorPbI
namespace Go.Proofs.YthcfianhdkolhaaGreatDoor.Y
open Go.RowKit Go.Proofs.YthcfianhdkolhaaGreatDoor.X Go.Proofs.YthcfianhdkolhaaGreatDoor.T Go.Proofs.YthcfianhdkolhaaGreatDoor.S
set_option maxRecDepth 100000
set_option maxHeartbeats 2000000
set_option linter.unusedVariables false
set_option linter.unusedSimpArgs false
variable {w w' : World} {b g : Nat} {m : Value} {ts : List Tok} {t : Tok}
theorem r_ty_int {ts:List Tk} (h:hd ts=sINT):R .typ ts (.ok (.nd (.mk 9 [] 0 [])) ts.tail):=⟨1,by simp [P,F,h,okN]⟩
theorem r_ty_long {ts:List Tk} (h:hd ts=sLONG):R .typ ts (.ok (.nd (.mk 10 [] 0 [])) ts.tail):=⟨1,by simp [P,F,h,okN]⟩
theorem r_ty_fn0 {ts r:List Tk} (h:hd ts=sFN) (a:R (.rows 0) ts.tail (.no r)):R .typ ts (.no r):=by
 obtain ⟨n,e⟩:=a
 exact ⟨n+1,by simp [P,F,h,andR,e]⟩
theorem r_ty_fn1 {ts r r2:List Tk} {l:List Nd} {d:Bool} (h:hd ts=sFN) (a:R (.rows 0) ts.tail (.ok (.row l d) r)) (k:R .typ r (.no r2)):R .typ ts (.no r2):=by
 obtain ⟨n,e,e2⟩:=both a k
 exact ⟨n+1,by simp [P,F,h,andR,e,andN,e2]⟩
theorem r_ty_fn2 {ts r r2:List Tk} {l:List Nd} {d:Bool} {t:Nd} (h:hd ts=sFN) (a:R (.rows 0) ts.tail (.ok (.row l d) r)) (k:R .typ r (.ok (.nd t) r2)):R .typ ts (.ok (.nd (.mk 12 [] (b2n d) (l++[t]))) r2):=by
 obtain ⟨n,e,e2⟩:=both a k
 exact ⟨n+1,by simp [P,F,h,andR,e,andN,e2,okN]⟩
theorem r_ty_nm {ts:List Tk} (n1:¬ hd ts=sINT) (n2:¬ hd ts=sLONG) (n3:¬ hd ts=sFN) (h:nameB (hd ts)=true):R .typ ts (.ok (.nd (.mk 11 (hd ts) 0 [])) ts.tail):=⟨1,by simp [P,F,n1,n2,n3,S.name,h,okN]⟩
theorem r_ty_nm0 {ts:List Tk} (n1:¬ hd ts=sINT) (n2:¬ hd ts=sLONG) (n3:¬ hd ts=sFN) (h:nameB (hd ts)=false):R .typ ts (.no ts):=⟨1,by simp [P,F,n1,n2,n3,S.name,h]⟩
theorem r_it0 {ts:List Tk} {q:Res} (a:R .typ ts q):R (.item 0) ts q:=by
 obtain ⟨n,e⟩:=a
 exact ⟨n+1,by simp [P,F,e]⟩
def TyOk (ts:List Tk) (t:Nd) (s:List UInt8) (r:List Tk):Prop:=∃ r1,R .typ ts (.ok (.nd t) r1)∧nameB (hd r1)=true∧s=hd r1∧r=r1.tail
def TyNo (ts r:List Tk):Prop:=R .typ ts (.no r)∨∃ t,R .typ ts (.ok (.nd t) r)∧nameB (hd r)=false
def PostT (kind:Int) (w:World) (b g:Nat) (m:Value) (ts:List Tok) (e:Ending) (w':World):Prop:=w.grownBy w' (some b)∧∃ r,r <:+ ts ∧
 ((∃ t s q,r.length<ts.length∧TyOk (tk ts) t s (tk r)∧e=.returned (.agg #[.int .i64 kind,.string (str s),.int .i64 0,.slice (some ⟨q,0,none⟩) 1 1])∧RowN w' (fun k=>w.heap.size≤k) (.slice (some ⟨q,0,none⟩) 1 1) [t]∧Ps w' b g m r)∨(TyNo (tk ts) (tk r)∧e=up r))
theorem r_it1 {ts r:List Tk} {t:Nd} {s:List UInt8} (h:TyOk ts t s r):R (.item 1) ts (.ok (.nd (.mk 8 s 0 [t])) r):=by
 obtain ⟨r1,⟨n,e⟩,h2,rfl,rfl⟩:=h
 exact ⟨n+1,by simp [P,F,andN,e,S.name,h2,okN]⟩
theorem r_it1n {ts r:List Tk} (h:TyNo ts r):R (.item 1) ts (.no r):=by
 rcases h with ⟨n,e⟩|⟨t,⟨n,e⟩,h2⟩
 ·exact ⟨n+1,by simp [P,F,andN,e]⟩
 ·exact ⟨n+1,by simp [P,F,andN,e,S.name,h2]⟩
theorem typ_fn (h:Ps w b g m ts) (hT:Two w b m) (hGl:T.Gl w) (hb5:4<b) (hgl:g<w.heap.size) (hF:Fits ts) (hlen:ts.length≤4000) (hq:tx ts=str sFN) (hLt:Later 121 .typ b g m ts):Calls Tryz.prog 121 #[.pointer (some ⟨b,0,none⟩)] w (PostN .typ w b g m ts):=by
 have HW:Hid (Wd w w b g m ts []):=Wd.start h hT hGl hb5 hgl
 have HS:Hid (ts <:+ ts):=List.suffix_refl _
 have HF:Hid (Fits ts):=hF
 have HLn:Hid (ts.length≤4000):=hlen
 have HLt:=hide hLt
 have HI0:Hid (Later 121 (.item 0) b g m ts):=fun r hr hl=>(hLt r hr hl).turn (fun _=>r_it0)
 have HSz:Hid ((tx ts).size≤4000):=tx_short hF
 clear hLt
 clear h hT hGl hgl hF hlen
 go_enter Tryz.func121,Tryz.ntmps121
 replace HW:=hide (HW.out.alloc' w.heap.size (by simp) #[.int .i64 0,.string ⟨#[]⟩,.int .i64 0,.slice none 0 0] 24)
 go_wp2_with fail
 generalize w.alloc _=w1 at *
 have HQ:Hid (hd (tk ts)=sFN):=(tx_hd (HF.out.suf HS.out) sFN (⟨_,_,rfl,by decide⟩)).1 hq
 go_at_call 67
 refine (HW.out.tkY HS.out (x:=str sFN) (by decide) hq).mono ?_
 rintro e w2 ⟨rfl,HL,HLs,hS,hW,hG⟩
 replace HW:=hW
 replace HS:=hS
 clear hG
 clear hq
 go_wp2_with fail
 go_at_call 122
 refine (open_typ HW.out.ps HW.out.two HW.out.glo HW.out.bg HW.out.glt (HF.out.suf HS.out) (Nat.le_trans HS.out.length_le HLn.out) (HI0.out.suf HS.out)).mono ?_
 rintro e w3 ⟨hG3,r3,hsu,⟨l_l,d_l,vv_l,hlt,hll,hR,rfl,hM,hP3⟩|⟨hR,rfl⟩⟩
 rotate_left
 ·exact ⟨rfl,grown_trans HW.out.grown hG3,_,hsu.trans HS.out,Or.inr ⟨r_ty_fn0 HQ.out (by rw [← tk_tail];exact hR),rfl⟩⟩
 have HR_l:=hide hR
 have HLl_l:Hid (l_l.length+r3.length≤ts.tail.length):=hll
 have HM_l:=hide (hM.given HW.out)
 have HZ_l:Hid (w.heap.size≤w2.heap.size):=HW.out.grown.size
 have HSl:Hid (r3 <:+ ts.tail):=hsu
 have HL:Hid (r3.length<ts.length):=Nat.lt_of_lt_of_le hlt HS.out.length_le
 replace HW:=hide (HW.out.call hG3 hP3)
 replace HS:=hide ((hsu).trans HS.out)
 clear hP3 hG3 hR hM hsu hlt hll
 go_wp2_with fail
 go_at_call 121
 refine (HLt.out r3 HS.out HL.out w3 HW.out.ps HW.out.two HW.out.glo HW.out.glt (HF.out.suf HS.out) (Nat.le_trans HS.out.length_le HLn.out)).mono ?_
 rintro e w4 hp
 obtain ⟨r4,n_t,k_t,t_t,v_t,a_t,l_t,c_t,rfl,HR_t,HN_t,HZ_t,HL,HSt,HLs2,hS,hW,hG⟩|⟨r,hR,rfl,h1,h2⟩:=HW.out.okN HS.out hp
 rotate_left
 ·exact ⟨rfl,h1,_,h2,Or.inr ⟨r_ty_fn1 HQ.out (by rw [← tk_tail];exact HR_l.out) hR,rfl⟩⟩
 have HO_l:=hide HM_l.out.lt
 replace HM_l:=hide ((Mv.call (Nat.lt_of_lt_of_le HW.out.bl HZ_l.out) hG _).row HM_l.out)
 replace HW:=hW
 replace HS:=hS
 clear hG hp
 replace HW:=hide (HW.out.alloc' w4.heap.size (by simp) #[.int .i64 k_t,.string t_t,.int .i64 v_t,.slice a_t l_t c_t] 24)
 replace HN_t:=hide ((HW.out.ma (by simp)).nd HN_t.out)
 replace HM_l:=hide ((HW.out.ma (by simp)).row HM_l.out)
 go_wp2_with (at_builtin;refine app_l0 _ _ rfl rfl HW.out HM_l.out HN_t.out HZ_l.out HZ_t.out HO_l.out (by have h1:=HLl_l.out;have h2:=HLn.out;have h3:=(List.tail_suffix ts).length_le;omega) ⟨rfl,rfl,rfl,rfl⟩ ?e1 ?e2 ?_;(case e1=>rfl);(case e2=>rfl);skip)
 intro g5 c5 w5 hW hM hG
 clear HM_l HN_t HZ_l HZ_t HO_l
 replace HW:=hide hW
 have HM_l2:=hide hM
 have HZ_l2:Hid (w.heap.size≤w.heap.size):=Nat.le_refl _
 clear hW hM hG
 have HN_z:=hide (HM_l2.out.node 12 [] (b2n d_l))
 have HZ_z:=HZ_l2
 clear HM_l2 HZ_l2
 have hc6:=HW.out.c0
 have hf7:=HW.out.f0
 replace HW:=hide (HW.out.s0 (.int .i64 12) (.string ⟨#[]⟩) (.int .i64 (b2n d_l)) ((.slice (some ⟨g5,0,none⟩) (l_l.length+1) c5)))
 replace HN_z:=hide ((HW.out.ms0).nd HN_z.out)
 have hc8:=HW.out.c0
 have hl9:=HW.out.l0
 go_wp2_with fail
 generalize (((w5.setCell _ _).setCell _ _).setCell _ _).setCell _ _=w10 at *
 refine bodyPost_ret (v:=(.agg #[.int .i64 12,.string ⟨#[]⟩,.int .i64 (b2n d_l),(.slice (some ⟨g5,0,none⟩) (l_l.length+1) c5)])) (by simp [results,Tryz.results121,go_sem,hc8,hl9]) rfl ?_
 exact HW.out.post HS.out (r_ty_fn2 HQ.out (by rw [← tk_tail];exact HR_l.out) HR_t.out) HL.out HZ_z.out HN_z.out
theorem typ_int (h:Ps w b g m ts) (hT:Two w b m) (hGl:T.Gl w) (hb5:4<b) (hgl:g<w.heap.size) (hF:Fits ts) (hlen:ts.length≤4000) (hqf:¬ tx ts=str sFN) (hq:tx ts=str sINT) (hLt:Later 121 .typ b g m ts):Calls Tryz.prog 121 #[.pointer (some ⟨b,0,none⟩)] w (PostN .typ w b g m ts):=by
 have HW:Hid (Wd w w b g m ts []):=Wd.start h hT hGl hb5 hgl
 have HS:Hid (ts <:+ ts):=List.suffix_refl _
 have HF:Hid (Fits ts):=hF
 have HLn:Hid (ts.length≤4000):=hlen
 have HLt:=hide hLt
 have HI0:Hid (Later 121 (.item 0) b g m ts):=fun r hr hl=>(hLt r hr hl).turn (fun _=>r_it0)
 have HSz:Hid ((tx ts).size≤4000):=tx_short hF
 have H2:Hid (twoOf (tx ts)=(9,30,true)):=by rw [hq];rfl
 have HQ:Hid (hd (tk ts)=sINT):=(tx_hd hF sINT (⟨_,_,rfl,by decide⟩)).1 hq
 have HQx:=hide hq
 clear hq
 clear hLt
 clear h hT hGl hgl hF hlen
 go_enter Tryz.func121,Tryz.ntmps121
 replace HW:=hide (HW.out.alloc' w.heap.size (by simp) #[.int .i64 0,.string ⟨#[]⟩,.int .i64 0,.slice none 0 0] 24)
 go_wp2_with fail
 generalize w.alloc _=w1 at *
 go_at_call 67
 refine (HW.out.tkN (x:=str sFN) (by decide) hqf).mono ?_
 rintro e w2 ⟨rfl,hW,hG⟩
 replace HW:=hW
 clear hG
 clear hqf
 go_wp2_with fail
 replace HW:=hide (HW.out.quiet (grown_drew w2))
 refine wp_region_held_drew (S:=(fun w'=>w'.cell? ⟨b,1,none⟩=some m∧Two w' b m)) (by kernel_rfl) (⟨HW.out.ps.cell1,HW.out.two⟩) (fun hHd=>?_)
 generalize w2.drew=w3 at *
 refine tq 0 ?_
 simp only [qq]
 refine tq 1 ?_
 simp only [qq]
 refine tq 2 ?_
 simp only [qq]
 refine tq 3 ?_ (hy:=by (intro w hSw;obtain ⟨hs1,hs2⟩:=hSw;go_simp)<;>with_reducible rfl)
 simp only [qq]
 refine tq 4 ?_
 simp only [qq]
 refine rq2 5 10 (fun K hK=>?_) fun K hK=>?_
 ·go_simp
  refine (text_any HW.out.ps).mono ?_
  rintro e w4 ⟨rfl,hww⟩
  replace hww:w3=w4:=hww.symm
  subst hww
  refine hK.out _ _ (⟨HW.out.ps.cell1,HW.out.two⟩) (fun hHd=>?_)
  clear hK K
  try simp only [qq]
  refine tq 6 ?_ (hy:=by (intro w hSw;have hlk:=hSw.2.look (tx ts) HSz.out;rw [H2.out] at hlk;clear hSw;go_simp)<;>with_reducible rfl)
  simp only [qq]
  refine tq 7 ?_
  simp only [qq]
  refine tq 8 ?_
  simp only [qq]
  refine tq 9 ?_
  simp only [qq]
  refine rq 10 fun K hK=>?_
  replace HW:=hide (HW.out.alloc' w3.heap.size (by simp) #[.int .i64 0,.int .i64 0] 52)
  go_simp
  refine hK.out _ _ (⟨HW.out.ps.cell1,HW.out.two⟩) (fun hHd=>?_)
  clear hK K
  try simp only [qq]
  generalize w3.alloc _=w5 at *
  refine rq 11 fun K hK=>?_
  have hc6:=HW.out.c0
  have hf7:=HW.out.f0
  replace HW:=hide (HW.out.r00 (.int .i64 9))
  replace HW:=hide (HW.out.r01 (.int .i64 30))
  go_simp
  refine hK.out _ _ (⟨HW.out.ps.cell1,HW.out.two⟩) (fun hHd=>?_)
  clear hK K
  try simp only [qq]
  generalize (w5.setCell _ _).setCell _ _=w8 at *
  clear hc6 hf7
  refine tq 12 ?_
  simp only [qq]
  refine wpAnyH_done (by kernel_rfl) ?_ _
  go_wp2_with fail
  go_at_call 92
  refine (pass_tx HW.out.ps (by decide) HQx.out).mono ?_
  rintro e w9 ⟨rfl,hP9,hG9⟩
  have HL:Hid (ts.tail.length<ts.length):=Nat.lt_of_lt_of_le (tail_lt (by decide) HQx.out) HS.out.length_le
  replace HW:=hide (HW.out.call hG9 hP9)
  replace HS:=hide ((List.tail_suffix _).trans HS.out)
  clear hP9 hG9
  have HN_z:Hid (NdV w9 (Av w.heap.size [(w3.heap.size,#[.int .i64 9,.int .i64 30],52),(w.heap.size,#[.int .i64 0,.string ⟨#[]⟩,.int .i64 0,.slice none 0 0],24)]) (.mk 9 [] 0 []) (.agg #[.int .i64 9,.string (str []),.int .i64 0,.slice none 0 0])):=NdV.bare 9 [] 0 none 0
  have HZ_z:Hid (w.heap.size≤w.heap.size):=Nat.le_refl _
  have hc10:=HW.out.c0
  have hc11:=HW.out.c1
  have hf12:=HW.out.f1
  replace HW:=hide (HW.out.s1 (.int .i64 9) (.string ⟨#[]⟩) (.int .i64 0) (.slice none 0 0))
  replace HN_z:=hide ((HW.out.ms1).nd HN_z.out)
  have hc13:=HW.out.c1
  have hl14:=HW.out.l1
  go_wp2_with fail
  generalize (((w9.setCell _ _).setCell _ _).setCell _ _).setCell _ _=w15 at *
  refine bodyPost_ret (v:=(.agg #[.int .i64 9,.string ⟨#[]⟩,.int .i64 0,.slice none 0 0])) (by simp [results,Tryz.results121,go_sem,hc13,hl14]) rfl ?_
  exact HW.out.post HS.out (by rw [tk_tail];exact r_ty_int HQ.out) HL.out HZ_z.out HN_z.out
 ·replace HW:=hide (HW.out.alloc' w3.heap.size (by simp) #[.int .i64 0,.int .i64 0] 52)
  go_simp
  refine hK.out _ _ (⟨HW.out.ps.cell1,HW.out.two⟩) (fun hHd=>?_)
  clear hK K
  try simp only [qq]
  generalize w3.alloc _=w16 at *
  refine rq 5 fun K hK=>?_
  go_simp
  refine (text_any HW.out.ps).mono ?_
  rintro e w17 ⟨rfl,hww⟩
  replace hww:w16=w17:=hww.symm
  subst hww
  refine hK.out _ _ (⟨HW.out.ps.cell1,HW.out.two⟩) (fun hHd=>?_)
  clear hK K
  try simp only [qq]
  refine tq 6 ?_ (hy:=by (intro w hSw;have hlk:=hSw.2.look (tx ts) HSz.out;rw [H2.out] at hlk;clear hSw;go_simp)<;>with_reducible rfl)
  simp only [qq]
  refine tq 7 ?_
  simp only [qq]
  refine tq 8 ?_
  simp only [qq]
  refine tq 9 ?_
  simp only [qq]
  refine rq 11 fun K hK=>?_
  have hc18:=HW.out.c0
  have hf19:=HW.out.f0
  replace HW:=hide (HW.out.r00 (.int .i64 9))
  replace HW:=hide (HW.out.r01 (.int .i64 30))
  go_simp
  refine hK.out _ _ (⟨HW.out.ps.cell1,HW.out.two⟩) (fun hHd=>?_)
  clear hK K
  try simp only [qq]
  generalize (w16.setCell _ _).setCell _ _=w20 at *
  clear hc18 hf19
  refine tq 12 ?_
  simp only [qq]
  refine wpAnyH_done (by kernel_rfl) ?_ _
  go_wp2_with fail
  go_at_call 92
  refine (pass_tx HW.out.ps (by decide) HQx.out).mono ?_
  rintro e w21 ⟨rfl,hP21,hG21⟩
  have HL:Hid (ts.tail.length<ts.length):=Nat.lt_of_lt_of_le (tail_lt (by decide) HQx.out) HS.out.length_le
  replace HW:=hide (HW.out.call hG21 hP21)
  replace HS:=hide ((List.tail_suffix _).trans HS.out)
  clear hP21 hG21
  have HN_z:Hid (NdV w21 (Av w.heap.size [(w3.heap.size,#[.int .i64 9,.int .i64 30],52),(w.heap.size,#[.int .i64 0,.string ⟨#[]⟩,.int .i64 0,.slice none 0 0],24)]) (.mk 9 [] 0 []) (.agg #[.int .i64 9,.string (str []),.int .i64 0,.slice none 0 0])):=NdV.bare 9 [] 0 none 0
  have HZ_z:Hid (w.heap.size≤w.heap.size):=Nat.le_refl _
  have hc22:=HW.out.c0
  have hc23:=HW.out.c1
  have hf24:=HW.out.f1
  replace HW:=hide (HW.out.s1 (.int .i64 9) (.string ⟨#[]⟩) (.int .i64 0) (.slice none 0 0))
  replace HN_z:=hide ((HW.out.ms1).nd HN_z.out)
  have hc25:=HW.out.c1
  have hl26:=HW.out.l1
  go_wp2_with fail
  generalize (((w21.setCell _ _).setCell _ _).setCell _ _).setCell _ _=w27 at *
  refine bodyPost_ret (v:=(.agg #[.int .i64 9,.string ⟨#[]⟩,.int .i64 0,.slice none 0 0])) (by simp [results,Tryz.results121,go_sem,hc25,hl26]) rfl ?_
  exact HW.out.post HS.out (by rw [tk_tail];exact r_ty_int HQ.out) HL.out HZ_z.out HN_z.out
theorem typ_long (h:Ps w b g m ts) (hT:Two w b m) (hGl:T.Gl w) (hb5:4<b) (hgl:g<w.heap.size) (hF:Fits ts) (hlen:ts.length≤4000) (hqf:¬ tx ts=str sFN) (hq:tx ts=str sLONG) (hLt:Later 121 .typ b g m ts):Calls Tryz.prog 121 #[.pointer (some ⟨b,0,none⟩)] w (PostN .typ w b g m ts):=by
 have HW:Hid (Wd w w b g m ts []):=Wd.start h hT hGl hb5 hgl
 have HS:Hid (ts <:+ ts):=List.suffix_refl _
 have HF:Hid (Fits ts):=hF
 have HLn:Hid (ts.length≤4000):=hlen
 have HLt:=hide hLt
 have HI0:Hid (Later 121 (.item 0) b g m ts):=fun r hr hl=>(hLt r hr hl).turn (fun _=>r_it0)
 have HSz:Hid ((tx ts).size≤4000):=tx_short hF
 have H2:Hid (twoOf (tx ts)=(10,31,true)):=by rw [hq];rfl
 have HQ:Hid (hd (tk ts)=sLONG):=(tx_hd hF sLONG (⟨_,_,rfl,by decide⟩)).1 hq
 have HQx:=hide hq
 clear hq
 clear hLt
 clear h hT hGl hgl hF hlen
 go_enter Tryz.func121,Tryz.ntmps121
 replace HW:=hide (HW.out.alloc' w.heap.size (by simp) #[.int .i64 0,.string ⟨#[]⟩,.int .i64 0,.slice none 0 0] 24)
 go_wp2_with fail
 generalize w.alloc _=w1 at *
 go_at_call 67
 refine (HW.out.tkN (x:=str sFN) (by decide) hqf).mono ?_
 rintro e w2 ⟨rfl,hW,hG⟩
 replace HW:=hW
 clear hG
 clear hqf
 go_wp2_with fail
 replace HW:=hide (HW.out.quiet (grown_drew w2))
 refine wp_region_held_drew (S:=(fun w'=>w'.cell? ⟨b,1,none⟩=some m∧Two w' b m)) (by kernel_rfl) (⟨HW.out.ps.cell1,HW.out.two⟩) (fun hHd=>?_)
 generalize w2.drew=w3 at *
 refine tq 0 ?_
 simp only [qq]
 refine tq 1 ?_
 simp only [qq]
 refine tq 2 ?_
 simp only [qq]
 refine tq 3 ?_ (hy:=by (intro w hSw;obtain ⟨hs1,hs2⟩:=hSw;go_simp)<;>with_reducible rfl)
 simp only [qq]
 refine tq 4 ?_
 simp only [qq]
 refine rq2 5 10 (fun K hK=>?_) fun K hK=>?_
 ·go_simp
  refine (text_any HW.out.ps).mono ?_
  rintro e w4 ⟨rfl,hww⟩
  replace hww:w3=w4:=hww.symm
  subst hww
  refine hK.out _ _ (⟨HW.out.ps.cell1,HW.out.two⟩) (fun hHd=>?_)
  clear hK K
  try simp only [qq]
  refine tq 6 ?_ (hy:=by (intro w hSw;have hlk:=hSw.2.look (tx ts) HSz.out;rw [H2.out] at hlk;clear hSw;go_simp)<;>with_reducible rfl)
  simp only [qq]
  refine tq 7 ?_
  simp only [qq]
  refine tq 8 ?_
  simp only [qq]
  refine tq 9 ?_
  simp only [qq]
  refine rq 10 fun K hK=>?_
  replace HW:=hide (HW.out.alloc' w3.heap.size (by simp) #[.int .i64 0,.int .i64 0] 52)
  go_simp
  refine hK.out _ _ (⟨HW.out.ps.cell1,HW.out.two⟩) (fun hHd=>?_)
  clear hK K
  try simp only [qq]
  generalize w3.alloc _=w5 at *
  refine rq 11 fun K hK=>?_
  have hc6:=HW.out.c0
  have hf7:=HW.out.f0
  replace HW:=hide (HW.out.r00 (.int .i64 10))
  replace HW:=hide (HW.out.r01 (.int .i64 31))
  go_simp
  refine hK.out _ _ (⟨HW.out.ps.cell1,HW.out.two⟩) (fun hHd=>?_)
  clear hK K
  try simp only [qq]
  generalize (w5.setCell _ _).setCell _ _=w8 at *
  clear hc6 hf7
  refine tq 12 ?_
  simp only [qq]
  refine wpAnyH_done (by kernel_rfl) ?_ _
  go_wp2_with fail
  go_at_call 92
  refine (pass_tx HW.out.ps (by decide) HQx.out).mono ?_
  rintro e w9 ⟨rfl,hP9,hG9⟩
  have HL:Hid (ts.tail.length<ts.length):=Nat.lt_of_lt_of_le (tail_lt (by decide) HQx.out) HS.out.length_le
  replace HW:=hide (HW.out.call hG9 hP9)
  replace HS:=hide ((List.tail_suffix _).trans HS.out)
  clear hP9 hG9
  have HN_z:Hid (NdV w9 (Av w.heap.size [(w3.heap.size,#[.int .i64 10,.int .i64 31],52),(w.heap.size,#[.int .i64 0,.string ⟨#[]⟩,.int .i64 0,.slice none 0 0],24)]) (.mk 10 [] 0 []) (.agg #[.int .i64 10,.string (str []),.int .i64 0,.slice none 0 0])):=NdV.bare 10 [] 0 none 0
  have HZ_z:Hid (w.heap.size≤w.heap.size):=Nat.le_refl _
  have hc10:=HW.out.c0
  have hc11:=HW.out.c1
  have hf12:=HW.out.f1
  replace HW:=hide (HW.out.s1 (.int .i64 10) (.string ⟨#[]⟩) (.int .i64 0) (.slice none 0 0))
  replace HN_z:=hide ((HW.out.ms1).nd HN_z.out)
  have hc13:=HW.out.c1
  have hl14:=HW.out.l1
  go_wp2_with fail
  generalize (((w9.setCell _ _).setCell _ _).setCell _ _).setCell _ _=w15 at *
  refine bodyPost_ret (v:=(.agg #[.int .i64 10,.string ⟨#[]⟩,.int .i64 0,.slice none 0 0])) (by simp [results,Tryz.results121,go_sem,hc13,hl14]) rfl ?_
  exact HW.out.post HS.out (by rw [tk_tail];exact r_ty_long HQ.out) HL.out HZ_z.out HN_z.out
 ·replace HW:=hide (HW.out.alloc' w3.heap.size (by simp) #[.int .i64 0,.int .i64 0] 52)
  go_simp
  refine hK.out _ _ (⟨HW.out.ps.cell1,HW.out.two⟩) (fun hHd=>?_)
  clear hK K
  try simp only [qq]
  generalize w3.alloc _=w16 at *
  refine rq 5 fun K hK=>?_
  go_simp
  refine (text_any HW.out.ps).mono ?_
  rintro e w17 ⟨rfl,hww⟩
  replace hww:w16=w17:=hww.symm
  subst hww
  refine hK.out _ _ (⟨HW.out.ps.cell1,HW.out.two⟩) (fun hHd=>?_)
  clear hK K
  try simp only [qq]
  refine tq 6 ?_ (hy:=by (intro w hSw;have hlk:=hSw.2.look (tx ts) HSz.out;rw [H2.out] at hlk;clear hSw;go_simp)<;>with_reducible rfl)
  simp only [qq]
  refine tq 7 ?_
  simp only [qq]
  refine tq 8 ?_
  simp only [qq]
  refine tq 9 ?_
  simp only [qq]
  refine rq 11 fun K hK=>?_
  have hc18:=HW.out.c0
  have hf19:=HW.out.f0
  replace HW:=hide (HW.out.r00 (.int .i64 10))
  replace HW:=hide (HW.out.r01 (.int .i64 31))
  go_simp
  refine hK.out _ _ (⟨HW.out.ps.cell1,HW.out.two⟩) (fun hHd=>?_)
  clear hK K
  try simp only [qq]
  generalize (w16.setCell _ _).setCell _ _=w20 at *
  clear hc18 hf19
  refine tq 12 ?_
  simp only [qq]
  refine wpAnyH_done (by kernel_rfl) ?_ _
  go_wp2_with fail
  go_at_call 92
  refine (pass_tx HW.out.ps (by decide) HQx.out).mono ?_
  rintro e w21 ⟨rfl,hP21,hG21⟩
  have HL:Hid (ts.tail.length<ts.length):=Nat.lt_of_lt_of_le (tail_lt (by decide) HQx.out) HS.out.length_le
  replace HW:=hide (HW.out.call hG21 hP21)
  replace HS:=hide ((List.tail_suffix _).trans HS.out)
  clear hP21 hG21
  have HN_z:Hid (NdV w21 (Av w.heap.size [(w3.heap.size,#[.int .i64 10,.int .i64 31],52),(w.heap.size,#[.int .i64 0,.string ⟨#[]⟩,.int .i64 0,.slice none 0 0],24)]) (.mk 10 [] 0 []) (.agg #[.int .i64 10,.string (str []),.int .i64 0,.slice none 0 0])):=NdV.bare 10 [] 0 none 0
  have HZ_z:Hid (w.heap.size≤w.heap.size):=Nat.le_refl _
  have hc22:=HW.out.c0
  have hc23:=HW.out.c1
  have hf24:=HW.out.f1
  replace HW:=hide (HW.out.s1 (.int .i64 10) (.string ⟨#[]⟩) (.int .i64 0) (.slice none 0 0))
  replace HN_z:=hide ((HW.out.ms1).nd HN_z.out)
  have hc25:=HW.out.c1
  have hl26:=HW.out.l1
  go_wp2_with fail
  generalize (((w21.setCell _ _).setCell _ _).setCell _ _).setCell _ _=w27 at *
  refine bodyPost_ret (v:=(.agg #[.int .i64 10,.string ⟨#[]⟩,.int .i64 0,.slice none 0 0])) (by simp [results,Tryz.results121,go_sem,hc25,hl26]) rfl ?_
  exact HW.out.post HS.out (by rw [tk_tail];exact r_ty_long HQ.out) HL.out HZ_z.out HN_z.out
theorem typ_name (h:Ps w b g m ts) (hT:Two w b m) (hGl:T.Gl w) (hb5:4<b) (hgl:g<w.heap.size) (hF:Fits ts) (hlen:ts.length≤4000) (hqf:¬ tx ts=str sFN) (hq_i:¬ tx ts=str sINT) (hq_l:¬ tx ts=str sLONG) (hLt:Later 121 .typ b g m ts):Calls Tryz.prog 121 #[.pointer (some ⟨b,0,none⟩)] w (PostN .typ w b g m ts):=by
 have HW:Hid (Wd w w b g m ts []):=Wd.start h hT hGl hb5 hgl
 have HS:Hid (ts <:+ ts):=List.suffix_refl _
 have HF:Hid (Fits ts):=hF
 have HLn:Hid (ts.length≤4000):=hlen
 have HLt:=hide hLt
 have HI0:Hid (Later 121 (.item 0) b g m ts):=fun r hr hl=>(hLt r hr hl).turn (fun _=>r_it0)
 have HSz:Hid ((tx ts).size≤4000):=tx_short hF
 have H2:Hid (twoOf (tx ts)=(0,0,false)):=by show twoOf (tx ts)=_;unfold twoOf;rw [if_neg hq_i,if_neg hq_l]
 have HQ_i:Hid (¬ hd (tk ts)=sINT):=fun e=>hq_i ((tx_hd hF sINT (⟨_,_,rfl,by decide⟩)).2 e)
 have HQ_l:Hid (¬ hd (tk ts)=sLONG):=fun e=>hq_l ((tx_hd hF sLONG (⟨_,_,rfl,by decide⟩)).2 e)
 have HQ_f:Hid (¬ hd (tk ts)=sFN):=fun e=>hqf ((tx_hd hF sFN (⟨_,_,rfl,by decide⟩)).2 e)
 clear hq_i hq_l
 clear hLt
 clear h hT hGl hgl hF hlen
 go_enter Tryz.func121,Tryz.ntmps121
 replace HW:=hide (HW.out.alloc' w.heap.size (by simp) #[.int .i64 0,.string ⟨#[]⟩,.int .i64 0,.slice none 0 0] 24)
 go_wp2_with fail
 generalize w.alloc _=w1 at *
 go_at_call 67
 refine (HW.out.tkN (x:=str sFN) (by decide) hqf).mono ?_
 rintro e w2 ⟨rfl,hW,hG⟩
 replace HW:=hW
 clear hG
 clear hqf
 go_wp2_with fail
 replace HW:=hide (HW.out.quiet (grown_drew w2))
 refine wp_region_held_drew (S:=(fun w'=>w'.cell? ⟨b,1,none⟩=some m∧Two w' b m)) (by kernel_rfl) (⟨HW.out.ps.cell1,HW.out.two⟩) (fun hHd=>?_)
 generalize w2.drew=w3 at *
 refine tq 0 ?_
 simp only [qq]
 refine tq 1 ?_
 simp only [qq]
 refine tq 2 ?_
 simp only [qq]
 refine tq 3 ?_ (hy:=by (intro w hSw;obtain ⟨hs1,hs2⟩:=hSw;go_simp)<;>with_reducible rfl)
 simp only [qq]
 refine tq 4 ?_
 simp only [qq]
 refine rq2 5 10 (fun K hK=>?_) fun K hK=>?_
 ·go_simp
  refine (text_any HW.out.ps).mono ?_
  rintro e w4 ⟨rfl,hww⟩
  replace hww:w3=w4:=hww.symm
  subst hww
  refine hK.out _ _ (⟨HW.out.ps.cell1,HW.out.two⟩) (fun hHd=>?_)
  clear hK K
  try simp only [qq]
  refine tq 6 ?_ (hy:=by (intro w hSw;have hlk:=hSw.2.look (tx ts) HSz.out;rw [H2.out] at hlk;clear hSw;go_simp)<;>with_reducible rfl)
  simp only [qq]
  refine tq 7 ?_
  simp only [qq]
  refine tq 8 ?_
  simp only [qq]
  refine tq 9 ?_
  simp only [qq]
  refine rq 10 fun K hK=>?_
  replace HW:=hide (HW.out.alloc' w3.heap.size (by simp) #[.int .i64 0,.int .i64 0] 52)
  go_simp
  refine hK.out _ _ (⟨HW.out.ps.cell1,HW.out.two⟩) (fun hHd=>?_)
  clear hK K
  try simp only [qq]
  generalize w3.alloc _=w5 at *
  refine rq 11 fun K hK=>?_
  have hc6:=HW.out.c0
  have hf7:=HW.out.f0
  replace HW:=hide (HW.out.r00 (.int .i64 0))
  replace HW:=hide (HW.out.r01 (.int .i64 0))
  go_simp
  refine hK.out _ _ (⟨HW.out.ps.cell1,HW.out.two⟩) (fun hHd=>?_)
  clear hK K
  try simp only [qq]
  generalize (w5.setCell _ _).setCell _ _=w8 at *
  clear hc6 hf7
  refine tq 12 ?_
  simp only [qq]
  refine wpAnyH_done (by kernel_rfl) ?_ _
  go_wp2_with fail
  go_at_call 93
  refine (HW.out.nm HS.out HF.out).mono ?_
  rintro e w9 (⟨HQ_s,rfl,HL,hS,hW,hG⟩|⟨hn,rfl,h1⟩)
  rotate_left
  ·exact ⟨rfl,h1,_,HS.out,Or.inr ⟨r_ty_nm0 HQ_i.out HQ_l.out HQ_f.out hn,rfl⟩⟩
  replace HW:=hW
  replace HS:=hS
  clear hG
  have HN_z:Hid (NdV w9 (Av w.heap.size [(w3.heap.size,#[.int .i64 0,.int .i64 0],52),(w.heap.size,#[.int .i64 0,.string ⟨#[]⟩,.int .i64 0,.slice none 0 0],24)]) (.mk 11 (hd (tk ts)) 0 []) (.agg #[.int .i64 11,.string (str (hd (tk ts))),.int .i64 0,.slice none 0 0])):=NdV.bare 11 (hd (tk ts)) 0 none 0
  have HZ_z:Hid (w.heap.size≤w.heap.size):=Nat.le_refl _
  have hc10:=HW.out.c0
  have hc11:=HW.out.c1
  have hf12:=HW.out.f1
  replace HW:=hide (HW.out.s1 (.int .i64 11) (.string (str (hd (tk ts)))) (.int .i64 0) (.slice none 0 0))
  replace HN_z:=hide ((HW.out.ms1).nd HN_z.out)
  have hc13:=HW.out.c1
  have hl14:=HW.out.l1
  go_wp2_with fail
  generalize (((w9.setCell _ _).setCell _ _).setCell _ _).setCell _ _=w15 at *
  refine bodyPost_ret (v:=(.agg #[.int .i64 11,.string (str (hd (tk ts))),.int .i64 0,.slice none 0 0])) (by simp [results,Tryz.results121,go_sem,hc13,hl14]) rfl ?_
  exact HW.out.post HS.out (by rw [tk_tail];exact r_ty_nm HQ_i.out HQ_l.out HQ_f.out HQ_s.out) HL.out HZ_z.out HN_z.out
 ·replace HW:=hide (HW.out.alloc' w3.heap.size (by simp) #[.int .i64 0,.int .i64 0] 52)
  go_simp
  refine hK.out _ _ (⟨HW.out.ps.cell1,HW.out.two⟩) (fun hHd=>?_)
  clear hK K
  try simp only [qq]
  generalize w3.alloc _=w16 at *
  refine rq 5 fun K hK=>?_
  go_simp
  refine (text_any HW.out.ps).mono ?_
  rintro e w17 ⟨rfl,hww⟩
  replace hww:w16=w17:=hww.symm
  subst hww
  refine hK.out _ _ (⟨HW.out.ps.cell1,HW.out.two⟩) (fun hHd=>?_)
  clear hK K
  try simp only [qq]
  refine tq 6 ?_ (hy:=by (intro w hSw;have hlk:=hSw.2.look (tx ts) HSz.out;rw [H2.out] at hlk;clear hSw;go_simp)<;>with_reducible rfl)
  simp only [qq]
  refine tq 7 ?_
  simp only [qq]
  refine tq 8 ?_
  simp only [qq]
  refine tq 9 ?_
  simp only [qq]
  refine rq 11 fun K hK=>?_
  have hc18:=HW.out.c0
  have hf19:=HW.out.f0
  replace HW:=hide (HW.out.r00 (.int .i64 0))
  replace HW:=hide (HW.out.r01 (.int .i64 0))
  go_simp
  refine hK.out _ _ (⟨HW.out.ps.cell1,HW.out.two⟩) (fun hHd=>?_)
  clear hK K
  try simp only [qq]
  generalize (w16.setCell _ _).setCell _ _=w20 at *
  clear hc18 hf19
  refine tq 12 ?_
  simp only [qq]
  refine wpAnyH_done (by kernel_rfl) ?_ _
  go_wp2_with fail
  go_at_call 93
  refine (HW.out.nm HS.out HF.out).mono ?_
  rintro e w21 (⟨HQ_s,rfl,HL,hS,hW,hG⟩|⟨hn,rfl,h1⟩)
  rotate_left
  ·exact ⟨rfl,h1,_,HS.out,Or.inr ⟨r_ty_nm0 HQ_i.out HQ_l.out HQ_f.out hn,rfl⟩⟩
  replace HW:=hW
  replace HS:=hS
  clear hG
  have HN_z:Hid (NdV w21 (Av w.heap.size [(w3.heap.size,#[.int .i64 0,.int .i64 0],52),(w.heap.size,#[.int .i64 0,.string ⟨#[]⟩,.int .i64 0,.slice none 0 0],24)]) (.mk 11 (hd (tk ts)) 0 []) (.agg #[.int .i64 11,.string (str (hd (tk ts))),.int .i64 0,.slice none 0 0])):=NdV.bare 11 (hd (tk ts)) 0 none 0
  have HZ_z:Hid (w.heap.size≤w.heap.size):=Nat.le_refl _
  have hc22:=HW.out.c0
  have hc23:=HW.out.c1
  have hf24:=HW.out.f1
  replace HW:=hide (HW.out.s1 (.int .i64 11) (.string (str (hd (tk ts)))) (.int .i64 0) (.slice none 0 0))
  replace HN_z:=hide ((HW.out.ms1).nd HN_z.out)
  have hc25:=HW.out.c1
  have hl26:=HW.out.l1
  go_wp2_with fail
  generalize (((w21.setCell _ _).setCell _ _).setCell _ _).setCell _ _=w27 at *
  refine bodyPost_ret (v:=(.agg #[.int .i64 11,.string (str (hd (tk ts))),.int .i64 0,.slice none 0 0])) (by simp [results,Tryz.results121,go_sem,hc25,hl26]) rfl ?_
  exact HW.out.post HS.out (by rw [tk_tail];exact r_ty_nm HQ_i.out HQ_l.out HQ_f.out HQ_s.out) HL.out HZ_z.out HN_z.out
theorem typ_meth (hb5:4<b):∀ (n:Nat) (ts:List Tok),ts.length=n→Meth 121 .typ b g m ts:=by
 intro n
 induction n using Nat.strongRecOn with
 | ind n ih=>
  intro ts hts w h hT hGl hgl hF hlen
  have L:Later 121 .typ b g m ts:=fun r _ hl=>ih r.length (by omega) r rfl
  by_cases q0:tx ts=str sFN
  ·exact typ_fn h hT hGl hb5 hgl hF hlen q0 L
  by_cases q1:tx ts=str sINT
  ·exact typ_int h hT hGl hb5 hgl hF hlen q0 q1 L
  by_cases q2:tx ts=str sLONG
  ·exact typ_long h hT hGl hb5 hgl hF hlen q0 q2 L
  exact typ_name h hT hGl hb5 hgl hF hlen q0 q1 q2 L
theorem typ_any (hb5:4<b) (ts:List Tok):Meth 121 .typ b g m ts:=typ_meth hb5 _ ts rfl
theorem typed_any (h:Ps w b g m ts) (hT:Two w b m) (hGl:T.Gl w) (hb5:4<b) (hgl:g<w.heap.size) (hF:Fits ts) (hlen:ts.length≤4000) (kind:Int):Calls Tryz.prog 95 #[.pointer (some ⟨b,0,none⟩),.int .i64 kind] w (PostT kind w b g m ts):=by
 have HW:Hid (Wd w w b g m ts []):=Wd.start h hT hGl hb5 hgl
 have HS:Hid (ts <:+ ts):=List.suffix_refl _
 have HF:Hid (Fits ts):=hF
 have HLn:Hid (ts.length≤4000):=hlen
 have HMe:Hid (Meth 121 .typ b g m ts):=typ_any hb5 ts
 clear h hT hGl hgl hF hlen
 go_enter Tryz.func95,Tryz.ntmps95
 replace HW:=hide (HW.out.alloc' w.heap.size (by simp) #[.int .i64 0,.string ⟨#[]⟩,.int .i64 0,.slice none 0 0] 24)
 go_wp2_with fail
 generalize w.alloc _=w1 at *
 go_at_call 121
 refine (HMe.out w1 HW.out.ps HW.out.two HW.out.glo HW.out.glt (HF.out.suf HS.out) (Nat.le_trans HS.out.length_le HLn.out)).mono ?_
 rintro e w2 hp
 obtain ⟨r2,n_t,k_t,t_t,v_t,a_t,l_t,c_t,rfl,HR_t,HN_t,HZ_t,HL,HSt,HLs2,hS,hW,hG⟩|⟨r,hR,rfl,h1,h2⟩:=HW.out.okN HS.out hp
 rotate_left
 ·exact ⟨rfl,h1,_,h2,Or.inr ⟨Or.inl hR,rfl⟩⟩
 replace HW:=hW
 replace HS:=hS
 clear hG hp
 replace HW:=hide (HW.out.alloc' w2.heap.size (by simp) #[.int .i64 k_t,.string t_t,.int .i64 v_t,.slice a_t l_t c_t] 24)
 replace HN_t:=hide ((HW.out.ma (by simp)).nd HN_t.out)
 go_wp2_with fail
 generalize w2.alloc _=w3 at *
 replace HN_t:=hide ((Mv.quiet (grown_drew w3)).nd HN_t.out)
 replace HW:=hide (HW.out.quiet (grown_drew w3))
 refine wp_region_held_drew (S:=(fun _=>True)) (by kernel_rfl) trivial fun hHd=>?_
 generalize w3.drew=w4 at *
 refine tq 0 ?_
 simp only [qq]
 refine tq 1 ?_
 simp only [qq]
 refine rq2 2 3 (fun K hK=>?_) fun K hK=>?_
 ·go_simp
  refine (HW.out.nm HS.out HF.out).mono ?_
  rintro e w5 (⟨HQ_s,rfl,HL,hS,hW,hG⟩|⟨hn,rfl,h1⟩)
  rotate_left
  ·exact ⟨rfl,h1,_,HS.out,Or.inr ⟨Or.inr ⟨_,HR_t.out,hn⟩,rfl⟩⟩
  replace HN_t:=hide ((Mv.call (Nat.lt_of_lt_of_le HW.out.bl HZ_t.out) hG _).nd HN_t.out)
  replace HW:=hW
  replace HS:=hS
  clear hG
  refine hK.out _ _ trivial fun hHd=>?_
  clear hK K
  try simp only [qq]
  refine rq 3 fun K hK=>?_
  have hc6:=HW.out.c0
  go_simp
  clear hc6
  refine hK.out _ _ trivial fun hHd=>?_
  clear hK K
  try simp only [qq]
  refine rq 4 fun K hK=>?_
  replace HW:=hide (HW.out.alloc' w5.heap.size (by simp) #[.int .i64 k_t,.string t_t,.int .i64 v_t,.slice a_t l_t c_t] 24)
  replace HN_t:=hide ((HW.out.ma (by simp)).nd HN_t.out)
  go_simp
  refine hK.out _ _ trivial fun hHd=>?_
  clear hK K
  try simp only [qq]
  generalize w5.alloc _=w7 at *
  refine tq 5 ?_
  simp only [qq]
  refine rq 6 fun K hK=>?_
  have HM_a:=hide (RowN.o0 HW.out (HN_t.out.less HZ_t.out))
  have HZ_a:Hid (w.heap.size≤w.heap.size):=Nat.le_refl _
  clear HN_t HZ_t
  replace HW:=hide HW.out.d0
  have hc8:=HW.out.c1
  have hf9:=HW.out.f1
  replace HW:=hide (HW.out.s1 (.int .i64 kind) (.string (str (hd (tk r2)))) (.int .i64 0) ((.slice (some ⟨w5.heap.size,0,none⟩) 1 1)))
  replace HM_a:=hide ((HW.out.ms1).row HM_a.out)
  go_simp
  refine hK.out _ _ trivial fun hHd=>?_
  clear hK K
  try simp only [qq]
  generalize (((w7.setCell _ _).setCell _ _).setCell _ _).setCell _ _=w10 at *
  clear hc8 hf9
  refine wpAnyH_done (by kernel_rfl) ?_ _
  have hc11:=HW.out.c1
  have hl12:=HW.out.l1
  go_wp2_with fail
  refine bodyPost_ret (v:=(.agg #[.int .i64 kind,.string (str (hd (tk r2))),.int .i64 0,(.slice (some ⟨w5.heap.size,0,none⟩) 1 1)])) (by simp [results,Tryz.results95,go_sem,hc11,hl12]) rfl ?_
  exact ⟨HW.out.grown,_,HS.out,Or.inl ⟨_,_,_,HL.out,⟨_,HR_t.out,HQ_s.out,rfl,tk_tail _⟩,rfl,HM_a.out.move (fun k hk _=>⟨rfl,hk.1⟩),HW.out.ps⟩⟩
 ·have hc13:=HW.out.c0
  go_simp
  clear hc13
  refine hK.out _ _ trivial fun hHd=>?_
  clear hK K
  try simp only [qq]
  refine rq2 2 4 (fun K hK=>?_) fun K hK=>?_
  ·go_simp
   refine (HW.out.nm HS.out HF.out).mono ?_
   rintro e w14 (⟨HQ_s,rfl,HL,hS,hW,hG⟩|⟨hn,rfl,h1⟩)
   rotate_left
   ·exact ⟨rfl,h1,_,HS.out,Or.inr ⟨Or.inr ⟨_,HR_t.out,hn⟩,rfl⟩⟩
   replace HN_t:=hide ((Mv.call (Nat.lt_of_lt_of_le HW.out.bl HZ_t.out) hG _).nd HN_t.out)
   replace HW:=hW
   replace HS:=hS
   clear hG
   refine hK.out _ _ trivial fun hHd=>?_
   clear hK K
   try simp only [qq]
   refine rq 4 fun K hK=>?_
   replace HW:=hide (HW.out.alloc' w14.heap.size (by simp) #[.int .i64 k_t,.string t_t,.int .i64 v_t,.slice a_t l_t c_t] 24)
   replace HN_t:=hide ((HW.out.ma (by simp)).nd HN_t.out)
   go_simp
   refine hK.out _ _ trivial fun hHd=>?_
   clear hK K
   try simp only [qq]
   generalize w14.alloc _=w15 at *
   refine tq 5 ?_
   simp only [qq]
   refine rq 6 fun K hK=>?_
   have HM_a:=hide (RowN.o0 HW.out (HN_t.out.less HZ_t.out))
   have HZ_a:Hid (w.heap.size≤w.heap.size):=Nat.le_refl _
   clear HN_t HZ_t
   replace HW:=hide HW.out.d0
   have hc16:=HW.out.c1
   have hf17:=HW.out.f1
   replace HW:=hide (HW.out.s1 (.int .i64 kind) (.string (str (hd (tk r2)))) (.int .i64 0) ((.slice (some ⟨w14.heap.size,0,none⟩) 1 1)))
   replace HM_a:=hide ((HW.out.ms1).row HM_a.out)
   go_simp
   refine hK.out _ _ trivial fun hHd=>?_
   clear hK K
   try simp only [qq]
   generalize (((w15.setCell _ _).setCell _ _).setCell _ _).setCell _ _=w18 at *
   clear hc16 hf17
   refine wpAnyH_done (by kernel_rfl) ?_ _
   have hc19:=HW.out.c1
   have hl20:=HW.out.l1
   go_wp2_with fail
   refine bodyPost_ret (v:=(.agg #[.int .i64 kind,.string (str (hd (tk r2))),.int .i64 0,(.slice (some ⟨w14.heap.size,0,none⟩) 1 1)])) (by simp [results,Tryz.results95,go_sem,hc19,hl20]) rfl ?_
   exact ⟨HW.out.grown,_,HS.out,Or.inl ⟨_,_,_,HL.out,⟨_,HR_t.out,HQ_s.out,rfl,tk_tail _⟩,rfl,HM_a.out.move (fun k hk _=>⟨rfl,hk.1⟩),HW.out.ps⟩⟩
  ·replace HW:=hide (HW.out.alloc' w4.heap.size (by simp) #[.int .i64 k_t,.string t_t,.int .i64 v_t,.slice a_t l_t c_t] 24)
   replace HN_t:=hide ((HW.out.ma (by simp)).nd HN_t.out)
   go_simp
   refine hK.out _ _ trivial fun hHd=>?_
   clear hK K
   try simp only [qq]
   generalize w4.alloc _=w21 at *
   refine rq 2 fun K hK=>?_
   go_simp
   refine (HW.out.nm HS.out HF.out).mono ?_
   rintro e w22 (⟨HQ_s,rfl,HL,hS,hW,hG⟩|⟨hn,rfl,h1⟩)
   rotate_left
   ·exact ⟨rfl,h1,_,HS.out,Or.inr ⟨Or.inr ⟨_,HR_t.out,hn⟩,rfl⟩⟩
   replace HN_t:=hide ((Mv.call (Nat.lt_of_lt_of_le HW.out.bl HZ_t.out) hG _).nd HN_t.out)
   replace HW:=hW
   replace HS:=hS
   clear hG
   refine hK.out _ _ trivial fun hHd=>?_
   clear hK K
   try simp only [qq]
   refine tq 5 ?_
   simp only [qq]
   refine rq 6 fun K hK=>?_
   have HM_a:=hide (RowN.o0 HW.out (HN_t.out.less HZ_t.out))
   have HZ_a:Hid (w.heap.size≤w.heap.size):=Nat.le_refl _
   clear HN_t HZ_t
   replace HW:=hide HW.out.d0
   have hc23:=HW.out.c1
   have hf24:=HW.out.f1
   replace HW:=hide (HW.out.s1 (.int .i64 kind) (.string (str (hd (tk r2)))) (.int .i64 0) ((.slice (some ⟨w4.heap.size,0,none⟩) 1 1)))
   replace HM_a:=hide ((HW.out.ms1).row HM_a.out)
   go_simp
   refine hK.out _ _ trivial fun hHd=>?_
   clear hK K
   try simp only [qq]
   generalize (((w22.setCell _ _).setCell _ _).setCell _ _).setCell _ _=w25 at *
   clear hc23 hf24
   refine wpAnyH_done (by kernel_rfl) ?_ _
   have hc26:=HW.out.c1
   have hl27:=HW.out.l1
   go_wp2_with fail
   refine bodyPost_ret (v:=(.agg #[.int .i64 kind,.string (str (hd (tk r2))),.int .i64 0,(.slice (some ⟨w4.heap.size,0,none⟩) 1 1)])) (by simp [results,Tryz.results95,go_sem,hc26,hl27]) rfl ?_
   exact ⟨HW.out.grown,_,HS.out,Or.inl ⟨_,_,_,HL.out,⟨_,HR_t.out,HQ_s.out,rfl,tk_tail _⟩,rfl,HM_a.out.move (fun k hk _=>⟨rfl,hk.1⟩),HW.out.ps⟩⟩
theorem param_any (hb5:4<b) (ts:List Tok):Meth 123 (.item 1) b g m ts:=by
 intro w h hT hGl hgl hF hlen
 have HW:Hid (Wd w w b g m ts []):=Wd.start h hT hGl hb5 hgl
 have HS:Hid (ts <:+ ts):=List.suffix_refl _
 have HF:Hid (Fits ts):=hF
 have HLn:Hid (ts.length≤4000):=hlen
 clear h hT hGl hgl hF hlen
 go_enter Tryz.func123,Tryz.ntmps123
 replace HW:=hide (HW.out.alloc' w.heap.size (by simp) #[.int .i64 0,.string ⟨#[]⟩,.int .i64 0,.slice none 0 0] 24)
 go_wp2_with fail
 generalize w.alloc _=w1 at *
 go_at_call 95
 refine (typed_any HW.out.ps HW.out.two HW.out.glo HW.out.bg HW.out.glt (HF.out.suf HS.out) (Nat.le_trans HS.out.length_le HLn.out) 8).mono ?_
 rintro e w2 ⟨hG2,r2,hsu,⟨t_x,s_x,q_x,hlt,hO,rfl,hM,hP2⟩|⟨hO,rfl⟩⟩
 rotate_left
 ·exact ⟨rfl,grown_trans HW.out.grown hG2,_,hsu.trans HS.out,Or.inr ⟨r_it1n hO,rfl⟩⟩
 have HT_x:=hide hO
 have HM_x:=hide (hM.given HW.out)
 have HZ_x:Hid (w.heap.size≤w1.heap.size):=HW.out.grown.size
 have HSx:Hid (r2 <:+ ts):=hsu
 have HLs2:Hid (r2.length<ts.length):=hlt
 have HL:Hid (r2.length<ts.length):=Nat.lt_of_lt_of_le hlt HS.out.length_le
 replace HW:=hide (HW.out.call hG2 hP2)
 replace HS:=hide ((hsu).trans HS.out)
 clear hP2 hG2 hO hM hsu hlt
 have HN_z:=hide (HM_x.out.node 8 s_x 0)
 have HZ_z:=HZ_x
 clear HM_x HZ_x
 have hc3:=HW.out.c0
 have hf4:=HW.out.f0
 replace HW:=hide (HW.out.s0 (.int .i64 8) (.string (str s_x)) (.int .i64 0) ((.slice (some ⟨q_x,0,none⟩) 1 1)))
 replace HN_z:=hide ((HW.out.ms0).nd HN_z.out)
 have hc5:=HW.out.c0
 have hl6:=HW.out.l0
 go_wp2_with fail
 generalize (((w2.setCell _ _).setCell _ _).setCell _ _).setCell _ _=w7 at *
 refine bodyPost_ret (v:=(.agg #[.int .i64 8,.string (str s_x),.int .i64 0,(.slice (some ⟨q_x,0,none⟩) 1 1)])) (by simp [results,Tryz.results123,go_sem,hc5,hl6]) rfl ?_
 exact HW.out.post HS.out (r_it1 HT_x.out) HL.out HZ_z.out HN_z.out
end Go.Proofs.YthcfianhdkolhaaGreatDoor.Y
