/- PbP PbPa -/
import Derived.Test.YthcfianhdkolhaaGreatDoorPbO
import Derived.Test.YthcfianhdkolhaaGreatDoorShelf
namespace Go.Proofs.YthcfianhdkolhaaGreatDoor.Y
open Go.RowKit Go.Proofs.YthcfianhdkolhaaGreatDoor.X Go.Proofs.YthcfianhdkolhaaGreatDoor.T Go.Proofs.YthcfianhdkolhaaGreatDoor.S
set_option maxRecDepth 100000
set_option maxHeartbeats 2000000
set_option linter.unusedVariables false
set_option linter.unusedSimpArgs false
variable {w w' : World} {b g : Nat} {m : Value} {ts : List Tok} {t : Tok}
theorem r_if0 {ts r:List Tk} (h:hd ts=sIF) (a:R .round ts.tail (.no r)):R .stat ts (.no r):=by
 obtain ⟨n,e⟩:=a
 exact ⟨n+1,by simp [P,F,h,andN,e]⟩
theorem r_if1 {ts r r2:List Tk} {c:Nd} (h:hd ts=sIF) (a:R .round ts.tail (.ok (.nd c) r)) (k:R .block r (.no r2)):R .stat ts (.no r2):=by
 obtain ⟨n,e,e2⟩:=both a k
 exact ⟨n+1,by simp [P,F,h,andN,e,e2]⟩
theorem r_if2 {ts r r2:List Tk} {c x:Nd} (h:hd ts=sIF) (a:R .round ts.tail (.ok (.nd c) r)) (k:R .block r (.ok (.nd x) r2)) (h2:¬ hd r2=sELSE):R .stat ts (.ok (.nd (.mk 16 [] 0 [c,x])) r2):=by
 obtain ⟨n,e,e2⟩:=both a k
 exact ⟨n+1,by simp [P,F,h,andN,e,e2,h2,okN]⟩
theorem r_if3 {ts r r2 r3:List Tk} {c x:Nd} (h:hd ts=sIF) (a:R .round ts.tail (.ok (.nd c) r)) (k:R .block r (.ok (.nd x) r2)) (h2:hd r2=sELSE) (j:R .block r2.tail (.no r3)):R .stat ts (.no r3):=by
 obtain ⟨n,e,e2,e3⟩:=three a k j
 exact ⟨n+1,by simp [P,F,h,andN,e,e2,h2,e3]⟩
theorem r_if4 {ts r r2 r3:List Tk} {c x y:Nd} (h:hd ts=sIF) (a:R .round ts.tail (.ok (.nd c) r)) (k:R .block r (.ok (.nd x) r2)) (h2:hd r2=sELSE) (j:R .block r2.tail (.ok (.nd y) r3)):R .stat ts (.ok (.nd (.mk 16 [] 0 [c,x,y])) r3):=by
 obtain ⟨n,e,e2,e3⟩:=three a k j
 exact ⟨n+1,by simp [P,F,h,andN,e,e2,h2,e3,okN]⟩
theorem r_wh0 {ts r:List Tk} (h:hd ts=sWHILE) (a:R .round ts.tail (.no r)):R .stat ts (.no r):=by
 obtain ⟨n,e⟩:=a
 exact ⟨n+1,by simp [P,F,h,andN,e]⟩
theorem r_wh1 {ts r r2:List Tk} {c:Nd} (h:hd ts=sWHILE) (a:R .round ts.tail (.ok (.nd c) r)) (k:R .block r (.no r2)):R .stat ts (.no r2):=by
 obtain ⟨n,e,e2⟩:=both a k
 exact ⟨n+1,by simp [P,F,h,andN,e,e2]⟩
theorem r_wh2 {ts r r2:List Tk} {c x:Nd} (h:hd ts=sWHILE) (a:R .round ts.tail (.ok (.nd c) r)) (k:R .block r (.ok (.nd x) r2)):R .stat ts (.ok (.nd (.mk 17 [] 0 [c,x])) r2):=by
 obtain ⟨n,e,e2⟩:=both a k
 exact ⟨n+1,by simp [P,F,h,andN,e,e2,okN]⟩
theorem r_rt0 {ts r:List Tk} (h:hd ts=sRET) (a:R .expr ts.tail (.no r)):R .stat ts (.no r):=by
 obtain ⟨n,e⟩:=a
 exact ⟨n+1,by simp [P,F,h,andN,e]⟩
theorem r_rt1 {ts r:List Tk} {x:Nd} (h:hd ts=sRET) (a:R .expr ts.tail (.ok (.nd x) r)) (h2:¬ hd r=sSEMI):R .stat ts (.no r):=by
 obtain ⟨n,e⟩:=a
 exact ⟨n+1,by simp [P,F,h,andN,e,must,h2]⟩
theorem r_rt2 {ts r:List Tk} {x:Nd} (h:hd ts=sRET) (a:R .expr ts.tail (.ok (.nd x) r)) (h2:hd r=sSEMI):R .stat ts (.ok (.nd (.mk 18 [] 0 [x])) r.tail):=by
 obtain ⟨n,e⟩:=a
 exact ⟨n+1,by simp [P,F,h,andN,e,must,h2,okN]⟩
theorem r_pu0 {ts r:List Tk} (h:hd ts=sPUT) (a:R .round ts.tail (.no r)):R .stat ts (.no r):=by
 obtain ⟨n,e⟩:=a
 exact ⟨n+1,by simp [P,F,h,andN,e]⟩
theorem r_pu1 {ts r:List Tk} {x:Nd} (h:hd ts=sPUT) (a:R .round ts.tail (.ok (.nd x) r)) (h2:¬ hd r=sSEMI):R .stat ts (.no r):=by
 obtain ⟨n,e⟩:=a
 exact ⟨n+1,by simp [P,F,h,andN,e,must,h2]⟩
theorem r_pu2 {ts r:List Tk} {x:Nd} (h:hd ts=sPUT) (a:R .round ts.tail (.ok (.nd x) r)) (h2:hd r=sSEMI):R .stat ts (.ok (.nd (.mk 19 [] 0 [x])) r.tail):=by
 obtain ⟨n,e⟩:=a
 exact ⟨n+1,by simp [P,F,h,andN,e,must,h2,okN]⟩
theorem nm_not {s:List UInt8} (h:nameB s=true):¬ s=sINT∧¬ s=sLONG∧¬ s=sFN:=⟨fun e=>by rw [e] at h;revert h;decide,fun e=>by rw [e] at h;revert h;decide,fun e=>by rw [e] at h;revert h;decide⟩
theorem r_sd0 {ts r:List Tk} (n1:¬ hd ts=sIF) (n2:¬ hd ts=sWHILE) (n3:¬ hd ts=sRET) (n4:¬ hd ts=sPUT) (h:nameB (hd ts)=true) (h2:nameB (hd ts.tail)=false) (a:SNo ts r):R .stat ts (.no r):=by
 obtain ⟨m1,m2,m3⟩:=nm_not h
 rcases a with ⟨a,_⟩|⟨_,n,e⟩
 ·rw [h] at a;cases a
 ·exact ⟨n+1,by simp [P,F,n1,n2,n3,n4,m1,m2,m3,h,h2,S.name,andN,e]⟩
theorem r_sd1 {ts r:List Tk} {x:Nd} (n1:¬ hd ts=sIF) (n2:¬ hd ts=sWHILE) (n3:¬ hd ts=sRET) (n4:¬ hd ts=sPUT) (h:nameB (hd ts)=true) (h2:nameB (hd ts.tail)=false) (a:SOk ts x r) (h3:¬ hd r=sSEMI):R .stat ts (.no r):=by
 obtain ⟨m1,m2,m3⟩:=nm_not h
 obtain ⟨_,n,e⟩:=a
 exact ⟨n+1,by simp [P,F,n1,n2,n3,n4,m1,m2,m3,h,h2,S.name,andN,e,must,h3]⟩
theorem r_sd2 {ts r:List Tk} {x:Nd} (n1:¬ hd ts=sIF) (n2:¬ hd ts=sWHILE) (n3:¬ hd ts=sRET) (n4:¬ hd ts=sPUT) (h:nameB (hd ts)=true) (h2:nameB (hd ts.tail)=false) (a:SOk ts x r) (h3:hd r=sSEMI):R .stat ts (.ok (.nd x) r.tail):=by
 obtain ⟨m1,m2,m3⟩:=nm_not h
 obtain ⟨_,n,e⟩:=a
 exact ⟨n+1,by simp [P,F,n1,n2,n3,n4,m1,m2,m3,h,h2,S.name,andN,e,must,h3,okN]⟩
theorem va_typ {ts:List Tk} (hv:¬ (nameB (hd ts)=true∧nameB (hd ts.tail)=false)):(hd ts=sINT∨hd ts=sLONG∨hd ts=sFN∨(nameB (hd ts)=true∧nameB (hd ts.tail)=true))∨(R .typ ts (.no ts)∧nameB (hd ts)=false∧¬ (hd ts=sINT∨hd ts=sLONG∨hd ts=sFN∨(nameB (hd ts)=true∧nameB (hd ts.tail)=true))):=by
 by_cases q1:hd ts=sINT
 ·exact Or.inl (Or.inl q1)
 by_cases q2:hd ts=sLONG
 ·exact Or.inl (Or.inr (Or.inl q2))
 by_cases q3:hd ts=sFN
 ·exact Or.inl (Or.inr (Or.inr (Or.inl q3)))
 cases hn:nameB (hd ts) with
 | false=>exact Or.inr ⟨r_ty_nm0 q1 q2 q3 hn,rfl,by simp [q1,q2,q3]⟩
 | true=>
  cases hn2:nameB (hd ts.tail) with
  | false=>exact absurd ⟨hn,hn2⟩ hv
  | true=>exact Or.inl (Or.inr (Or.inr (Or.inr ⟨rfl,rfl⟩)))
theorem r_va0 {ts r:List Tk} (n1:¬ hd ts=sIF) (n2:¬ hd ts=sWHILE) (n3:¬ hd ts=sRET) (n4:¬ hd ts=sPUT) (hv:¬ (nameB (hd ts)=true∧nameB (hd ts.tail)=false)) (a:TyNo ts r):R .stat ts (.no r):=by
 rcases va_typ hv with hc|⟨h1,h2,hc⟩
 ·rcases a with ⟨n,e⟩|⟨t,⟨n,e⟩,h2⟩
  ·exact ⟨n+1,by simp only [P,F,if_neg n1,if_neg n2,if_neg n3,if_neg n4,if_pos hc];simp [andN,e]⟩
  ·exact ⟨n+1,by simp only [P,F,if_neg n1,if_neg n2,if_neg n3,if_neg n4,if_pos hc];simp [andN,e,S.name,h2]⟩
 ·rcases a with a|⟨t,a,_⟩
  ·have e:=R_one a h1
   injection e with e
   subst e
   exact ⟨1,by simp only [P,F,if_neg n1,if_neg n2,if_neg n3,if_neg n4,if_neg hc];simp [S.name,h2]⟩
  ·have e:=R_one a h1
   cases e
theorem r_va1 {ts r:List Tk} {t:Nd} {s:List UInt8} {q:Res} (n1:¬ hd ts=sIF) (n2:¬ hd ts=sWHILE) (n3:¬ hd ts=sRET) (n4:¬ hd ts=sPUT) (hv:¬ (nameB (hd ts)=true∧nameB (hd ts.tail)=false)) (a:TyOk ts t s r) (k:∃ n,must sEQ r (fun r=>andN (P n .expr r) fun x r=>must sSEMI r fun r=>okN (.mk 14 s 0 [t,x]) r)=some q):R .stat ts q:=by
 obtain ⟨r1,a,h2,rfl,rfl⟩:=a
 rcases va_typ hv with hc|⟨h1,_,hc⟩
 ·obtain ⟨n,e⟩:=a
  obtain ⟨n',e'⟩:=k
  have e1:=P_le (Nat.le_max_left n n') e
  have e2:must sEQ r1.tail (fun r=>andN (P (max n n') .expr r) fun x r=>must sSEMI r fun r=>okN (.mk 14 (hd r1) 0 [t,x]) r)=some q:=must_mono (fun t q h=>andN_mono (fun q h=>P_le (Nat.le_max_right n n') h) (fun a s q h=>h) h) e'
  exact ⟨max n n'+1,by simp only [P,F,if_neg n1,if_neg n2,if_neg n3,if_neg n4,if_pos hc,e1,andN,S.name,if_pos h2];exact e2⟩
 ·have e:=R_one a h1
  cases e
theorem va0 {r:List Tk} {t:Nd} {s:List UInt8} (h:¬ hd r=sEQ):∃ n,must sEQ r (fun r=>andN (P n .expr r) fun x r=>must sSEMI r fun r=>okN (.mk 14 s 0 [t,x]) r)=some (.no r):=⟨0,by simp [must,h]⟩
theorem va1 {r r2:List Tk} {t:Nd} {s:List UInt8} (h:hd r=sEQ) (a:R .expr r.tail (.no r2)):∃ n,must sEQ r (fun r=>andN (P n .expr r) fun x r=>must sSEMI r fun r=>okN (.mk 14 s 0 [t,x]) r)=some (.no r2):=by
 obtain ⟨n,e⟩:=a
 exact ⟨n,by simp [must,h,andN,e]⟩
theorem va2 {r r2:List Tk} {t x:Nd} {s:List UInt8} (h:hd r=sEQ) (a:R .expr r.tail (.ok (.nd x) r2)) (h2:¬ hd r2=sSEMI):∃ n,must sEQ r (fun r=>andN (P n .expr r) fun x r=>must sSEMI r fun r=>okN (.mk 14 s 0 [t,x]) r)=some (.no r2):=by
 obtain ⟨n,e⟩:=a
 exact ⟨n,by simp [must,h,andN,e,h2]⟩
theorem va3 {r r2:List Tk} {t x:Nd} {s:List UInt8} (h:hd r=sEQ) (a:R .expr r.tail (.ok (.nd x) r2)) (h2:hd r2=sSEMI):∃ n,must sEQ r (fun r=>andN (P n .expr r) fun x r=>must sSEMI r fun r=>okN (.mk 14 s 0 [t,x]) r)=some (.ok (.nd (.mk 14 s 0 [t,x])) r2.tail):=by
 obtain ⟨n,e⟩:=a
 exact ⟨n,by simp [must,h,andN,e,h2,okN]⟩
theorem stat_while (h:Ps w b g m ts) (hT:Two w b m) (hGl:T.Gl w) (hb5:4<b) (hgl:g<w.heap.size) (hF:Fits ts) (hlen:ts.length≤4000) (hq_sIF:¬ tx ts=str sIF) (hq_sWHILE:tx ts=str sWHILE) (hBl:Later 98 .block b g m ts):Calls Tryz.prog 125 #[.pointer (some ⟨b,0,none⟩)] w (PostN .stat w b g m ts):=by
 have HW:Hid (Wd w w b g m ts []):=Wd.start h hT hGl hb5 hgl
 have HS:Hid (ts <:+ ts):=List.suffix_refl _
 have HF:Hid (Fits ts):=hF
 have HLn:Hid (ts.length≤4000):=hlen
 have HBl:=hide hBl
 have HE:Hid (Later 143 .expr b g m ts):=expr_later hb5 ts
 have hc_sIF:((tx ts).toList == ([105,102]:List UInt8))=false:=by rw [cmp_str];exact decide_eq_false hq_sIF
 have hc_sWHILE:((tx ts).toList == ([119,104,105,108,101]:List UInt8))=true:=by rw [cmp_str];exact decide_eq_true hq_sWHILE
 have HQ_sIF:Hid (¬ hd (tk ts)=sIF):=fun e=>hq_sIF ((tx_hd hF sIF (⟨_,_,rfl,by decide⟩)).2 e)
 have HQ_sWHILE:Hid (hd (tk ts)=sWHILE):=(tx_hd hF sWHILE (⟨_,_,rfl,by decide⟩)).1 hq_sWHILE
 have HQx:=hide hq_sWHILE
 clear hq_sIF hq_sWHILE
 clear hBl
 clear h hT hGl hgl hF hlen
 go_enter Tryz.func125,Tryz.ntmps125
 replace HW:=hide (HW.out.alloc' w.heap.size (by simp) #[.int .i64 0,.string ⟨#[]⟩,.int .i64 0,.slice none 0 0] 24)
 go_wp2_with fail
 generalize w.alloc _=w1 at *
 go_at_call 91
 refine (text_any HW.out.ps).mono ?_
 rintro e w2 ⟨rfl,hww⟩
 replace hww:w1=w2:=hww.symm
 subst hww
 replace HW:=hide (HW.out.alloc' w1.heap.size (by simp) #[.string ⟨#[119,104,105,108,101]⟩] 9)
 go_wp2_with fail
 generalize w1.alloc _=w3 at *
 go_at_call 141
 refine (inside1 HW.out (by decide) HQx.out (HF.out.suf HS.out) (Nat.le_trans HS.out.length_le HLn.out) (HE.out.suf HS.out)).mono ?_
 rintro e w4 ⟨hG4,r4,hsu,⟨n_x,vv,hlt,hR,rfl,hN,hP4⟩|⟨hR,rfl⟩⟩
 rotate_left
 ·exact ⟨rfl,grown_trans HW.out.grown hG4,_,(hsu.trans (List.tail_suffix _)).trans HS.out,Or.inr ⟨r_wh0 HQ_sWHILE.out (by rw [← tk_tail];exact hR),rfl⟩⟩
 obtain ⟨k_x,t_x,v_x,a_x,l_x,c_x,rfl⟩:=hN.form
 have HR_x:=hide hR
 have HN_x:=hide (hN.given HW.out)
 have HZ_x:Hid (w.heap.size≤w3.heap.size):=HW.out.grown.size
 have HL:Hid (r4.length<ts.length):=Nat.lt_of_lt_of_le hlt (Nat.le_trans (List.tail_suffix _).length_le HS.out.length_le)
 replace HW:=hide (HW.out.call hG4 hP4)
 replace HS:=hide ((hsu.trans (List.tail_suffix _)).trans HS.out)
 clear hP4 hG4 hR hN hsu hlt
 go_wp2_with fail
 go_at_call 98
 refine (HBl.out r4 HS.out HL.out w4 HW.out.ps HW.out.two HW.out.glo HW.out.glt (HF.out.suf HS.out) (Nat.le_trans HS.out.length_le HLn.out)).mono ?_
 rintro e w5 hp
 obtain ⟨r5,n_y,k_y,t_y,v_y,a_y,l_y,c_y,rfl,HR_y,HN_y,HZ_y,HL,HSy,HLs2,hS,hW,hG⟩|⟨r,hR,rfl,h1,h2⟩:=HW.out.okN HS.out hp
 rotate_left
 ·exact ⟨rfl,h1,_,h2,Or.inr ⟨r_wh1 HQ_sWHILE.out (by rw [← tk_tail];exact HR_x.out) hR,rfl⟩⟩
 replace HN_x:=hide ((Mv.call (Nat.lt_of_lt_of_le HW.out.bl HZ_x.out) hG _).nd HN_x.out)
 replace HW:=hW
 replace HS:=hS
 clear hG hp
 replace HW:=hide (HW.out.alloc' w5.heap.size (by simp) #[.int .i64 k_x,.string t_x,.int .i64 v_x,.slice a_x l_x c_x,.int .i64 k_y,.string t_y,.int .i64 v_y,.slice a_y l_y c_y] 24)
 replace HN_x:=hide ((HW.out.ma (by simp)).nd HN_x.out)
 replace HN_y:=hide ((HW.out.ma (by simp)).nd HN_y.out)
 go_wp2_with fail
 generalize w5.alloc _=w6 at *
 go_at_call 140
 refine (node_any 17 (some ⟨w5.heap.size,0,none⟩) 2 2 w6).mono ?_
 rintro e w7 ⟨rfl,hG7⟩
 replace HN_x:=hide ((Mv.quiet hG7).nd HN_x.out)
 replace HN_y:=hide ((Mv.quiet hG7).nd HN_y.out)
 replace HW:=hide (HW.out.quiet hG7)
 clear hG7
 have HM_k:=hide (RowN.t0 HW.out (HN_x.out.less HZ_x.out) (HN_y.out.less HZ_y.out))
 have HZ_k:Hid (w.heap.size≤w.heap.size):=Nat.le_refl _
 clear HN_x HZ_x HN_y HZ_y
 replace HW:=hide HW.out.d0
 have HN_r:=hide (HM_k.out.node 17 [] 0)
 have HZ_r:=HZ_k
 clear HM_k HZ_k
 have hc8:=HW.out.c0
 have hc9:=HW.out.c1
 have hf10:=HW.out.f1
 replace HW:=hide (HW.out.s1 (.int .i64 17) (.string ⟨#[]⟩) (.int .i64 0) ((.slice (some ⟨w5.heap.size,0,none⟩) 2 2)))
 replace HN_r:=hide ((HW.out.ms1).nd HN_r.out)
 have hc11:=HW.out.c1
 have hl12:=HW.out.l1
 go_wp2_with fail
 generalize (((w7.setCell _ _).setCell _ _).setCell _ _).setCell _ _=w13 at *
 refine bodyPost_ret (v:=(.agg #[.int .i64 17,.string ⟨#[]⟩,.int .i64 0,(.slice (some ⟨w5.heap.size,0,none⟩) 2 2)])) (by simp [results,Tryz.results125,go_sem,hc11,hl12]) rfl ?_
 exact HW.out.post HS.out (r_wh2 HQ_sWHILE.out (by rw [← tk_tail];exact HR_x.out) HR_y.out) HL.out HZ_r.out HN_r.out
theorem stat_ret (h:Ps w b g m ts) (hT:Two w b m) (hGl:T.Gl w) (hb5:4<b) (hgl:g<w.heap.size) (hF:Fits ts) (hlen:ts.length≤4000) (hq_sIF:¬ tx ts=str sIF) (hq_sWHILE:¬ tx ts=str sWHILE) (hq_sRET:tx ts=str sRET) (hBl:Later 98 .block b g m ts):Calls Tryz.prog 125 #[.pointer (some ⟨b,0,none⟩)] w (PostN .stat w b g m ts):=by
 have HW:Hid (Wd w w b g m ts []):=Wd.start h hT hGl hb5 hgl
 have HS:Hid (ts <:+ ts):=List.suffix_refl _
 have HF:Hid (Fits ts):=hF
 have HLn:Hid (ts.length≤4000):=hlen
 have HBl:=hide hBl
 have HE:Hid (Later 143 .expr b g m ts):=expr_later hb5 ts
 have hc_sIF:((tx ts).toList == ([105,102]:List UInt8))=false:=by rw [cmp_str];exact decide_eq_false hq_sIF
 have hc_sWHILE:((tx ts).toList == ([119,104,105,108,101]:List UInt8))=false:=by rw [cmp_str];exact decide_eq_false hq_sWHILE
 have hc_sRET:((tx ts).toList == ([114,101,116,117,114,110]:List UInt8))=true:=by rw [cmp_str];exact decide_eq_true hq_sRET
 have HQ_sIF:Hid (¬ hd (tk ts)=sIF):=fun e=>hq_sIF ((tx_hd hF sIF (⟨_,_,rfl,by decide⟩)).2 e)
 have HQ_sWHILE:Hid (¬ hd (tk ts)=sWHILE):=fun e=>hq_sWHILE ((tx_hd hF sWHILE (⟨_,_,rfl,by decide⟩)).2 e)
 have HQ_sRET:Hid (hd (tk ts)=sRET):=(tx_hd hF sRET (⟨_,_,rfl,by decide⟩)).1 hq_sRET
 have HQx:=hide hq_sRET
 clear hq_sIF hq_sWHILE hq_sRET
 clear hBl
 clear h hT hGl hgl hF hlen
 go_enter Tryz.func125,Tryz.ntmps125
 replace HW:=hide (HW.out.alloc' w.heap.size (by simp) #[.int .i64 0,.string ⟨#[]⟩,.int .i64 0,.slice none 0 0] 24)
 go_wp2_with fail
 generalize w.alloc _=w1 at *
 go_at_call 91
 refine (text_any HW.out.ps).mono ?_
 rintro e w2 ⟨rfl,hww⟩
 replace hww:w1=w2:=hww.symm
 subst hww
 go_wp2_with fail
 go_at_call 92
 refine (pass_tx HW.out.ps (by decide) HQx.out).mono ?_
 rintro e w3 ⟨rfl,hP3,hG3⟩
 have HL:Hid (ts.tail.length<ts.length):=Nat.lt_of_lt_of_le (tail_lt (by decide) HQx.out) HS.out.length_le
 replace HW:=hide (HW.out.call hG3 hP3)
 replace HS:=hide ((List.tail_suffix _).trans HS.out)
 clear hP3 hG3
 go_wp2_with fail
 go_at_call 143
 refine (HE.out ts.tail HS.out HL.out w3 HW.out.ps HW.out.two HW.out.glo HW.out.glt (HF.out.suf HS.out) (Nat.le_trans HS.out.length_le HLn.out)).mono ?_
 rintro e w4 hp
 obtain ⟨r4,n_x,k_x,t_x,v_x,a_x,l_x,c_x,rfl,HR_x,HN_x,HZ_x,HL,HSx,HLs2,hS,hW,hG⟩|⟨r,hR,rfl,h1,h2⟩:=HW.out.okN HS.out hp
 rotate_left
 ·exact ⟨rfl,h1,_,h2,Or.inr ⟨r_rt0 HQ_sRET.out (by rw [← tk_tail];exact hR),rfl⟩⟩
 replace HW:=hW
 replace HS:=hS
 clear hG hp
 replace HW:=hide (HW.out.alloc' w4.heap.size (by simp) #[.int .i64 k_x,.string t_x,.int .i64 v_x,.slice a_x l_x c_x] 24)
 replace HN_x:=hide ((HW.out.ma (by simp)).nd HN_x.out)
 go_wp2_with fail
 generalize w4.alloc _=w5 at *
 go_at_call 140
 refine (node_any 18 (some ⟨w4.heap.size,0,none⟩) 1 1 w5).mono ?_
 rintro e w6 ⟨rfl,hG6⟩
 replace HN_x:=hide ((Mv.quiet hG6).nd HN_x.out)
 replace HW:=hide (HW.out.quiet hG6)
 clear hG6
 have HM_a:=hide (RowN.o0 HW.out (HN_x.out.less HZ_x.out))
 have HZ_a:Hid (w.heap.size≤w.heap.size):=Nat.le_refl _
 clear HN_x HZ_x
 replace HW:=hide HW.out.d0
 have HN_z:=hide (HM_a.out.node 18 [] 0)
 have HZ_z:=HZ_a
 clear HM_a HZ_a
 go_wp2_with fail
 go_at_call 142
 refine (ended_any HW.out.ps HW.out.glt _ _ _ _ _ _).mono ?_
 rintro e w7 ⟨hG7,⟨hq,rfl,hP7⟩|⟨hq,rfl⟩⟩
 rotate_left
 ·replace hq:¬ hd (tk r4)=sSEMI:=fun e=>hq ((tx_hd (HF.out.suf HS.out) sSEMI (⟨_,_,rfl,by decide⟩)).2 e)
  exact ⟨rfl,grown_trans HW.out.grown hG7,_,HS.out,Or.inr ⟨r_rt1 HQ_sRET.out (by rw [← tk_tail];exact HR_x.out) hq,rfl⟩⟩
 have HQ3:Hid (hd (tk r4)=sSEMI):=(tx_hd (HF.out.suf HS.out) sSEMI (⟨_,_,rfl,by decide⟩)).1 hq
 have HL:Hid (r4.tail.length<ts.length):=Nat.lt_of_lt_of_le (tail_lt (by decide) hq) HS.out.length_le
 replace HN_z:=hide ((Mv.call (Nat.lt_of_lt_of_le HW.out.bl HZ_z.out) hG7 _).nd HN_z.out)
 replace HW:=hide (HW.out.call hG7 hP7)
 replace HS:=hide ((List.tail_suffix _).trans HS.out)
 clear hP7 hG7 hq
 have hc8:=HW.out.c0
 have hf9:=HW.out.f0
 replace HW:=hide (HW.out.s0 (.int .i64 18) (.string ⟨#[]⟩) (.int .i64 0) ((.slice (some ⟨w4.heap.size,0,none⟩) 1 1)))
 replace HN_z:=hide ((HW.out.ms0).nd HN_z.out)
 have hc10:=HW.out.c0
 have hl11:=HW.out.l0
 go_wp2_with fail
 generalize (((w7.setCell _ _).setCell _ _).setCell _ _).setCell _ _=w12 at *
 refine bodyPost_ret (v:=(.agg #[.int .i64 18,.string ⟨#[]⟩,.int .i64 0,(.slice (some ⟨w4.heap.size,0,none⟩) 1 1)])) (by simp [results,Tryz.results125,go_sem,hc10,hl11]) rfl ?_
 exact HW.out.post HS.out (by rw [tk_tail];exact r_rt2 HQ_sRET.out (by rw [← tk_tail];exact HR_x.out) HQ3.out) HL.out HZ_z.out HN_z.out
theorem stat_put (h:Ps w b g m ts) (hT:Two w b m) (hGl:T.Gl w) (hb5:4<b) (hgl:g<w.heap.size) (hF:Fits ts) (hlen:ts.length≤4000) (hq_sIF:¬ tx ts=str sIF) (hq_sWHILE:¬ tx ts=str sWHILE) (hq_sRET:¬ tx ts=str sRET) (hq_sPUT:tx ts=str sPUT) (hBl:Later 98 .block b g m ts):Calls Tryz.prog 125 #[.pointer (some ⟨b,0,none⟩)] w (PostN .stat w b g m ts):=by
 have HW:Hid (Wd w w b g m ts []):=Wd.start h hT hGl hb5 hgl
 have HS:Hid (ts <:+ ts):=List.suffix_refl _
 have HF:Hid (Fits ts):=hF
 have HLn:Hid (ts.length≤4000):=hlen
 have HBl:=hide hBl
 have HE:Hid (Later 143 .expr b g m ts):=expr_later hb5 ts
 have hc_sIF:((tx ts).toList == ([105,102]:List UInt8))=false:=by rw [cmp_str];exact decide_eq_false hq_sIF
 have hc_sWHILE:((tx ts).toList == ([119,104,105,108,101]:List UInt8))=false:=by rw [cmp_str];exact decide_eq_false hq_sWHILE
 have hc_sRET:((tx ts).toList == ([114,101,116,117,114,110]:List UInt8))=false:=by rw [cmp_str];exact decide_eq_false hq_sRET
 have hc_sPUT:((tx ts).toList == ([112,117,116]:List UInt8))=true:=by rw [cmp_str];exact decide_eq_true hq_sPUT
 have HQ_sIF:Hid (¬ hd (tk ts)=sIF):=fun e=>hq_sIF ((tx_hd hF sIF (⟨_,_,rfl,by decide⟩)).2 e)
 have HQ_sWHILE:Hid (¬ hd (tk ts)=sWHILE):=fun e=>hq_sWHILE ((tx_hd hF sWHILE (⟨_,_,rfl,by decide⟩)).2 e)
 have HQ_sRET:Hid (¬ hd (tk ts)=sRET):=fun e=>hq_sRET ((tx_hd hF sRET (⟨_,_,rfl,by decide⟩)).2 e)
 have HQ_sPUT:Hid (hd (tk ts)=sPUT):=(tx_hd hF sPUT (⟨_,_,rfl,by decide⟩)).1 hq_sPUT
 have HQx:=hide hq_sPUT
 clear hq_sIF hq_sWHILE hq_sRET hq_sPUT
 clear hBl
 clear h hT hGl hgl hF hlen
 go_enter Tryz.func125,Tryz.ntmps125
 replace HW:=hide (HW.out.alloc' w.heap.size (by simp) #[.int .i64 0,.string ⟨#[]⟩,.int .i64 0,.slice none 0 0] 24)
 go_wp2_with fail
 generalize w.alloc _=w1 at *
 go_at_call 91
 refine (text_any HW.out.ps).mono ?_
 rintro e w2 ⟨rfl,hww⟩
 replace hww:w1=w2:=hww.symm
 subst hww
 replace HW:=hide (HW.out.alloc' w1.heap.size (by simp) #[.string ⟨#[112,117,116]⟩] 9)
 go_wp2_with fail
 generalize w1.alloc _=w3 at *
 go_at_call 141
 refine (inside1 HW.out (by decide) HQx.out (HF.out.suf HS.out) (Nat.le_trans HS.out.length_le HLn.out) (HE.out.suf HS.out)).mono ?_
 rintro e w4 ⟨hG4,r4,hsu,⟨n_x,vv,hlt,hR,rfl,hN,hP4⟩|⟨hR,rfl⟩⟩
 rotate_left
 ·exact ⟨rfl,grown_trans HW.out.grown hG4,_,(hsu.trans (List.tail_suffix _)).trans HS.out,Or.inr ⟨r_pu0 HQ_sPUT.out (by rw [← tk_tail];exact hR),rfl⟩⟩
 obtain ⟨k_x,t_x,v_x,a_x,l_x,c_x,rfl⟩:=hN.form
 have HR_x:=hide hR
 have HN_x:=hide (hN.given HW.out)
 have HZ_x:Hid (w.heap.size≤w3.heap.size):=HW.out.grown.size
 have HL:Hid (r4.length<ts.length):=Nat.lt_of_lt_of_le hlt (Nat.le_trans (List.tail_suffix _).length_le HS.out.length_le)
 replace HW:=hide (HW.out.call hG4 hP4)
 replace HS:=hide ((hsu.trans (List.tail_suffix _)).trans HS.out)
 clear hP4 hG4 hR hN hsu hlt
 replace HW:=hide (HW.out.alloc' w4.heap.size (by simp) #[.int .i64 k_x,.string t_x,.int .i64 v_x,.slice a_x l_x c_x] 24)
 replace HN_x:=hide ((HW.out.ma (by simp)).nd HN_x.out)
 go_wp2_with fail
 generalize w4.alloc _=w5 at *
 go_at_call 140
 refine (node_any 19 (some ⟨w4.heap.size,0,none⟩) 1 1 w5).mono ?_
 rintro e w6 ⟨rfl,hG6⟩
 replace HN_x:=hide ((Mv.quiet hG6).nd HN_x.out)
 replace HW:=hide (HW.out.quiet hG6)
 clear hG6
 have HM_a:=hide (RowN.o0 HW.out (HN_x.out.less HZ_x.out))
 have HZ_a:Hid (w.heap.size≤w.heap.size):=Nat.le_refl _
 clear HN_x HZ_x
 replace HW:=hide HW.out.d0
 have HN_z:=hide (HM_a.out.node 19 [] 0)
 have HZ_z:=HZ_a
 clear HM_a HZ_a
 go_wp2_with fail
 go_at_call 142
 refine (ended_any HW.out.ps HW.out.glt _ _ _ _ _ _).mono ?_
 rintro e w7 ⟨hG7,⟨hq,rfl,hP7⟩|⟨hq,rfl⟩⟩
 rotate_left
 ·replace hq:¬ hd (tk r4)=sSEMI:=fun e=>hq ((tx_hd (HF.out.suf HS.out) sSEMI (⟨_,_,rfl,by decide⟩)).2 e)
  exact ⟨rfl,grown_trans HW.out.grown hG7,_,HS.out,Or.inr ⟨r_pu1 HQ_sPUT.out (by rw [← tk_tail];exact HR_x.out) hq,rfl⟩⟩
 have HQ3:Hid (hd (tk r4)=sSEMI):=(tx_hd (HF.out.suf HS.out) sSEMI (⟨_,_,rfl,by decide⟩)).1 hq
 have HL:Hid (r4.tail.length<ts.length):=Nat.lt_of_lt_of_le (tail_lt (by decide) hq) HS.out.length_le
 replace HN_z:=hide ((Mv.call (Nat.lt_of_lt_of_le HW.out.bl HZ_z.out) hG7 _).nd HN_z.out)
 replace HW:=hide (HW.out.call hG7 hP7)
 replace HS:=hide ((List.tail_suffix _).trans HS.out)
 clear hP7 hG7 hq
 have hc8:=HW.out.c0
 have hc9:=HW.out.c1
 have hf10:=HW.out.f1
 replace HW:=hide (HW.out.s1 (.int .i64 19) (.string ⟨#[]⟩) (.int .i64 0) ((.slice (some ⟨w4.heap.size,0,none⟩) 1 1)))
 replace HN_z:=hide ((HW.out.ms1).nd HN_z.out)
 have hc11:=HW.out.c1
 have hl12:=HW.out.l1
 go_wp2_with fail
 generalize (((w7.setCell _ _).setCell _ _).setCell _ _).setCell _ _=w13 at *
 refine bodyPost_ret (v:=(.agg #[.int .i64 19,.string ⟨#[]⟩,.int .i64 0,(.slice (some ⟨w4.heap.size,0,none⟩) 1 1)])) (by simp [results,Tryz.results125,go_sem,hc11,hl12]) rfl ?_
 exact HW.out.post HS.out (by rw [tk_tail];exact r_pu2 HQ_sPUT.out (by rw [← tk_tail];exact HR_x.out) HQ3.out) HL.out HZ_z.out HN_z.out
end Go.Proofs.YthcfianhdkolhaaGreatDoor.Y
namespace Go.Proofs.YthcfianhdkolhaaGreatDoor.Y
open Go.RowKit Go.Proofs.YthcfianhdkolhaaGreatDoor.X Go.Proofs.YthcfianhdkolhaaGreatDoor.T Go.Proofs.YthcfianhdkolhaaGreatDoor.S
set_option maxRecDepth 100000
set_option maxHeartbeats 2000000
set_option linter.unusedVariables false
set_option linter.unusedSimpArgs false
variable {w w' : World} {b g : Nat} {m : Value} {ts : List Tok} {t : Tok}
theorem stat_if (h:Ps w b g m ts) (hT:Two w b m) (hGl:T.Gl w) (hb5:4<b) (hgl:g<w.heap.size) (hF:Fits ts) (hlen:ts.length≤4000) (hq_sIF:tx ts=str sIF) (hBl:Later 98 .block b g m ts):Calls Tryz.prog 125 #[.pointer (some ⟨b,0,none⟩)] w (PostN .stat w b g m ts):=by
 have HW:Hid (Wd w w b g m ts []):=Wd.start h hT hGl hb5 hgl
 have HS:Hid (ts <:+ ts):=List.suffix_refl _
 have HF:Hid (Fits ts):=hF
 have HLn:Hid (ts.length≤4000):=hlen
 have HBl:=hide hBl
 have HE:Hid (Later 143 .expr b g m ts):=expr_later hb5 ts
 have hc_sIF:((tx ts).toList == ([105,102]:List UInt8))=true:=by rw [cmp_str];exact decide_eq_true hq_sIF
 have HQ_sIF:Hid (hd (tk ts)=sIF):=(tx_hd hF sIF (⟨_,_,rfl,by decide⟩)).1 hq_sIF
 have HQx:=hide hq_sIF
 clear hq_sIF
 clear hBl
 clear h hT hGl hgl hF hlen
 go_enter Tryz.func125,Tryz.ntmps125
 replace HW:=hide (HW.out.alloc' w.heap.size (by simp) #[.int .i64 0,.string ⟨#[]⟩,.int .i64 0,.slice none 0 0] 24)
 go_wp2_with fail
 generalize w.alloc _=w1 at *
 go_at_call 91
 refine (text_any HW.out.ps).mono ?_
 rintro e w2 ⟨rfl,hww⟩
 replace hww:w1=w2:=hww.symm
 subst hww
 replace HW:=hide (HW.out.alloc' w1.heap.size (by simp) #[.string ⟨#[105,102]⟩] 9)
 go_wp2_with fail
 generalize w1.alloc _=w3 at *
 go_at_call 141
 refine (inside1 HW.out (by decide) HQx.out (HF.out.suf HS.out) (Nat.le_trans HS.out.length_le HLn.out) (HE.out.suf HS.out)).mono ?_
 rintro e w4 ⟨hG4,r4,hsu,⟨n_x,vv,hlt,hR,rfl,hN,hP4⟩|⟨hR,rfl⟩⟩
 rotate_left
 ·exact ⟨rfl,grown_trans HW.out.grown hG4,_,(hsu.trans (List.tail_suffix _)).trans HS.out,Or.inr ⟨r_if0 HQ_sIF.out (by rw [← tk_tail];exact hR),rfl⟩⟩
 obtain ⟨k_x,t_x,v_x,a_x,l_x,c_x,rfl⟩:=hN.form
 have HR_x:=hide hR
 have HN_x:=hide (hN.given HW.out)
 have HZ_x:Hid (w.heap.size≤w3.heap.size):=HW.out.grown.size
 have HL:Hid (r4.length<ts.length):=Nat.lt_of_lt_of_le hlt (Nat.le_trans (List.tail_suffix _).length_le HS.out.length_le)
 replace HW:=hide (HW.out.call hG4 hP4)
 replace HS:=hide ((hsu.trans (List.tail_suffix _)).trans HS.out)
 clear hP4 hG4 hR hN hsu hlt
 go_wp2_with fail
 go_at_call 98
 refine (HBl.out r4 HS.out HL.out w4 HW.out.ps HW.out.two HW.out.glo HW.out.glt (HF.out.suf HS.out) (Nat.le_trans HS.out.length_le HLn.out)).mono ?_
 rintro e w5 hp
 obtain ⟨r5,n_y,k_y,t_y,v_y,a_y,l_y,c_y,rfl,HR_y,HN_y,HZ_y,HL,HSy,HLs2,hS,hW,hG⟩|⟨r,hR,rfl,h1,h2⟩:=HW.out.okN HS.out hp
 rotate_left
 ·exact ⟨rfl,h1,_,h2,Or.inr ⟨r_if1 HQ_sIF.out (by rw [← tk_tail];exact HR_x.out) hR,rfl⟩⟩
 replace HN_x:=hide ((Mv.call (Nat.lt_of_lt_of_le HW.out.bl HZ_x.out) hG _).nd HN_x.out)
 replace HW:=hW
 replace HS:=hS
 clear hG hp
 replace HW:=hide (HW.out.alloc' w5.heap.size (by simp) #[.int .i64 k_x,.string t_x,.int .i64 v_x,.slice a_x l_x c_x,.int .i64 k_y,.string t_y,.int .i64 v_y,.slice a_y l_y c_y] 24)
 replace HN_x:=hide ((HW.out.ma (by simp)).nd HN_x.out)
 replace HN_y:=hide ((HW.out.ma (by simp)).nd HN_y.out)
 go_wp2_with fail
 generalize w5.alloc _=w6 at *
 go_at_call 140
 refine (node_any 16 (some ⟨w5.heap.size,0,none⟩) 2 2 w6).mono ?_
 rintro e w7 ⟨rfl,hG7⟩
 replace HN_x:=hide ((Mv.quiet hG7).nd HN_x.out)
 replace HN_y:=hide ((Mv.quiet hG7).nd HN_y.out)
 replace HW:=hide (HW.out.quiet hG7)
 clear hG7
 have HM_k:=hide (RowN.t0 HW.out (HN_x.out.less HZ_x.out) (HN_y.out.less HZ_y.out))
 have HZ_k:Hid (w.heap.size≤w.heap.size):=Nat.le_refl _
 clear HN_x HZ_x HN_y HZ_y
 replace HW:=hide HW.out.d0
 replace HW:=hide (HW.out.alloc' w7.heap.size (by simp) #[.int .i64 16,.string ⟨#[]⟩,.int .i64 0,(.slice (some ⟨w5.heap.size,0,none⟩) 2 2)] 24)
 replace HM_k:=hide ((HW.out.ma (by simp)).row HM_k.out)
 go_wp2_with fail
 generalize w7.alloc _=w8 at *
 by_cases hq:tx r5=str sELSE
 ·have HQe:Hid (hd (tk r5)=sELSE):=(tx_hd (HF.out.suf HS.out) sELSE (⟨_,_,rfl,by decide⟩)).1 hq
  go_at_call 67
  refine (HW.out.tkY HS.out (x:=str sELSE) (by decide) hq).mono ?_
  rintro e w9 ⟨rfl,HL,HLs,hS,hW,hG⟩
  replace HM_k:=hide ((Mv.call (Nat.lt_of_lt_of_le HW.out.bl HZ_k.out) hG _).row HM_k.out)
  replace HW:=hW
  replace HS:=hS
  clear hG
  clear hq
  go_wp2_with fail
  replace HM_k:=hide ((Mv.quiet (grown_drew w9)).row HM_k.out)
  replace HW:=hide (HW.out.quiet (grown_drew w9))
  refine wp_region_held_drew (S:=(fun _=>True)) (by kernel_rfl) trivial fun hHd=>?_
  generalize w9.drew=w10 at *
  refine tq 0 ?_
  simp only [qq]
  refine tq 2 ?_
  simp only [qq]
  refine rq2 1 3 (fun K hK=>?_) fun K hK=>?_
  ·have hc11:=HW.out.c0
   go_simp
   clear hc11
   refine hK.out _ _ trivial fun hHd=>?_
   clear hK K
   try simp only [qq]
   refine rq 3 fun K hK=>?_
   go_simp
   refine (HBl.out r5.tail HS.out HL.out w10 HW.out.ps HW.out.two HW.out.glo HW.out.glt (HF.out.suf HS.out) (Nat.le_trans HS.out.length_le HLn.out)).mono ?_
   rintro e w12 hp
   obtain ⟨r12,n_z,k_z,t_z,v_z,a_z,l_z,c_z,rfl,HR_z,HN_z,HZ_z,HL,HSz,HLs2,hS,hW,hG⟩|⟨r,hR,rfl,h1,h2⟩:=HW.out.okN HS.out hp
   rotate_left
   ·exact ⟨rfl,h1,_,h2,Or.inr ⟨r_if3 HQ_sIF.out (by rw [← tk_tail];exact HR_x.out) HR_y.out HQe.out (by rw [← tk_tail];exact hR),rfl⟩⟩
   have HO_k:=hide HM_k.out.lt
   replace HM_k:=hide ((Mv.call (Nat.lt_of_lt_of_le HW.out.bl HZ_k.out) hG _).row HM_k.out)
   replace HW:=hW
   replace HS:=hS
   clear hG hp
   refine hK.out _ _ trivial fun hHd=>?_
   clear hK K
   try simp only [qq]
   refine rq 4 fun K hK=>?_
   replace HW:=hide (HW.out.alloc' w12.heap.size (by simp) #[.int .i64 k_z,.string t_z,.int .i64 v_z,.slice a_z l_z c_z] 24)
   replace HN_z:=hide ((HW.out.ma (by simp)).nd HN_z.out)
   replace HM_k:=hide ((HW.out.ma (by simp)).row HM_k.out)
   go_simp
   refine hK.out _ _ trivial fun hHd=>?_
   clear hK K
   try simp only [qq]
   generalize w12.alloc _=w13 at *
   refine rq 5 fun K hK=>?_
   refine app_s0 _ _ rfl rfl HW.out HM_k.out HN_z.out HZ_k.out HZ_z.out HO_k.out (by simp) ⟨rfl,rfl,rfl,rfl⟩ rfl rfl ?_
   intro g14 c14 w14 hW hM hG
   clear HM_k HN_z HZ_k HZ_z HO_k
   replace HW:=hide hW
   have HM_k2:=hide hM
   have HZ_k2:Hid (w.heap.size≤w.heap.size):=Nat.le_refl _
   clear hW hM hG
   refine hK.out _ _ trivial fun hHd=>?_
   clear hK K
   try simp only [qq]
   refine tq 6 ?_
   simp only [qq]
   refine rq 7 fun K hK=>?_
   have hc15:=HW.out.c0
   have hf16:=HW.out.f0
   replace HW:=hide (HW.out.p03 ((.slice (some ⟨g14,0,none⟩) (2+1) c14)))
   replace HM_k2:=hide ((HW.out.mp03).row HM_k2.out)
   go_simp
   refine hK.out _ _ trivial fun hHd=>?_
   clear hK K
   try simp only [qq]
   generalize w14.setCell _ _=w17 at *
   clear hc15 hf16
   refine wpAnyH_done (by kernel_rfl) ?_ _
   have HN_r:=hide (HM_k2.out.node 16 [] 0)
   have HZ_r:=HZ_k2
   clear HM_k2 HZ_k2
   have hc18:=HW.out.c0
   have hc19:=HW.out.c1
   have hc20:=HW.out.c2
   have hf21:=HW.out.f2
   replace HW:=hide (HW.out.s2 (.int .i64 16) (.string ⟨#[]⟩) (.int .i64 0) ((.slice (some ⟨g14,0,none⟩) (2+1) c14)))
   replace HN_r:=hide ((HW.out.ms2).nd HN_r.out)
   have hc22:=HW.out.c2
   have hl23:=HW.out.l2
   go_wp2_with fail
   generalize (((w17.setCell _ _).setCell _ _).setCell _ _).setCell _ _=w24 at *
   refine bodyPost_ret (v:=(.agg #[.int .i64 16,.string ⟨#[]⟩,.int .i64 0,(.slice (some ⟨g14,0,none⟩) (2+1) c14)])) (by simp [results,Tryz.results125,go_sem,hc22,hl23]) rfl ?_
   exact HW.out.post HS.out (r_if4 HQ_sIF.out (by rw [← tk_tail];exact HR_x.out) HR_y.out HQe.out (by rw [← tk_tail];exact HR_z.out)) HL.out HZ_r.out HN_r.out
  ·go_simp
   refine (HBl.out r5.tail HS.out HL.out w10 HW.out.ps HW.out.two HW.out.glo HW.out.glt (HF.out.suf HS.out) (Nat.le_trans HS.out.length_le HLn.out)).mono ?_
   rintro e w25 hp
   obtain ⟨r25,n_z,k_z,t_z,v_z,a_z,l_z,c_z,rfl,HR_z,HN_z,HZ_z,HL,HSz,HLs2,hS,hW,hG⟩|⟨r,hR,rfl,h1,h2⟩:=HW.out.okN HS.out hp
   rotate_left
   ·exact ⟨rfl,h1,_,h2,Or.inr ⟨r_if3 HQ_sIF.out (by rw [← tk_tail];exact HR_x.out) HR_y.out HQe.out (by rw [← tk_tail];exact hR),rfl⟩⟩
   have HO_k:=hide HM_k.out.lt
   replace HM_k:=hide ((Mv.call (Nat.lt_of_lt_of_le HW.out.bl HZ_k.out) hG _).row HM_k.out)
   replace HW:=hW
   replace HS:=hS
   clear hG hp
   refine hK.out _ _ trivial fun hHd=>?_
   clear hK K
   try simp only [qq]
   refine rq2 1 4 (fun K hK=>?_) fun K hK=>?_
   ·have hc26:=HW.out.c0
    go_simp
    clear hc26
    refine hK.out _ _ trivial fun hHd=>?_
    clear hK K
    try simp only [qq]
    refine rq 4 fun K hK=>?_
    replace HW:=hide (HW.out.alloc' w25.heap.size (by simp) #[.int .i64 k_z,.string t_z,.int .i64 v_z,.slice a_z l_z c_z] 24)
    replace HN_z:=hide ((HW.out.ma (by simp)).nd HN_z.out)
    replace HM_k:=hide ((HW.out.ma (by simp)).row HM_k.out)
    go_simp
    refine hK.out _ _ trivial fun hHd=>?_
    clear hK K
    try simp only [qq]
    generalize w25.alloc _=w27 at *
    refine rq 5 fun K hK=>?_
    refine app_s0 _ _ rfl rfl HW.out HM_k.out HN_z.out HZ_k.out HZ_z.out HO_k.out (by simp) ⟨rfl,rfl,rfl,rfl⟩ rfl rfl ?_
    intro g28 c28 w28 hW hM hG
    clear HM_k HN_z HZ_k HZ_z HO_k
    replace HW:=hide hW
    have HM_k2:=hide hM
    have HZ_k2:Hid (w.heap.size≤w.heap.size):=Nat.le_refl _
    clear hW hM hG
    refine hK.out _ _ trivial fun hHd=>?_
    clear hK K
    try simp only [qq]
    refine tq 6 ?_
    simp only [qq]
    refine rq 7 fun K hK=>?_
    have hc29:=HW.out.c0
    have hf30:=HW.out.f0
    replace HW:=hide (HW.out.p03 ((.slice (some ⟨g28,0,none⟩) (2+1) c28)))
    replace HM_k2:=hide ((HW.out.mp03).row HM_k2.out)
    go_simp
    refine hK.out _ _ trivial fun hHd=>?_
    clear hK K
    try simp only [qq]
    generalize w28.setCell _ _=w31 at *
    clear hc29 hf30
    refine wpAnyH_done (by kernel_rfl) ?_ _
    have HN_r:=hide (HM_k2.out.node 16 [] 0)
    have HZ_r:=HZ_k2
    clear HM_k2 HZ_k2
    have hc32:=HW.out.c0
    have hc33:=HW.out.c1
    have hc34:=HW.out.c2
    have hf35:=HW.out.f2
    replace HW:=hide (HW.out.s2 (.int .i64 16) (.string ⟨#[]⟩) (.int .i64 0) ((.slice (some ⟨g28,0,none⟩) (2+1) c28)))
    replace HN_r:=hide ((HW.out.ms2).nd HN_r.out)
    have hc36:=HW.out.c2
    have hl37:=HW.out.l2
    go_wp2_with fail
    generalize (((w31.setCell _ _).setCell _ _).setCell _ _).setCell _ _=w38 at *
    refine bodyPost_ret (v:=(.agg #[.int .i64 16,.string ⟨#[]⟩,.int .i64 0,(.slice (some ⟨g28,0,none⟩) (2+1) c28)])) (by simp [results,Tryz.results125,go_sem,hc36,hl37]) rfl ?_
    exact HW.out.post HS.out (r_if4 HQ_sIF.out (by rw [← tk_tail];exact HR_x.out) HR_y.out HQe.out (by rw [← tk_tail];exact HR_z.out)) HL.out HZ_r.out HN_r.out
   ·replace HW:=hide (HW.out.alloc' w25.heap.size (by simp) #[.int .i64 k_z,.string t_z,.int .i64 v_z,.slice a_z l_z c_z] 24)
    replace HN_z:=hide ((HW.out.ma (by simp)).nd HN_z.out)
    replace HM_k:=hide ((HW.out.ma (by simp)).row HM_k.out)
    go_simp
    refine hK.out _ _ trivial fun hHd=>?_
    clear hK K
    try simp only [qq]
    generalize w25.alloc _=w39 at *
    refine rq 1 fun K hK=>?_
    have hc40:=HW.out.c1
    go_simp
    clear hc40
    refine hK.out _ _ trivial fun hHd=>?_
    clear hK K
    try simp only [qq]
    refine rq 5 fun K hK=>?_
    refine app_s0 _ _ rfl rfl HW.out HM_k.out HN_z.out HZ_k.out HZ_z.out HO_k.out (by simp) ⟨rfl,rfl,rfl,rfl⟩ rfl rfl ?_
    intro g41 c41 w41 hW hM hG
    clear HM_k HN_z HZ_k HZ_z HO_k
    replace HW:=hide hW
    have HM_k2:=hide hM
    have HZ_k2:Hid (w.heap.size≤w.heap.size):=Nat.le_refl _
    clear hW hM hG
    refine hK.out _ _ trivial fun hHd=>?_
    clear hK K
    try simp only [qq]
    refine tq 6 ?_
    simp only [qq]
    refine rq 7 fun K hK=>?_
    have hc42:=HW.out.c0
    have hf43:=HW.out.f0
    replace HW:=hide (HW.out.p03 ((.slice (some ⟨g41,0,none⟩) (2+1) c41)))
    replace HM_k2:=hide ((HW.out.mp03).row HM_k2.out)
    go_simp
    refine hK.out _ _ trivial fun hHd=>?_
    clear hK K
    try simp only [qq]
    generalize w41.setCell _ _=w44 at *
    clear hc42 hf43
    refine wpAnyH_done (by kernel_rfl) ?_ _
    have HN_r:=hide (HM_k2.out.node 16 [] 0)
    have HZ_r:=HZ_k2
    clear HM_k2 HZ_k2
    have hc45:=HW.out.c0
    have hc46:=HW.out.c1
    have hc47:=HW.out.c2
    have hf48:=HW.out.f2
    replace HW:=hide (HW.out.s2 (.int .i64 16) (.string ⟨#[]⟩) (.int .i64 0) ((.slice (some ⟨g41,0,none⟩) (2+1) c41)))
    replace HN_r:=hide ((HW.out.ms2).nd HN_r.out)
    have hc49:=HW.out.c2
    have hl50:=HW.out.l2
    go_wp2_with fail
    generalize (((w44.setCell _ _).setCell _ _).setCell _ _).setCell _ _=w51 at *
    refine bodyPost_ret (v:=(.agg #[.int .i64 16,.string ⟨#[]⟩,.int .i64 0,(.slice (some ⟨g41,0,none⟩) (2+1) c41)])) (by simp [results,Tryz.results125,go_sem,hc49,hl50]) rfl ?_
    exact HW.out.post HS.out (r_if4 HQ_sIF.out (by rw [← tk_tail];exact HR_x.out) HR_y.out HQe.out (by rw [← tk_tail];exact HR_z.out)) HL.out HZ_r.out HN_r.out
 ·have HQe:Hid (¬ hd (tk r5)=sELSE):=fun e=>hq ((tx_hd (HF.out.suf HS.out) sELSE (⟨_,_,rfl,by decide⟩)).2 e)
  go_at_call 67
  refine (HW.out.tkN (x:=str sELSE) (by decide) hq).mono ?_
  rintro e w52 ⟨rfl,hW,hG⟩
  replace HM_k:=hide ((Mv.call (Nat.lt_of_lt_of_le HW.out.bl HZ_k.out) hG _).row HM_k.out)
  replace HW:=hW
  clear hG
  clear hq
  have HN_r:=hide (HM_k.out.node 16 [] 0)
  have HZ_r:=HZ_k
  clear HM_k HZ_k
  have hc53:=HW.out.c0
  have hc54:=HW.out.c1
  have hc55:=HW.out.c2
  have hf56:=HW.out.f2
  replace HW:=hide (HW.out.s2 (.int .i64 16) (.string ⟨#[]⟩) (.int .i64 0) ((.slice (some ⟨w5.heap.size,0,none⟩) 2 2)))
  replace HN_r:=hide ((HW.out.ms2).nd HN_r.out)
  have hc57:=HW.out.c2
  have hl58:=HW.out.l2
  go_wp2_with fail
  generalize (((w52.setCell _ _).setCell _ _).setCell _ _).setCell _ _=w59 at *
  refine bodyPost_ret (v:=(.agg #[.int .i64 16,.string ⟨#[]⟩,.int .i64 0,(.slice (some ⟨w5.heap.size,0,none⟩) 2 2)])) (by simp [results,Tryz.results125,go_sem,hc57,hl58]) rfl ?_
  exact HW.out.post HS.out (r_if2 HQ_sIF.out (by rw [← tk_tail];exact HR_x.out) HR_y.out HQe.out) HL.out HZ_r.out HN_r.out
end Go.Proofs.YthcfianhdkolhaaGreatDoor.Y
