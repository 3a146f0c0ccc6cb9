/- PbPb PbPc -/
import Derived.Test.YthcfianhdkolhaaGreatDoorShelf
import Derived.Test.YthcfianhdkolhaaGreatDoorPbPa
namespace Go.Proofs.YthcfianhdkolhaaGreatDoor.Y
open Go.RowKit Go.Proofs.YthcfianhdkolhaaGreatDoor.X Go.Proofs.YthcfianhdkolhaaGreatDoor.T Go.Proofs.YthcfianhdkolhaaGreatDoor.S
set_option maxRecDepth 100000
set_option maxHeartbeats 2000000
set_option linter.unusedVariables false
set_option linter.unusedSimpArgs false
variable {w w' : World} {b g : Nat} {m : Value} {ts : List Tok} {t : Tok}
theorem stat_set (h:Ps w b g m ts) (hT:Two w b m) (hGl:T.Gl w) (hb5:4<b) (hgl:g<w.heap.size) (hF:Fits ts) (hlen:ts.length≤4000) (hq_sIF:¬ tx ts=str sIF) (hq_sWHILE:¬ tx ts=str sWHILE) (hq_sRET:¬ tx ts=str sRET) (hq_sPUT:¬ tx ts=str sPUT) (hn0:nmAt ts 0=true) (hn1:nmAt ts 1=false) (hBl:Later 98 .block b g m ts):Calls Tryz.prog 125 #[.pointer (some ⟨b,0,none⟩)] w (PostN .stat w b g m ts):=by
 have HW:Hid (Wd w w b g m ts []):=Wd.start h hT hGl hb5 hgl
 have HS:Hid (ts <:+ ts):=List.suffix_refl _
 have HF:Hid (Fits ts):=hF
 have HLn:Hid (ts.length≤4000):=hlen
 have HBl:=hide hBl
 have HE:Hid (Later 143 .expr b g m ts):=expr_later hb5 ts
 have hc_sIF:((tx ts).toList == ([105,102]:List UInt8))=false:=by rw [cmp_str];exact decide_eq_false hq_sIF
 have hc_sWHILE:((tx ts).toList == ([119,104,105,108,101]:List UInt8))=false:=by rw [cmp_str];exact decide_eq_false hq_sWHILE
 have hc_sRET:((tx ts).toList == ([114,101,116,117,114,110]:List UInt8))=false:=by rw [cmp_str];exact decide_eq_false hq_sRET
 have hc_sPUT:((tx ts).toList == ([112,117,116]:List UInt8))=false:=by rw [cmp_str];exact decide_eq_false hq_sPUT
 have HQ_sIF:Hid (¬ hd (tk ts)=sIF):=fun e=>hq_sIF ((tx_hd hF sIF (⟨_,_,rfl,by decide⟩)).2 e)
 have HQ_sWHILE:Hid (¬ hd (tk ts)=sWHILE):=fun e=>hq_sWHILE ((tx_hd hF sWHILE (⟨_,_,rfl,by decide⟩)).2 e)
 have HQ_sRET:Hid (¬ hd (tk ts)=sRET):=fun e=>hq_sRET ((tx_hd hF sRET (⟨_,_,rfl,by decide⟩)).2 e)
 have HQ_sPUT:Hid (¬ hd (tk ts)=sPUT):=fun e=>hq_sPUT ((tx_hd hF sPUT (⟨_,_,rfl,by decide⟩)).2 e)
 have HN0:=hide hn0
 have HN1:=hide hn1
 have HB0:Hid (nameB (hd (tk ts))=true):=(nm_hd hF).symm.trans hn0
 have HB1:Hid (nameB (hd (tk ts).tail)=false):=by rw [← tk_tail];exact (nm_hd (hF.suf (List.tail_suffix _))).symm.trans ((nm_one ts).symm.trans hn1)
 clear hn0 hn1
 clear hq_sIF hq_sWHILE hq_sRET hq_sPUT
 clear hBl
 clear h hT hGl hgl hF hlen
 go_enter Tryz.func125,Tryz.ntmps125
 replace HW:=hide (HW.out.alloc' w.heap.size (by simp) #[.int .i64 0,.string ⟨#[]⟩,.int .i64 0,.slice none 0 0] 24)
 go_wp2_with fail
 generalize w.alloc _=w1 at *
 go_at_call 91
 refine (text_any HW.out.ps).mono ?_
 rintro e w2 ⟨rfl,hww⟩
 replace hww:w1=w2:=hww.symm
 subst hww
 go_wp2_with fail
 go_at_call 119
 refine (isName_any HW.out.ps (HF.out.suf HS.out).short 0 (by omega)).mono ?_
 rw [HN0.out]
 rintro e w3 ⟨rfl,hww⟩
 replace hww:w1=w3:=hww.symm
 subst hww
 go_wp2_with fail
 go_at_call 119
 refine (isName_any HW.out.ps (HF.out.suf HS.out).short 1 (by omega)).mono ?_
 rw [HN1.out]
 rintro e w4 ⟨rfl,hww⟩
 replace hww:w1=w4:=hww.symm
 subst hww
 go_wp2_with fail
 go_at_call 144
 refine (setOrDo_any HW.out.ps HW.out.two HW.out.glo HW.out.bg HW.out.glt (HF.out.suf HS.out) (Nat.le_trans HS.out.length_le HLn.out)).mono ?_
 rintro e w5 ⟨hG5,r5,hsu,⟨n_x,vv,hlt,hR,rfl,hN,hP5⟩|⟨hR,rfl⟩⟩
 rotate_left
 ·exact ⟨rfl,grown_trans HW.out.grown hG5,_,hsu.trans HS.out,Or.inr ⟨r_sd0 HQ_sIF.out HQ_sWHILE.out HQ_sRET.out HQ_sPUT.out HB0.out HB1.out hR,rfl⟩⟩
 obtain ⟨k_x,t_x,v_x,a_x,l_x,c_x,rfl⟩:=hN.form
 have HR_x:=hide hR
 have HN_x:=hide (hN.given HW.out)
 have HZ_x:Hid (w.heap.size≤w1.heap.size):=HW.out.grown.size
 have HL:Hid (r5.length<ts.length):=Nat.lt_of_lt_of_le hlt HS.out.length_le
 replace HW:=hide (HW.out.call hG5 hP5)
 replace HS:=hide ((hsu).trans HS.out)
 clear hP5 hG5 hR hN hsu hlt
 go_wp2_with fail
 go_at_call 142
 refine (ended_any HW.out.ps HW.out.glt _ _ _ _ _ _).mono ?_
 rintro e w6 ⟨hG6,⟨hq,rfl,hP6⟩|⟨hq,rfl⟩⟩
 rotate_left
 ·replace hq:¬ hd (tk r5)=sSEMI:=fun e=>hq ((tx_hd (HF.out.suf HS.out) sSEMI (⟨_,_,rfl,by decide⟩)).2 e)
  exact ⟨rfl,grown_trans HW.out.grown hG6,_,HS.out,Or.inr ⟨r_sd1 HQ_sIF.out HQ_sWHILE.out HQ_sRET.out HQ_sPUT.out HB0.out HB1.out HR_x.out hq,rfl⟩⟩
 have HQ3:Hid (hd (tk r5)=sSEMI):=(tx_hd (HF.out.suf HS.out) sSEMI (⟨_,_,rfl,by decide⟩)).1 hq
 have HL:Hid (r5.tail.length<ts.length):=Nat.lt_of_lt_of_le (tail_lt (by decide) hq) HS.out.length_le
 replace HN_x:=hide ((Mv.call (Nat.lt_of_lt_of_le HW.out.bl HZ_x.out) hG6 _).nd HN_x.out)
 replace HW:=hide (HW.out.call hG6 hP6)
 replace HS:=hide ((List.tail_suffix _).trans HS.out)
 clear hP6 hG6 hq
 have hc7:=HW.out.c0
 have hf8:=HW.out.f0
 replace HW:=hide (HW.out.s0 (.int .i64 k_x) (.string t_x) (.int .i64 v_x) (.slice a_x l_x c_x))
 replace HN_x:=hide ((HW.out.ms0).nd HN_x.out)
 have hc9:=HW.out.c0
 have hl10:=HW.out.l0
 go_wp2_with fail
 generalize (((w6.setCell _ _).setCell _ _).setCell _ _).setCell _ _=w11 at *
 refine bodyPost_ret (v:=(.agg #[.int .i64 k_x,.string t_x,.int .i64 v_x,.slice a_x l_x c_x])) (by simp [results,Tryz.results125,go_sem,hc9,hl10]) rfl ?_
 exact HW.out.post HS.out (by rw [tk_tail];exact r_sd2 HQ_sIF.out HQ_sWHILE.out HQ_sRET.out HQ_sPUT.out HB0.out HB1.out HR_x.out HQ3.out) HL.out HZ_x.out HN_x.out
theorem stat_var1 (h:Ps w b g m ts) (hT:Two w b m) (hGl:T.Gl w) (hb5:4<b) (hgl:g<w.heap.size) (hF:Fits ts) (hlen:ts.length≤4000) (hq_sIF:¬ tx ts=str sIF) (hq_sWHILE:¬ tx ts=str sWHILE) (hq_sRET:¬ tx ts=str sRET) (hq_sPUT:¬ tx ts=str sPUT) (hn0:nmAt ts 0=false) (hBl:Later 98 .block b g m ts):Calls Tryz.prog 125 #[.pointer (some ⟨b,0,none⟩)] w (PostN .stat w b g m ts):=by
 have HW:Hid (Wd w w b g m ts []):=Wd.start h hT hGl hb5 hgl
 have HS:Hid (ts <:+ ts):=List.suffix_refl _
 have HF:Hid (Fits ts):=hF
 have HLn:Hid (ts.length≤4000):=hlen
 have HBl:=hide hBl
 have HE:Hid (Later 143 .expr b g m ts):=expr_later hb5 ts
 have hc_sIF:((tx ts).toList == ([105,102]:List UInt8))=false:=by rw [cmp_str];exact decide_eq_false hq_sIF
 have hc_sWHILE:((tx ts).toList == ([119,104,105,108,101]:List UInt8))=false:=by rw [cmp_str];exact decide_eq_false hq_sWHILE
 have hc_sRET:((tx ts).toList == ([114,101,116,117,114,110]:List UInt8))=false:=by rw [cmp_str];exact decide_eq_false hq_sRET
 have hc_sPUT:((tx ts).toList == ([112,117,116]:List UInt8))=false:=by rw [cmp_str];exact decide_eq_false hq_sPUT
 have HQ_sIF:Hid (¬ hd (tk ts)=sIF):=fun e=>hq_sIF ((tx_hd hF sIF (⟨_,_,rfl,by decide⟩)).2 e)
 have HQ_sWHILE:Hid (¬ hd (tk ts)=sWHILE):=fun e=>hq_sWHILE ((tx_hd hF sWHILE (⟨_,_,rfl,by decide⟩)).2 e)
 have HQ_sRET:Hid (¬ hd (tk ts)=sRET):=fun e=>hq_sRET ((tx_hd hF sRET (⟨_,_,rfl,by decide⟩)).2 e)
 have HQ_sPUT:Hid (¬ hd (tk ts)=sPUT):=fun e=>hq_sPUT ((tx_hd hF sPUT (⟨_,_,rfl,by decide⟩)).2 e)
 have HN0:=hide hn0
 have HV:Hid (¬ (nameB (hd (tk ts))=true∧nameB (hd (tk ts).tail)=false)):=fun h=>by
  have e:nameB (hd (tk ts))=false:=(nm_hd hF).symm.trans hn0
  rw [e] at h
  cases h.1
 clear hn0
 clear hq_sIF hq_sWHILE hq_sRET hq_sPUT
 clear hBl
 clear h hT hGl hgl hF hlen
 go_enter Tryz.func125,Tryz.ntmps125
 replace HW:=hide (HW.out.alloc' w.heap.size (by simp) #[.int .i64 0,.string ⟨#[]⟩,.int .i64 0,.slice none 0 0] 24)
 go_wp2_with fail
 generalize w.alloc _=w1 at *
 go_at_call 91
 refine (text_any HW.out.ps).mono ?_
 rintro e w2 ⟨rfl,hww⟩
 replace hww:w1=w2:=hww.symm
 subst hww
 go_wp2_with fail
 go_at_call 119
 refine (isName_any HW.out.ps (HF.out.suf HS.out).short 0 (by omega)).mono ?_
 rw [HN0.out]
 rintro e w3 ⟨rfl,hww⟩
 replace hww:w1=w3:=hww.symm
 subst hww
 go_wp2_with fail
 go_at_call 95
 refine (typed_any HW.out.ps HW.out.two HW.out.glo HW.out.bg HW.out.glt (HF.out.suf HS.out) (Nat.le_trans HS.out.length_le HLn.out) 14).mono ?_
 rintro e w4 ⟨hG4,r4,hsu,⟨t_k,s_k,q_k,hlt,hO,rfl,hM,hP4⟩|⟨hO,rfl⟩⟩
 rotate_left
 ·exact ⟨rfl,grown_trans HW.out.grown hG4,_,hsu.trans HS.out,Or.inr ⟨r_va0 HQ_sIF.out HQ_sWHILE.out HQ_sRET.out HQ_sPUT.out HV.out hO,rfl⟩⟩
 have HT_k:=hide hO
 have HM_k:=hide (hM.given HW.out)
 have HZ_k:Hid (w.heap.size≤w1.heap.size):=HW.out.grown.size
 have HSk:Hid (r4 <:+ ts):=hsu
 have HLs2:Hid (r4.length<ts.length):=hlt
 have HL:Hid (r4.length<ts.length):=Nat.lt_of_lt_of_le hlt HS.out.length_le
 replace HW:=hide (HW.out.call hG4 hP4)
 replace HS:=hide ((hsu).trans HS.out)
 clear hP4 hG4 hO hM hsu hlt
 replace HW:=hide (HW.out.alloc' w4.heap.size (by simp) #[.int .i64 14,.string (str s_k),.int .i64 0,(.slice (some ⟨q_k,0,none⟩) 1 1)] 24)
 replace HM_k:=hide ((HW.out.ma (by simp)).row HM_k.out)
 have HA:=hide (HW.out.ask1 HS.out HF.out (s:=sEQ) (⟨_,_,rfl,by decide⟩) (by decide) (q:=(w4.heap.size+1)) (by simp))
 go_wp2_with fail
 generalize w4.alloc _=w5 at *
 go_at_call 94
 refine HA.out.mono ?_
 clear HA
 rintro e w6 (⟨HQe,rfl,HL,hS,hW,hG⟩|⟨hq,rfl,h1⟩)
 rotate_left
 ·exact ⟨rfl,h1,_,HS.out,Or.inr ⟨r_va1 HQ_sIF.out HQ_sWHILE.out HQ_sRET.out HQ_sPUT.out HV.out HT_k.out (va0 hq),rfl⟩⟩
 replace HM_k:=hide ((Mv.call (Nat.lt_of_lt_of_le HW.out.bl HZ_k.out) hG _).row HM_k.out)
 replace HW:=hW
 replace HS:=hS
 clear hG
 go_wp2_with fail
 replace HM_k:=hide ((Mv.quiet (grown_drew w6)).row HM_k.out)
 replace HW:=hide (HW.out.quiet (grown_drew w6))
 refine wp_region_held_drew (S:=(fun _=>True)) (by kernel_rfl) trivial fun hHd=>?_
 generalize w6.drew=w7 at *
 refine tq 0 ?_
 simp only [qq]
 refine tq 2 ?_
 simp only [qq]
 refine rq2 1 3 (fun K hK=>?_) fun K hK=>?_
 ·have hc8:=HW.out.c0
  go_simp
  clear hc8
  refine hK.out _ _ trivial fun hHd=>?_
  clear hK K
  try simp only [qq]
  refine rq 3 fun K hK=>?_
  go_simp
  refine (HE.out r4.tail HS.out HL.out w7 HW.out.ps HW.out.two HW.out.glo HW.out.glt (HF.out.suf HS.out) (Nat.le_trans HS.out.length_le HLn.out)).mono ?_
  rintro e w9 hp
  obtain ⟨r9,n_x,k_x,t_x,v_x,a_x,l_x,c_x,rfl,HR_x,HN_x,HZ_x,HL,HSx,HLs2,hS,hW,hG⟩|⟨r,hR,rfl,h1,h2⟩:=HW.out.okN HS.out hp
  rotate_left
  ·exact ⟨rfl,h1,_,h2,Or.inr ⟨r_va1 HQ_sIF.out HQ_sWHILE.out HQ_sRET.out HQ_sPUT.out HV.out HT_k.out (va1 HQe.out (by rw [← tk_tail];exact hR)),rfl⟩⟩
  have HO_k:=hide HM_k.out.lt
  replace HM_k:=hide ((Mv.call (Nat.lt_of_lt_of_le HW.out.bl HZ_k.out) hG _).row HM_k.out)
  replace HW:=hW
  replace HS:=hS
  clear hG hp
  refine hK.out _ _ trivial fun hHd=>?_
  clear hK K
  try simp only [qq]
  refine rq 4 fun K hK=>?_
  replace HW:=hide (HW.out.alloc' w9.heap.size (by simp) #[.int .i64 k_x,.string t_x,.int .i64 v_x,.slice a_x l_x c_x] 24)
  replace HN_x:=hide ((HW.out.ma (by simp)).nd HN_x.out)
  replace HM_k:=hide ((HW.out.ma (by simp)).row HM_k.out)
  go_simp
  refine hK.out _ _ trivial fun hHd=>?_
  clear hK K
  try simp only [qq]
  generalize w9.alloc _=w10 at *
  refine rq 5 fun K hK=>?_
  refine app_s0 _ _ rfl rfl HW.out HM_k.out HN_x.out HZ_k.out HZ_x.out HO_k.out (by simp) ⟨rfl,rfl,rfl,rfl⟩ rfl rfl ?_
  intro g11 c11 w11 hW hM hG
  clear HM_k HN_x HZ_k HZ_x HO_k
  replace HW:=hide hW
  have HM_k2:=hide hM
  have HZ_k2:Hid (w.heap.size≤w.heap.size):=Nat.le_refl _
  clear hW hM hG
  refine hK.out _ _ trivial fun hHd=>?_
  clear hK K
  try simp only [qq]
  refine tq 6 ?_
  simp only [qq]
  refine rq 7 fun K hK=>?_
  have hc12:=HW.out.c0
  have hf13:=HW.out.f0
  replace HW:=hide (HW.out.p03 ((.slice (some ⟨g11,0,none⟩) (1+1) c11)))
  replace HM_k2:=hide ((HW.out.mp03).row HM_k2.out)
  go_simp
  refine hK.out _ _ trivial fun hHd=>?_
  clear hK K
  try simp only [qq]
  generalize w11.setCell _ _=w14 at *
  clear hc12 hf13
  refine wpAnyH_done (by kernel_rfl) ?_ _
  have HN_r:=hide (HM_k2.out.node 14 s_k 0)
  have HZ_r:=HZ_k2
  clear HM_k2 HZ_k2
  have hc15:=HW.out.c0
  go_wp2_with fail
  clear hc15
  go_at_call 142
  refine (ended_any HW.out.ps HW.out.glt _ _ _ _ _ _).mono ?_
  rintro e w16 ⟨hG16,⟨hq,rfl,hP16⟩|⟨hq,rfl⟩⟩
  rotate_left
  ·replace hq:¬ hd (tk r9)=sSEMI:=fun e=>hq ((tx_hd (HF.out.suf HS.out) sSEMI (⟨_,_,rfl,by decide⟩)).2 e)
   exact ⟨rfl,grown_trans HW.out.grown hG16,_,HS.out,Or.inr ⟨r_va1 HQ_sIF.out HQ_sWHILE.out HQ_sRET.out HQ_sPUT.out HV.out HT_k.out (va2 HQe.out (by rw [← tk_tail];exact HR_x.out) hq),rfl⟩⟩
  have HQ3:Hid (hd (tk r9)=sSEMI):=(tx_hd (HF.out.suf HS.out) sSEMI (⟨_,_,rfl,by decide⟩)).1 hq
  have HL:Hid (r9.tail.length<ts.length):=Nat.lt_of_lt_of_le (tail_lt (by decide) hq) HS.out.length_le
  replace HN_r:=hide ((Mv.call (Nat.lt_of_lt_of_le HW.out.bl HZ_r.out) hG16 _).nd HN_r.out)
  replace HW:=hide (HW.out.call hG16 hP16)
  replace HS:=hide ((List.tail_suffix _).trans HS.out)
  clear hP16 hG16 hq
  have hc17:=HW.out.c0
  have hc18:=HW.out.c1
  have hf19:=HW.out.f1
  replace HW:=hide (HW.out.s1 (.int .i64 14) (.string (str s_k)) (.int .i64 0) ((.slice (some ⟨g11,0,none⟩) (1+1) c11)))
  replace HN_r:=hide ((HW.out.ms1).nd HN_r.out)
  have hc20:=HW.out.c1
  have hl21:=HW.out.l1
  go_wp2_with fail
  generalize (((w16.setCell _ _).setCell _ _).setCell _ _).setCell _ _=w22 at *
  refine bodyPost_ret (v:=(.agg #[.int .i64 14,.string (str s_k),.int .i64 0,(.slice (some ⟨g11,0,none⟩) (1+1) c11)])) (by simp [results,Tryz.results125,go_sem,hc20,hl21]) rfl ?_
  exact HW.out.post HS.out (by rw [tk_tail];exact r_va1 HQ_sIF.out HQ_sWHILE.out HQ_sRET.out HQ_sPUT.out HV.out HT_k.out (va3 HQe.out (by rw [← tk_tail];exact HR_x.out) HQ3.out)) HL.out HZ_r.out HN_r.out
 ·go_simp
  refine (HE.out r4.tail HS.out HL.out w7 HW.out.ps HW.out.two HW.out.glo HW.out.glt (HF.out.suf HS.out) (Nat.le_trans HS.out.length_le HLn.out)).mono ?_
  rintro e w23 hp
  obtain ⟨r23,n_x,k_x,t_x,v_x,a_x,l_x,c_x,rfl,HR_x,HN_x,HZ_x,HL,HSx,HLs2,hS,hW,hG⟩|⟨r,hR,rfl,h1,h2⟩:=HW.out.okN HS.out hp
  rotate_left
  ·exact ⟨rfl,h1,_,h2,Or.inr ⟨r_va1 HQ_sIF.out HQ_sWHILE.out HQ_sRET.out HQ_sPUT.out HV.out HT_k.out (va1 HQe.out (by rw [← tk_tail];exact hR)),rfl⟩⟩
  have HO_k:=hide HM_k.out.lt
  replace HM_k:=hide ((Mv.call (Nat.lt_of_lt_of_le HW.out.bl HZ_k.out) hG _).row HM_k.out)
  replace HW:=hW
  replace HS:=hS
  clear hG hp
  refine hK.out _ _ trivial fun hHd=>?_
  clear hK K
  try simp only [qq]
  refine rq2 1 4 (fun K hK=>?_) fun K hK=>?_
  ·have hc24:=HW.out.c0
   go_simp
   clear hc24
   refine hK.out _ _ trivial fun hHd=>?_
   clear hK K
   try simp only [qq]
   refine rq 4 fun K hK=>?_
   replace HW:=hide (HW.out.alloc' w23.heap.size (by simp) #[.int .i64 k_x,.string t_x,.int .i64 v_x,.slice a_x l_x c_x] 24)
   replace HN_x:=hide ((HW.out.ma (by simp)).nd HN_x.out)
   replace HM_k:=hide ((HW.out.ma (by simp)).row HM_k.out)
   go_simp
   refine hK.out _ _ trivial fun hHd=>?_
   clear hK K
   try simp only [qq]
   generalize w23.alloc _=w25 at *
   refine rq 5 fun K hK=>?_
   refine app_s0 _ _ rfl rfl HW.out HM_k.out HN_x.out HZ_k.out HZ_x.out HO_k.out (by simp) ⟨rfl,rfl,rfl,rfl⟩ rfl rfl ?_
   intro g26 c26 w26 hW hM hG
   clear HM_k HN_x HZ_k HZ_x HO_k
   replace HW:=hide hW
   have HM_k2:=hide hM
   have HZ_k2:Hid (w.heap.size≤w.heap.size):=Nat.le_refl _
   clear hW hM hG
   refine hK.out _ _ trivial fun hHd=>?_
   clear hK K
   try simp only [qq]
   refine tq 6 ?_
   simp only [qq]
   refine rq 7 fun K hK=>?_
   have hc27:=HW.out.c0
   have hf28:=HW.out.f0
   replace HW:=hide (HW.out.p03 ((.slice (some ⟨g26,0,none⟩) (1+1) c26)))
   replace HM_k2:=hide ((HW.out.mp03).row HM_k2.out)
   go_simp
   refine hK.out _ _ trivial fun hHd=>?_
   clear hK K
   try simp only [qq]
   generalize w26.setCell _ _=w29 at *
   clear hc27 hf28
   refine wpAnyH_done (by kernel_rfl) ?_ _
   have HN_r:=hide (HM_k2.out.node 14 s_k 0)
   have HZ_r:=HZ_k2
   clear HM_k2 HZ_k2
   have hc30:=HW.out.c0
   go_wp2_with fail
   clear hc30
   go_at_call 142
   refine (ended_any HW.out.ps HW.out.glt _ _ _ _ _ _).mono ?_
   rintro e w31 ⟨hG31,⟨hq,rfl,hP31⟩|⟨hq,rfl⟩⟩
   rotate_left
   ·replace hq:¬ hd (tk r23)=sSEMI:=fun e=>hq ((tx_hd (HF.out.suf HS.out) sSEMI (⟨_,_,rfl,by decide⟩)).2 e)
    exact ⟨rfl,grown_trans HW.out.grown hG31,_,HS.out,Or.inr ⟨r_va1 HQ_sIF.out HQ_sWHILE.out HQ_sRET.out HQ_sPUT.out HV.out HT_k.out (va2 HQe.out (by rw [← tk_tail];exact HR_x.out) hq),rfl⟩⟩
   have HQ3:Hid (hd (tk r23)=sSEMI):=(tx_hd (HF.out.suf HS.out) sSEMI (⟨_,_,rfl,by decide⟩)).1 hq
   have HL:Hid (r23.tail.length<ts.length):=Nat.lt_of_lt_of_le (tail_lt (by decide) hq) HS.out.length_le
   replace HN_r:=hide ((Mv.call (Nat.lt_of_lt_of_le HW.out.bl HZ_r.out) hG31 _).nd HN_r.out)
   replace HW:=hide (HW.out.call hG31 hP31)
   replace HS:=hide ((List.tail_suffix _).trans HS.out)
   clear hP31 hG31 hq
   have hc32:=HW.out.c0
   have hc33:=HW.out.c1
   have hf34:=HW.out.f1
   replace HW:=hide (HW.out.s1 (.int .i64 14) (.string (str s_k)) (.int .i64 0) ((.slice (some ⟨g26,0,none⟩) (1+1) c26)))
   replace HN_r:=hide ((HW.out.ms1).nd HN_r.out)
   have hc35:=HW.out.c1
   have hl36:=HW.out.l1
   go_wp2_with fail
   generalize (((w31.setCell _ _).setCell _ _).setCell _ _).setCell _ _=w37 at *
   refine bodyPost_ret (v:=(.agg #[.int .i64 14,.string (str s_k),.int .i64 0,(.slice (some ⟨g26,0,none⟩) (1+1) c26)])) (by simp [results,Tryz.results125,go_sem,hc35,hl36]) rfl ?_
   exact HW.out.post HS.out (by rw [tk_tail];exact r_va1 HQ_sIF.out HQ_sWHILE.out HQ_sRET.out HQ_sPUT.out HV.out HT_k.out (va3 HQe.out (by rw [← tk_tail];exact HR_x.out) HQ3.out)) HL.out HZ_r.out HN_r.out
  ·replace HW:=hide (HW.out.alloc' w23.heap.size (by simp) #[.int .i64 k_x,.string t_x,.int .i64 v_x,.slice a_x l_x c_x] 24)
   replace HN_x:=hide ((HW.out.ma (by simp)).nd HN_x.out)
   replace HM_k:=hide ((HW.out.ma (by simp)).row HM_k.out)
   go_simp
   refine hK.out _ _ trivial fun hHd=>?_
   clear hK K
   try simp only [qq]
   generalize w23.alloc _=w38 at *
   refine rq 1 fun K hK=>?_
   have hc39:=HW.out.c1
   go_simp
   clear hc39
   refine hK.out _ _ trivial fun hHd=>?_
   clear hK K
   try simp only [qq]
   refine rq 5 fun K hK=>?_
   refine app_s0 _ _ rfl rfl HW.out HM_k.out HN_x.out HZ_k.out HZ_x.out HO_k.out (by simp) ⟨rfl,rfl,rfl,rfl⟩ rfl rfl ?_
   intro g40 c40 w40 hW hM hG
   clear HM_k HN_x HZ_k HZ_x HO_k
   replace HW:=hide hW
   have HM_k2:=hide hM
   have HZ_k2:Hid (w.heap.size≤w.heap.size):=Nat.le_refl _
   clear hW hM hG
   refine hK.out _ _ trivial fun hHd=>?_
   clear hK K
   try simp only [qq]
   refine tq 6 ?_
   simp only [qq]
   refine rq 7 fun K hK=>?_
   have hc41:=HW.out.c0
   have hf42:=HW.out.f0
   replace HW:=hide (HW.out.p03 ((.slice (some ⟨g40,0,none⟩) (1+1) c40)))
   replace HM_k2:=hide ((HW.out.mp03).row HM_k2.out)
   go_simp
   refine hK.out _ _ trivial fun hHd=>?_
   clear hK K
   try simp only [qq]
   generalize w40.setCell _ _=w43 at *
   clear hc41 hf42
   refine wpAnyH_done (by kernel_rfl) ?_ _
   have HN_r:=hide (HM_k2.out.node 14 s_k 0)
   have HZ_r:=HZ_k2
   clear HM_k2 HZ_k2
   have hc44:=HW.out.c0
   go_wp2_with fail
   clear hc44
   go_at_call 142
   refine (ended_any HW.out.ps HW.out.glt _ _ _ _ _ _).mono ?_
   rintro e w45 ⟨hG45,⟨hq,rfl,hP45⟩|⟨hq,rfl⟩⟩
   rotate_left
   ·replace hq:¬ hd (tk r23)=sSEMI:=fun e=>hq ((tx_hd (HF.out.suf HS.out) sSEMI (⟨_,_,rfl,by decide⟩)).2 e)
    exact ⟨rfl,grown_trans HW.out.grown hG45,_,HS.out,Or.inr ⟨r_va1 HQ_sIF.out HQ_sWHILE.out HQ_sRET.out HQ_sPUT.out HV.out HT_k.out (va2 HQe.out (by rw [← tk_tail];exact HR_x.out) hq),rfl⟩⟩
   have HQ3:Hid (hd (tk r23)=sSEMI):=(tx_hd (HF.out.suf HS.out) sSEMI (⟨_,_,rfl,by decide⟩)).1 hq
   have HL:Hid (r23.tail.length<ts.length):=Nat.lt_of_lt_of_le (tail_lt (by decide) hq) HS.out.length_le
   replace HN_r:=hide ((Mv.call (Nat.lt_of_lt_of_le HW.out.bl HZ_r.out) hG45 _).nd HN_r.out)
   replace HW:=hide (HW.out.call hG45 hP45)
   replace HS:=hide ((List.tail_suffix _).trans HS.out)
   clear hP45 hG45 hq
   have hc46:=HW.out.c0
   have hc47:=HW.out.c1
   have hf48:=HW.out.f1
   replace HW:=hide (HW.out.s1 (.int .i64 14) (.string (str s_k)) (.int .i64 0) ((.slice (some ⟨g40,0,none⟩) (1+1) c40)))
   replace HN_r:=hide ((HW.out.ms1).nd HN_r.out)
   have hc49:=HW.out.c1
   have hl50:=HW.out.l1
   go_wp2_with fail
   generalize (((w45.setCell _ _).setCell _ _).setCell _ _).setCell _ _=w51 at *
   refine bodyPost_ret (v:=(.agg #[.int .i64 14,.string (str s_k),.int .i64 0,(.slice (some ⟨g40,0,none⟩) (1+1) c40)])) (by simp [results,Tryz.results125,go_sem,hc49,hl50]) rfl ?_
   exact HW.out.post HS.out (by rw [tk_tail];exact r_va1 HQ_sIF.out HQ_sWHILE.out HQ_sRET.out HQ_sPUT.out HV.out HT_k.out (va3 HQe.out (by rw [← tk_tail];exact HR_x.out) HQ3.out)) HL.out HZ_r.out HN_r.out
end Go.Proofs.YthcfianhdkolhaaGreatDoor.Y
namespace Go.Proofs.YthcfianhdkolhaaGreatDoor.Y
open Go.RowKit Go.Proofs.YthcfianhdkolhaaGreatDoor.X Go.Proofs.YthcfianhdkolhaaGreatDoor.T Go.Proofs.YthcfianhdkolhaaGreatDoor.S
set_option maxRecDepth 100000
set_option maxHeartbeats 2000000
set_option linter.unusedVariables false
set_option linter.unusedSimpArgs false
variable {w w' : World} {b g : Nat} {m : Value} {ts : List Tok} {t : Tok}
theorem stat_var2 (h:Ps w b g m ts) (hT:Two w b m) (hGl:T.Gl w) (hb5:4<b) (hgl:g<w.heap.size) (hF:Fits ts) (hlen:ts.length≤4000) (hq_sIF:¬ tx ts=str sIF) (hq_sWHILE:¬ tx ts=str sWHILE) (hq_sRET:¬ tx ts=str sRET) (hq_sPUT:¬ tx ts=str sPUT) (hn0:nmAt ts 0=true) (hn1:nmAt ts 1=true) (hBl:Later 98 .block b g m ts):Calls Tryz.prog 125 #[.pointer (some ⟨b,0,none⟩)] w (PostN .stat w b g m ts):=by
 have HW:Hid (Wd w w b g m ts []):=Wd.start h hT hGl hb5 hgl
 have HS:Hid (ts <:+ ts):=List.suffix_refl _
 have HF:Hid (Fits ts):=hF
 have HLn:Hid (ts.length≤4000):=hlen
 have HBl:=hide hBl
 have HE:Hid (Later 143 .expr b g m ts):=expr_later hb5 ts
 have hc_sIF:((tx ts).toList == ([105,102]:List UInt8))=false:=by rw [cmp_str];exact decide_eq_false hq_sIF
 have hc_sWHILE:((tx ts).toList == ([119,104,105,108,101]:List UInt8))=false:=by rw [cmp_str];exact decide_eq_false hq_sWHILE
 have hc_sRET:((tx ts).toList == ([114,101,116,117,114,110]:List UInt8))=false:=by rw [cmp_str];exact decide_eq_false hq_sRET
 have hc_sPUT:((tx ts).toList == ([112,117,116]:List UInt8))=false:=by rw [cmp_str];exact decide_eq_false hq_sPUT
 have HQ_sIF:Hid (¬ hd (tk ts)=sIF):=fun e=>hq_sIF ((tx_hd hF sIF (⟨_,_,rfl,by decide⟩)).2 e)
 have HQ_sWHILE:Hid (¬ hd (tk ts)=sWHILE):=fun e=>hq_sWHILE ((tx_hd hF sWHILE (⟨_,_,rfl,by decide⟩)).2 e)
 have HQ_sRET:Hid (¬ hd (tk ts)=sRET):=fun e=>hq_sRET ((tx_hd hF sRET (⟨_,_,rfl,by decide⟩)).2 e)
 have HQ_sPUT:Hid (¬ hd (tk ts)=sPUT):=fun e=>hq_sPUT ((tx_hd hF sPUT (⟨_,_,rfl,by decide⟩)).2 e)
 have HN0:=hide hn0
 have HN1:=hide hn1
 have HV:Hid (¬ (nameB (hd (tk ts))=true∧nameB (hd (tk ts).tail)=false)):=fun h=>by
  have e:nameB (hd (tk ts).tail)=true:=by rw [← tk_tail];exact (nm_hd (hF.suf (List.tail_suffix _))).symm.trans ((nm_one ts).symm.trans hn1)
  rw [e] at h
  cases h.2
 clear hn0 hn1
 clear hq_sIF hq_sWHILE hq_sRET hq_sPUT
 clear hBl
 clear h hT hGl hgl hF hlen
 go_enter Tryz.func125,Tryz.ntmps125
 replace HW:=hide (HW.out.alloc' w.heap.size (by simp) #[.int .i64 0,.string ⟨#[]⟩,.int .i64 0,.slice none 0 0] 24)
 go_wp2_with fail
 generalize w.alloc _=w1 at *
 go_at_call 91
 refine (text_any HW.out.ps).mono ?_
 rintro e w2 ⟨rfl,hww⟩
 replace hww:w1=w2:=hww.symm
 subst hww
 go_wp2_with fail
 go_at_call 119
 refine (isName_any HW.out.ps (HF.out.suf HS.out).short 0 (by omega)).mono ?_
 rw [HN0.out]
 rintro e w3 ⟨rfl,hww⟩
 replace hww:w1=w3:=hww.symm
 subst hww
 go_wp2_with fail
 go_at_call 119
 refine (isName_any HW.out.ps (HF.out.suf HS.out).short 1 (by omega)).mono ?_
 rw [HN1.out]
 rintro e w4 ⟨rfl,hww⟩
 replace hww:w1=w4:=hww.symm
 subst hww
 go_wp2_with fail
 go_at_call 95
 refine (typed_any HW.out.ps HW.out.two HW.out.glo HW.out.bg HW.out.glt (HF.out.suf HS.out) (Nat.le_trans HS.out.length_le HLn.out) 14).mono ?_
 rintro e w5 ⟨hG5,r5,hsu,⟨t_k,s_k,q_k,hlt,hO,rfl,hM,hP5⟩|⟨hO,rfl⟩⟩
 rotate_left
 ·exact ⟨rfl,grown_trans HW.out.grown hG5,_,hsu.trans HS.out,Or.inr ⟨r_va0 HQ_sIF.out HQ_sWHILE.out HQ_sRET.out HQ_sPUT.out HV.out hO,rfl⟩⟩
 have HT_k:=hide hO
 have HM_k:=hide (hM.given HW.out)
 have HZ_k:Hid (w.heap.size≤w1.heap.size):=HW.out.grown.size
 have HSk:Hid (r5 <:+ ts):=hsu
 have HLs2:Hid (r5.length<ts.length):=hlt
 have HL:Hid (r5.length<ts.length):=Nat.lt_of_lt_of_le hlt HS.out.length_le
 replace HW:=hide (HW.out.call hG5 hP5)
 replace HS:=hide ((hsu).trans HS.out)
 clear hP5 hG5 hO hM hsu hlt
 replace HW:=hide (HW.out.alloc' w5.heap.size (by simp) #[.int .i64 14,.string (str s_k),.int .i64 0,(.slice (some ⟨q_k,0,none⟩) 1 1)] 24)
 replace HM_k:=hide ((HW.out.ma (by simp)).row HM_k.out)
 have HA:=hide (HW.out.ask1 HS.out HF.out (s:=sEQ) (⟨_,_,rfl,by decide⟩) (by decide) (q:=(w5.heap.size+1)) (by simp))
 go_wp2_with fail
 generalize w5.alloc _=w6 at *
 go_at_call 94
 refine HA.out.mono ?_
 clear HA
 rintro e w7 (⟨HQe,rfl,HL,hS,hW,hG⟩|⟨hq,rfl,h1⟩)
 rotate_left
 ·exact ⟨rfl,h1,_,HS.out,Or.inr ⟨r_va1 HQ_sIF.out HQ_sWHILE.out HQ_sRET.out HQ_sPUT.out HV.out HT_k.out (va0 hq),rfl⟩⟩
 replace HM_k:=hide ((Mv.call (Nat.lt_of_lt_of_le HW.out.bl HZ_k.out) hG _).row HM_k.out)
 replace HW:=hW
 replace HS:=hS
 clear hG
 go_wp2_with fail
 replace HM_k:=hide ((Mv.quiet (grown_drew w7)).row HM_k.out)
 replace HW:=hide (HW.out.quiet (grown_drew w7))
 refine wp_region_held_drew (S:=(fun _=>True)) (by kernel_rfl) trivial fun hHd=>?_
 generalize w7.drew=w8 at *
 refine tq 0 ?_
 simp only [qq]
 refine tq 2 ?_
 simp only [qq]
 refine rq2 1 3 (fun K hK=>?_) fun K hK=>?_
 ·have hc9:=HW.out.c0
  go_simp
  clear hc9
  refine hK.out _ _ trivial fun hHd=>?_
  clear hK K
  try simp only [qq]
  refine rq 3 fun K hK=>?_
  go_simp
  refine (HE.out r5.tail HS.out HL.out w8 HW.out.ps HW.out.two HW.out.glo HW.out.glt (HF.out.suf HS.out) (Nat.le_trans HS.out.length_le HLn.out)).mono ?_
  rintro e w10 hp
  obtain ⟨r10,n_x,k_x,t_x,v_x,a_x,l_x,c_x,rfl,HR_x,HN_x,HZ_x,HL,HSx,HLs2,hS,hW,hG⟩|⟨r,hR,rfl,h1,h2⟩:=HW.out.okN HS.out hp
  rotate_left
  ·exact ⟨rfl,h1,_,h2,Or.inr ⟨r_va1 HQ_sIF.out HQ_sWHILE.out HQ_sRET.out HQ_sPUT.out HV.out HT_k.out (va1 HQe.out (by rw [← tk_tail];exact hR)),rfl⟩⟩
  have HO_k:=hide HM_k.out.lt
  replace HM_k:=hide ((Mv.call (Nat.lt_of_lt_of_le HW.out.bl HZ_k.out) hG _).row HM_k.out)
  replace HW:=hW
  replace HS:=hS
  clear hG hp
  refine hK.out _ _ trivial fun hHd=>?_
  clear hK K
  try simp only [qq]
  refine rq 4 fun K hK=>?_
  replace HW:=hide (HW.out.alloc' w10.heap.size (by simp) #[.int .i64 k_x,.string t_x,.int .i64 v_x,.slice a_x l_x c_x] 24)
  replace HN_x:=hide ((HW.out.ma (by simp)).nd HN_x.out)
  replace HM_k:=hide ((HW.out.ma (by simp)).row HM_k.out)
  go_simp
  refine hK.out _ _ trivial fun hHd=>?_
  clear hK K
  try simp only [qq]
  generalize w10.alloc _=w11 at *
  refine rq 5 fun K hK=>?_
  refine app_s0 _ _ rfl rfl HW.out HM_k.out HN_x.out HZ_k.out HZ_x.out HO_k.out (by simp) ⟨rfl,rfl,rfl,rfl⟩ rfl rfl ?_
  intro g12 c12 w12 hW hM hG
  clear HM_k HN_x HZ_k HZ_x HO_k
  replace HW:=hide hW
  have HM_k2:=hide hM
  have HZ_k2:Hid (w.heap.size≤w.heap.size):=Nat.le_refl _
  clear hW hM hG
  refine hK.out _ _ trivial fun hHd=>?_
  clear hK K
  try simp only [qq]
  refine tq 6 ?_
  simp only [qq]
  refine rq 7 fun K hK=>?_
  have hc13:=HW.out.c0
  have hf14:=HW.out.f0
  replace HW:=hide (HW.out.p03 ((.slice (some ⟨g12,0,none⟩) (1+1) c12)))
  replace HM_k2:=hide ((HW.out.mp03).row HM_k2.out)
  go_simp
  refine hK.out _ _ trivial fun hHd=>?_
  clear hK K
  try simp only [qq]
  generalize w12.setCell _ _=w15 at *
  clear hc13 hf14
  refine wpAnyH_done (by kernel_rfl) ?_ _
  have HN_r:=hide (HM_k2.out.node 14 s_k 0)
  have HZ_r:=HZ_k2
  clear HM_k2 HZ_k2
  have hc16:=HW.out.c0
  go_wp2_with fail
  clear hc16
  go_at_call 142
  refine (ended_any HW.out.ps HW.out.glt _ _ _ _ _ _).mono ?_
  rintro e w17 ⟨hG17,⟨hq,rfl,hP17⟩|⟨hq,rfl⟩⟩
  rotate_left
  ·replace hq:¬ hd (tk r10)=sSEMI:=fun e=>hq ((tx_hd (HF.out.suf HS.out) sSEMI (⟨_,_,rfl,by decide⟩)).2 e)
   exact ⟨rfl,grown_trans HW.out.grown hG17,_,HS.out,Or.inr ⟨r_va1 HQ_sIF.out HQ_sWHILE.out HQ_sRET.out HQ_sPUT.out HV.out HT_k.out (va2 HQe.out (by rw [← tk_tail];exact HR_x.out) hq),rfl⟩⟩
  have HQ3:Hid (hd (tk r10)=sSEMI):=(tx_hd (HF.out.suf HS.out) sSEMI (⟨_,_,rfl,by decide⟩)).1 hq
  have HL:Hid (r10.tail.length<ts.length):=Nat.lt_of_lt_of_le (tail_lt (by decide) hq) HS.out.length_le
  replace HN_r:=hide ((Mv.call (Nat.lt_of_lt_of_le HW.out.bl HZ_r.out) hG17 _).nd HN_r.out)
  replace HW:=hide (HW.out.call hG17 hP17)
  replace HS:=hide ((List.tail_suffix _).trans HS.out)
  clear hP17 hG17 hq
  have hc18:=HW.out.c0
  have hc19:=HW.out.c1
  have hf20:=HW.out.f1
  replace HW:=hide (HW.out.s1 (.int .i64 14) (.string (str s_k)) (.int .i64 0) ((.slice (some ⟨g12,0,none⟩) (1+1) c12)))
  replace HN_r:=hide ((HW.out.ms1).nd HN_r.out)
  have hc21:=HW.out.c1
  have hl22:=HW.out.l1
  go_wp2_with fail
  generalize (((w17.setCell _ _).setCell _ _).setCell _ _).setCell _ _=w23 at *
  refine bodyPost_ret (v:=(.agg #[.int .i64 14,.string (str s_k),.int .i64 0,(.slice (some ⟨g12,0,none⟩) (1+1) c12)])) (by simp [results,Tryz.results125,go_sem,hc21,hl22]) rfl ?_
  exact HW.out.post HS.out (by rw [tk_tail];exact r_va1 HQ_sIF.out HQ_sWHILE.out HQ_sRET.out HQ_sPUT.out HV.out HT_k.out (va3 HQe.out (by rw [← tk_tail];exact HR_x.out) HQ3.out)) HL.out HZ_r.out HN_r.out
 ·go_simp
  refine (HE.out r5.tail HS.out HL.out w8 HW.out.ps HW.out.two HW.out.glo HW.out.glt (HF.out.suf HS.out) (Nat.le_trans HS.out.length_le HLn.out)).mono ?_
  rintro e w24 hp
  obtain ⟨r24,n_x,k_x,t_x,v_x,a_x,l_x,c_x,rfl,HR_x,HN_x,HZ_x,HL,HSx,HLs2,hS,hW,hG⟩|⟨r,hR,rfl,h1,h2⟩:=HW.out.okN HS.out hp
  rotate_left
  ·exact ⟨rfl,h1,_,h2,Or.inr ⟨r_va1 HQ_sIF.out HQ_sWHILE.out HQ_sRET.out HQ_sPUT.out HV.out HT_k.out (va1 HQe.out (by rw [← tk_tail];exact hR)),rfl⟩⟩
  have HO_k:=hide HM_k.out.lt
  replace HM_k:=hide ((Mv.call (Nat.lt_of_lt_of_le HW.out.bl HZ_k.out) hG _).row HM_k.out)
  replace HW:=hW
  replace HS:=hS
  clear hG hp
  refine hK.out _ _ trivial fun hHd=>?_
  clear hK K
  try simp only [qq]
  refine rq2 1 4 (fun K hK=>?_) fun K hK=>?_
  ·have hc25:=HW.out.c0
   go_simp
   clear hc25
   refine hK.out _ _ trivial fun hHd=>?_
   clear hK K
   try simp only [qq]
   refine rq 4 fun K hK=>?_
   replace HW:=hide (HW.out.alloc' w24.heap.size (by simp) #[.int .i64 k_x,.string t_x,.int .i64 v_x,.slice a_x l_x c_x] 24)
   replace HN_x:=hide ((HW.out.ma (by simp)).nd HN_x.out)
   replace HM_k:=hide ((HW.out.ma (by simp)).row HM_k.out)
   go_simp
   refine hK.out _ _ trivial fun hHd=>?_
   clear hK K
   try simp only [qq]
   generalize w24.alloc _=w26 at *
   refine rq 5 fun K hK=>?_
   refine app_s0 _ _ rfl rfl HW.out HM_k.out HN_x.out HZ_k.out HZ_x.out HO_k.out (by simp) ⟨rfl,rfl,rfl,rfl⟩ rfl rfl ?_
   intro g27 c27 w27 hW hM hG
   clear HM_k HN_x HZ_k HZ_x HO_k
   replace HW:=hide hW
   have HM_k2:=hide hM
   have HZ_k2:Hid (w.heap.size≤w.heap.size):=Nat.le_refl _
   clear hW hM hG
   refine hK.out _ _ trivial fun hHd=>?_
   clear hK K
   try simp only [qq]
   refine tq 6 ?_
   simp only [qq]
   refine rq 7 fun K hK=>?_
   have hc28:=HW.out.c0
   have hf29:=HW.out.f0
   replace HW:=hide (HW.out.p03 ((.slice (some ⟨g27,0,none⟩) (1+1) c27)))
   replace HM_k2:=hide ((HW.out.mp03).row HM_k2.out)
   go_simp
   refine hK.out _ _ trivial fun hHd=>?_
   clear hK K
   try simp only [qq]
   generalize w27.setCell _ _=w30 at *
   clear hc28 hf29
   refine wpAnyH_done (by kernel_rfl) ?_ _
   have HN_r:=hide (HM_k2.out.node 14 s_k 0)
   have HZ_r:=HZ_k2
   clear HM_k2 HZ_k2
   have hc31:=HW.out.c0
   go_wp2_with fail
   clear hc31
   go_at_call 142
   refine (ended_any HW.out.ps HW.out.glt _ _ _ _ _ _).mono ?_
   rintro e w32 ⟨hG32,⟨hq,rfl,hP32⟩|⟨hq,rfl⟩⟩
   rotate_left
   ·replace hq:¬ hd (tk r24)=sSEMI:=fun e=>hq ((tx_hd (HF.out.suf HS.out) sSEMI (⟨_,_,rfl,by decide⟩)).2 e)
    exact ⟨rfl,grown_trans HW.out.grown hG32,_,HS.out,Or.inr ⟨r_va1 HQ_sIF.out HQ_sWHILE.out HQ_sRET.out HQ_sPUT.out HV.out HT_k.out (va2 HQe.out (by rw [← tk_tail];exact HR_x.out) hq),rfl⟩⟩
   have HQ3:Hid (hd (tk r24)=sSEMI):=(tx_hd (HF.out.suf HS.out) sSEMI (⟨_,_,rfl,by decide⟩)).1 hq
   have HL:Hid (r24.tail.length<ts.length):=Nat.lt_of_lt_of_le (tail_lt (by decide) hq) HS.out.length_le
   replace HN_r:=hide ((Mv.call (Nat.lt_of_lt_of_le HW.out.bl HZ_r.out) hG32 _).nd HN_r.out)
   replace HW:=hide (HW.out.call hG32 hP32)
   replace HS:=hide ((List.tail_suffix _).trans HS.out)
   clear hP32 hG32 hq
   have hc33:=HW.out.c0
   have hc34:=HW.out.c1
   have hf35:=HW.out.f1
   replace HW:=hide (HW.out.s1 (.int .i64 14) (.string (str s_k)) (.int .i64 0) ((.slice (some ⟨g27,0,none⟩) (1+1) c27)))
   replace HN_r:=hide ((HW.out.ms1).nd HN_r.out)
   have hc36:=HW.out.c1
   have hl37:=HW.out.l1
   go_wp2_with fail
   generalize (((w32.setCell _ _).setCell _ _).setCell _ _).setCell _ _=w38 at *
   refine bodyPost_ret (v:=(.agg #[.int .i64 14,.string (str s_k),.int .i64 0,(.slice (some ⟨g27,0,none⟩) (1+1) c27)])) (by simp [results,Tryz.results125,go_sem,hc36,hl37]) rfl ?_
   exact HW.out.post HS.out (by rw [tk_tail];exact r_va1 HQ_sIF.out HQ_sWHILE.out HQ_sRET.out HQ_sPUT.out HV.out HT_k.out (va3 HQe.out (by rw [← tk_tail];exact HR_x.out) HQ3.out)) HL.out HZ_r.out HN_r.out
  ·replace HW:=hide (HW.out.alloc' w24.heap.size (by simp) #[.int .i64 k_x,.string t_x,.int .i64 v_x,.slice a_x l_x c_x] 24)
   replace HN_x:=hide ((HW.out.ma (by simp)).nd HN_x.out)
   replace HM_k:=hide ((HW.out.ma (by simp)).row HM_k.out)
   go_simp
   refine hK.out _ _ trivial fun hHd=>?_
   clear hK K
   try simp only [qq]
   generalize w24.alloc _=w39 at *
   refine rq 1 fun K hK=>?_
   have hc40:=HW.out.c1
   go_simp
   clear hc40
   refine hK.out _ _ trivial fun hHd=>?_
   clear hK K
   try simp only [qq]
   refine rq 5 fun K hK=>?_
   refine app_s0 _ _ rfl rfl HW.out HM_k.out HN_x.out HZ_k.out HZ_x.out HO_k.out (by simp) ⟨rfl,rfl,rfl,rfl⟩ rfl rfl ?_
   intro g41 c41 w41 hW hM hG
   clear HM_k HN_x HZ_k HZ_x HO_k
   replace HW:=hide hW
   have HM_k2:=hide hM
   have HZ_k2:Hid (w.heap.size≤w.heap.size):=Nat.le_refl _
   clear hW hM hG
   refine hK.out _ _ trivial fun hHd=>?_
   clear hK K
   try simp only [qq]
   refine tq 6 ?_
   simp only [qq]
   refine rq 7 fun K hK=>?_
   have hc42:=HW.out.c0
   have hf43:=HW.out.f0
   replace HW:=hide (HW.out.p03 ((.slice (some ⟨g41,0,none⟩) (1+1) c41)))
   replace HM_k2:=hide ((HW.out.mp03).row HM_k2.out)
   go_simp
   refine hK.out _ _ trivial fun hHd=>?_
   clear hK K
   try simp only [qq]
   generalize w41.setCell _ _=w44 at *
   clear hc42 hf43
   refine wpAnyH_done (by kernel_rfl) ?_ _
   have HN_r:=hide (HM_k2.out.node 14 s_k 0)
   have HZ_r:=HZ_k2
   clear HM_k2 HZ_k2
   have hc45:=HW.out.c0
   go_wp2_with fail
   clear hc45
   go_at_call 142
   refine (ended_any HW.out.ps HW.out.glt _ _ _ _ _ _).mono ?_
   rintro e w46 ⟨hG46,⟨hq,rfl,hP46⟩|⟨hq,rfl⟩⟩
   rotate_left
   ·replace hq:¬ hd (tk r24)=sSEMI:=fun e=>hq ((tx_hd (HF.out.suf HS.out) sSEMI (⟨_,_,rfl,by decide⟩)).2 e)
    exact ⟨rfl,grown_trans HW.out.grown hG46,_,HS.out,Or.inr ⟨r_va1 HQ_sIF.out HQ_sWHILE.out HQ_sRET.out HQ_sPUT.out HV.out HT_k.out (va2 HQe.out (by rw [← tk_tail];exact HR_x.out) hq),rfl⟩⟩
   have HQ3:Hid (hd (tk r24)=sSEMI):=(tx_hd (HF.out.suf HS.out) sSEMI (⟨_,_,rfl,by decide⟩)).1 hq
   have HL:Hid (r24.tail.length<ts.length):=Nat.lt_of_lt_of_le (tail_lt (by decide) hq) HS.out.length_le
   replace HN_r:=hide ((Mv.call (Nat.lt_of_lt_of_le HW.out.bl HZ_r.out) hG46 _).nd HN_r.out)
   replace HW:=hide (HW.out.call hG46 hP46)
   replace HS:=hide ((List.tail_suffix _).trans HS.out)
   clear hP46 hG46 hq
   have hc47:=HW.out.c0
   have hc48:=HW.out.c1
   have hf49:=HW.out.f1
   replace HW:=hide (HW.out.s1 (.int .i64 14) (.string (str s_k)) (.int .i64 0) ((.slice (some ⟨g41,0,none⟩) (1+1) c41)))
   replace HN_r:=hide ((HW.out.ms1).nd HN_r.out)
   have hc50:=HW.out.c1
   have hl51:=HW.out.l1
   go_wp2_with fail
   generalize (((w46.setCell _ _).setCell _ _).setCell _ _).setCell _ _=w52 at *
   refine bodyPost_ret (v:=(.agg #[.int .i64 14,.string (str s_k),.int .i64 0,(.slice (some ⟨g41,0,none⟩) (1+1) c41)])) (by simp [results,Tryz.results125,go_sem,hc50,hl51]) rfl ?_
   exact HW.out.post HS.out (by rw [tk_tail];exact r_va1 HQ_sIF.out HQ_sWHILE.out HQ_sRET.out HQ_sPUT.out HV.out HT_k.out (va3 HQe.out (by rw [← tk_tail];exact HR_x.out) HQ3.out)) HL.out HZ_r.out HN_r.out
end Go.Proofs.YthcfianhdkolhaaGreatDoor.Y
