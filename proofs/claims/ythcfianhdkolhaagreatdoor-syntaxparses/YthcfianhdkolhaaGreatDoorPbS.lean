/- PbPa PbPb PbPc PbS -/
import Derived.Test.YthcfianhdkolhaaGreatDoorSign
import Derived.Test.YthcfianhdkolhaaGreatDoorPbP
namespace Go.Proofs.YthcfianhdkolhaaGreatDoor.Y
open Go.RowKit Go.Proofs.YthcfianhdkolhaaGreatDoor.X Go.Proofs.YthcfianhdkolhaaGreatDoor.T Go.Proofs.YthcfianhdkolhaaGreatDoor.S
set_option maxRecDepth 100000
set_option maxHeartbeats 2000000
set_option linter.unusedVariables false
set_option linter.unusedSimpArgs false
variable {w w' : World} {b g : Nat} {m : Value} {ts : List Tok} {t : Tok}
theorem stat_if (h:Ps w b g m ts) (hT:Two w b m) (hGl:Og w) (hb5:4<b) (hgl:g<w.heap.size) (hF:Fits ts) (hlen:ts.length≤4000) (hq_sIF:tx ts=str sIF) (hBl:Later 98 .block b g m ts):Calls Tryz.prog 125 #[.pointer (some ⟨b,0,none⟩)] w (PostN .stat w b g m ts):=by
 have HW:Hid (Wd w w b g m ts []):=Wd.start h hT hGl hb5 hgl
 have HS:=su ts
 have HF:=ħ hF
 have HLn:=ħ hlen
 have HBl:=hide hBl
 have HE:Hid (Later 143 .expr b g m ts):=expr_later hb5 ts
 have hc_sIF:((tx ts).toList == ([105,102]:List UInt8))=true:=by rw [cmp_str];exact decide_eq_true hq_sIF
 have HQ_sIF:Hid (hd (tk ts)=sIF):=(tx_hd hF sIF (⟨_,_,rfl,by decide⟩)).1 hq_sIF
 have HQx:=hide hq_sIF
 clear hq_sIF
 clear hBl
 clear h hT hGl hgl hF hlen
 go_enter Tryz.func125,Tryz.ntmps125
 replace HW:=HW.out.az
 go_wp2_with fail
 generalize w.alloc _=w1 at *
 go_at_call 91
 refine (text_any HW.out.ps).mono ?_
 rintro e w2 ⟨rfl,hww⟩
 replace hww:w1=w2:=hww.symm
 subst hww
 replace HW:=ħ (HW.out.alloc' w1.heap.size (by simp) #[.string ⟨#[105,102]⟩] 9)
 go_wp2_with fail
 generalize w1.alloc _=w3 at *
 go_at_call 141
 refine (inside1 HW.out (by decide) HQx.out (HF.out.suf HS.out) (Nat.le_trans HS.out.length_le HLn.out) (HE.out.suf HS.out)).mono ?_
 rintro e w4 ⟨hG4,r4,hsu,⟨n_x,vv,hlt,hR,rfl,hN,hP4⟩|⟨hR,rfl⟩⟩
 rotate_left
 ·exact ⟨rfl,grown_trans HW.out.grown hG4,_,(hsu.trans (List.tail_suffix _)).trans HS.out,Or.inr ⟨r_if0 HQ_sIF.out (by rw [← tk_tail];exact hR),rfl⟩⟩
 obtain ⟨k_x,t_x,v_x,a_x,l_x,c_x,rfl⟩:=hN.form
 have HR_x:=hide hR
 have HN_x:=ħ (hN.given HW.out)
 have HZ_x:Hid (w.heap.size≤w3.heap.size):=HW.out.grown.size
 have HL:Hid (r4.length<ts.length):=Nat.lt_of_lt_of_le hlt (Nat.le_trans (List.tail_suffix _).length_le HS.out.length_le)
 replace HW:=ħ (HW.out.call hG4 hP4)
 replace HS:=ħ ((hsu.trans (List.tail_suffix _)).trans HS.out)
 clear hP4 hG4 hR hN hsu hlt
 go_wp2_with fail
 go_at_call 98
 refine (HBl.out r4 HS.out HL.out w4 HW.out.ps HW.out.two HW.out.glo HW.out.glt (HF.out.suf HS.out) (Nat.le_trans HS.out.length_le HLn.out)).mono ?_
 rintro e w5 hp
 obtain ⟨r5,n_y,k_y,t_y,v_y,a_y,l_y,c_y,rfl,HR_y,HN_y,HZ_y,HL,HSy,HLs2,hS,hW,hG⟩|⟨r,hR,rfl,h1,h2⟩:=HW.out.okN HS.out hp
 rotate_left
 ·exact ⟨rfl,h1,_,h2,Or.inr ⟨r_if1 HQ_sIF.out (by rw [← tk_tail];exact HR_x.out) hR,rfl⟩⟩
 replace HN_x:=HW.out.kN HZ_x hG HN_x
 replace HW:=hW
 replace HS:=hS
 clear hG hp
 replace HW:=HW.out.al w5.heap.size #[.int .i64 k_x,.string t_x,.int .i64 v_x,.slice a_x l_x c_x,.int .i64 k_y,.string t_y,.int .i64 v_y,.slice a_y l_y c_y]
 replace HN_x:=HW.out.nA HN_x
 replace HN_y:=HW.out.nA HN_y
 go_wp2_with fail
 generalize w5.alloc _=w6 at *
 go_at_call 140
 refine (node_any 16 (some ⟨w5.heap.size,0,none⟩) 2 2 w6).mono ?_
 rintro e w7 ⟨rfl,hG7⟩
 replace HN_x:=(Mv.quiet hG7).N HN_x
 replace HN_y:=(Mv.quiet hG7).N HN_y
 replace HW:=ħ (HW.out.quiet hG7)
 clear hG7
 have HM_k:=ħ (RowN.t0 HW.out (HN_x.out.less HZ_x.out) (HN_y.out.less HZ_y.out))
 have HZ_k:=zz w
 clear HN_x HZ_x HN_y HZ_y
 replace HW:=hide HW.out.d0
 replace HW:=HW.out.al w7.heap.size #[.int .i64 16,.string ⟨#[]⟩,.int .i64 0,(.slice (some ⟨w5.heap.size,0,none⟩) 2 2)]
 replace HM_k:=HW.out.rA HM_k
 go_wp2_with fail
 generalize w7.alloc _=w8 at *
 by_cases hq:tx r5=str sELSE
 ·have HQe:Hid (hd (tk r5)=sELSE):=(tx_hd (HF.out.suf HS.out) sELSE (⟨_,_,rfl,by decide⟩)).1 hq
  go_at_call 67
  refine (HW.out.tkY HS.out (x:=str sELSE) (by decide) hq).mono ?_
  rintro e w9 ⟨rfl,HL,HLs,hS,hW,hG⟩
  replace HM_k:=HW.out.kR HZ_k hG HM_k
  replace HW:=hW
  replace HS:=hS
  clear hG
  clear hq
  go_wp2_with fail
  replace HM_k:=ħ ((Mv.quiet (grown_drew w9)).row HM_k.out)
  replace HW:=ħ (HW.out.quiet (grown_drew w9))
  refine wp_region_held_drew (S:=(fun _=>True)) (by kernel_rfl) trivial fun hHd=>?_
  generalize w9.drew=w10 at *
  refine tq 0 ?_
  simp only [qq]
  refine tq 2 ?_
  simp only [qq]
  refine rq2 1 3 (fun K hK=>?_) fun K hK=>?_
  ·have hc11:=HW.out.c0
   go_simp
   clear hc11
   refine hK.out _ _ trivial fun hHd=>?_
   clear hK K
   try simp only [qq]
   refine rq 3 fun K hK=>?_
   go_simp
   refine (HBl.out r5.tail HS.out HL.out w10 HW.out.ps HW.out.two HW.out.glo HW.out.glt (HF.out.suf HS.out) (Nat.le_trans HS.out.length_le HLn.out)).mono ?_
   rintro e w12 hp
   obtain ⟨r12,n_z,k_z,t_z,v_z,a_z,l_z,c_z,rfl,HR_z,HN_z,HZ_z,HL,HSz,HLs2,hS,hW,hG⟩|⟨r,hR,rfl,h1,h2⟩:=HW.out.okN HS.out hp
   rotate_left
   ·exact ⟨rfl,h1,_,h2,Or.inr ⟨r_if3 HQ_sIF.out (by rw [← tk_tail];exact HR_x.out) HR_y.out HQe.out (by rw [← tk_tail];exact hR),rfl⟩⟩
   have HO_k:=hide HM_k.out.lt
   replace HM_k:=HW.out.kR HZ_k hG HM_k
   replace HW:=hW
   replace HS:=hS
   clear hG hp
   refine hK.out _ _ trivial fun hHd=>?_
   clear hK K
   try simp only [qq]
   refine rq 4 fun K hK=>?_
   replace HW:=HW.out.an HN_z
   replace HN_z:=HW.out.nA HN_z
   replace HM_k:=HW.out.rA HM_k
   go_simp
   refine hK.out _ _ trivial fun hHd=>?_
   clear hK K
   try simp only [qq]
   generalize w12.alloc _=w13 at *
   refine rq 5 fun K hK=>?_
   refine app_s0 _ _ rfl rfl HW.out HM_k.out HN_z.out HZ_k.out HZ_z.out HO_k.out (by simp) ⟨rfl,rfl,rfl,rfl⟩ rfl rfl ?_
   intro g14 c14 w14 hW hM hG
   clear HM_k HN_z HZ_k HZ_z HO_k
   replace HW:=hide hW
   have HM_k2:=hide hM
   have HZ_k2:=zz w
   clear hW hM hG
   refine hK.out _ _ trivial fun hHd=>?_
   clear hK K
   try simp only [qq]
   refine tq 6 ?_
   simp only [qq]
   refine rq 7 fun K hK=>?_
   have hc15:=HW.out.c0
   have hf16:=HW.out.f0
   replace HW:=ħ (HW.out.p03 ((.slice (some ⟨g14,0,none⟩) (2+1) c14)))
   replace HM_k2:=HW.out.mp03.R HM_k2
   go_simp
   refine hK.out _ _ trivial fun hHd=>?_
   clear hK K
   try simp only [qq]
   generalize w14.setCell _ _=w17 at *
   clear hc15 hf16
   refine wpAnyH_done (by kernel_rfl) ?_ _
   have HN_r:=ħ (HM_k2.out.node 16 [] 0)
   have HZ_r:=HZ_k2
   clear HM_k2 HZ_k2
   have hc18:=HW.out.c0
   have hc19:=HW.out.c1
   have hc20:=HW.out.c2
   have hf21:=HW.out.f2
   replace HW:=ħ (HW.out.s2 (.int .i64 16) (.string ⟨#[]⟩) (.int .i64 0) ((.slice (some ⟨g14,0,none⟩) (2+1) c14)))
   replace HN_r:=HW.out.ms2.N HN_r
   go_wp2_with fail
   generalize (((w17.setCell _ _).setCell _ _).setCell _ _).setCell _ _=w24 at *
   refine bodyPost_ret (rt rfl rfl HW.out.b2) rfl ?_
   exact HW.out.post HS.out (r_if4 HQ_sIF.out (by rw [← tk_tail];exact HR_x.out) HR_y.out HQe.out (by rw [← tk_tail];exact HR_z.out)) HL.out HZ_r.out HN_r.out
  go_simp
  refine (HBl.out r5.tail HS.out HL.out w10 HW.out.ps HW.out.two HW.out.glo HW.out.glt (HF.out.suf HS.out) (Nat.le_trans HS.out.length_le HLn.out)).mono ?_
  rintro e w25 hp
  obtain ⟨r25,n_z,k_z,t_z,v_z,a_z,l_z,c_z,rfl,HR_z,HN_z,HZ_z,HL,HSz,HLs2,hS,hW,hG⟩|⟨r,hR,rfl,h1,h2⟩:=HW.out.okN HS.out hp
  rotate_left
  ·exact ⟨rfl,h1,_,h2,Or.inr ⟨r_if3 HQ_sIF.out (by rw [← tk_tail];exact HR_x.out) HR_y.out HQe.out (by rw [← tk_tail];exact hR),rfl⟩⟩
  have HO_k:=hide HM_k.out.lt
  replace HM_k:=HW.out.kR HZ_k hG HM_k
  replace HW:=hW
  replace HS:=hS
  clear hG hp
  refine hK.out _ _ trivial fun hHd=>?_
  clear hK K
  try simp only [qq]
  refine rq2 1 4 (fun K hK=>?_) fun K hK=>?_
  ·have hc26:=HW.out.c0
   go_simp
   clear hc26
   refine hK.out _ _ trivial fun hHd=>?_
   clear hK K
   try simp only [qq]
   refine rq 4 fun K hK=>?_
   replace HW:=HW.out.an HN_z
   replace HN_z:=HW.out.nA HN_z
   replace HM_k:=HW.out.rA HM_k
   go_simp
   refine hK.out _ _ trivial fun hHd=>?_
   clear hK K
   try simp only [qq]
   generalize w25.alloc _=w27 at *
   refine rq 5 fun K hK=>?_
   refine app_s0 _ _ rfl rfl HW.out HM_k.out HN_z.out HZ_k.out HZ_z.out HO_k.out (by simp) ⟨rfl,rfl,rfl,rfl⟩ rfl rfl ?_
   intro g28 c28 w28 hW hM hG
   clear HM_k HN_z HZ_k HZ_z HO_k
   replace HW:=hide hW
   have HM_k2:=hide hM
   have HZ_k2:=zz w
   clear hW hM hG
   refine hK.out _ _ trivial fun hHd=>?_
   clear hK K
   try simp only [qq]
   refine tq 6 ?_
   simp only [qq]
   refine rq 7 fun K hK=>?_
   have hc29:=HW.out.c0
   have hf30:=HW.out.f0
   replace HW:=ħ (HW.out.p03 ((.slice (some ⟨g28,0,none⟩) (2+1) c28)))
   replace HM_k2:=HW.out.mp03.R HM_k2
   go_simp
   refine hK.out _ _ trivial fun hHd=>?_
   clear hK K
   try simp only [qq]
   generalize w28.setCell _ _=w31 at *
   clear hc29 hf30
   refine wpAnyH_done (by kernel_rfl) ?_ _
   have HN_r:=ħ (HM_k2.out.node 16 [] 0)
   have HZ_r:=HZ_k2
   clear HM_k2 HZ_k2
   have hc32:=HW.out.c0
   have hc33:=HW.out.c1
   have hc34:=HW.out.c2
   have hf35:=HW.out.f2
   replace HW:=ħ (HW.out.s2 (.int .i64 16) (.string ⟨#[]⟩) (.int .i64 0) ((.slice (some ⟨g28,0,none⟩) (2+1) c28)))
   replace HN_r:=HW.out.ms2.N HN_r
   go_wp2_with fail
   generalize (((w31.setCell _ _).setCell _ _).setCell _ _).setCell _ _=w38 at *
   refine bodyPost_ret (rt rfl rfl HW.out.b2) rfl ?_
   exact HW.out.post HS.out (r_if4 HQ_sIF.out (by rw [← tk_tail];exact HR_x.out) HR_y.out HQe.out (by rw [← tk_tail];exact HR_z.out)) HL.out HZ_r.out HN_r.out
  replace HW:=HW.out.an HN_z
  replace HN_z:=HW.out.nA HN_z
  replace HM_k:=HW.out.rA HM_k
  go_simp
  refine hK.out _ _ trivial fun hHd=>?_
  clear hK K
  try simp only [qq]
  generalize w25.alloc _=w39 at *
  refine rq 1 fun K hK=>?_
  have hc40:=HW.out.c1
  go_simp
  clear hc40
  refine hK.out _ _ trivial fun hHd=>?_
  clear hK K
  try simp only [qq]
  refine rq 5 fun K hK=>?_
  refine app_s0 _ _ rfl rfl HW.out HM_k.out HN_z.out HZ_k.out HZ_z.out HO_k.out (by simp) ⟨rfl,rfl,rfl,rfl⟩ rfl rfl ?_
  intro g41 c41 w41 hW hM hG
  clear HM_k HN_z HZ_k HZ_z HO_k
  replace HW:=hide hW
  have HM_k2:=hide hM
  have HZ_k2:=zz w
  clear hW hM hG
  refine hK.out _ _ trivial fun hHd=>?_
  clear hK K
  try simp only [qq]
  refine tq 6 ?_
  simp only [qq]
  refine rq 7 fun K hK=>?_
  have hc42:=HW.out.c0
  have hf43:=HW.out.f0
  replace HW:=ħ (HW.out.p03 ((.slice (some ⟨g41,0,none⟩) (2+1) c41)))
  replace HM_k2:=HW.out.mp03.R HM_k2
  go_simp
  refine hK.out _ _ trivial fun hHd=>?_
  clear hK K
  try simp only [qq]
  generalize w41.setCell _ _=w44 at *
  clear hc42 hf43
  refine wpAnyH_done (by kernel_rfl) ?_ _
  have HN_r:=ħ (HM_k2.out.node 16 [] 0)
  have HZ_r:=HZ_k2
  clear HM_k2 HZ_k2
  have hc45:=HW.out.c0
  have hc46:=HW.out.c1
  have hc47:=HW.out.c2
  have hf48:=HW.out.f2
  replace HW:=ħ (HW.out.s2 (.int .i64 16) (.string ⟨#[]⟩) (.int .i64 0) ((.slice (some ⟨g41,0,none⟩) (2+1) c41)))
  replace HN_r:=HW.out.ms2.N HN_r
  go_wp2_with fail
  generalize (((w44.setCell _ _).setCell _ _).setCell _ _).setCell _ _=w51 at *
  refine bodyPost_ret (rt rfl rfl HW.out.b2) rfl ?_
  exact HW.out.post HS.out (r_if4 HQ_sIF.out (by rw [← tk_tail];exact HR_x.out) HR_y.out HQe.out (by rw [← tk_tail];exact HR_z.out)) HL.out HZ_r.out HN_r.out
 have HQe:Hid (¬ hd (tk r5)=sELSE):=fun e=>hq ((tx_hd (HF.out.suf HS.out) sELSE (⟨_,_,rfl,by decide⟩)).2 e)
 go_at_call 67
 refine (HW.out.tkN (x:=str sELSE) (by decide) hq).mono ?_
 rintro e w52 ⟨rfl,hW,hG⟩
 replace HM_k:=HW.out.kR HZ_k hG HM_k
 replace HW:=hW
 clear hG
 clear hq
 have HN_r:=ħ (HM_k.out.node 16 [] 0)
 have HZ_r:=HZ_k
 clear HM_k HZ_k
 have hc53:=HW.out.c0
 have hc54:=HW.out.c1
 have hc55:=HW.out.c2
 have hf56:=HW.out.f2
 replace HW:=ħ (HW.out.s2 (.int .i64 16) (.string ⟨#[]⟩) (.int .i64 0) ((.slice (some ⟨w5.heap.size,0,none⟩) 2 2)))
 replace HN_r:=HW.out.ms2.N HN_r
 go_wp2_with fail
 generalize (((w52.setCell _ _).setCell _ _).setCell _ _).setCell _ _=w59 at *
 refine bodyPost_ret (rt rfl rfl HW.out.b2) rfl ?_
 exact HW.out.post HS.out (r_if2 HQ_sIF.out (by rw [← tk_tail];exact HR_x.out) HR_y.out HQe.out) HL.out HZ_r.out HN_r.out
theorem stat_set (h:Ps w b g m ts) (hT:Two w b m) (hGl:Og w) (hb5:4<b) (hgl:g<w.heap.size) (hF:Fits ts) (hlen:ts.length≤4000) (hq_sIF:¬ tx ts=str sIF) (hq_sWHILE:¬ tx ts=str sWHILE) (hq_sRET:¬ tx ts=str sRET) (hq_sPUT:¬ tx ts=str sPUT) (hn0:nmAt ts 0=true) (hn1:nmAt ts 1=false) (hBl:Later 98 .block b g m ts):Calls Tryz.prog 125 #[.pointer (some ⟨b,0,none⟩)] w (PostN .stat w b g m ts):=by
 have HW:Hid (Wd w w b g m ts []):=Wd.start h hT hGl hb5 hgl
 have HS:=su ts
 have HF:=ħ hF
 have HLn:=ħ hlen
 have HBl:=hide hBl
 have HE:Hid (Later 143 .expr b g m ts):=expr_later hb5 ts
 have hc_sIF:((tx ts).toList == ([105,102]:List UInt8))=false:=by rw [cmp_str];exact decide_eq_false hq_sIF
 have hc_sWHILE:((tx ts).toList == ([119,104,105,108,101]:List UInt8))=false:=by rw [cmp_str];exact decide_eq_false hq_sWHILE
 have hc_sRET:((tx ts).toList == ([114,101,116,117,114,110]:List UInt8))=false:=by rw [cmp_str];exact decide_eq_false hq_sRET
 have hc_sPUT:((tx ts).toList == ([112,117,116]:List UInt8))=false:=by rw [cmp_str];exact decide_eq_false hq_sPUT
 have HQ_sIF:Hid (¬ hd (tk ts)=sIF):=fun e=>hq_sIF ((tx_hd hF sIF (⟨_,_,rfl,by decide⟩)).2 e)
 have HQ_sWHILE:Hid (¬ hd (tk ts)=sWHILE):=fun e=>hq_sWHILE ((tx_hd hF sWHILE (⟨_,_,rfl,by decide⟩)).2 e)
 have HQ_sRET:Hid (¬ hd (tk ts)=sRET):=fun e=>hq_sRET ((tx_hd hF sRET (⟨_,_,rfl,by decide⟩)).2 e)
 have HQ_sPUT:Hid (¬ hd (tk ts)=sPUT):=fun e=>hq_sPUT ((tx_hd hF sPUT (⟨_,_,rfl,by decide⟩)).2 e)
 have HN0:=hide hn0
 have HN1:=hide hn1
 have HB0:Hid (nameB (hd (tk ts))=true):=(nm_hd hF).symm.trans hn0
 have HB1:Hid (nameB (hd (tk ts).tail)=false):=by rw [← tk_tail];exact (nm_hd (hF.suf (List.tail_suffix _))).symm.trans ((nm_one ts).symm.trans hn1)
 clear hn0 hn1
 clear hq_sIF hq_sWHILE hq_sRET hq_sPUT
 clear hBl
 clear h hT hGl hgl hF hlen
 go_enter Tryz.func125,Tryz.ntmps125
 replace HW:=HW.out.az
 go_wp2_with fail
 generalize w.alloc _=w1 at *
 go_at_call 91
 refine (text_any HW.out.ps).mono ?_
 rintro e w2 ⟨rfl,hww⟩
 replace hww:w1=w2:=hww.symm
 subst hww
 go_wp2_with fail
 go_at_call 119
 refine (isName_any HW.out.ps (HF.out.suf HS.out).short 0 (by omega)).mono ?_
 rw [HN0.out]
 rintro e w3 ⟨rfl,hww⟩
 replace hww:w1=w3:=hww.symm
 subst hww
 go_wp2_with fail
 go_at_call 119
 refine (isName_any HW.out.ps (HF.out.suf HS.out).short 1 (by omega)).mono ?_
 rw [HN1.out]
 rintro e w4 ⟨rfl,hww⟩
 replace hww:w1=w4:=hww.symm
 subst hww
 go_wp2_with fail
 go_at_call 144
 refine (setOrDo_any HW.out.ps HW.out.two HW.out.glo HW.out.bg HW.out.glt (HF.out.suf HS.out) (Nat.le_trans HS.out.length_le HLn.out)).mono ?_
 rintro e w5 ⟨hG5,r5,hsu,⟨n_x,vv,hlt,hR,rfl,hN,hP5⟩|⟨hR,rfl⟩⟩
 rotate_left
 ·exact ⟨rfl,grown_trans HW.out.grown hG5,_,hsu.trans HS.out,Or.inr ⟨r_sd0 HQ_sIF.out HQ_sWHILE.out HQ_sRET.out HQ_sPUT.out HB0.out HB1.out hR,rfl⟩⟩
 obtain ⟨k_x,t_x,v_x,a_x,l_x,c_x,rfl⟩:=hN.form
 have HR_x:=hide hR
 have HN_x:=ħ (hN.given HW.out)
 have HZ_x:Hid (w.heap.size≤w1.heap.size):=HW.out.grown.size
 have HL:Hid (r5.length<ts.length):=Nat.lt_of_lt_of_le hlt HS.out.length_le
 replace HW:=ħ (HW.out.call hG5 hP5)
 replace HS:=ħ ((hsu).trans HS.out)
 clear hP5 hG5 hR hN hsu hlt
 go_wp2_with fail
 go_at_call 142
 refine (ended_any HW.out.ps HW.out.glt _ _ _ _ _ _).mono ?_
 rintro e w6 ⟨hG6,⟨hq,rfl,hP6⟩|⟨hq,rfl⟩⟩
 rotate_left
 ·replace hq:¬ hd (tk r5)=sSEMI:=fun e=>hq ((tx_hd (HF.out.suf HS.out) sSEMI (⟨_,_,rfl,by decide⟩)).2 e)
  exact ⟨rfl,grown_trans HW.out.grown hG6,_,HS.out,Or.inr ⟨r_sd1 HQ_sIF.out HQ_sWHILE.out HQ_sRET.out HQ_sPUT.out HB0.out HB1.out HR_x.out hq,rfl⟩⟩
 have HQ3:Hid (hd (tk r5)=sSEMI):=(tx_hd (HF.out.suf HS.out) sSEMI (⟨_,_,rfl,by decide⟩)).1 hq
 have HL:Hid (r5.tail.length<ts.length):=Nat.lt_of_lt_of_le (tail_lt (by decide) hq) HS.out.length_le
 replace HN_x:=HW.out.kN HZ_x hG6 HN_x
 replace HW:=ħ (HW.out.call hG6 hP6)
 replace HS:=ħ ((List.tail_suffix _).trans HS.out)
 clear hP6 hG6 hq
 have hc7:=HW.out.c0
 have hf8:=HW.out.f0
 replace HW:=ħ (HW.out.s0 (.int .i64 k_x) (.string t_x) (.int .i64 v_x) (.slice a_x l_x c_x))
 replace HN_x:=HW.out.ms0.N HN_x
 go_wp2_with fail
 generalize (((w6.setCell _ _).setCell _ _).setCell _ _).setCell _ _=w11 at *
 refine bodyPost_ret (rt rfl rfl HW.out.b0) rfl ?_
 exact HW.out.post HS.out (by rw [tk_tail];exact r_sd2 HQ_sIF.out HQ_sWHILE.out HQ_sRET.out HQ_sPUT.out HB0.out HB1.out HR_x.out HQ3.out) HL.out HZ_x.out HN_x.out
theorem stat_var1 (h:Ps w b g m ts) (hT:Two w b m) (hGl:Og w) (hb5:4<b) (hgl:g<w.heap.size) (hF:Fits ts) (hlen:ts.length≤4000) (hq_sIF:¬ tx ts=str sIF) (hq_sWHILE:¬ tx ts=str sWHILE) (hq_sRET:¬ tx ts=str sRET) (hq_sPUT:¬ tx ts=str sPUT) (hn0:nmAt ts 0=false) (hBl:Later 98 .block b g m ts):Calls Tryz.prog 125 #[.pointer (some ⟨b,0,none⟩)] w (PostN .stat w b g m ts):=by
 have HW:Hid (Wd w w b g m ts []):=Wd.start h hT hGl hb5 hgl
 have HS:=su ts
 have HF:=ħ hF
 have HLn:=ħ hlen
 have HBl:=hide hBl
 have HE:Hid (Later 143 .expr b g m ts):=expr_later hb5 ts
 have hc_sIF:((tx ts).toList == ([105,102]:List UInt8))=false:=by rw [cmp_str];exact decide_eq_false hq_sIF
 have hc_sWHILE:((tx ts).toList == ([119,104,105,108,101]:List UInt8))=false:=by rw [cmp_str];exact decide_eq_false hq_sWHILE
 have hc_sRET:((tx ts).toList == ([114,101,116,117,114,110]:List UInt8))=false:=by rw [cmp_str];exact decide_eq_false hq_sRET
 have hc_sPUT:((tx ts).toList == ([112,117,116]:List UInt8))=false:=by rw [cmp_str];exact decide_eq_false hq_sPUT
 have HQ_sIF:Hid (¬ hd (tk ts)=sIF):=fun e=>hq_sIF ((tx_hd hF sIF (⟨_,_,rfl,by decide⟩)).2 e)
 have HQ_sWHILE:Hid (¬ hd (tk ts)=sWHILE):=fun e=>hq_sWHILE ((tx_hd hF sWHILE (⟨_,_,rfl,by decide⟩)).2 e)
 have HQ_sRET:Hid (¬ hd (tk ts)=sRET):=fun e=>hq_sRET ((tx_hd hF sRET (⟨_,_,rfl,by decide⟩)).2 e)
 have HQ_sPUT:Hid (¬ hd (tk ts)=sPUT):=fun e=>hq_sPUT ((tx_hd hF sPUT (⟨_,_,rfl,by decide⟩)).2 e)
 have HN0:=hide hn0
 have HV:Hid (¬ (nameB (hd (tk ts))=true∧nameB (hd (tk ts).tail)=false)):=fun h=>by
  have e:nameB (hd (tk ts))=false:=(nm_hd hF).symm.trans hn0
  rw [e] at h
  cases h.1
 clear hn0
 clear hq_sIF hq_sWHILE hq_sRET hq_sPUT
 clear hBl
 clear h hT hGl hgl hF hlen
 go_enter Tryz.func125,Tryz.ntmps125
 replace HW:=HW.out.az
 go_wp2_with fail
 generalize w.alloc _=w1 at *
 go_at_call 91
 refine (text_any HW.out.ps).mono ?_
 rintro e w2 ⟨rfl,hww⟩
 replace hww:w1=w2:=hww.symm
 subst hww
 go_wp2_with fail
 go_at_call 119
 refine (isName_any HW.out.ps (HF.out.suf HS.out).short 0 (by omega)).mono ?_
 rw [HN0.out]
 rintro e w3 ⟨rfl,hww⟩
 replace hww:w1=w3:=hww.symm
 subst hww
 go_wp2_with fail
 go_at_call 95
 refine (typed_any HW.out.ps HW.out.two HW.out.glo HW.out.bg HW.out.glt (HF.out.suf HS.out) (Nat.le_trans HS.out.length_le HLn.out) 14).mono ?_
 rintro e w4 ⟨hG4,r4,hsu,⟨t_k,s_k,q_k,hlt,hO,rfl,hM,hP4⟩|⟨hO,rfl⟩⟩
 rotate_left
 ·exact ⟨rfl,grown_trans HW.out.grown hG4,_,hsu.trans HS.out,Or.inr ⟨r_va0 HQ_sIF.out HQ_sWHILE.out HQ_sRET.out HQ_sPUT.out HV.out hO,rfl⟩⟩
 have HT_k:=hide hO
 have HM_k:=ħ (hM.given HW.out)
 have HZ_k:Hid (w.heap.size≤w1.heap.size):=HW.out.grown.size
 have HSk:Hid (r4 <:+ ts):=hsu
 have HLs2:Hid (r4.length<ts.length):=hlt
 have HL:Hid (r4.length<ts.length):=Nat.lt_of_lt_of_le hlt HS.out.length_le
 replace HW:=ħ (HW.out.call hG4 hP4)
 replace HS:=ħ ((hsu).trans HS.out)
 clear hP4 hG4 hO hM hsu hlt
 replace HW:=HW.out.al w4.heap.size #[.int .i64 14,.string (str s_k),.int .i64 0,(.slice (some ⟨q_k,0,none⟩) 1 1)]
 replace HM_k:=HW.out.rA HM_k
 have HA:=ħ (HW.out.ask1 HS.out HF.out (s:=sEQ) (⟨_,_,rfl,by decide⟩) (by decide) (q:=(w4.heap.size+1)) (by simp))
 go_wp2_with fail
 generalize w4.alloc _=w5 at *
 go_at_call 94
 refine HA.out.mono ?_
 clear HA
 rintro e w6 (⟨HQe,rfl,HL,hS,hW,hG⟩|⟨hq,rfl,h1⟩)
 rotate_left
 ·exact ⟨rfl,h1,_,HS.out,Or.inr ⟨r_va1 HQ_sIF.out HQ_sWHILE.out HQ_sRET.out HQ_sPUT.out HV.out HT_k.out (va0 hq),rfl⟩⟩
 replace HM_k:=HW.out.kR HZ_k hG HM_k
 replace HW:=hW
 replace HS:=hS
 clear hG
 go_wp2_with fail
 replace HM_k:=ħ ((Mv.quiet (grown_drew w6)).row HM_k.out)
 replace HW:=ħ (HW.out.quiet (grown_drew w6))
 refine wp_region_held_drew (S:=(fun _=>True)) (by kernel_rfl) trivial fun hHd=>?_
 generalize w6.drew=w7 at *
 refine tq 0 ?_
 simp only [qq]
 refine tq 2 ?_
 simp only [qq]
 refine rq2 1 3 (fun K hK=>?_) fun K hK=>?_
 ·have hc8:=HW.out.c0
  go_simp
  clear hc8
  refine hK.out _ _ trivial fun hHd=>?_
  clear hK K
  try simp only [qq]
  refine rq 3 fun K hK=>?_
  go_simp
  refine (HE.out r4.tail HS.out HL.out w7 HW.out.ps HW.out.two HW.out.glo HW.out.glt (HF.out.suf HS.out) (Nat.le_trans HS.out.length_le HLn.out)).mono ?_
  rintro e w9 hp
  obtain ⟨r9,n_x,k_x,t_x,v_x,a_x,l_x,c_x,rfl,HR_x,HN_x,HZ_x,HL,HSx,HLs2,hS,hW,hG⟩|⟨r,hR,rfl,h1,h2⟩:=HW.out.okN HS.out hp
  rotate_left
  ·exact ⟨rfl,h1,_,h2,Or.inr ⟨r_va1 HQ_sIF.out HQ_sWHILE.out HQ_sRET.out HQ_sPUT.out HV.out HT_k.out (va1 HQe.out (by rw [← tk_tail];exact hR)),rfl⟩⟩
  have HO_k:=hide HM_k.out.lt
  replace HM_k:=HW.out.kR HZ_k hG HM_k
  replace HW:=hW
  replace HS:=hS
  clear hG hp
  refine hK.out _ _ trivial fun hHd=>?_
  clear hK K
  try simp only [qq]
  refine rq 4 fun K hK=>?_
  replace HW:=HW.out.an HN_x
  replace HN_x:=HW.out.nA HN_x
  replace HM_k:=HW.out.rA HM_k
  go_simp
  refine hK.out _ _ trivial fun hHd=>?_
  clear hK K
  try simp only [qq]
  generalize w9.alloc _=w10 at *
  refine rq 5 fun K hK=>?_
  refine app_s0 _ _ rfl rfl HW.out HM_k.out HN_x.out HZ_k.out HZ_x.out HO_k.out (by simp) ⟨rfl,rfl,rfl,rfl⟩ rfl rfl ?_
  intro g11 c11 w11 hW hM hG
  clear HM_k HN_x HZ_k HZ_x HO_k
  replace HW:=hide hW
  have HM_k2:=hide hM
  have HZ_k2:=zz w
  clear hW hM hG
  refine hK.out _ _ trivial fun hHd=>?_
  clear hK K
  try simp only [qq]
  refine tq 6 ?_
  simp only [qq]
  refine rq 7 fun K hK=>?_
  have hc12:=HW.out.c0
  have hf13:=HW.out.f0
  replace HW:=ħ (HW.out.p03 ((.slice (some ⟨g11,0,none⟩) (1+1) c11)))
  replace HM_k2:=HW.out.mp03.R HM_k2
  go_simp
  refine hK.out _ _ trivial fun hHd=>?_
  clear hK K
  try simp only [qq]
  generalize w11.setCell _ _=w14 at *
  clear hc12 hf13
  refine wpAnyH_done (by kernel_rfl) ?_ _
  have HN_r:=ħ (HM_k2.out.node 14 s_k 0)
  have HZ_r:=HZ_k2
  clear HM_k2 HZ_k2
  have hc15:=HW.out.c0
  go_wp2_with fail
  clear hc15
  go_at_call 142
  refine (ended_any HW.out.ps HW.out.glt _ _ _ _ _ _).mono ?_
  rintro e w16 ⟨hG16,⟨hq,rfl,hP16⟩|⟨hq,rfl⟩⟩
  rotate_left
  ·replace hq:¬ hd (tk r9)=sSEMI:=fun e=>hq ((tx_hd (HF.out.suf HS.out) sSEMI (⟨_,_,rfl,by decide⟩)).2 e)
   exact ⟨rfl,grown_trans HW.out.grown hG16,_,HS.out,Or.inr ⟨r_va1 HQ_sIF.out HQ_sWHILE.out HQ_sRET.out HQ_sPUT.out HV.out HT_k.out (va2 HQe.out (by rw [← tk_tail];exact HR_x.out) hq),rfl⟩⟩
  have HQ3:Hid (hd (tk r9)=sSEMI):=(tx_hd (HF.out.suf HS.out) sSEMI (⟨_,_,rfl,by decide⟩)).1 hq
  have HL:Hid (r9.tail.length<ts.length):=Nat.lt_of_lt_of_le (tail_lt (by decide) hq) HS.out.length_le
  replace HN_r:=HW.out.kN HZ_r hG16 HN_r
  replace HW:=ħ (HW.out.call hG16 hP16)
  replace HS:=ħ ((List.tail_suffix _).trans HS.out)
  clear hP16 hG16 hq
  have hc17:=HW.out.c0
  have hc18:=HW.out.c1
  have hf19:=HW.out.f1
  replace HW:=ħ (HW.out.s1 (.int .i64 14) (.string (str s_k)) (.int .i64 0) ((.slice (some ⟨g11,0,none⟩) (1+1) c11)))
  replace HN_r:=HW.out.ms1.N HN_r
  go_wp2_with fail
  generalize (((w16.setCell _ _).setCell _ _).setCell _ _).setCell _ _=w22 at *
  refine bodyPost_ret (rt rfl rfl HW.out.b1) rfl ?_
  exact HW.out.post HS.out (by rw [tk_tail];exact r_va1 HQ_sIF.out HQ_sWHILE.out HQ_sRET.out HQ_sPUT.out HV.out HT_k.out (va3 HQe.out (by rw [← tk_tail];exact HR_x.out) HQ3.out)) HL.out HZ_r.out HN_r.out
 go_simp
 refine (HE.out r4.tail HS.out HL.out w7 HW.out.ps HW.out.two HW.out.glo HW.out.glt (HF.out.suf HS.out) (Nat.le_trans HS.out.length_le HLn.out)).mono ?_
 rintro e w23 hp
 obtain ⟨r23,n_x,k_x,t_x,v_x,a_x,l_x,c_x,rfl,HR_x,HN_x,HZ_x,HL,HSx,HLs2,hS,hW,hG⟩|⟨r,hR,rfl,h1,h2⟩:=HW.out.okN HS.out hp
 rotate_left
 ·exact ⟨rfl,h1,_,h2,Or.inr ⟨r_va1 HQ_sIF.out HQ_sWHILE.out HQ_sRET.out HQ_sPUT.out HV.out HT_k.out (va1 HQe.out (by rw [← tk_tail];exact hR)),rfl⟩⟩
 have HO_k:=hide HM_k.out.lt
 replace HM_k:=HW.out.kR HZ_k hG HM_k
 replace HW:=hW
 replace HS:=hS
 clear hG hp
 refine hK.out _ _ trivial fun hHd=>?_
 clear hK K
 try simp only [qq]
 refine rq2 1 4 (fun K hK=>?_) fun K hK=>?_
 ·have hc24:=HW.out.c0
  go_simp
  clear hc24
  refine hK.out _ _ trivial fun hHd=>?_
  clear hK K
  try simp only [qq]
  refine rq 4 fun K hK=>?_
  replace HW:=HW.out.an HN_x
  replace HN_x:=HW.out.nA HN_x
  replace HM_k:=HW.out.rA HM_k
  go_simp
  refine hK.out _ _ trivial fun hHd=>?_
  clear hK K
  try simp only [qq]
  generalize w23.alloc _=w25 at *
  refine rq 5 fun K hK=>?_
  refine app_s0 _ _ rfl rfl HW.out HM_k.out HN_x.out HZ_k.out HZ_x.out HO_k.out (by simp) ⟨rfl,rfl,rfl,rfl⟩ rfl rfl ?_
  intro g26 c26 w26 hW hM hG
  clear HM_k HN_x HZ_k HZ_x HO_k
  replace HW:=hide hW
  have HM_k2:=hide hM
  have HZ_k2:=zz w
  clear hW hM hG
  refine hK.out _ _ trivial fun hHd=>?_
  clear hK K
  try simp only [qq]
  refine tq 6 ?_
  simp only [qq]
  refine rq 7 fun K hK=>?_
  have hc27:=HW.out.c0
  have hf28:=HW.out.f0
  replace HW:=ħ (HW.out.p03 ((.slice (some ⟨g26,0,none⟩) (1+1) c26)))
  replace HM_k2:=HW.out.mp03.R HM_k2
  go_simp
  refine hK.out _ _ trivial fun hHd=>?_
  clear hK K
  try simp only [qq]
  generalize w26.setCell _ _=w29 at *
  clear hc27 hf28
  refine wpAnyH_done (by kernel_rfl) ?_ _
  have HN_r:=ħ (HM_k2.out.node 14 s_k 0)
  have HZ_r:=HZ_k2
  clear HM_k2 HZ_k2
  have hc30:=HW.out.c0
  go_wp2_with fail
  clear hc30
  go_at_call 142
  refine (ended_any HW.out.ps HW.out.glt _ _ _ _ _ _).mono ?_
  rintro e w31 ⟨hG31,⟨hq,rfl,hP31⟩|⟨hq,rfl⟩⟩
  rotate_left
  ·replace hq:¬ hd (tk r23)=sSEMI:=fun e=>hq ((tx_hd (HF.out.suf HS.out) sSEMI (⟨_,_,rfl,by decide⟩)).2 e)
   exact ⟨rfl,grown_trans HW.out.grown hG31,_,HS.out,Or.inr ⟨r_va1 HQ_sIF.out HQ_sWHILE.out HQ_sRET.out HQ_sPUT.out HV.out HT_k.out (va2 HQe.out (by rw [← tk_tail];exact HR_x.out) hq),rfl⟩⟩
  have HQ3:Hid (hd (tk r23)=sSEMI):=(tx_hd (HF.out.suf HS.out) sSEMI (⟨_,_,rfl,by decide⟩)).1 hq
  have HL:Hid (r23.tail.length<ts.length):=Nat.lt_of_lt_of_le (tail_lt (by decide) hq) HS.out.length_le
  replace HN_r:=HW.out.kN HZ_r hG31 HN_r
  replace HW:=ħ (HW.out.call hG31 hP31)
  replace HS:=ħ ((List.tail_suffix _).trans HS.out)
  clear hP31 hG31 hq
  have hc32:=HW.out.c0
  have hc33:=HW.out.c1
  have hf34:=HW.out.f1
  replace HW:=ħ (HW.out.s1 (.int .i64 14) (.string (str s_k)) (.int .i64 0) ((.slice (some ⟨g26,0,none⟩) (1+1) c26)))
  replace HN_r:=HW.out.ms1.N HN_r
  go_wp2_with fail
  generalize (((w31.setCell _ _).setCell _ _).setCell _ _).setCell _ _=w37 at *
  refine bodyPost_ret (rt rfl rfl HW.out.b1) rfl ?_
  exact HW.out.post HS.out (by rw [tk_tail];exact r_va1 HQ_sIF.out HQ_sWHILE.out HQ_sRET.out HQ_sPUT.out HV.out HT_k.out (va3 HQe.out (by rw [← tk_tail];exact HR_x.out) HQ3.out)) HL.out HZ_r.out HN_r.out
 replace HW:=HW.out.an HN_x
 replace HN_x:=HW.out.nA HN_x
 replace HM_k:=HW.out.rA HM_k
 go_simp
 refine hK.out _ _ trivial fun hHd=>?_
 clear hK K
 try simp only [qq]
 generalize w23.alloc _=w38 at *
 refine rq 1 fun K hK=>?_
 have hc39:=HW.out.c1
 go_simp
 clear hc39
 refine hK.out _ _ trivial fun hHd=>?_
 clear hK K
 try simp only [qq]
 refine rq 5 fun K hK=>?_
 refine app_s0 _ _ rfl rfl HW.out HM_k.out HN_x.out HZ_k.out HZ_x.out HO_k.out (by simp) ⟨rfl,rfl,rfl,rfl⟩ rfl rfl ?_
 intro g40 c40 w40 hW hM hG
 clear HM_k HN_x HZ_k HZ_x HO_k
 replace HW:=hide hW
 have HM_k2:=hide hM
 have HZ_k2:=zz w
 clear hW hM hG
 refine hK.out _ _ trivial fun hHd=>?_
 clear hK K
 try simp only [qq]
 refine tq 6 ?_
 simp only [qq]
 refine rq 7 fun K hK=>?_
 have hc41:=HW.out.c0
 have hf42:=HW.out.f0
 replace HW:=ħ (HW.out.p03 ((.slice (some ⟨g40,0,none⟩) (1+1) c40)))
 replace HM_k2:=HW.out.mp03.R HM_k2
 go_simp
 refine hK.out _ _ trivial fun hHd=>?_
 clear hK K
 try simp only [qq]
 generalize w40.setCell _ _=w43 at *
 clear hc41 hf42
 refine wpAnyH_done (by kernel_rfl) ?_ _
 have HN_r:=ħ (HM_k2.out.node 14 s_k 0)
 have HZ_r:=HZ_k2
 clear HM_k2 HZ_k2
 have hc44:=HW.out.c0
 go_wp2_with fail
 clear hc44
 go_at_call 142
 refine (ended_any HW.out.ps HW.out.glt _ _ _ _ _ _).mono ?_
 rintro e w45 ⟨hG45,⟨hq,rfl,hP45⟩|⟨hq,rfl⟩⟩
 rotate_left
 ·replace hq:¬ hd (tk r23)=sSEMI:=fun e=>hq ((tx_hd (HF.out.suf HS.out) sSEMI (⟨_,_,rfl,by decide⟩)).2 e)
  exact ⟨rfl,grown_trans HW.out.grown hG45,_,HS.out,Or.inr ⟨r_va1 HQ_sIF.out HQ_sWHILE.out HQ_sRET.out HQ_sPUT.out HV.out HT_k.out (va2 HQe.out (by rw [← tk_tail];exact HR_x.out) hq),rfl⟩⟩
 have HQ3:Hid (hd (tk r23)=sSEMI):=(tx_hd (HF.out.suf HS.out) sSEMI (⟨_,_,rfl,by decide⟩)).1 hq
 have HL:Hid (r23.tail.length<ts.length):=Nat.lt_of_lt_of_le (tail_lt (by decide) hq) HS.out.length_le
 replace HN_r:=HW.out.kN HZ_r hG45 HN_r
 replace HW:=ħ (HW.out.call hG45 hP45)
 replace HS:=ħ ((List.tail_suffix _).trans HS.out)
 clear hP45 hG45 hq
 have hc46:=HW.out.c0
 have hc47:=HW.out.c1
 have hf48:=HW.out.f1
 replace HW:=ħ (HW.out.s1 (.int .i64 14) (.string (str s_k)) (.int .i64 0) ((.slice (some ⟨g40,0,none⟩) (1+1) c40)))
 replace HN_r:=HW.out.ms1.N HN_r
 go_wp2_with fail
 generalize (((w45.setCell _ _).setCell _ _).setCell _ _).setCell _ _=w51 at *
 refine bodyPost_ret (rt rfl rfl HW.out.b1) rfl ?_
 exact HW.out.post HS.out (by rw [tk_tail];exact r_va1 HQ_sIF.out HQ_sWHILE.out HQ_sRET.out HQ_sPUT.out HV.out HT_k.out (va3 HQe.out (by rw [← tk_tail];exact HR_x.out) HQ3.out)) HL.out HZ_r.out HN_r.out
theorem stat_var2 (h:Ps w b g m ts) (hT:Two w b m) (hGl:Og w) (hb5:4<b) (hgl:g<w.heap.size) (hF:Fits ts) (hlen:ts.length≤4000) (hq_sIF:¬ tx ts=str sIF) (hq_sWHILE:¬ tx ts=str sWHILE) (hq_sRET:¬ tx ts=str sRET) (hq_sPUT:¬ tx ts=str sPUT) (hn0:nmAt ts 0=true) (hn1:nmAt ts 1=true) (hBl:Later 98 .block b g m ts):Calls Tryz.prog 125 #[.pointer (some ⟨b,0,none⟩)] w (PostN .stat w b g m ts):=by
 have HW:Hid (Wd w w b g m ts []):=Wd.start h hT hGl hb5 hgl
 have HS:=su ts
 have HF:=ħ hF
 have HLn:=ħ hlen
 have HBl:=hide hBl
 have HE:Hid (Later 143 .expr b g m ts):=expr_later hb5 ts
 have hc_sIF:((tx ts).toList == ([105,102]:List UInt8))=false:=by rw [cmp_str];exact decide_eq_false hq_sIF
 have hc_sWHILE:((tx ts).toList == ([119,104,105,108,101]:List UInt8))=false:=by rw [cmp_str];exact decide_eq_false hq_sWHILE
 have hc_sRET:((tx ts).toList == ([114,101,116,117,114,110]:List UInt8))=false:=by rw [cmp_str];exact decide_eq_false hq_sRET
 have hc_sPUT:((tx ts).toList == ([112,117,116]:List UInt8))=false:=by rw [cmp_str];exact decide_eq_false hq_sPUT
 have HQ_sIF:Hid (¬ hd (tk ts)=sIF):=fun e=>hq_sIF ((tx_hd hF sIF (⟨_,_,rfl,by decide⟩)).2 e)
 have HQ_sWHILE:Hid (¬ hd (tk ts)=sWHILE):=fun e=>hq_sWHILE ((tx_hd hF sWHILE (⟨_,_,rfl,by decide⟩)).2 e)
 have HQ_sRET:Hid (¬ hd (tk ts)=sRET):=fun e=>hq_sRET ((tx_hd hF sRET (⟨_,_,rfl,by decide⟩)).2 e)
 have HQ_sPUT:Hid (¬ hd (tk ts)=sPUT):=fun e=>hq_sPUT ((tx_hd hF sPUT (⟨_,_,rfl,by decide⟩)).2 e)
 have HN0:=hide hn0
 have HN1:=hide hn1
 have HV:Hid (¬ (nameB (hd (tk ts))=true∧nameB (hd (tk ts).tail)=false)):=fun h=>by
  have e:nameB (hd (tk ts).tail)=true:=by rw [← tk_tail];exact (nm_hd (hF.suf (List.tail_suffix _))).symm.trans ((nm_one ts).symm.trans hn1)
  rw [e] at h
  cases h.2
 clear hn0 hn1
 clear hq_sIF hq_sWHILE hq_sRET hq_sPUT
 clear hBl
 clear h hT hGl hgl hF hlen
 go_enter Tryz.func125,Tryz.ntmps125
 replace HW:=HW.out.az
 go_wp2_with fail
 generalize w.alloc _=w1 at *
 go_at_call 91
 refine (text_any HW.out.ps).mono ?_
 rintro e w2 ⟨rfl,hww⟩
 replace hww:w1=w2:=hww.symm
 subst hww
 go_wp2_with fail
 go_at_call 119
 refine (isName_any HW.out.ps (HF.out.suf HS.out).short 0 (by omega)).mono ?_
 rw [HN0.out]
 rintro e w3 ⟨rfl,hww⟩
 replace hww:w1=w3:=hww.symm
 subst hww
 go_wp2_with fail
 go_at_call 119
 refine (isName_any HW.out.ps (HF.out.suf HS.out).short 1 (by omega)).mono ?_
 rw [HN1.out]
 rintro e w4 ⟨rfl,hww⟩
 replace hww:w1=w4:=hww.symm
 subst hww
 go_wp2_with fail
 go_at_call 95
 refine (typed_any HW.out.ps HW.out.two HW.out.glo HW.out.bg HW.out.glt (HF.out.suf HS.out) (Nat.le_trans HS.out.length_le HLn.out) 14).mono ?_
 rintro e w5 ⟨hG5,r5,hsu,⟨t_k,s_k,q_k,hlt,hO,rfl,hM,hP5⟩|⟨hO,rfl⟩⟩
 rotate_left
 ·exact ⟨rfl,grown_trans HW.out.grown hG5,_,hsu.trans HS.out,Or.inr ⟨r_va0 HQ_sIF.out HQ_sWHILE.out HQ_sRET.out HQ_sPUT.out HV.out hO,rfl⟩⟩
 have HT_k:=hide hO
 have HM_k:=ħ (hM.given HW.out)
 have HZ_k:Hid (w.heap.size≤w1.heap.size):=HW.out.grown.size
 have HSk:Hid (r5 <:+ ts):=hsu
 have HLs2:Hid (r5.length<ts.length):=hlt
 have HL:Hid (r5.length<ts.length):=Nat.lt_of_lt_of_le hlt HS.out.length_le
 replace HW:=ħ (HW.out.call hG5 hP5)
 replace HS:=ħ ((hsu).trans HS.out)
 clear hP5 hG5 hO hM hsu hlt
 replace HW:=HW.out.al w5.heap.size #[.int .i64 14,.string (str s_k),.int .i64 0,(.slice (some ⟨q_k,0,none⟩) 1 1)]
 replace HM_k:=HW.out.rA HM_k
 have HA:=ħ (HW.out.ask1 HS.out HF.out (s:=sEQ) (⟨_,_,rfl,by decide⟩) (by decide) (q:=(w5.heap.size+1)) (by simp))
 go_wp2_with fail
 generalize w5.alloc _=w6 at *
 go_at_call 94
 refine HA.out.mono ?_
 clear HA
 rintro e w7 (⟨HQe,rfl,HL,hS,hW,hG⟩|⟨hq,rfl,h1⟩)
 rotate_left
 ·exact ⟨rfl,h1,_,HS.out,Or.inr ⟨r_va1 HQ_sIF.out HQ_sWHILE.out HQ_sRET.out HQ_sPUT.out HV.out HT_k.out (va0 hq),rfl⟩⟩
 replace HM_k:=HW.out.kR HZ_k hG HM_k
 replace HW:=hW
 replace HS:=hS
 clear hG
 go_wp2_with fail
 replace HM_k:=ħ ((Mv.quiet (grown_drew w7)).row HM_k.out)
 replace HW:=ħ (HW.out.quiet (grown_drew w7))
 refine wp_region_held_drew (S:=(fun _=>True)) (by kernel_rfl) trivial fun hHd=>?_
 generalize w7.drew=w8 at *
 refine tq 0 ?_
 simp only [qq]
 refine tq 2 ?_
 simp only [qq]
 refine rq2 1 3 (fun K hK=>?_) fun K hK=>?_
 ·have hc9:=HW.out.c0
  go_simp
  clear hc9
  refine hK.out _ _ trivial fun hHd=>?_
  clear hK K
  try simp only [qq]
  refine rq 3 fun K hK=>?_
  go_simp
  refine (HE.out r5.tail HS.out HL.out w8 HW.out.ps HW.out.two HW.out.glo HW.out.glt (HF.out.suf HS.out) (Nat.le_trans HS.out.length_le HLn.out)).mono ?_
  rintro e w10 hp
  obtain ⟨r10,n_x,k_x,t_x,v_x,a_x,l_x,c_x,rfl,HR_x,HN_x,HZ_x,HL,HSx,HLs2,hS,hW,hG⟩|⟨r,hR,rfl,h1,h2⟩:=HW.out.okN HS.out hp
  rotate_left
  ·exact ⟨rfl,h1,_,h2,Or.inr ⟨r_va1 HQ_sIF.out HQ_sWHILE.out HQ_sRET.out HQ_sPUT.out HV.out HT_k.out (va1 HQe.out (by rw [← tk_tail];exact hR)),rfl⟩⟩
  have HO_k:=hide HM_k.out.lt
  replace HM_k:=HW.out.kR HZ_k hG HM_k
  replace HW:=hW
  replace HS:=hS
  clear hG hp
  refine hK.out _ _ trivial fun hHd=>?_
  clear hK K
  try simp only [qq]
  refine rq 4 fun K hK=>?_
  replace HW:=HW.out.an HN_x
  replace HN_x:=HW.out.nA HN_x
  replace HM_k:=HW.out.rA HM_k
  go_simp
  refine hK.out _ _ trivial fun hHd=>?_
  clear hK K
  try simp only [qq]
  generalize w10.alloc _=w11 at *
  refine rq 5 fun K hK=>?_
  refine app_s0 _ _ rfl rfl HW.out HM_k.out HN_x.out HZ_k.out HZ_x.out HO_k.out (by simp) ⟨rfl,rfl,rfl,rfl⟩ rfl rfl ?_
  intro g12 c12 w12 hW hM hG
  clear HM_k HN_x HZ_k HZ_x HO_k
  replace HW:=hide hW
  have HM_k2:=hide hM
  have HZ_k2:=zz w
  clear hW hM hG
  refine hK.out _ _ trivial fun hHd=>?_
  clear hK K
  try simp only [qq]
  refine tq 6 ?_
  simp only [qq]
  refine rq 7 fun K hK=>?_
  have hc13:=HW.out.c0
  have hf14:=HW.out.f0
  replace HW:=ħ (HW.out.p03 ((.slice (some ⟨g12,0,none⟩) (1+1) c12)))
  replace HM_k2:=HW.out.mp03.R HM_k2
  go_simp
  refine hK.out _ _ trivial fun hHd=>?_
  clear hK K
  try simp only [qq]
  generalize w12.setCell _ _=w15 at *
  clear hc13 hf14
  refine wpAnyH_done (by kernel_rfl) ?_ _
  have HN_r:=ħ (HM_k2.out.node 14 s_k 0)
  have HZ_r:=HZ_k2
  clear HM_k2 HZ_k2
  have hc16:=HW.out.c0
  go_wp2_with fail
  clear hc16
  go_at_call 142
  refine (ended_any HW.out.ps HW.out.glt _ _ _ _ _ _).mono ?_
  rintro e w17 ⟨hG17,⟨hq,rfl,hP17⟩|⟨hq,rfl⟩⟩
  rotate_left
  ·replace hq:¬ hd (tk r10)=sSEMI:=fun e=>hq ((tx_hd (HF.out.suf HS.out) sSEMI (⟨_,_,rfl,by decide⟩)).2 e)
   exact ⟨rfl,grown_trans HW.out.grown hG17,_,HS.out,Or.inr ⟨r_va1 HQ_sIF.out HQ_sWHILE.out HQ_sRET.out HQ_sPUT.out HV.out HT_k.out (va2 HQe.out (by rw [← tk_tail];exact HR_x.out) hq),rfl⟩⟩
  have HQ3:Hid (hd (tk r10)=sSEMI):=(tx_hd (HF.out.suf HS.out) sSEMI (⟨_,_,rfl,by decide⟩)).1 hq
  have HL:Hid (r10.tail.length<ts.length):=Nat.lt_of_lt_of_le (tail_lt (by decide) hq) HS.out.length_le
  replace HN_r:=HW.out.kN HZ_r hG17 HN_r
  replace HW:=ħ (HW.out.call hG17 hP17)
  replace HS:=ħ ((List.tail_suffix _).trans HS.out)
  clear hP17 hG17 hq
  have hc18:=HW.out.c0
  have hc19:=HW.out.c1
  have hf20:=HW.out.f1
  replace HW:=ħ (HW.out.s1 (.int .i64 14) (.string (str s_k)) (.int .i64 0) ((.slice (some ⟨g12,0,none⟩) (1+1) c12)))
  replace HN_r:=HW.out.ms1.N HN_r
  go_wp2_with fail
  generalize (((w17.setCell _ _).setCell _ _).setCell _ _).setCell _ _=w23 at *
  refine bodyPost_ret (rt rfl rfl HW.out.b1) rfl ?_
  exact HW.out.post HS.out (by rw [tk_tail];exact r_va1 HQ_sIF.out HQ_sWHILE.out HQ_sRET.out HQ_sPUT.out HV.out HT_k.out (va3 HQe.out (by rw [← tk_tail];exact HR_x.out) HQ3.out)) HL.out HZ_r.out HN_r.out
 go_simp
 refine (HE.out r5.tail HS.out HL.out w8 HW.out.ps HW.out.two HW.out.glo HW.out.glt (HF.out.suf HS.out) (Nat.le_trans HS.out.length_le HLn.out)).mono ?_
 rintro e w24 hp
 obtain ⟨r24,n_x,k_x,t_x,v_x,a_x,l_x,c_x,rfl,HR_x,HN_x,HZ_x,HL,HSx,HLs2,hS,hW,hG⟩|⟨r,hR,rfl,h1,h2⟩:=HW.out.okN HS.out hp
 rotate_left
 ·exact ⟨rfl,h1,_,h2,Or.inr ⟨r_va1 HQ_sIF.out HQ_sWHILE.out HQ_sRET.out HQ_sPUT.out HV.out HT_k.out (va1 HQe.out (by rw [← tk_tail];exact hR)),rfl⟩⟩
 have HO_k:=hide HM_k.out.lt
 replace HM_k:=HW.out.kR HZ_k hG HM_k
 replace HW:=hW
 replace HS:=hS
 clear hG hp
 refine hK.out _ _ trivial fun hHd=>?_
 clear hK K
 try simp only [qq]
 refine rq2 1 4 (fun K hK=>?_) fun K hK=>?_
 ·have hc25:=HW.out.c0
  go_simp
  clear hc25
  refine hK.out _ _ trivial fun hHd=>?_
  clear hK K
  try simp only [qq]
  refine rq 4 fun K hK=>?_
  replace HW:=HW.out.an HN_x
  replace HN_x:=HW.out.nA HN_x
  replace HM_k:=HW.out.rA HM_k
  go_simp
  refine hK.out _ _ trivial fun hHd=>?_
  clear hK K
  try simp only [qq]
  generalize w24.alloc _=w26 at *
  refine rq 5 fun K hK=>?_
  refine app_s0 _ _ rfl rfl HW.out HM_k.out HN_x.out HZ_k.out HZ_x.out HO_k.out (by simp) ⟨rfl,rfl,rfl,rfl⟩ rfl rfl ?_
  intro g27 c27 w27 hW hM hG
  clear HM_k HN_x HZ_k HZ_x HO_k
  replace HW:=hide hW
  have HM_k2:=hide hM
  have HZ_k2:=zz w
  clear hW hM hG
  refine hK.out _ _ trivial fun hHd=>?_
  clear hK K
  try simp only [qq]
  refine tq 6 ?_
  simp only [qq]
  refine rq 7 fun K hK=>?_
  have hc28:=HW.out.c0
  have hf29:=HW.out.f0
  replace HW:=ħ (HW.out.p03 ((.slice (some ⟨g27,0,none⟩) (1+1) c27)))
  replace HM_k2:=HW.out.mp03.R HM_k2
  go_simp
  refine hK.out _ _ trivial fun hHd=>?_
  clear hK K
  try simp only [qq]
  generalize w27.setCell _ _=w30 at *
  clear hc28 hf29
  refine wpAnyH_done (by kernel_rfl) ?_ _
  have HN_r:=ħ (HM_k2.out.node 14 s_k 0)
  have HZ_r:=HZ_k2
  clear HM_k2 HZ_k2
  have hc31:=HW.out.c0
  go_wp2_with fail
  clear hc31
  go_at_call 142
  refine (ended_any HW.out.ps HW.out.glt _ _ _ _ _ _).mono ?_
  rintro e w32 ⟨hG32,⟨hq,rfl,hP32⟩|⟨hq,rfl⟩⟩
  rotate_left
  ·replace hq:¬ hd (tk r24)=sSEMI:=fun e=>hq ((tx_hd (HF.out.suf HS.out) sSEMI (⟨_,_,rfl,by decide⟩)).2 e)
   exact ⟨rfl,grown_trans HW.out.grown hG32,_,HS.out,Or.inr ⟨r_va1 HQ_sIF.out HQ_sWHILE.out HQ_sRET.out HQ_sPUT.out HV.out HT_k.out (va2 HQe.out (by rw [← tk_tail];exact HR_x.out) hq),rfl⟩⟩
  have HQ3:Hid (hd (tk r24)=sSEMI):=(tx_hd (HF.out.suf HS.out) sSEMI (⟨_,_,rfl,by decide⟩)).1 hq
  have HL:Hid (r24.tail.length<ts.length):=Nat.lt_of_lt_of_le (tail_lt (by decide) hq) HS.out.length_le
  replace HN_r:=HW.out.kN HZ_r hG32 HN_r
  replace HW:=ħ (HW.out.call hG32 hP32)
  replace HS:=ħ ((List.tail_suffix _).trans HS.out)
  clear hP32 hG32 hq
  have hc33:=HW.out.c0
  have hc34:=HW.out.c1
  have hf35:=HW.out.f1
  replace HW:=ħ (HW.out.s1 (.int .i64 14) (.string (str s_k)) (.int .i64 0) ((.slice (some ⟨g27,0,none⟩) (1+1) c27)))
  replace HN_r:=HW.out.ms1.N HN_r
  go_wp2_with fail
  generalize (((w32.setCell _ _).setCell _ _).setCell _ _).setCell _ _=w38 at *
  refine bodyPost_ret (rt rfl rfl HW.out.b1) rfl ?_
  exact HW.out.post HS.out (by rw [tk_tail];exact r_va1 HQ_sIF.out HQ_sWHILE.out HQ_sRET.out HQ_sPUT.out HV.out HT_k.out (va3 HQe.out (by rw [← tk_tail];exact HR_x.out) HQ3.out)) HL.out HZ_r.out HN_r.out
 replace HW:=HW.out.an HN_x
 replace HN_x:=HW.out.nA HN_x
 replace HM_k:=HW.out.rA HM_k
 go_simp
 refine hK.out _ _ trivial fun hHd=>?_
 clear hK K
 try simp only [qq]
 generalize w24.alloc _=w39 at *
 refine rq 1 fun K hK=>?_
 have hc40:=HW.out.c1
 go_simp
 clear hc40
 refine hK.out _ _ trivial fun hHd=>?_
 clear hK K
 try simp only [qq]
 refine rq 5 fun K hK=>?_
 refine app_s0 _ _ rfl rfl HW.out HM_k.out HN_x.out HZ_k.out HZ_x.out HO_k.out (by simp) ⟨rfl,rfl,rfl,rfl⟩ rfl rfl ?_
 intro g41 c41 w41 hW hM hG
 clear HM_k HN_x HZ_k HZ_x HO_k
 replace HW:=hide hW
 have HM_k2:=hide hM
 have HZ_k2:=zz w
 clear hW hM hG
 refine hK.out _ _ trivial fun hHd=>?_
 clear hK K
 try simp only [qq]
 refine tq 6 ?_
 simp only [qq]
 refine rq 7 fun K hK=>?_
 have hc42:=HW.out.c0
 have hf43:=HW.out.f0
 replace HW:=ħ (HW.out.p03 ((.slice (some ⟨g41,0,none⟩) (1+1) c41)))
 replace HM_k2:=HW.out.mp03.R HM_k2
 go_simp
 refine hK.out _ _ trivial fun hHd=>?_
 clear hK K
 try simp only [qq]
 generalize w41.setCell _ _=w44 at *
 clear hc42 hf43
 refine wpAnyH_done (by kernel_rfl) ?_ _
 have HN_r:=ħ (HM_k2.out.node 14 s_k 0)
 have HZ_r:=HZ_k2
 clear HM_k2 HZ_k2
 have hc45:=HW.out.c0
 go_wp2_with fail
 clear hc45
 go_at_call 142
 refine (ended_any HW.out.ps HW.out.glt _ _ _ _ _ _).mono ?_
 rintro e w46 ⟨hG46,⟨hq,rfl,hP46⟩|⟨hq,rfl⟩⟩
 rotate_left
 ·replace hq:¬ hd (tk r24)=sSEMI:=fun e=>hq ((tx_hd (HF.out.suf HS.out) sSEMI (⟨_,_,rfl,by decide⟩)).2 e)
  exact ⟨rfl,grown_trans HW.out.grown hG46,_,HS.out,Or.inr ⟨r_va1 HQ_sIF.out HQ_sWHILE.out HQ_sRET.out HQ_sPUT.out HV.out HT_k.out (va2 HQe.out (by rw [← tk_tail];exact HR_x.out) hq),rfl⟩⟩
 have HQ3:Hid (hd (tk r24)=sSEMI):=(tx_hd (HF.out.suf HS.out) sSEMI (⟨_,_,rfl,by decide⟩)).1 hq
 have HL:Hid (r24.tail.length<ts.length):=Nat.lt_of_lt_of_le (tail_lt (by decide) hq) HS.out.length_le
 replace HN_r:=HW.out.kN HZ_r hG46 HN_r
 replace HW:=ħ (HW.out.call hG46 hP46)
 replace HS:=ħ ((List.tail_suffix _).trans HS.out)
 clear hP46 hG46 hq
 have hc47:=HW.out.c0
 have hc48:=HW.out.c1
 have hf49:=HW.out.f1
 replace HW:=ħ (HW.out.s1 (.int .i64 14) (.string (str s_k)) (.int .i64 0) ((.slice (some ⟨g41,0,none⟩) (1+1) c41)))
 replace HN_r:=HW.out.ms1.N HN_r
 go_wp2_with fail
 generalize (((w46.setCell _ _).setCell _ _).setCell _ _).setCell _ _=w52 at *
 refine bodyPost_ret (rt rfl rfl HW.out.b1) rfl ?_
 exact HW.out.post HS.out (by rw [tk_tail];exact r_va1 HQ_sIF.out HQ_sWHILE.out HQ_sRET.out HQ_sPUT.out HV.out HT_k.out (va3 HQe.out (by rw [← tk_tail];exact HR_x.out) HQ3.out)) HL.out HZ_r.out HN_r.out
end Go.Proofs.YthcfianhdkolhaaGreatDoor.Y
namespace Go.Proofs.YthcfianhdkolhaaGreatDoor.Y
open Go.RowKit Go.Proofs.YthcfianhdkolhaaGreatDoor.X Go.Proofs.YthcfianhdkolhaaGreatDoor.T Go.Proofs.YthcfianhdkolhaaGreatDoor.S
set_option linter.unusedVariables false
set_option linter.unusedSimpArgs false
variable {w w' : World} {b g : Nat} {m : Value} {ts : List Tok} {t : Tok}
theorem stat_any (hb5:4<b) (hBl:Later 98 .block b g m ts):Meth 125 .stat b g m ts:=by
 intro w h hT hGl hgl hF hlen
 by_cases q1:tx ts=str sIF
 ·exact stat_if h hT hGl hb5 hgl hF hlen q1 hBl
 by_cases q2:tx ts=str sWHILE
 ·exact stat_while h hT hGl hb5 hgl hF hlen q1 q2 hBl
 by_cases q3:tx ts=str sRET
 ·exact stat_ret h hT hGl hb5 hgl hF hlen q1 q2 q3 hBl
 by_cases q4:tx ts=str sPUT
 ·exact stat_put h hT hGl hb5 hgl hF hlen q1 q2 q3 q4 hBl
 cases hn:nmAt ts 0 with
 | false=>exact stat_var1 h hT hGl hb5 hgl hF hlen q1 q2 q3 q4 hn hBl
 | true=>
  cases hn1:nmAt ts 1 with
  | false=>exact stat_set h hT hGl hb5 hgl hF hlen q1 q2 q3 q4 hn hn1 hBl
  | true=>exact stat_var2 h hT hGl hb5 hgl hF hlen q1 q2 q3 q4 hn hn1 hBl
theorem block_circle (hb5:4<b):∀ (n:Nat) (ts:List Tok),ts.length=n→Meth 98 .block b g m ts∧Meth 125 .stat b g m ts:=by
 intro n
 induction n using Nat.strongRecOn with
 | ind n ih=>
  intro ts hts
  have L1:Later 98 .block b g m ts:=fun r _ hl=>(ih r.length (by omega) r rfl).1
  have L2:Later 125 .stat b g m ts:=fun r _ hl=>(ih r.length (by omega) r rfl).2
  exact ⟨fun w h hT hGl hgl hF hlen=>block_any h hT hGl hb5 hgl hF hlen L2,stat_any hb5 L1⟩
theorem block_meth (hb5:4<b) (ts:List Tok):Meth 98 .block b g m ts:=(block_circle hb5 _ ts rfl).1
def PostK (K:List Tk→Res→Prop) (w:World) (b g:Nat) (m:Value) (ts:List Tok) (e:Ending) (w':World):Prop:=w.grownBy w' (some b)∧∃ r,r <:+ ts ∧
 ((∃ n v,r.length<ts.length∧K (tk ts) (.ok (.nd n) (tk r))∧e=.returned v∧NdV w' (fun k=>w.heap.size≤k) n v∧Ps w' b g m r)∨(K (tk ts) (.no (tk r))∧e=up r))
def KSt (ts:List Tk) (q:Res):Prop:=∃ n,S.name ts (fun s r=>must sLB r fun r=>P n (.fieldsL s []) r)=some q
def KEx (ts:List Tk) (q:Res):Prop:=∃ n,(andN (P n .typ ts) fun t r=>S.name r fun s r=>
 if hd r=sLP then andR (P n (.rows 1) r) fun l d r=>must sSEMI r fun r=>okN (.mk 4 s (b2n d) (l++[t])) r else must sSEMI r fun r=>okN (.mk 5 s 0 [t]) r)=some q
theorem ks0 {ts:List Tk} (h:nameB (hd ts)=false):KSt ts (.no ts):=⟨0,by simp [S.name,h]⟩
theorem ks1 {ts:List Tk} (h:nameB (hd ts)=true) (h2:¬ hd ts.tail=sLB):KSt ts (.no ts.tail):=⟨0,by simp [S.name,h,must,h2]⟩
theorem ks2 {ts:List Tk} {q:Res} (h:nameB (hd ts)=true) (h2:hd ts.tail=sLB) (a:R (.fieldsL (hd ts) []) ts.tail.tail q):KSt ts q:=by
 obtain ⟨n,e⟩:=a
 exact ⟨n,by simp [S.name,h,must,h2,e]⟩
theorem r_fl0 {s:List UInt8} {acc:List Nd} {ts r:List Tk} (h:TyNo ts r):R (.fieldsL s acc) ts (.no r):=by
 rcases h with ⟨n,e⟩|⟨t,⟨n,e⟩,h2⟩
 ·exact ⟨n+1,by simp [P,F,andN,e]⟩
 exact ⟨n+1,by simp [P,F,andN,e,S.name,h2]⟩
theorem r_fl1 {s f:List UInt8} {t:Nd} {acc:List Nd} {ts r:List Tk} (h:TyOk ts t f r) (h2:¬ hd r=sSEMI):R (.fieldsL s acc) ts (.no r):=by
 obtain ⟨r1,⟨n,e⟩,h3,rfl,rfl⟩:=h
 exact ⟨n+1,by simp [P,F,andN,e,S.name,h3,must,h2]⟩
theorem r_fl2 {s f:List UInt8} {t:Nd} {acc:List Nd} {ts r:List Tk} (h:TyOk ts t f r) (h2:hd r=sSEMI) (h4:hd r.tail=sRB):R (.fieldsL s acc) ts (.ok (.nd (.mk 2 s 0 (acc++[.mk 3 f 0 [t]]))) r.tail.tail):=by
 obtain ⟨r1,⟨n,e⟩,h3,rfl,rfl⟩:=h
 exact ⟨n+1,by simp [P,F,andN,e,S.name,h3,must,h2,h4,okN]⟩
theorem r_fl3 {s f:List UInt8} {t:Nd} {acc:List Nd} {ts r:List Tk} {q:Res} (h:TyOk ts t f r) (h2:hd r=sSEMI) (h4:¬ hd r.tail=sRB) (k:R (.fieldsL s (acc++[.mk 3 f 0 [t]])) r.tail q):R (.fieldsL s acc) ts q:=by
 obtain ⟨r1,a,h3,rfl,rfl⟩:=h
 obtain ⟨n,e,e2⟩:=both a k
 exact ⟨n+1,by simp [P,F,andN,e,S.name,h3,must,h2,h4,e2]⟩
theorem ke0 {ts r:List Tk} (h:TyNo ts r):KEx ts (.no r):=by
 rcases h with ⟨n,e⟩|⟨t,⟨n,e⟩,h2⟩
 ·exact ⟨n,by simp [andN,e]⟩
 exact ⟨n,by simp [andN,e,S.name,h2]⟩
theorem ke1 {ts r:List Tk} {t:Nd} {s:List UInt8} (h:TyOk ts t s r) (h2:hd r=sSEMI):KEx ts (.ok (.nd (.mk 5 s 0 [t])) r.tail):=by
 obtain ⟨r1,⟨n,e⟩,h3,rfl,rfl⟩:=h
 exact ⟨n,by simp [andN,e,S.name,h3,must,h2,okN]⟩
theorem ke2 {ts r r2:List Tk} {t:Nd} {s:List UInt8} (h:TyOk ts t s r) (h2:¬ hd r=sSEMI) (k:R (.rows 1) r (.no r2)):KEx ts (.no r2):=by
 obtain ⟨r1,a,h3,rfl,rfl⟩:=h
 by_cases h4:hd r1.tail=sLP
 ·obtain ⟨n,e,e2⟩:=both a k
  exact ⟨n,by simp [andN,e,S.name,h3,h4,andR,e2]⟩
 have e0:=R_one k (r_ro0 h4)
 injection e0 with e0
 subst e0
 obtain ⟨n,e⟩:=a
 exact ⟨n,by simp [andN,e,S.name,h3,h4,must,h2]⟩
theorem lp_of {r r2:List Tk} {l:List Nd} {d:Bool} (k:R (.rows 1) r (.ok (.row l d) r2)):hd r=sLP:=by
 by_cases h4:hd r=sLP
 ·exact h4
 have e0:=R_one k (r_ro0 h4)
 cases e0
theorem ke3 {ts r r2:List Tk} {t:Nd} {s:List UInt8} {l:List Nd} {d:Bool} (h:TyOk ts t s r) (k:R (.rows 1) r (.ok (.row l d) r2)) (h2:¬ hd r2=sSEMI):KEx ts (.no r2):=by
 have h4:=lp_of k
 obtain ⟨r1,a,h3,rfl,rfl⟩:=h
 obtain ⟨n,e,e2⟩:=both a k
 exact ⟨n,by simp [andN,e,S.name,h3,h4,andR,e2,must,h2]⟩
theorem ke4 {ts r r2:List Tk} {t:Nd} {s:List UInt8} {l:List Nd} {d:Bool} (h:TyOk ts t s r) (k:R (.rows 1) r (.ok (.row l d) r2)) (h2:hd r2=sSEMI):KEx ts (.ok (.nd (.mk 4 s (b2n d) (l++[t]))) r2.tail):=by
 have h4:=lp_of k
 obtain ⟨r1,a,h3,rfl,rfl⟩:=h
 obtain ⟨n,e,e2⟩:=both a k
 exact ⟨n,by simp [andN,e,S.name,h3,h4,andR,e2,must,h2,okN]⟩
end Go.Proofs.YthcfianhdkolhaaGreatDoor.Y
