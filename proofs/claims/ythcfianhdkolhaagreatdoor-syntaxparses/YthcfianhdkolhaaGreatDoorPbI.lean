/- PbGd PbH PbI -/
import Derived.Test.YthcfianhdkolhaaGreatDoorSign
import Derived.Test.YthcfianhdkolhaaGreatDoorPbG
import Derived.Test.YthcfianhdkolhaaGreatDoorPbGc
namespace Go.Proofs.YthcfianhdkolhaaGreatDoor.Y
open Go.RowKit Go.Proofs.YthcfianhdkolhaaGreatDoor.X Go.Proofs.YthcfianhdkolhaaGreatDoor.T Go.Proofs.YthcfianhdkolhaaGreatDoor.S
set_option maxRecDepth 100000
set_option maxHeartbeats 2000000
set_option linter.unusedVariables false
set_option linter.unusedSimpArgs false
variable {w w' : World} {b g : Nat} {m : Value} {ts : List Tok} {t : Tok}
theorem first_name (h:Ps w b g m ts) (hT:Two w b m) (hGl:Og w) (hb5:4<b) (hgl:g<w.heap.size) (hF:Fits ts) (hlen:ts.length≤4000) (hq_i:¬ tx ts=str sINT) (hq_l:¬ tx ts=str sLONG) (hq_sLP:¬ tx ts=str sLP) (hq_sAMP:¬ tx ts=str sAMP) (hq_sCOUNT:¬ tx ts=str sCOUNT) (hq_sEXTRA:¬ tx ts=str sEXTRA) (hn0:nmAt ts 0=true) (hE:Later 143 .expr b g m ts):Calls Tryz.prog 176 #[.pointer (some ⟨b,0,none⟩)] w (PostN .first w b g m ts):=by
 have HW:Hid (Wd w w b g m ts []):=Wd.start h hT hGl hb5 hgl
 have HS:=su ts
 have HF:=ħ hF
 have HLn:=ħ hlen
 have HE:=hide hE
 have HSz:Hid ((tx ts).size≤4000):=tx_short hF
 have H2:Hid (twoOf (tx ts)=(0,0,false)):=by show twoOf (tx ts)=_;unfold twoOf;rw [if_neg hq_i,if_neg hq_l]
 have hc_sLP:((tx ts).toList == ([40]:List UInt8))=false:=by rw [cmp_str];exact decide_eq_false hq_sLP
 have hc_sAMP:((tx ts).toList == ([38]:List UInt8))=false:=by rw [cmp_str];exact decide_eq_false hq_sAMP
 have hc_sCOUNT:((tx ts).toList == ([99,111,117,110,116]:List UInt8))=false:=by rw [cmp_str];exact decide_eq_false hq_sCOUNT
 have hc_sEXTRA:((tx ts).toList == ([101,120,116,114,97]:List UInt8))=false:=by rw [cmp_str];exact decide_eq_false hq_sEXTRA
 have HQ_sLP:Hid (¬ hd (tk ts)=sLP):=fun e=>hq_sLP ((tx_hd hF sLP (⟨_,_,rfl,by decide⟩)).2 e)
 have HQ_sAMP:Hid (¬ hd (tk ts)=sAMP):=fun e=>hq_sAMP ((tx_hd hF sAMP (⟨_,_,rfl,by decide⟩)).2 e)
 have HQ_sCOUNT:Hid (¬ hd (tk ts)=sCOUNT):=fun e=>hq_sCOUNT ((tx_hd hF sCOUNT (⟨_,_,rfl,by decide⟩)).2 e)
 have HQ_sEXTRA:Hid (¬ hd (tk ts)=sEXTRA):=fun e=>hq_sEXTRA ((tx_hd hF sEXTRA (⟨_,_,rfl,by decide⟩)).2 e)
 have HQ_i:Hid (¬ hd (tk ts)=sINT):=fun e=>hq_i ((tx_hd hF sINT (⟨_,_,rfl,by decide⟩)).2 e)
 have HQ_l:Hid (¬ hd (tk ts)=sLONG):=fun e=>hq_l ((tx_hd hF sLONG (⟨_,_,rfl,by decide⟩)).2 e)
 have HNm:=hide hn0
 have HQs0:Hid (nameB (hd (tk ts))=true):=(nm_hd hF).symm.trans hn0
 clear hn0
 clear hq_i hq_l hq_sLP hq_sAMP hq_sCOUNT hq_sEXTRA
 clear hE
 clear h hT hGl hgl hF hlen
 go_enter Tryz.func176,Tryz.ntmps176
 replace HW:=HW.out.az
 go_wp2_with fail
 generalize w.alloc _=w1 at *
 replace HW:=ħ (HW.out.quiet (grown_drew w1))
 refine wp_region_held_drew (S:=(fun w'=>w'.cell? ⟨b,1,none⟩=some m∧Two w' b m)) (by kernel_rfl) (⟨HW.out.ps.cell1,HW.out.two⟩) (fun hHd=>?_)
 generalize w1.drew=w2 at *
 refine tq 0 ?_
 simp only [qq]
 refine tq 1 ?_
 simp only [qq]
 refine tq 2 ?_
 simp only [qq]
 refine tq 3 ?_ (hy:=by (intro w hSw;obtain ⟨hs1,hs2⟩:=hSw;go_simp)<;>with_reducible rfl)
 simp only [qq]
 refine tq 4 ?_
 simp only [qq]
 refine rq2 5 10 (fun K hK=>?_) fun K hK=>?_
 ·go_simp
  refine (text_any HW.out.ps).mono ?_
  rintro e w3 ⟨rfl,hww⟩
  replace hww:w2=w3:=hww.symm
  subst hww
  refine hK.out _ _ (⟨HW.out.ps.cell1,HW.out.two⟩) (fun hHd=>?_)
  clear hK K
  try simp only [qq]
  refine tq 6 ?_ (hy:=by (intro w hSw;have hlk:=hSw.2.look (tx ts) HSz.out;rw [H2.out] at hlk;clear hSw;go_simp)<;>with_reducible rfl)
  simp only [qq]
  refine tq 7 ?_
  simp only [qq]
  refine tq 8 ?_
  simp only [qq]
  refine tq 9 ?_
  simp only [qq]
  refine rq 10 fun K hK=>?_
  replace HW:=ħ (HW.out.alloc' w2.heap.size (by simp) #[.int .i64 0,.int .i64 0] 52)
  go_simp
  refine hK.out _ _ (⟨HW.out.ps.cell1,HW.out.two⟩) (fun hHd=>?_)
  clear hK K
  try simp only [qq]
  generalize w2.alloc _=w4 at *
  refine rq 11 fun K hK=>?_
  have hc5:=HW.out.c0
  have hf6:=HW.out.f0
  replace HW:=ħ (HW.out.r00 (.int .i64 0))
  replace HW:=ħ (HW.out.r01 (.int .i64 0))
  go_simp
  refine hK.out _ _ (⟨HW.out.ps.cell1,HW.out.two⟩) (fun hHd=>?_)
  clear hK K
  try simp only [qq]
  generalize (w4.setCell _ _).setCell _ _=w7 at *
  clear hc5 hf6
  refine tq 12 ?_
  simp only [qq]
  refine wpAnyH_done (by kernel_rfl) ?_ _
  go_wp2_with fail
  go_at_call 91
  refine (text_any HW.out.ps).mono ?_
  rintro e w8 ⟨rfl,hww⟩
  replace hww:w7=w8:=hww.symm
  subst hww
  go_wp2_with fail
  go_at_call 119
  refine (isName_any HW.out.ps (HF.out.suf HS.out).short 0 (by omega)).mono ?_
  rw [HNm.out]
  rintro e w9 ⟨rfl,hww⟩
  replace hww:w7=w9:=hww.symm
  subst hww
  go_wp2_with fail
  go_at_call 93
  refine (HW.out.nm HS.out HF.out).mono ?_
  rintro e w10 (⟨HQ_s,rfl,HL,hS,hW,hG⟩|⟨hn,rfl,h1⟩)
  rotate_left
  ·exact ⟨rfl,h1,_,HS.out,Or.inr ⟨absurd hn (by rw [HQs0.out];decide),rfl⟩⟩
  replace HW:=hW
  replace HS:=hS
  clear hG
  replace HW:=HW.out.al w10.heap.size #[.int .i64 23,.string (str (hd (tk ts))),.int .i64 0,.slice none 0 0]
  go_wp2_with fail
  generalize w10.alloc _=w11 at *
  by_cases hq:tx ts.tail=str sLB
  ·have HQb:Hid (hd (tk ts.tail)=sLB):=(tx_hd (HF.out.suf HS.out) sLB (⟨_,_,rfl,by decide⟩)).1 hq
   go_at_call 67
   refine (HW.out.tkY HS.out (x:=str sLB) (by decide) hq).mono ?_
   rintro e w12 ⟨rfl,HL,HLs,HS,HW,hG⟩
   clear hG
   have hc13:=HW.out.c0
   have hf14:=HW.out.f0
   replace HW:=ħ (HW.out.p00 (.int .i64 27))
   go_wp2_with fail
   generalize w12.setCell _ _=w15 at *
   clear hc13 hf14
   go_at_call 165
   refine (parts_any HW.out.ps HW.out.two HW.out.glo HW.out.bg HW.out.glt (HF.out.suf HS.out) (Nat.le_trans HS.out.length_le HLn.out) sRB (⟨_,_,rfl,by decide⟩) (by decide) (JMk (tk ts)) (KMk (tk ts)) (by rw [tk_tail,tk_tail];exact loop_mk HQ_sLP.out HQ_sAMP.out HQ_sCOUNT.out HQ_i.out HQ_l.out HQ_sEXTRA.out HQ_s.out (by rw [← tk_tail];exact HQb.out)) (HE.out _ HS.out HL.out) (HE.out.suf HS.out)).mono ?_
   rintro e w16 ⟨hG16,r16,hsu,⟨l2,v2,hlt,hll,hK2,rfl,hM2,hnil,hP16⟩|⟨hK2,rfl⟩⟩
   rotate_left
   ·exact ⟨rfl,grown_trans HW.out.grown hG16,_,hsu.trans HS.out,Or.inr ⟨hK2,rfl⟩⟩
   have HK2:=hide hK2
   have HM_p:=ħ (hM2.given HW.out)
   have HZ_p:Hid (w.heap.size≤w15.heap.size):=HW.out.grown.size
   have HL:Hid (r16.length<ts.length):=Nat.lt_of_lt_of_le hlt HS.out.length_le
   replace HW:=ħ (HW.out.call hG16 hP16)
   replace HS:=ħ ((hsu).trans HS.out)
   clear hP16 hG16 hsu hlt hll hK2 hM2 hnil
   have HV2:Hid (∃ a n c,v2=.slice a n c):=by
    rcases HM_p.out.shape with ⟨e,_⟩|⟨q,cp,e,_⟩
    ·exact ⟨_,_,_,e⟩
    exact ⟨_,_,_,e⟩
   obtain ⟨a2,n2,c2,hv2⟩:=HV2.out
   subst hv2
   have hc17:=HW.out.c0
   have hc18:=HW.out.c1
   have hc19:=HW.out.c2
   have hf20:=HW.out.f0
   have hf21:=HW.out.f2
   replace HW:=ħ (HW.out.p03 (.slice a2 n2 c2))
   replace HM_p:=HW.out.mp03.R HM_p
   have HN_z:=ħ (HM_p.out.node 27 (hd (tk ts)) 0)
   have HZ_z:=HZ_p
   clear HM_p HZ_p
   have hc22:=HW.out.c0
   have hc23:=HW.out.c1
   have hc24:=HW.out.c2
   have hf25:=HW.out.f2
   replace HW:=ħ (HW.out.s2 (.int .i64 27) (.string (str (hd (tk ts)))) (.int .i64 0) ((.slice a2 n2 c2)))
   replace HN_z:=HW.out.ms2.N HN_z
   go_wp2_with fail
   generalize ((((w16.setCell _ _).setCell _ _).setCell _ _).setCell _ _).setCell _ _=w28 at *
   refine bodyPost_ret (rt rfl rfl HW.out.b2) rfl ?_
   exact HW.out.post HS.out HK2.out HL.out HZ_z.out HN_z.out
  have HQb:Hid (¬ hd (tk ts.tail)=sLB):=fun e=>hq ((tx_hd (HF.out.suf HS.out) sLB (⟨_,_,rfl,by decide⟩)).2 e)
  go_at_call 67
  refine (HW.out.tkN (x:=str sLB) (by decide) hq).mono ?_
  rintro e w29 ⟨rfl,HW,hG⟩
  clear hG
  have HN_z:Hid (NdV w29 (Av w.heap.size [(w10.heap.size,#[.int .i64 23,.string (str (hd (tk ts))),.int .i64 0,.slice none 0 0],24),(w2.heap.size,#[.int .i64 0,.int .i64 0],52),(w.heap.size,#[.int .i64 0,.string ⟨#[]⟩,.int .i64 0,.slice none 0 0],24)]) (.mk 23 (hd (tk ts)) 0 []) (.agg #[.int .i64 23,.string (str (hd (tk ts))),.int .i64 0,.slice none 0 0])):=NdV.bare 23 (hd (tk ts)) 0 none 0
  have HZ_z:=zz w
  have hc30:=HW.out.c0
  have hc31:=HW.out.c1
  have hc32:=HW.out.c2
  have hf33:=HW.out.f2
  replace HW:=ħ (HW.out.s2 (.int .i64 23) (.string (str (hd (tk ts)))) (.int .i64 0) (.slice none 0 0))
  replace HN_z:=HW.out.ms2.N HN_z
  go_wp2_with fail
  generalize (((w29.setCell _ _).setCell _ _).setCell _ _).setCell _ _=w36 at *
  refine bodyPost_ret (rt rfl rfl HW.out.b2) rfl ?_
  exact HW.out.post HS.out (by rw [tk_tail];exact r_fi_name HQ_sLP.out HQ_sAMP.out HQ_sCOUNT.out HQ_i.out HQ_l.out HQ_sEXTRA.out HQ_s.out (by rw [← tk_tail];exact HQb.out)) HL.out HZ_z.out HN_z.out
 replace HW:=ħ (HW.out.alloc' w2.heap.size (by simp) #[.int .i64 0,.int .i64 0] 52)
 go_simp
 refine hK.out _ _ (⟨HW.out.ps.cell1,HW.out.two⟩) (fun hHd=>?_)
 clear hK K
 try simp only [qq]
 generalize w2.alloc _=w37 at *
 refine rq 5 fun K hK=>?_
 go_simp
 refine (text_any HW.out.ps).mono ?_
 rintro e w38 ⟨rfl,hww⟩
 replace hww:w37=w38:=hww.symm
 subst hww
 refine hK.out _ _ (⟨HW.out.ps.cell1,HW.out.two⟩) (fun hHd=>?_)
 clear hK K
 try simp only [qq]
 refine tq 6 ?_ (hy:=by (intro w hSw;have hlk:=hSw.2.look (tx ts) HSz.out;rw [H2.out] at hlk;clear hSw;go_simp)<;>with_reducible rfl)
 simp only [qq]
 refine tq 7 ?_
 simp only [qq]
 refine tq 8 ?_
 simp only [qq]
 refine tq 9 ?_
 simp only [qq]
 refine rq 11 fun K hK=>?_
 have hc39:=HW.out.c0
 have hf40:=HW.out.f0
 replace HW:=ħ (HW.out.r00 (.int .i64 0))
 replace HW:=ħ (HW.out.r01 (.int .i64 0))
 go_simp
 refine hK.out _ _ (⟨HW.out.ps.cell1,HW.out.two⟩) (fun hHd=>?_)
 clear hK K
 try simp only [qq]
 generalize (w37.setCell _ _).setCell _ _=w41 at *
 clear hc39 hf40
 refine tq 12 ?_
 simp only [qq]
 refine wpAnyH_done (by kernel_rfl) ?_ _
 go_wp2_with fail
 go_at_call 91
 refine (text_any HW.out.ps).mono ?_
 rintro e w42 ⟨rfl,hww⟩
 replace hww:w41=w42:=hww.symm
 subst hww
 go_wp2_with fail
 go_at_call 119
 refine (isName_any HW.out.ps (HF.out.suf HS.out).short 0 (by omega)).mono ?_
 rw [HNm.out]
 rintro e w43 ⟨rfl,hww⟩
 replace hww:w41=w43:=hww.symm
 subst hww
 go_wp2_with fail
 go_at_call 93
 refine (HW.out.nm HS.out HF.out).mono ?_
 rintro e w44 (⟨HQ_s,rfl,HL,hS,hW,hG⟩|⟨hn,rfl,h1⟩)
 rotate_left
 ·exact ⟨rfl,h1,_,HS.out,Or.inr ⟨absurd hn (by rw [HQs0.out];decide),rfl⟩⟩
 replace HW:=hW
 replace HS:=hS
 clear hG
 replace HW:=HW.out.al w44.heap.size #[.int .i64 23,.string (str (hd (tk ts))),.int .i64 0,.slice none 0 0]
 go_wp2_with fail
 generalize w44.alloc _=w45 at *
 by_cases hq:tx ts.tail=str sLB
 ·have HQb:Hid (hd (tk ts.tail)=sLB):=(tx_hd (HF.out.suf HS.out) sLB (⟨_,_,rfl,by decide⟩)).1 hq
  go_at_call 67
  refine (HW.out.tkY HS.out (x:=str sLB) (by decide) hq).mono ?_
  rintro e w46 ⟨rfl,HL,HLs,HS,HW,hG⟩
  clear hG
  have hc47:=HW.out.c0
  have hf48:=HW.out.f0
  replace HW:=ħ (HW.out.p00 (.int .i64 27))
  go_wp2_with fail
  generalize w46.setCell _ _=w49 at *
  clear hc47 hf48
  go_at_call 165
  refine (parts_any HW.out.ps HW.out.two HW.out.glo HW.out.bg HW.out.glt (HF.out.suf HS.out) (Nat.le_trans HS.out.length_le HLn.out) sRB (⟨_,_,rfl,by decide⟩) (by decide) (JMk (tk ts)) (KMk (tk ts)) (by rw [tk_tail,tk_tail];exact loop_mk HQ_sLP.out HQ_sAMP.out HQ_sCOUNT.out HQ_i.out HQ_l.out HQ_sEXTRA.out HQ_s.out (by rw [← tk_tail];exact HQb.out)) (HE.out _ HS.out HL.out) (HE.out.suf HS.out)).mono ?_
  rintro e w50 ⟨hG50,r50,hsu,⟨l2,v2,hlt,hll,hK2,rfl,hM2,hnil,hP50⟩|⟨hK2,rfl⟩⟩
  rotate_left
  ·exact ⟨rfl,grown_trans HW.out.grown hG50,_,hsu.trans HS.out,Or.inr ⟨hK2,rfl⟩⟩
  have HK2:=hide hK2
  have HM_p:=ħ (hM2.given HW.out)
  have HZ_p:Hid (w.heap.size≤w49.heap.size):=HW.out.grown.size
  have HL:Hid (r50.length<ts.length):=Nat.lt_of_lt_of_le hlt HS.out.length_le
  replace HW:=ħ (HW.out.call hG50 hP50)
  replace HS:=ħ ((hsu).trans HS.out)
  clear hP50 hG50 hsu hlt hll hK2 hM2 hnil
  have HV2:Hid (∃ a n c,v2=.slice a n c):=by
   rcases HM_p.out.shape with ⟨e,_⟩|⟨q,cp,e,_⟩
   ·exact ⟨_,_,_,e⟩
   exact ⟨_,_,_,e⟩
  obtain ⟨a2,n2,c2,hv2⟩:=HV2.out
  subst hv2
  have hc51:=HW.out.c0
  have hc52:=HW.out.c1
  have hc53:=HW.out.c2
  have hf54:=HW.out.f0
  have hf55:=HW.out.f2
  replace HW:=ħ (HW.out.p03 (.slice a2 n2 c2))
  replace HM_p:=HW.out.mp03.R HM_p
  have HN_z:=ħ (HM_p.out.node 27 (hd (tk ts)) 0)
  have HZ_z:=HZ_p
  clear HM_p HZ_p
  have hc56:=HW.out.c0
  have hc57:=HW.out.c1
  have hc58:=HW.out.c2
  have hf59:=HW.out.f2
  replace HW:=ħ (HW.out.s2 (.int .i64 27) (.string (str (hd (tk ts)))) (.int .i64 0) ((.slice a2 n2 c2)))
  replace HN_z:=HW.out.ms2.N HN_z
  go_wp2_with fail
  generalize ((((w50.setCell _ _).setCell _ _).setCell _ _).setCell _ _).setCell _ _=w62 at *
  refine bodyPost_ret (rt rfl rfl HW.out.b2) rfl ?_
  exact HW.out.post HS.out HK2.out HL.out HZ_z.out HN_z.out
 have HQb:Hid (¬ hd (tk ts.tail)=sLB):=fun e=>hq ((tx_hd (HF.out.suf HS.out) sLB (⟨_,_,rfl,by decide⟩)).2 e)
 go_at_call 67
 refine (HW.out.tkN (x:=str sLB) (by decide) hq).mono ?_
 rintro e w63 ⟨rfl,HW,hG⟩
 clear hG
 have HN_z:Hid (NdV w63 (Av w.heap.size [(w44.heap.size,#[.int .i64 23,.string (str (hd (tk ts))),.int .i64 0,.slice none 0 0],24),(w2.heap.size,#[.int .i64 0,.int .i64 0],52),(w.heap.size,#[.int .i64 0,.string ⟨#[]⟩,.int .i64 0,.slice none 0 0],24)]) (.mk 23 (hd (tk ts)) 0 []) (.agg #[.int .i64 23,.string (str (hd (tk ts))),.int .i64 0,.slice none 0 0])):=NdV.bare 23 (hd (tk ts)) 0 none 0
 have HZ_z:=zz w
 have hc64:=HW.out.c0
 have hc65:=HW.out.c1
 have hc66:=HW.out.c2
 have hf67:=HW.out.f2
 replace HW:=ħ (HW.out.s2 (.int .i64 23) (.string (str (hd (tk ts)))) (.int .i64 0) (.slice none 0 0))
 replace HN_z:=HW.out.ms2.N HN_z
 go_wp2_with fail
 generalize (((w63.setCell _ _).setCell _ _).setCell _ _).setCell _ _=w70 at *
 refine bodyPost_ret (rt rfl rfl HW.out.b2) rfl ?_
 exact HW.out.post HS.out (by rw [tk_tail];exact r_fi_name HQ_sLP.out HQ_sAMP.out HQ_sCOUNT.out HQ_i.out HQ_l.out HQ_sEXTRA.out HQ_s.out (by rw [← tk_tail];exact HQb.out)) HL.out HZ_z.out HN_z.out
end Go.Proofs.YthcfianhdkolhaaGreatDoor.Y
namespace Go.Proofs.YthcfianhdkolhaaGreatDoor.Y
open Go.RowKit Go.Proofs.YthcfianhdkolhaaGreatDoor.X Go.Proofs.YthcfianhdkolhaaGreatDoor.T Go.Proofs.YthcfianhdkolhaaGreatDoor.S
set_option linter.unusedVariables false
set_option linter.unusedSimpArgs false
variable {w w' : World} {b g : Nat} {m : Value} {ts : List Tok} {t : Tok}
theorem first_any (hb5:4<b) (hE:Later 143 .expr b g m ts):Meth 176 .first b g m ts:=by
 intro w h hT hGl hgl hF hlen
 by_cases q1:tx ts=str sINT
 ·exact first_int h hT hGl hb5 hgl hF hlen q1 hE
 by_cases q2:tx ts=str sLONG
 ·exact first_long h hT hGl hb5 hgl hF hlen q2 hE
 by_cases q3:tx ts=str sLP
 ·exact first_lp h hT hGl hb5 hgl hF hlen q1 q2 q3 hE
 by_cases q4:tx ts=str sAMP
 ·exact first_amp h hT hGl hb5 hgl hF hlen q1 q2 q3 q4 hE
 by_cases q5:tx ts=str sCOUNT
 ·exact first_count h hT hGl hb5 hgl hF hlen q1 q2 q3 q4 q5 hE
 by_cases q6:tx ts=str sEXTRA
 ·exact first_extra h hT hGl hb5 hgl hF hlen q1 q2 q3 q4 q5 q6 hE
 cases hn:nmAt ts 0 with
 | false=>exact first_num h hT hGl hb5 hgl hF hlen q1 q2 q3 q4 q5 q6 hn hE
 | true=>exact first_name h hT hGl hb5 hgl hF hlen q1 q2 q3 q4 q5 q6 hn hE
theorem PostN.turn {q q':G} {e:Ending} (hq:∀ r,R q (tk ts) r→R q' (tk ts) r) (h:PostN q w b g m ts e w'):PostN q' w b g m ts e w':=by
 obtain ⟨hG,r,hr,⟨n,v,hl,hR,he,hN,hP⟩|⟨hR,he⟩⟩:=h
 ·exact ⟨hG,r,hr,Or.inl ⟨n,v,hl,hq _ hR,he,hN,hP⟩⟩
 exact ⟨hG,r,hr,Or.inr ⟨hq _ hR,he⟩⟩
theorem Meth.turn {F:Nat} {q q':G} (hq:∀ r,R q (tk ts) r→R q' (tk ts) r) (h:Meth F q b g m ts):Meth F q' b g m ts:=fun w h1 h2 h3 h4 h5 h6=>(h w h1 h2 h3 h4 h5 h6).mono fun e w'=>PostN.turn hq
theorem expr_circle (hb5:4<b):∀ (n:Nat) (ts:List Tok),ts.length=n→Meth 143 .expr b g m ts∧Meth 173 .unary b g m ts∧Meth 164 (.bound 2) b g m ts∧Meth 153 (.bound 1) b g m ts:=by
 intro n
 induction n using Nat.strongRecOn with
 | ind n ih=>
  intro ts hts
  have L1:Later 143 .expr b g m ts:=fun r _ hl=>(ih r.length (by omega) r rfl).1
  have L2:Later 173 .unary b g m ts:=fun r _ hl=>(ih r.length (by omega) r rfl).2.1
  have L2':Later 173 (.bound 3) b g m ts:=fun r hr hl=>(L2 r hr hl).turn (fun _=>r_b3)
  have L3:Later 164 (.bound 2) b g m ts:=fun r _ hl=>(ih r.length (by omega) r rfl).2.2.1
  have L4:Later 153 (.bound 1) b g m ts:=fun r _ hl=>(ih r.length (by omega) r rfl).2.2.2
  have M0:=first_any hb5 L1
  have M1:Meth 173 .unary b g m ts:=fun w h hT hGl hgl hF hlen=>unary_any h hT hGl hb5 hgl hF hlen M0 L2 L1
  have M2:Meth 164 (.bound 2) b g m ts:=fun w h hT hGl hgl hF hlen=>product_any h hT hGl hb5 hgl hF hlen (M1.turn (fun _=>r_b3)) L2'
  have M3:Meth 153 (.bound 1) b g m ts:=fun w h hT hGl hgl hF hlen=>sum_any h hT hGl hb5 hgl hF hlen M2 L3
  exact ⟨fun w h hT hGl hgl hF hlen=>expr_any h hT hGl hb5 hgl hF hlen M3 L4,M1,M2,M3⟩
theorem expr_meth (hb5:4<b) (ts:List Tok):Meth 143 .expr b g m ts:=(expr_circle hb5 _ ts rfl).1
theorem expr_later (hb5:4<b) (ts:List Tok):Later 143 .expr b g m ts:=fun r _ _=>expr_meth hb5 r
end Go.Proofs.YthcfianhdkolhaaGreatDoor.Y
namespace Go.Proofs.YthcfianhdkolhaaGreatDoor.Y
open Go.RowKit Go.Proofs.YthcfianhdkolhaaGreatDoor.X Go.Proofs.YthcfianhdkolhaaGreatDoor.T Go.Proofs.YthcfianhdkolhaaGreatDoor.S
set_option maxRecDepth 100000
set_option maxHeartbeats 2000000
set_option linter.unusedVariables false
set_option linter.unusedSimpArgs false
variable {w w' : World} {b g : Nat} {m : Value} {ts : List Tok} {t : Tok}
def PostQ (q:G) (w:World) (b g:Nat) (m:Value) (ts:List Tok) (e:Ending) (w':World):Prop:=w.grownBy w' (some b)∧∃ r,r <:+ ts ∧
 ((∃ l d v,r.length<ts.length∧l.length+r.length≤ts.length∧R q (tk ts) (.ok (.row l d) (tk r))∧e=.returned (.tuple #[v,.int .i64 (b2n d)])∧RowN w' (fun k=>w.heap.size≤k) v l∧Ps w' b g m r)∨(R q (tk ts) (.no (tk r))∧e=up r))
theorem r_ro0 {k:Nat} {ts:List Tk} (h:¬ hd ts=sLP):R (.rows k) ts (.no ts):=⟨1,by simp [P,F,must,h]⟩
theorem r_ro1 {k:Nat} {ts:List Tk} (h:hd ts=sLP) (h1:hd ts.tail=sRP):R (.rows k) ts (.ok (.row [] false) ts.tail.tail):=⟨1,by simp [P,F,must,h,h1]⟩
theorem r_ro2 {k:Nat} {ts:List Tk} {q:Res} (h:hd ts=sLP) (h1:¬ hd ts.tail=sRP) (a:R (.rowsL k []) ts.tail q):R (.rows k) ts q:=by
 obtain ⟨n,e⟩:=a
 exact ⟨n+1,by simp [P,F,must,h,h1,e]⟩
theorem r_rL1 {k:Nat} (hk:k<2) {acc:List Nd} {ts:List Tk} (h:hd ts=sDOTS) (h1:¬ hd ts.tail=sRP):R (.rowsL k acc) ts (.no ts.tail):=⟨1,by simp [P,F,must,h,h1,hk]⟩
theorem r_rL2 {k:Nat} (hk:k<2) {acc:List Nd} {ts:List Tk} (h:hd ts=sDOTS) (h1:hd ts.tail=sRP):R (.rowsL k acc) ts (.ok (.row acc true) ts.tail.tail):=⟨1,by simp [P,F,must,h,h1,hk]⟩
theorem r_rL3 {k:Nat} {acc:List Nd} {ts r:List Tk} (h:¬ hd ts=sDOTS) (a:R (.item k) ts (.no r)):R (.rowsL k acc) ts (.no r):=by
 obtain ⟨n,e⟩:=a
 exact ⟨n+1,by simp [P,F,h,andN,e]⟩
theorem r_rL4 {k:Nat} {acc:List Nd} {ts r:List Tk} {x:Nd} {q:Res} (h:¬ hd ts=sDOTS) (a:R (.item k) ts (.ok (.nd x) r)) (h1:hd r=sCOMMA) (a2:R (.rowsL k (acc++[x])) r.tail q):R (.rowsL k acc) ts q:=by
 obtain ⟨n,e1,e2⟩:=both a a2
 exact ⟨n+1,by simp [P,F,h,andN,e1,h1,e2]⟩
theorem r_rL5 {k:Nat} {acc:List Nd} {ts r:List Tk} {x:Nd} (h:¬ hd ts=sDOTS) (a:R (.item k) ts (.ok (.nd x) r)) (h1:¬ hd r=sCOMMA) (h2:hd r=sRP):R (.rowsL k acc) ts (.ok (.row (acc++[x]) false) r.tail):=by
 obtain ⟨n,e1⟩:=a
 exact ⟨n+1,by simp [P,F,h,andN,e1,must,h2]⟩
theorem r_rL6 {k:Nat} {acc:List Nd} {ts r:List Tk} {x:Nd} (h:¬ hd ts=sDOTS) (a:R (.item k) ts (.ok (.nd x) r)) (h1:¬ hd r=sCOMMA) (h2:¬ hd r=sRP):R (.rowsL k acc) ts (.no r):=by
 obtain ⟨n,e1⟩:=a
 exact ⟨n+1,by simp [P,F,h,andN,e1,must,h1,h2]⟩
theorem open_typ (h:Ps w b g m ts) (hT:Two w b m) (hGl:Og w) (hb5:4<b) (hgl:g<w.heap.size) (hF:Fits ts) (hlen:ts.length≤4000) (hI:Later 121 (.item 0) b g m ts):Calls Tryz.prog 122 #[.pointer (some ⟨b,0,none⟩),.func (.func 121) #[.pointer (some ⟨b,0,none⟩)] #[]] w (PostQ (.rows 0) w b g m ts):=by
 have HW:Hid (Wd w w b g m ts []):=Wd.start h hT hGl hb5 hgl
 have HS:=su ts
 have HF:=ħ hF
 have HLn:=ħ hlen
 have HI:=hide hI
 clear hI
 clear h hT hGl hgl hF hlen
 go_enter Tryz.func122,Tryz.ntmps122
 have HA:=ħ (HW.out.ask1 HS.out HF.out (s:=sLP) (⟨_,_,rfl,by decide⟩) (by decide) (q:=w.heap.size) (by simp))
 go_wp2_with fail
 go_at_call 94
 refine HA.out.mono ?_
 clear HA
 rintro e w1 (⟨HQ,rfl,HL,hS,hW,hG⟩|⟨hq,rfl,h1⟩)
 rotate_left
 ·exact ⟨rfl,h1,_,HS.out,Or.inr ⟨r_ro0 hq,rfl⟩⟩
 replace HW:=hW
 replace HS:=hS
 clear hG
 go_wp2_with fail
 by_cases hq:tx ts.tail=str sRP
 ·have HQ1:Hid (hd (tk ts.tail)=sRP):=(tx_hd (HF.out.suf HS.out) sRP (⟨_,_,rfl,by decide⟩)).1 hq
  go_at_call 67
  refine (HW.out.tkY HS.out (x:=str sRP) (by decide) hq).mono ?_
  rintro e w2 ⟨rfl,HL,HLs,HS,HW,hG⟩
  clear hG
  go_wp2_with fail
  refine bodyPost_ret (v:=.tuple #[.slice none 0 0,.int .i64 0]) (by simp [results,Tryz.results122,go_sem]) rfl ?_
  exact ⟨HW.out.grown,_,HS.out,Or.inl ⟨[],false,_,HL.out,by have:=HL.out;show 0+_≤_;omega,by simp only [tk_tail];exact r_ro1 HQ.out (by rw [← tk_tail];exact HQ1.out),rfl,RowN.nil _ _,HW.out.ps⟩⟩
 have HQ1:Hid (¬ hd (tk ts.tail)=sRP):=fun e=>hq ((tx_hd (HF.out.suf HS.out) sRP (⟨_,_,rfl,by decide⟩)).2 e)
 go_at_call 67
 refine (HW.out.tkN (x:=str sRP) (by decide) hq).mono ?_
 rintro e w3 ⟨rfl,HW,hG⟩
 clear hG
 go_wp2_with fail
 go_loopw [4,5] (fun v4 v5 wr=>∃ (v:Value) (r:List Tok) (l:List Nd),v=v4∧v5=.int .i64 0∧Hid (Wd w wr b g m r [])∧Hid (RowN wr (Av w.heap.size []) v l)∧Hid (r <:+ ts)∧Hid (r.length<ts.length)∧Hid (l.length+r.length≤ts.length)∧Hid (∀ q,R (.rowsL 0 l) (tk r) q→R (.rows 0) (tk ts) q)) (fun _ _ wr=>leftOf b wr)
 case atStart=>exact ⟨_,_,[],rfl,rfl,HW,RowN.nil _ _,HS,HL,(by have:=HL.out;show 0+_≤_;omega),fun q hr=>r_ro2 HQ.out (by rw [← tk_tail];exact HQ1.out) (by rw [← tk_tail];exact hr)⟩
 case round=>
  obtain ⟨v,r,l,rfl,rfl,HW,HM_l,HS,HL,HLl,HJ⟩:=hrel
  have HZ_l:=zz w
  have hmu:=HW.out.ps.leftOf
  have HMu:=hide hmu
  clear hmu
  go_wp2_with fail
  by_cases hq2:tx r=str sDOTS
  ·have HQ2:Hid (hd (tk r)=sDOTS):=(tx_hd (HF.out.suf HS.out) sDOTS (⟨_,_,rfl,by decide⟩)).1 hq2
   go_at_call 67
   refine (HW.out.tkY HS.out (x:=str sDOTS) (by decide) hq2).mono ?_
   rintro e w21 ⟨rfl,HL,HLs,hS,hW,hG⟩
   replace HM_l:=HW.out.kR HZ_l hG HM_l
   replace HW:=hW
   replace HS:=hS
   clear hG
   have HA:=ħ (HW.out.ask1 HS.out HF.out (s:=sRP) (⟨_,_,rfl,by decide⟩) (by decide) (q:=w21.heap.size) (by simp))
   go_wp2_with fail
   go_at_call 94
   refine HA.out.mono ?_
   clear HA
   rintro e w22 (⟨HQ3,rfl,HL,hS,hW,hG⟩|⟨hq,rfl,h1⟩)
   rotate_left
   ·exact ⟨rfl,h1,_,HS.out,Or.inr ⟨by rw [tk_tail];exact HJ.out _ (r_rL1 (by decide) HQ2.out (by rw [← tk_tail];exact hq)),rfl⟩⟩
   replace HM_l:=HW.out.kR HZ_l hG HM_l
   replace HW:=hW
   replace HS:=hS
   clear hG
   go_wp2_with fail
   refine bodyPost_ret (v:=.tuple #[v,.int .i64 1]) (by simp [results,Tryz.results122,go_sem]) rfl ?_
   exact ⟨HW.out.grown,_,HS.out,Or.inl ⟨l,true,_,HL.out,by have h1:=HLl.out;have h2:=((List.tail_suffix _).trans (List.tail_suffix r)).length_le;omega,by simp only [tk_tail];exact HJ.out _ (r_rL2 (by decide) HQ2.out (by rw [← tk_tail];exact HQ3.out)),rfl,HM_l.out.move (fun k hk _=>⟨rfl,hk.1⟩),HW.out.ps⟩⟩
  have HQ2:Hid (¬ hd (tk r)=sDOTS):=fun e=>hq2 ((tx_hd (HF.out.suf HS.out) sDOTS (⟨_,_,rfl,by decide⟩)).2 e)
  go_at_call 67
  refine (HW.out.tkN (x:=str sDOTS) (by decide) hq2).mono ?_
  rintro e w23 ⟨rfl,hW,hG⟩
  replace HM_l:=HW.out.kR HZ_l hG HM_l
  replace HW:=hW
  clear hG
  go_wp2_with fail
  go_at_call 121
  refine (HI.out r HS.out HL.out w23 HW.out.ps HW.out.two HW.out.glo HW.out.glt (HF.out.suf HS.out) (Nat.le_trans HS.out.length_le HLn.out)).mono ?_
  rintro e w24 hp
  obtain ⟨r24,n_y,k_y,t_y,v_y,a_y,l_y,c_y,rfl,HR_y,HN_y,HZ_y,HL,HSy,HLs2,hS,hW,hG⟩|⟨r,hR,rfl,h1,h2⟩:=HW.out.okN HS.out hp
  rotate_left
  ·exact ⟨rfl,h1,_,h2,Or.inr ⟨HJ.out _ (r_rL3 HQ2.out hR),rfl⟩⟩
  have HO_l:=hide HM_l.out.lt
  replace HM_l:=HW.out.kR HZ_l hG HM_l
  replace HW:=hW
  replace HS:=hS
  clear hG hp
  replace HW:=HW.out.an HN_y
  replace HN_y:=HW.out.nA HN_y
  replace HM_l:=HW.out.rA HM_l
  go_wp2_with (at_builtin;refine app_l0 _ _ rfl rfl HW.out HM_l.out HN_y.out HZ_l.out HZ_y.out HO_l.out (by have:=HLl.out;have:=HLn.out;omega) ⟨rfl,rfl,rfl,rfl⟩ ?e1 ?e2 ?_;(case e1=>rfl);(case e2=>rfl);skip)
  intro g25 c25 w25 hW hM hG
  clear HM_l HN_y HZ_l HZ_y HO_l
  replace HW:=hide hW
  have HM_l2:=hide hM
  have HZ_l2:=zz w
  clear hW hM hG
  go_wp2_with fail
  by_cases hq3:tx r24=str sCOMMA
  ·have HQ3:Hid (hd (tk r24)=sCOMMA):=(tx_hd (HF.out.suf HS.out) sCOMMA (⟨_,_,rfl,by decide⟩)).1 hq3
   go_at_call 67
   refine (HW.out.tkY HS.out (x:=str sCOMMA) (by decide) hq3).mono ?_
   rintro e w26 ⟨rfl,HL,HLs,hS,hW,hG⟩
   replace HM_l2:=HW.out.kR HZ_l2 hG HM_l2
   replace HW:=hW
   replace HS:=hS
   clear hG
   go_wp2_with fail
   go_roundw
   case rel=>exact ⟨_,_,_,rfl,rfl,HW,HM_l2,HS,HL,(by have h1:=HLl.out;have h2:=HLs2.out;have h3:=HLs.out;show (l++[n_y]).length+_≤_;rw [List.length_append,List.length_singleton];omega),fun q hr=>HJ.out q (r_rL4 HQ2.out HR_y.out HQ3.out (by rw [← tk_tail];exact hr))⟩
   case measure=>rw [HW.out.ps.leftOf,HMu.out];have h2:=HLs2.out;have h3:=HLs.out;omega
  have HQ3:Hid (¬ hd (tk r24)=sCOMMA):=fun e=>hq3 ((tx_hd (HF.out.suf HS.out) sCOMMA (⟨_,_,rfl,by decide⟩)).2 e)
  go_at_call 67
  refine (HW.out.tkN (x:=str sCOMMA) (by decide) hq3).mono ?_
  rintro e w27 ⟨rfl,hW,hG⟩
  replace HM_l2:=HW.out.kR HZ_l2 hG HM_l2
  replace HW:=hW
  clear hG
  have HA:=ħ (HW.out.ask1 HS.out HF.out (s:=sRP) (⟨_,_,rfl,by decide⟩) (by decide) (q:=w27.heap.size) (by simp))
  go_wp2_with fail
  go_at_call 94
  refine HA.out.mono ?_
  clear HA
  rintro e w28 (⟨HQ4,rfl,HL,hS,hW,hG⟩|⟨hq,rfl,h1⟩)
  rotate_left
  ·exact ⟨rfl,h1,_,HS.out,Or.inr ⟨HJ.out _ (r_rL6 HQ2.out HR_y.out HQ3.out hq),rfl⟩⟩
  replace HM_l2:=HW.out.kR HZ_l2 hG HM_l2
  replace HW:=hW
  replace HS:=hS
  clear hG
  go_wp2_with fail
  refine bodyPost_ret (v:=.tuple #[(.slice (some ⟨g25,0,none⟩) (l.length+1) c25),.int .i64 0]) (by simp [results,Tryz.results122,go_sem]) rfl ?_
  exact ⟨HW.out.grown,_,HS.out,Or.inl ⟨(l++[n_y]),false,_,HL.out,by have h1:=HLl.out;have h2:=HLs2.out;have h3:=(List.tail_suffix r24).length_le;rw [List.length_append,List.length_singleton];omega,by rw [tk_tail];exact HJ.out _ (r_rL5 HQ2.out HR_y.out HQ3.out HQ4.out),rfl,HM_l2.out.move (fun k hk _=>⟨rfl,hk.1⟩),HW.out.ps⟩⟩
theorem open_param (h:Ps w b g m ts) (hT:Two w b m) (hGl:Og w) (hb5:4<b) (hgl:g<w.heap.size) (hF:Fits ts) (hlen:ts.length≤4000) (hI:Later 123 (.item 1) b g m ts):Calls Tryz.prog 122 #[.pointer (some ⟨b,0,none⟩),.func (.func 123) #[.pointer (some ⟨b,0,none⟩)] #[]] w (PostQ (.rows 1) w b g m ts):=by
 have HW:Hid (Wd w w b g m ts []):=Wd.start h hT hGl hb5 hgl
 have HS:=su ts
 have HF:=ħ hF
 have HLn:=ħ hlen
 have HI:=hide hI
 clear hI
 clear h hT hGl hgl hF hlen
 go_enter Tryz.func122,Tryz.ntmps122
 have HA:=ħ (HW.out.ask1 HS.out HF.out (s:=sLP) (⟨_,_,rfl,by decide⟩) (by decide) (q:=w.heap.size) (by simp))
 go_wp2_with fail
 go_at_call 94
 refine HA.out.mono ?_
 clear HA
 rintro e w1 (⟨HQ,rfl,HL,hS,hW,hG⟩|⟨hq,rfl,h1⟩)
 rotate_left
 ·exact ⟨rfl,h1,_,HS.out,Or.inr ⟨r_ro0 hq,rfl⟩⟩
 replace HW:=hW
 replace HS:=hS
 clear hG
 go_wp2_with fail
 by_cases hq:tx ts.tail=str sRP
 ·have HQ1:Hid (hd (tk ts.tail)=sRP):=(tx_hd (HF.out.suf HS.out) sRP (⟨_,_,rfl,by decide⟩)).1 hq
  go_at_call 67
  refine (HW.out.tkY HS.out (x:=str sRP) (by decide) hq).mono ?_
  rintro e w2 ⟨rfl,HL,HLs,HS,HW,hG⟩
  clear hG
  go_wp2_with fail
  refine bodyPost_ret (v:=.tuple #[.slice none 0 0,.int .i64 0]) (by simp [results,Tryz.results122,go_sem]) rfl ?_
  exact ⟨HW.out.grown,_,HS.out,Or.inl ⟨[],false,_,HL.out,by have:=HL.out;show 0+_≤_;omega,by simp only [tk_tail];exact r_ro1 HQ.out (by rw [← tk_tail];exact HQ1.out),rfl,RowN.nil _ _,HW.out.ps⟩⟩
 have HQ1:Hid (¬ hd (tk ts.tail)=sRP):=fun e=>hq ((tx_hd (HF.out.suf HS.out) sRP (⟨_,_,rfl,by decide⟩)).2 e)
 go_at_call 67
 refine (HW.out.tkN (x:=str sRP) (by decide) hq).mono ?_
 rintro e w3 ⟨rfl,HW,hG⟩
 clear hG
 go_wp2_with fail
 go_loopw [4,5] (fun v4 v5 wr=>∃ (v:Value) (r:List Tok) (l:List Nd),v=v4∧v5=.int .i64 0∧Hid (Wd w wr b g m r [])∧Hid (RowN wr (Av w.heap.size []) v l)∧Hid (r <:+ ts)∧Hid (r.length<ts.length)∧Hid (l.length+r.length≤ts.length)∧Hid (∀ q,R (.rowsL 1 l) (tk r) q→R (.rows 1) (tk ts) q)) (fun _ _ wr=>leftOf b wr)
 case atStart=>exact ⟨_,_,[],rfl,rfl,HW,RowN.nil _ _,HS,HL,(by have:=HL.out;show 0+_≤_;omega),fun q hr=>r_ro2 HQ.out (by rw [← tk_tail];exact HQ1.out) (by rw [← tk_tail];exact hr)⟩
 case round=>
  obtain ⟨v,r,l,rfl,rfl,HW,HM_l,HS,HL,HLl,HJ⟩:=hrel
  have HZ_l:=zz w
  have hmu:=HW.out.ps.leftOf
  have HMu:=hide hmu
  clear hmu
  go_wp2_with fail
  by_cases hq2:tx r=str sDOTS
  ·have HQ2:Hid (hd (tk r)=sDOTS):=(tx_hd (HF.out.suf HS.out) sDOTS (⟨_,_,rfl,by decide⟩)).1 hq2
   go_at_call 67
   refine (HW.out.tkY HS.out (x:=str sDOTS) (by decide) hq2).mono ?_
   rintro e w21 ⟨rfl,HL,HLs,hS,hW,hG⟩
   replace HM_l:=HW.out.kR HZ_l hG HM_l
   replace HW:=hW
   replace HS:=hS
   clear hG
   have HA:=ħ (HW.out.ask1 HS.out HF.out (s:=sRP) (⟨_,_,rfl,by decide⟩) (by decide) (q:=w21.heap.size) (by simp))
   go_wp2_with fail
   go_at_call 94
   refine HA.out.mono ?_
   clear HA
   rintro e w22 (⟨HQ3,rfl,HL,hS,hW,hG⟩|⟨hq,rfl,h1⟩)
   rotate_left
   ·exact ⟨rfl,h1,_,HS.out,Or.inr ⟨by rw [tk_tail];exact HJ.out _ (r_rL1 (by decide) HQ2.out (by rw [← tk_tail];exact hq)),rfl⟩⟩
   replace HM_l:=HW.out.kR HZ_l hG HM_l
   replace HW:=hW
   replace HS:=hS
   clear hG
   go_wp2_with fail
   refine bodyPost_ret (v:=.tuple #[v,.int .i64 1]) (by simp [results,Tryz.results122,go_sem]) rfl ?_
   exact ⟨HW.out.grown,_,HS.out,Or.inl ⟨l,true,_,HL.out,by have h1:=HLl.out;have h2:=((List.tail_suffix _).trans (List.tail_suffix r)).length_le;omega,by simp only [tk_tail];exact HJ.out _ (r_rL2 (by decide) HQ2.out (by rw [← tk_tail];exact HQ3.out)),rfl,HM_l.out.move (fun k hk _=>⟨rfl,hk.1⟩),HW.out.ps⟩⟩
  have HQ2:Hid (¬ hd (tk r)=sDOTS):=fun e=>hq2 ((tx_hd (HF.out.suf HS.out) sDOTS (⟨_,_,rfl,by decide⟩)).2 e)
  go_at_call 67
  refine (HW.out.tkN (x:=str sDOTS) (by decide) hq2).mono ?_
  rintro e w23 ⟨rfl,hW,hG⟩
  replace HM_l:=HW.out.kR HZ_l hG HM_l
  replace HW:=hW
  clear hG
  go_wp2_with fail
  go_at_call 123
  refine (HI.out r HS.out HL.out w23 HW.out.ps HW.out.two HW.out.glo HW.out.glt (HF.out.suf HS.out) (Nat.le_trans HS.out.length_le HLn.out)).mono ?_
  rintro e w24 hp
  obtain ⟨r24,n_y,k_y,t_y,v_y,a_y,l_y,c_y,rfl,HR_y,HN_y,HZ_y,HL,HSy,HLs2,hS,hW,hG⟩|⟨r,hR,rfl,h1,h2⟩:=HW.out.okN HS.out hp
  rotate_left
  ·exact ⟨rfl,h1,_,h2,Or.inr ⟨HJ.out _ (r_rL3 HQ2.out hR),rfl⟩⟩
  have HO_l:=hide HM_l.out.lt
  replace HM_l:=HW.out.kR HZ_l hG HM_l
  replace HW:=hW
  replace HS:=hS
  clear hG hp
  replace HW:=HW.out.an HN_y
  replace HN_y:=HW.out.nA HN_y
  replace HM_l:=HW.out.rA HM_l
  go_wp2_with (at_builtin;refine app_l0 _ _ rfl rfl HW.out HM_l.out HN_y.out HZ_l.out HZ_y.out HO_l.out (by have:=HLl.out;have:=HLn.out;omega) ⟨rfl,rfl,rfl,rfl⟩ ?e1 ?e2 ?_;(case e1=>rfl);(case e2=>rfl);skip)
  intro g25 c25 w25 hW hM hG
  clear HM_l HN_y HZ_l HZ_y HO_l
  replace HW:=hide hW
  have HM_l2:=hide hM
  have HZ_l2:=zz w
  clear hW hM hG
  go_wp2_with fail
  by_cases hq3:tx r24=str sCOMMA
  ·have HQ3:Hid (hd (tk r24)=sCOMMA):=(tx_hd (HF.out.suf HS.out) sCOMMA (⟨_,_,rfl,by decide⟩)).1 hq3
   go_at_call 67
   refine (HW.out.tkY HS.out (x:=str sCOMMA) (by decide) hq3).mono ?_
   rintro e w26 ⟨rfl,HL,HLs,hS,hW,hG⟩
   replace HM_l2:=HW.out.kR HZ_l2 hG HM_l2
   replace HW:=hW
   replace HS:=hS
   clear hG
   go_wp2_with fail
   go_roundw
   case rel=>exact ⟨_,_,_,rfl,rfl,HW,HM_l2,HS,HL,(by have h1:=HLl.out;have h2:=HLs2.out;have h3:=HLs.out;show (l++[n_y]).length+_≤_;rw [List.length_append,List.length_singleton];omega),fun q hr=>HJ.out q (r_rL4 HQ2.out HR_y.out HQ3.out (by rw [← tk_tail];exact hr))⟩
   case measure=>rw [HW.out.ps.leftOf,HMu.out];have h2:=HLs2.out;have h3:=HLs.out;omega
  have HQ3:Hid (¬ hd (tk r24)=sCOMMA):=fun e=>hq3 ((tx_hd (HF.out.suf HS.out) sCOMMA (⟨_,_,rfl,by decide⟩)).2 e)
  go_at_call 67
  refine (HW.out.tkN (x:=str sCOMMA) (by decide) hq3).mono ?_
  rintro e w27 ⟨rfl,hW,hG⟩
  replace HM_l2:=HW.out.kR HZ_l2 hG HM_l2
  replace HW:=hW
  clear hG
  have HA:=ħ (HW.out.ask1 HS.out HF.out (s:=sRP) (⟨_,_,rfl,by decide⟩) (by decide) (q:=w27.heap.size) (by simp))
  go_wp2_with fail
  go_at_call 94
  refine HA.out.mono ?_
  clear HA
  rintro e w28 (⟨HQ4,rfl,HL,hS,hW,hG⟩|⟨hq,rfl,h1⟩)
  rotate_left
  ·exact ⟨rfl,h1,_,HS.out,Or.inr ⟨HJ.out _ (r_rL6 HQ2.out HR_y.out HQ3.out hq),rfl⟩⟩
  replace HM_l2:=HW.out.kR HZ_l2 hG HM_l2
  replace HW:=hW
  replace HS:=hS
  clear hG
  go_wp2_with fail
  refine bodyPost_ret (v:=.tuple #[(.slice (some ⟨g25,0,none⟩) (l.length+1) c25),.int .i64 0]) (by simp [results,Tryz.results122,go_sem]) rfl ?_
  exact ⟨HW.out.grown,_,HS.out,Or.inl ⟨(l++[n_y]),false,_,HL.out,by have h1:=HLl.out;have h2:=HLs2.out;have h3:=(List.tail_suffix r24).length_le;rw [List.length_append,List.length_singleton];omega,by rw [tk_tail];exact HJ.out _ (r_rL5 HQ2.out HR_y.out HQ3.out HQ4.out),rfl,HM_l2.out.move (fun k hk _=>⟨rfl,hk.1⟩),HW.out.ps⟩⟩
end Go.Proofs.YthcfianhdkolhaaGreatDoor.Y
