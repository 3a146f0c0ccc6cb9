/- PbGc PbGd PbH -/
import Derived.Test.YthcfianhdkolhaaGreatDoorShelf
import Derived.Test.YthcfianhdkolhaaGreatDoorPbG
import Derived.Test.YthcfianhdkolhaaGreatDoorPbGb
namespace Go.Proofs.YthcfianhdkolhaaGreatDoor.Y
open Go.RowKit Go.Proofs.YthcfianhdkolhaaGreatDoor.X Go.Proofs.YthcfianhdkolhaaGreatDoor.T Go.Proofs.YthcfianhdkolhaaGreatDoor.S
set_option maxRecDepth 100000
set_option maxHeartbeats 2000000
set_option linter.unusedVariables false
set_option linter.unusedSimpArgs false
variable {w w' : World} {b g : Nat} {m : Value} {ts : List Tok} {t : Tok}
theorem first_extra (h:Ps w b g m ts) (hT:Two w b m) (hGl:T.Gl w) (hb5:4<b) (hgl:g<w.heap.size) (hF:Fits ts) (hlen:ts.length≤4000) (hq_i:¬ tx ts=str sINT) (hq_l:¬ tx ts=str sLONG) (hq_sLP:¬ tx ts=str sLP) (hq_sAMP:¬ tx ts=str sAMP) (hq_sCOUNT:¬ tx ts=str sCOUNT) (hq_sEXTRA:tx ts=str sEXTRA) (hE:Later 143 .expr b g m ts):Calls Tryz.prog 176 #[.pointer (some ⟨b,0,none⟩)] w (PostN .first w b g m ts):=by
 have HW:Hid (Wd w w b g m ts []):=Wd.start h hT hGl hb5 hgl
 have HS:Hid (ts <:+ ts):=List.suffix_refl _
 have HF:Hid (Fits ts):=hF
 have HLn:Hid (ts.length≤4000):=hlen
 have HE:=hide hE
 have HSz:Hid ((tx ts).size≤4000):=tx_short hF
 have H2:Hid (twoOf (tx ts)=(0,0,false)):=by show twoOf (tx ts)=_;unfold twoOf;rw [if_neg hq_i,if_neg hq_l]
 have hc_sLP:((tx ts).toList == ([40]:List UInt8))=false:=by rw [cmp_str];exact decide_eq_false hq_sLP
 have hc_sAMP:((tx ts).toList == ([38]:List UInt8))=false:=by rw [cmp_str];exact decide_eq_false hq_sAMP
 have hc_sCOUNT:((tx ts).toList == ([99,111,117,110,116]:List UInt8))=false:=by rw [cmp_str];exact decide_eq_false hq_sCOUNT
 have hc_sEXTRA:((tx ts).toList == ([101,120,116,114,97]:List UInt8))=true:=by rw [cmp_str];exact decide_eq_true hq_sEXTRA
 have HQ_sLP:Hid (¬ hd (tk ts)=sLP):=fun e=>hq_sLP ((tx_hd hF sLP (⟨_,_,rfl,by decide⟩)).2 e)
 have HQ_sAMP:Hid (¬ hd (tk ts)=sAMP):=fun e=>hq_sAMP ((tx_hd hF sAMP (⟨_,_,rfl,by decide⟩)).2 e)
 have HQ_sCOUNT:Hid (¬ hd (tk ts)=sCOUNT):=fun e=>hq_sCOUNT ((tx_hd hF sCOUNT (⟨_,_,rfl,by decide⟩)).2 e)
 have HQ_sEXTRA:Hid (hd (tk ts)=sEXTRA):=(tx_hd hF sEXTRA (⟨_,_,rfl,by decide⟩)).1 hq_sEXTRA
 have HQ_i:Hid (¬ hd (tk ts)=sINT):=fun e=>hq_i ((tx_hd hF sINT (⟨_,_,rfl,by decide⟩)).2 e)
 have HQ_l:Hid (¬ hd (tk ts)=sLONG):=fun e=>hq_l ((tx_hd hF sLONG (⟨_,_,rfl,by decide⟩)).2 e)
 have HQx:=hide hq_sEXTRA
 clear hq_i hq_l hq_sLP hq_sAMP hq_sCOUNT hq_sEXTRA
 clear hE
 clear h hT hGl hgl hF hlen
 go_enter Tryz.func176,Tryz.ntmps176
 replace HW:=hide (HW.out.alloc' w.heap.size (by simp) #[.int .i64 0,.string ⟨#[]⟩,.int .i64 0,.slice none 0 0] 24)
 go_wp2_with fail
 generalize w.alloc _=w1 at *
 replace HW:=hide (HW.out.quiet (grown_drew w1))
 refine wp_region_held_drew (S:=(fun w'=>w'.cell? ⟨b,1,none⟩=some m∧Two w' b m)) (by kernel_rfl) (⟨HW.out.ps.cell1,HW.out.two⟩) (fun hHd=>?_)
 generalize w1.drew=w2 at *
 refine tq 0 ?_
 simp only [qq]
 refine tq 1 ?_
 simp only [qq]
 refine tq 2 ?_
 simp only [qq]
 refine tq 3 ?_ (hy:=by (intro w hSw;obtain ⟨hs1,hs2⟩:=hSw;go_simp)<;>with_reducible rfl)
 simp only [qq]
 refine tq 4 ?_
 simp only [qq]
 refine rq2 5 10 (fun K hK=>?_) fun K hK=>?_
 ·go_simp
  refine (text_any HW.out.ps).mono ?_
  rintro e w3 ⟨rfl,hww⟩
  replace hww:w2=w3:=hww.symm
  subst hww
  refine hK.out _ _ (⟨HW.out.ps.cell1,HW.out.two⟩) (fun hHd=>?_)
  clear hK K
  try simp only [qq]
  refine tq 6 ?_ (hy:=by (intro w hSw;have hlk:=hSw.2.look (tx ts) HSz.out;rw [H2.out] at hlk;clear hSw;go_simp)<;>with_reducible rfl)
  simp only [qq]
  refine tq 7 ?_
  simp only [qq]
  refine tq 8 ?_
  simp only [qq]
  refine tq 9 ?_
  simp only [qq]
  refine rq 10 fun K hK=>?_
  replace HW:=hide (HW.out.alloc' w2.heap.size (by simp) #[.int .i64 0,.int .i64 0] 52)
  go_simp
  refine hK.out _ _ (⟨HW.out.ps.cell1,HW.out.two⟩) (fun hHd=>?_)
  clear hK K
  try simp only [qq]
  generalize w2.alloc _=w4 at *
  refine rq 11 fun K hK=>?_
  have hc5:=HW.out.c0
  have hf6:=HW.out.f0
  replace HW:=hide (HW.out.r00 (.int .i64 0))
  replace HW:=hide (HW.out.r01 (.int .i64 0))
  go_simp
  refine hK.out _ _ (⟨HW.out.ps.cell1,HW.out.two⟩) (fun hHd=>?_)
  clear hK K
  try simp only [qq]
  generalize (w4.setCell _ _).setCell _ _=w7 at *
  clear hc5 hf6
  refine tq 12 ?_
  simp only [qq]
  refine wpAnyH_done (by kernel_rfl) ?_ _
  go_wp2_with fail
  go_at_call 91
  refine (text_any HW.out.ps).mono ?_
  rintro e w8 ⟨rfl,hww⟩
  replace hww:w7=w8:=hww.symm
  subst hww
  replace HW:=hide (HW.out.alloc' w7.heap.size (by simp) #[.string ⟨#[101,120,116,114,97]⟩] 9)
  go_wp2_with fail
  generalize w7.alloc _=w9 at *
  go_at_call 141
  refine (inside1 HW.out (by decide) HQx.out (HF.out.suf HS.out) (Nat.le_trans HS.out.length_le HLn.out) (HE.out.suf HS.out)).mono ?_
  rintro e w10 ⟨hG10,r10,hsu,⟨n_x,vv,hlt,hR,rfl,hN,hP10⟩|⟨hR,rfl⟩⟩
  rotate_left
  ·exact ⟨rfl,grown_trans HW.out.grown hG10,_,(hsu.trans (List.tail_suffix _)).trans HS.out,Or.inr ⟨r_fi_extra0 HQ_sEXTRA.out (by rw [← tk_tail];exact hR),rfl⟩⟩
  obtain ⟨k_x,t_x,v_x,a_x,l_x,c_x,rfl⟩:=hN.form
  have HR_x:=hide hR
  have HN_x:=hide (hN.given HW.out)
  have HZ_x:Hid (w.heap.size≤w9.heap.size):=HW.out.grown.size
  have HL:Hid (r10.length<ts.length):=Nat.lt_of_lt_of_le hlt (Nat.le_trans (List.tail_suffix _).length_le HS.out.length_le)
  replace HW:=hide (HW.out.call hG10 hP10)
  replace HS:=hide ((hsu.trans (List.tail_suffix _)).trans HS.out)
  clear hP10 hG10 hR hN hsu hlt
  replace HW:=hide (HW.out.alloc' w10.heap.size (by simp) #[.int .i64 k_x,.string t_x,.int .i64 v_x,.slice a_x l_x c_x] 24)
  replace HN_x:=hide ((HW.out.ma (by simp)).nd HN_x.out)
  go_wp2_with fail
  generalize w10.alloc _=w11 at *
  go_at_call 140
  refine (node_any 34 (some ⟨w10.heap.size,0,none⟩) 1 1 w11).mono ?_
  rintro e w12 ⟨rfl,hG12⟩
  replace HN_x:=hide ((Mv.quiet hG12).nd HN_x.out)
  replace HW:=hide (HW.out.quiet hG12)
  clear hG12
  have HM_a:=hide (RowN.o0 HW.out (HN_x.out.less HZ_x.out))
  have HZ_a:Hid (w.heap.size≤w.heap.size):=Nat.le_refl _
  clear HN_x HZ_x
  replace HW:=hide HW.out.d0
  have HN_z:=hide (HM_a.out.node 34 [] 0)
  have HZ_z:=HZ_a
  clear HM_a HZ_a
  have hc13:=HW.out.c0
  have hc14:=HW.out.c1
  have hc15:=HW.out.c2
  have hf16:=HW.out.f2
  replace HW:=hide (HW.out.s2 (.int .i64 34) (.string ⟨#[]⟩) (.int .i64 0) ((.slice (some ⟨w10.heap.size,0,none⟩) 1 1)))
  replace HN_z:=hide ((HW.out.ms2).nd HN_z.out)
  have hc17:=HW.out.c2
  have hl18:=HW.out.l2
  go_wp2_with fail
  generalize (((w12.setCell _ _).setCell _ _).setCell _ _).setCell _ _=w19 at *
  refine bodyPost_ret (v:=(.agg #[.int .i64 34,.string ⟨#[]⟩,.int .i64 0,(.slice (some ⟨w10.heap.size,0,none⟩) 1 1)])) (by simp [results,Tryz.results176,go_sem,hc17,hl18]) rfl ?_
  exact HW.out.post HS.out (r_fi_extra HQ_sEXTRA.out (by rw [← tk_tail];exact HR_x.out)) HL.out HZ_z.out HN_z.out
 ·replace HW:=hide (HW.out.alloc' w2.heap.size (by simp) #[.int .i64 0,.int .i64 0] 52)
  go_simp
  refine hK.out _ _ (⟨HW.out.ps.cell1,HW.out.two⟩) (fun hHd=>?_)
  clear hK K
  try simp only [qq]
  generalize w2.alloc _=w20 at *
  refine rq 5 fun K hK=>?_
  go_simp
  refine (text_any HW.out.ps).mono ?_
  rintro e w21 ⟨rfl,hww⟩
  replace hww:w20=w21:=hww.symm
  subst hww
  refine hK.out _ _ (⟨HW.out.ps.cell1,HW.out.two⟩) (fun hHd=>?_)
  clear hK K
  try simp only [qq]
  refine tq 6 ?_ (hy:=by (intro w hSw;have hlk:=hSw.2.look (tx ts) HSz.out;rw [H2.out] at hlk;clear hSw;go_simp)<;>with_reducible rfl)
  simp only [qq]
  refine tq 7 ?_
  simp only [qq]
  refine tq 8 ?_
  simp only [qq]
  refine tq 9 ?_
  simp only [qq]
  refine rq 11 fun K hK=>?_
  have hc22:=HW.out.c0
  have hf23:=HW.out.f0
  replace HW:=hide (HW.out.r00 (.int .i64 0))
  replace HW:=hide (HW.out.r01 (.int .i64 0))
  go_simp
  refine hK.out _ _ (⟨HW.out.ps.cell1,HW.out.two⟩) (fun hHd=>?_)
  clear hK K
  try simp only [qq]
  generalize (w20.setCell _ _).setCell _ _=w24 at *
  clear hc22 hf23
  refine tq 12 ?_
  simp only [qq]
  refine wpAnyH_done (by kernel_rfl) ?_ _
  go_wp2_with fail
  go_at_call 91
  refine (text_any HW.out.ps).mono ?_
  rintro e w25 ⟨rfl,hww⟩
  replace hww:w24=w25:=hww.symm
  subst hww
  replace HW:=hide (HW.out.alloc' w24.heap.size (by simp) #[.string ⟨#[101,120,116,114,97]⟩] 9)
  go_wp2_with fail
  generalize w24.alloc _=w26 at *
  go_at_call 141
  refine (inside1 HW.out (by decide) HQx.out (HF.out.suf HS.out) (Nat.le_trans HS.out.length_le HLn.out) (HE.out.suf HS.out)).mono ?_
  rintro e w27 ⟨hG27,r27,hsu,⟨n_x,vv,hlt,hR,rfl,hN,hP27⟩|⟨hR,rfl⟩⟩
  rotate_left
  ·exact ⟨rfl,grown_trans HW.out.grown hG27,_,(hsu.trans (List.tail_suffix _)).trans HS.out,Or.inr ⟨r_fi_extra0 HQ_sEXTRA.out (by rw [← tk_tail];exact hR),rfl⟩⟩
  obtain ⟨k_x,t_x,v_x,a_x,l_x,c_x,rfl⟩:=hN.form
  have HR_x:=hide hR
  have HN_x:=hide (hN.given HW.out)
  have HZ_x:Hid (w.heap.size≤w26.heap.size):=HW.out.grown.size
  have HL:Hid (r27.length<ts.length):=Nat.lt_of_lt_of_le hlt (Nat.le_trans (List.tail_suffix _).length_le HS.out.length_le)
  replace HW:=hide (HW.out.call hG27 hP27)
  replace HS:=hide ((hsu.trans (List.tail_suffix _)).trans HS.out)
  clear hP27 hG27 hR hN hsu hlt
  replace HW:=hide (HW.out.alloc' w27.heap.size (by simp) #[.int .i64 k_x,.string t_x,.int .i64 v_x,.slice a_x l_x c_x] 24)
  replace HN_x:=hide ((HW.out.ma (by simp)).nd HN_x.out)
  go_wp2_with fail
  generalize w27.alloc _=w28 at *
  go_at_call 140
  refine (node_any 34 (some ⟨w27.heap.size,0,none⟩) 1 1 w28).mono ?_
  rintro e w29 ⟨rfl,hG29⟩
  replace HN_x:=hide ((Mv.quiet hG29).nd HN_x.out)
  replace HW:=hide (HW.out.quiet hG29)
  clear hG29
  have HM_a:=hide (RowN.o0 HW.out (HN_x.out.less HZ_x.out))
  have HZ_a:Hid (w.heap.size≤w.heap.size):=Nat.le_refl _
  clear HN_x HZ_x
  replace HW:=hide HW.out.d0
  have HN_z:=hide (HM_a.out.node 34 [] 0)
  have HZ_z:=HZ_a
  clear HM_a HZ_a
  have hc30:=HW.out.c0
  have hc31:=HW.out.c1
  have hc32:=HW.out.c2
  have hf33:=HW.out.f2
  replace HW:=hide (HW.out.s2 (.int .i64 34) (.string ⟨#[]⟩) (.int .i64 0) ((.slice (some ⟨w27.heap.size,0,none⟩) 1 1)))
  replace HN_z:=hide ((HW.out.ms2).nd HN_z.out)
  have hc34:=HW.out.c2
  have hl35:=HW.out.l2
  go_wp2_with fail
  generalize (((w29.setCell _ _).setCell _ _).setCell _ _).setCell _ _=w36 at *
  refine bodyPost_ret (v:=(.agg #[.int .i64 34,.string ⟨#[]⟩,.int .i64 0,(.slice (some ⟨w27.heap.size,0,none⟩) 1 1)])) (by simp [results,Tryz.results176,go_sem,hc34,hl35]) rfl ?_
  exact HW.out.post HS.out (r_fi_extra HQ_sEXTRA.out (by rw [← tk_tail];exact HR_x.out)) HL.out HZ_z.out HN_z.out
theorem first_num (h:Ps w b g m ts) (hT:Two w b m) (hGl:T.Gl w) (hb5:4<b) (hgl:g<w.heap.size) (hF:Fits ts) (hlen:ts.length≤4000) (hq_i:¬ tx ts=str sINT) (hq_l:¬ tx ts=str sLONG) (hq_sLP:¬ tx ts=str sLP) (hq_sAMP:¬ tx ts=str sAMP) (hq_sCOUNT:¬ tx ts=str sCOUNT) (hq_sEXTRA:¬ tx ts=str sEXTRA) (hn0:nmAt ts 0=false) (hE:Later 143 .expr b g m ts):Calls Tryz.prog 176 #[.pointer (some ⟨b,0,none⟩)] w (PostN .first w b g m ts):=by
 have HW:Hid (Wd w w b g m ts []):=Wd.start h hT hGl hb5 hgl
 have HS:Hid (ts <:+ ts):=List.suffix_refl _
 have HF:Hid (Fits ts):=hF
 have HLn:Hid (ts.length≤4000):=hlen
 have HE:=hide hE
 have HSz:Hid ((tx ts).size≤4000):=tx_short hF
 have H2:Hid (twoOf (tx ts)=(0,0,false)):=by show twoOf (tx ts)=_;unfold twoOf;rw [if_neg hq_i,if_neg hq_l]
 have hc_sLP:((tx ts).toList == ([40]:List UInt8))=false:=by rw [cmp_str];exact decide_eq_false hq_sLP
 have hc_sAMP:((tx ts).toList == ([38]:List UInt8))=false:=by rw [cmp_str];exact decide_eq_false hq_sAMP
 have hc_sCOUNT:((tx ts).toList == ([99,111,117,110,116]:List UInt8))=false:=by rw [cmp_str];exact decide_eq_false hq_sCOUNT
 have hc_sEXTRA:((tx ts).toList == ([101,120,116,114,97]:List UInt8))=false:=by rw [cmp_str];exact decide_eq_false hq_sEXTRA
 have HQ_sLP:Hid (¬ hd (tk ts)=sLP):=fun e=>hq_sLP ((tx_hd hF sLP (⟨_,_,rfl,by decide⟩)).2 e)
 have HQ_sAMP:Hid (¬ hd (tk ts)=sAMP):=fun e=>hq_sAMP ((tx_hd hF sAMP (⟨_,_,rfl,by decide⟩)).2 e)
 have HQ_sCOUNT:Hid (¬ hd (tk ts)=sCOUNT):=fun e=>hq_sCOUNT ((tx_hd hF sCOUNT (⟨_,_,rfl,by decide⟩)).2 e)
 have HQ_sEXTRA:Hid (¬ hd (tk ts)=sEXTRA):=fun e=>hq_sEXTRA ((tx_hd hF sEXTRA (⟨_,_,rfl,by decide⟩)).2 e)
 have HQ_i:Hid (¬ hd (tk ts)=sINT):=fun e=>hq_i ((tx_hd hF sINT (⟨_,_,rfl,by decide⟩)).2 e)
 have HQ_l:Hid (¬ hd (tk ts)=sLONG):=fun e=>hq_l ((tx_hd hF sLONG (⟨_,_,rfl,by decide⟩)).2 e)
 have HNm:=hide hn0
 have HNb:Hid (nameB (hd (tk ts))=false):=(nm_hd hF).symm.trans hn0
 clear hn0
 clear hq_i hq_l hq_sLP hq_sAMP hq_sCOUNT hq_sEXTRA
 clear hE
 clear h hT hGl hgl hF hlen
 go_enter Tryz.func176,Tryz.ntmps176
 replace HW:=hide (HW.out.alloc' w.heap.size (by simp) #[.int .i64 0,.string ⟨#[]⟩,.int .i64 0,.slice none 0 0] 24)
 go_wp2_with fail
 generalize w.alloc _=w1 at *
 replace HW:=hide (HW.out.quiet (grown_drew w1))
 refine wp_region_held_drew (S:=(fun w'=>w'.cell? ⟨b,1,none⟩=some m∧Two w' b m)) (by kernel_rfl) (⟨HW.out.ps.cell1,HW.out.two⟩) (fun hHd=>?_)
 generalize w1.drew=w2 at *
 refine tq 0 ?_
 simp only [qq]
 refine tq 1 ?_
 simp only [qq]
 refine tq 2 ?_
 simp only [qq]
 refine tq 3 ?_ (hy:=by (intro w hSw;obtain ⟨hs1,hs2⟩:=hSw;go_simp)<;>with_reducible rfl)
 simp only [qq]
 refine tq 4 ?_
 simp only [qq]
 refine rq2 5 10 (fun K hK=>?_) fun K hK=>?_
 ·go_simp
  refine (text_any HW.out.ps).mono ?_
  rintro e w3 ⟨rfl,hww⟩
  replace hww:w2=w3:=hww.symm
  subst hww
  refine hK.out _ _ (⟨HW.out.ps.cell1,HW.out.two⟩) (fun hHd=>?_)
  clear hK K
  try simp only [qq]
  refine tq 6 ?_ (hy:=by (intro w hSw;have hlk:=hSw.2.look (tx ts) HSz.out;rw [H2.out] at hlk;clear hSw;go_simp)<;>with_reducible rfl)
  simp only [qq]
  refine tq 7 ?_
  simp only [qq]
  refine tq 8 ?_
  simp only [qq]
  refine tq 9 ?_
  simp only [qq]
  refine rq 10 fun K hK=>?_
  replace HW:=hide (HW.out.alloc' w2.heap.size (by simp) #[.int .i64 0,.int .i64 0] 52)
  go_simp
  refine hK.out _ _ (⟨HW.out.ps.cell1,HW.out.two⟩) (fun hHd=>?_)
  clear hK K
  try simp only [qq]
  generalize w2.alloc _=w4 at *
  refine rq 11 fun K hK=>?_
  have hc5:=HW.out.c0
  have hf6:=HW.out.f0
  replace HW:=hide (HW.out.r00 (.int .i64 0))
  replace HW:=hide (HW.out.r01 (.int .i64 0))
  go_simp
  refine hK.out _ _ (⟨HW.out.ps.cell1,HW.out.two⟩) (fun hHd=>?_)
  clear hK K
  try simp only [qq]
  generalize (w4.setCell _ _).setCell _ _=w7 at *
  clear hc5 hf6
  refine tq 12 ?_
  simp only [qq]
  refine wpAnyH_done (by kernel_rfl) ?_ _
  go_wp2_with fail
  go_at_call 91
  refine (text_any HW.out.ps).mono ?_
  rintro e w8 ⟨rfl,hww⟩
  replace hww:w7=w8:=hww.symm
  subst hww
  go_wp2_with fail
  go_at_call 119
  refine (isName_any HW.out.ps (HF.out.suf HS.out).short 0 (by omega)).mono ?_
  rw [HNm.out]
  rintro e w9 ⟨rfl,hww⟩
  replace hww:w7=w9:=hww.symm
  subst hww
  go_wp2_with fail
  go_at_call 124
  refine (number_any HW.out.ps (HF.out.suf HS.out)).mono ?_
  rintro e w10 ⟨hG10,⟨kk,x,hnum,rfl,hP10⟩|⟨hnum,rfl⟩⟩
  rotate_left
  ·exact ⟨rfl,grown_trans HW.out.grown hG10,_,HS.out,Or.inr ⟨r_fi_num HQ_sLP.out HQ_sAMP.out HQ_sCOUNT.out HQ_i.out HQ_l.out HQ_sEXTRA.out HNb.out hnum,rfl⟩⟩
  have HNum:=hide hnum
  have HL:Hid (ts.tail.length<ts.length):=number_lt hnum
  replace HW:=hide (HW.out.call hG10 hP10)
  replace HS:=hide ((List.tail_suffix _).trans HS.out)
  clear hP10 hG10 hnum
  have HN_z:Hid (NdV w10 (Av w.heap.size [(w2.heap.size,#[.int .i64 0,.int .i64 0],52),(w.heap.size,#[.int .i64 0,.string ⟨#[]⟩,.int .i64 0,.slice none 0 0],24)]) (.mk kk [] x []) (.agg #[.int .i64 kk,.string (str []),.int .i64 x,.slice none 0 0])):=NdV.bare kk [] x none 0
  have HZ_z:Hid (w.heap.size≤w.heap.size):=Nat.le_refl _
  have hc11:=HW.out.c0
  have hc12:=HW.out.c1
  have hf13:=HW.out.f1
  replace HW:=hide (HW.out.s1 (.int .i64 kk) (.string ⟨#[]⟩) (.int .i64 x) (.slice none 0 0))
  replace HN_z:=hide ((HW.out.ms1).nd HN_z.out)
  have hc14:=HW.out.c1
  have hl15:=HW.out.l1
  go_wp2_with fail
  generalize (((w10.setCell _ _).setCell _ _).setCell _ _).setCell _ _=w16 at *
  refine bodyPost_ret (v:=(.agg #[.int .i64 kk,.string ⟨#[]⟩,.int .i64 x,.slice none 0 0])) (by simp [results,Tryz.results176,go_sem,hc14,hl15]) rfl ?_
  exact HW.out.post HS.out (r_fi_num HQ_sLP.out HQ_sAMP.out HQ_sCOUNT.out HQ_i.out HQ_l.out HQ_sEXTRA.out HNb.out HNum.out) HL.out HZ_z.out HN_z.out
 ·replace HW:=hide (HW.out.alloc' w2.heap.size (by simp) #[.int .i64 0,.int .i64 0] 52)
  go_simp
  refine hK.out _ _ (⟨HW.out.ps.cell1,HW.out.two⟩) (fun hHd=>?_)
  clear hK K
  try simp only [qq]
  generalize w2.alloc _=w17 at *
  refine rq 5 fun K hK=>?_
  go_simp
  refine (text_any HW.out.ps).mono ?_
  rintro e w18 ⟨rfl,hww⟩
  replace hww:w17=w18:=hww.symm
  subst hww
  refine hK.out _ _ (⟨HW.out.ps.cell1,HW.out.two⟩) (fun hHd=>?_)
  clear hK K
  try simp only [qq]
  refine tq 6 ?_ (hy:=by (intro w hSw;have hlk:=hSw.2.look (tx ts) HSz.out;rw [H2.out] at hlk;clear hSw;go_simp)<;>with_reducible rfl)
  simp only [qq]
  refine tq 7 ?_
  simp only [qq]
  refine tq 8 ?_
  simp only [qq]
  refine tq 9 ?_
  simp only [qq]
  refine rq 11 fun K hK=>?_
  have hc19:=HW.out.c0
  have hf20:=HW.out.f0
  replace HW:=hide (HW.out.r00 (.int .i64 0))
  replace HW:=hide (HW.out.r01 (.int .i64 0))
  go_simp
  refine hK.out _ _ (⟨HW.out.ps.cell1,HW.out.two⟩) (fun hHd=>?_)
  clear hK K
  try simp only [qq]
  generalize (w17.setCell _ _).setCell _ _=w21 at *
  clear hc19 hf20
  refine tq 12 ?_
  simp only [qq]
  refine wpAnyH_done (by kernel_rfl) ?_ _
  go_wp2_with fail
  go_at_call 91
  refine (text_any HW.out.ps).mono ?_
  rintro e w22 ⟨rfl,hww⟩
  replace hww:w21=w22:=hww.symm
  subst hww
  go_wp2_with fail
  go_at_call 119
  refine (isName_any HW.out.ps (HF.out.suf HS.out).short 0 (by omega)).mono ?_
  rw [HNm.out]
  rintro e w23 ⟨rfl,hww⟩
  replace hww:w21=w23:=hww.symm
  subst hww
  go_wp2_with fail
  go_at_call 124
  refine (number_any HW.out.ps (HF.out.suf HS.out)).mono ?_
  rintro e w24 ⟨hG24,⟨kk,x,hnum,rfl,hP24⟩|⟨hnum,rfl⟩⟩
  rotate_left
  ·exact ⟨rfl,grown_trans HW.out.grown hG24,_,HS.out,Or.inr ⟨r_fi_num HQ_sLP.out HQ_sAMP.out HQ_sCOUNT.out HQ_i.out HQ_l.out HQ_sEXTRA.out HNb.out hnum,rfl⟩⟩
  have HNum:=hide hnum
  have HL:Hid (ts.tail.length<ts.length):=number_lt hnum
  replace HW:=hide (HW.out.call hG24 hP24)
  replace HS:=hide ((List.tail_suffix _).trans HS.out)
  clear hP24 hG24 hnum
  have HN_z:Hid (NdV w24 (Av w.heap.size [(w2.heap.size,#[.int .i64 0,.int .i64 0],52),(w.heap.size,#[.int .i64 0,.string ⟨#[]⟩,.int .i64 0,.slice none 0 0],24)]) (.mk kk [] x []) (.agg #[.int .i64 kk,.string (str []),.int .i64 x,.slice none 0 0])):=NdV.bare kk [] x none 0
  have HZ_z:Hid (w.heap.size≤w.heap.size):=Nat.le_refl _
  have hc25:=HW.out.c0
  have hc26:=HW.out.c1
  have hf27:=HW.out.f1
  replace HW:=hide (HW.out.s1 (.int .i64 kk) (.string ⟨#[]⟩) (.int .i64 x) (.slice none 0 0))
  replace HN_z:=hide ((HW.out.ms1).nd HN_z.out)
  have hc28:=HW.out.c1
  have hl29:=HW.out.l1
  go_wp2_with fail
  generalize (((w24.setCell _ _).setCell _ _).setCell _ _).setCell _ _=w30 at *
  refine bodyPost_ret (v:=(.agg #[.int .i64 kk,.string ⟨#[]⟩,.int .i64 x,.slice none 0 0])) (by simp [results,Tryz.results176,go_sem,hc28,hl29]) rfl ?_
  exact HW.out.post HS.out (r_fi_num HQ_sLP.out HQ_sAMP.out HQ_sCOUNT.out HQ_i.out HQ_l.out HQ_sEXTRA.out HNb.out HNum.out) HL.out HZ_z.out HN_z.out
end Go.Proofs.YthcfianhdkolhaaGreatDoor.Y
namespace Go.Proofs.YthcfianhdkolhaaGreatDoor.Y
open Go.RowKit Go.Proofs.YthcfianhdkolhaaGreatDoor.X Go.Proofs.YthcfianhdkolhaaGreatDoor.T Go.Proofs.YthcfianhdkolhaaGreatDoor.S
set_option maxRecDepth 100000
set_option maxHeartbeats 2000000
set_option linter.unusedVariables false
set_option linter.unusedSimpArgs false
variable {w w' : World} {b g : Nat} {m : Value} {ts : List Tok} {t : Tok}
theorem first_name (h:Ps w b g m ts) (hT:Two w b m) (hGl:T.Gl w) (hb5:4<b) (hgl:g<w.heap.size) (hF:Fits ts) (hlen:ts.length≤4000) (hq_i:¬ tx ts=str sINT) (hq_l:¬ tx ts=str sLONG) (hq_sLP:¬ tx ts=str sLP) (hq_sAMP:¬ tx ts=str sAMP) (hq_sCOUNT:¬ tx ts=str sCOUNT) (hq_sEXTRA:¬ tx ts=str sEXTRA) (hn0:nmAt ts 0=true) (hE:Later 143 .expr b g m ts):Calls Tryz.prog 176 #[.pointer (some ⟨b,0,none⟩)] w (PostN .first w b g m ts):=by
 have HW:Hid (Wd w w b g m ts []):=Wd.start h hT hGl hb5 hgl
 have HS:Hid (ts <:+ ts):=List.suffix_refl _
 have HF:Hid (Fits ts):=hF
 have HLn:Hid (ts.length≤4000):=hlen
 have HE:=hide hE
 have HSz:Hid ((tx ts).size≤4000):=tx_short hF
 have H2:Hid (twoOf (tx ts)=(0,0,false)):=by show twoOf (tx ts)=_;unfold twoOf;rw [if_neg hq_i,if_neg hq_l]
 have hc_sLP:((tx ts).toList == ([40]:List UInt8))=false:=by rw [cmp_str];exact decide_eq_false hq_sLP
 have hc_sAMP:((tx ts).toList == ([38]:List UInt8))=false:=by rw [cmp_str];exact decide_eq_false hq_sAMP
 have hc_sCOUNT:((tx ts).toList == ([99,111,117,110,116]:List UInt8))=false:=by rw [cmp_str];exact decide_eq_false hq_sCOUNT
 have hc_sEXTRA:((tx ts).toList == ([101,120,116,114,97]:List UInt8))=false:=by rw [cmp_str];exact decide_eq_false hq_sEXTRA
 have HQ_sLP:Hid (¬ hd (tk ts)=sLP):=fun e=>hq_sLP ((tx_hd hF sLP (⟨_,_,rfl,by decide⟩)).2 e)
 have HQ_sAMP:Hid (¬ hd (tk ts)=sAMP):=fun e=>hq_sAMP ((tx_hd hF sAMP (⟨_,_,rfl,by decide⟩)).2 e)
 have HQ_sCOUNT:Hid (¬ hd (tk ts)=sCOUNT):=fun e=>hq_sCOUNT ((tx_hd hF sCOUNT (⟨_,_,rfl,by decide⟩)).2 e)
 have HQ_sEXTRA:Hid (¬ hd (tk ts)=sEXTRA):=fun e=>hq_sEXTRA ((tx_hd hF sEXTRA (⟨_,_,rfl,by decide⟩)).2 e)
 have HQ_i:Hid (¬ hd (tk ts)=sINT):=fun e=>hq_i ((tx_hd hF sINT (⟨_,_,rfl,by decide⟩)).2 e)
 have HQ_l:Hid (¬ hd (tk ts)=sLONG):=fun e=>hq_l ((tx_hd hF sLONG (⟨_,_,rfl,by decide⟩)).2 e)
 have HNm:=hide hn0
 have HQs0:Hid (nameB (hd (tk ts))=true):=(nm_hd hF).symm.trans hn0
 clear hn0
 clear hq_i hq_l hq_sLP hq_sAMP hq_sCOUNT hq_sEXTRA
 clear hE
 clear h hT hGl hgl hF hlen
 go_enter Tryz.func176,Tryz.ntmps176
 replace HW:=hide (HW.out.alloc' w.heap.size (by simp) #[.int .i64 0,.string ⟨#[]⟩,.int .i64 0,.slice none 0 0] 24)
 go_wp2_with fail
 generalize w.alloc _=w1 at *
 replace HW:=hide (HW.out.quiet (grown_drew w1))
 refine wp_region_held_drew (S:=(fun w'=>w'.cell? ⟨b,1,none⟩=some m∧Two w' b m)) (by kernel_rfl) (⟨HW.out.ps.cell1,HW.out.two⟩) (fun hHd=>?_)
 generalize w1.drew=w2 at *
 refine tq 0 ?_
 simp only [qq]
 refine tq 1 ?_
 simp only [qq]
 refine tq 2 ?_
 simp only [qq]
 refine tq 3 ?_ (hy:=by (intro w hSw;obtain ⟨hs1,hs2⟩:=hSw;go_simp)<;>with_reducible rfl)
 simp only [qq]
 refine tq 4 ?_
 simp only [qq]
 refine rq2 5 10 (fun K hK=>?_) fun K hK=>?_
 ·go_simp
  refine (text_any HW.out.ps).mono ?_
  rintro e w3 ⟨rfl,hww⟩
  replace hww:w2=w3:=hww.symm
  subst hww
  refine hK.out _ _ (⟨HW.out.ps.cell1,HW.out.two⟩) (fun hHd=>?_)
  clear hK K
  try simp only [qq]
  refine tq 6 ?_ (hy:=by (intro w hSw;have hlk:=hSw.2.look (tx ts) HSz.out;rw [H2.out] at hlk;clear hSw;go_simp)<;>with_reducible rfl)
  simp only [qq]
  refine tq 7 ?_
  simp only [qq]
  refine tq 8 ?_
  simp only [qq]
  refine tq 9 ?_
  simp only [qq]
  refine rq 10 fun K hK=>?_
  replace HW:=hide (HW.out.alloc' w2.heap.size (by simp) #[.int .i64 0,.int .i64 0] 52)
  go_simp
  refine hK.out _ _ (⟨HW.out.ps.cell1,HW.out.two⟩) (fun hHd=>?_)
  clear hK K
  try simp only [qq]
  generalize w2.alloc _=w4 at *
  refine rq 11 fun K hK=>?_
  have hc5:=HW.out.c0
  have hf6:=HW.out.f0
  replace HW:=hide (HW.out.r00 (.int .i64 0))
  replace HW:=hide (HW.out.r01 (.int .i64 0))
  go_simp
  refine hK.out _ _ (⟨HW.out.ps.cell1,HW.out.two⟩) (fun hHd=>?_)
  clear hK K
  try simp only [qq]
  generalize (w4.setCell _ _).setCell _ _=w7 at *
  clear hc5 hf6
  refine tq 12 ?_
  simp only [qq]
  refine wpAnyH_done (by kernel_rfl) ?_ _
  go_wp2_with fail
  go_at_call 91
  refine (text_any HW.out.ps).mono ?_
  rintro e w8 ⟨rfl,hww⟩
  replace hww:w7=w8:=hww.symm
  subst hww
  go_wp2_with fail
  go_at_call 119
  refine (isName_any HW.out.ps (HF.out.suf HS.out).short 0 (by omega)).mono ?_
  rw [HNm.out]
  rintro e w9 ⟨rfl,hww⟩
  replace hww:w7=w9:=hww.symm
  subst hww
  go_wp2_with fail
  go_at_call 93
  refine (HW.out.nm HS.out HF.out).mono ?_
  rintro e w10 (⟨HQ_s,rfl,HL,hS,hW,hG⟩|⟨hn,rfl,h1⟩)
  rotate_left
  ·exact ⟨rfl,h1,_,HS.out,Or.inr ⟨absurd hn (by rw [HQs0.out];decide),rfl⟩⟩
  replace HW:=hW
  replace HS:=hS
  clear hG
  replace HW:=hide (HW.out.alloc' w10.heap.size (by simp) #[.int .i64 23,.string (str (hd (tk ts))),.int .i64 0,.slice none 0 0] 24)
  go_wp2_with fail
  generalize w10.alloc _=w11 at *
  by_cases hq:tx ts.tail=str sLB
  ·have HQb:Hid (hd (tk ts.tail)=sLB):=(tx_hd (HF.out.suf HS.out) sLB (⟨_,_,rfl,by decide⟩)).1 hq
   go_at_call 67
   refine (HW.out.tkY HS.out (x:=str sLB) (by decide) hq).mono ?_
   rintro e w12 ⟨rfl,HL,HLs,hS,hW,hG⟩
   replace HW:=hW
   replace HS:=hS
   clear hG
   have hc13:=HW.out.c0
   have hf14:=HW.out.f0
   replace HW:=hide (HW.out.p00 (.int .i64 27))
   go_wp2_with fail
   generalize w12.setCell _ _=w15 at *
   clear hc13 hf14
   go_at_call 165
   refine (parts_any HW.out.ps HW.out.two HW.out.glo HW.out.bg HW.out.glt (HF.out.suf HS.out) (Nat.le_trans HS.out.length_le HLn.out) sRB (⟨_,_,rfl,by decide⟩) (by decide) (JMk (tk ts)) (KMk (tk ts)) (by rw [tk_tail,tk_tail];exact loop_mk HQ_sLP.out HQ_sAMP.out HQ_sCOUNT.out HQ_i.out HQ_l.out HQ_sEXTRA.out HQ_s.out (by rw [← tk_tail];exact HQb.out)) (HE.out _ HS.out HL.out) (HE.out.suf HS.out)).mono ?_
   rintro e w16 ⟨hG16,r16,hsu,⟨l2,v2,hlt,hll,hK2,rfl,hM2,hnil,hP16⟩|⟨hK2,rfl⟩⟩
   rotate_left
   ·exact ⟨rfl,grown_trans HW.out.grown hG16,_,hsu.trans HS.out,Or.inr ⟨hK2,rfl⟩⟩
   have HK2:=hide hK2
   have HM_p:=hide (hM2.given HW.out)
   have HZ_p:Hid (w.heap.size≤w15.heap.size):=HW.out.grown.size
   have HL:Hid (r16.length<ts.length):=Nat.lt_of_lt_of_le hlt HS.out.length_le
   replace HW:=hide (HW.out.call hG16 hP16)
   replace HS:=hide ((hsu).trans HS.out)
   clear hP16 hG16 hsu hlt hll hK2 hM2 hnil
   have HV2:Hid (∃ a n c,v2=.slice a n c):=by
    rcases HM_p.out.shape with ⟨e,_⟩|⟨q,cp,e,_⟩
    ·exact ⟨_,_,_,e⟩
    ·exact ⟨_,_,_,e⟩
   obtain ⟨a2,n2,c2,hv2⟩:=HV2.out
   subst hv2
   have hc17:=HW.out.c0
   have hc18:=HW.out.c1
   have hc19:=HW.out.c2
   have hf20:=HW.out.f0
   have hf21:=HW.out.f2
   replace HW:=hide (HW.out.p03 (.slice a2 n2 c2))
   replace HM_p:=hide ((HW.out.mp03).row HM_p.out)
   have HN_z:=hide (HM_p.out.node 27 (hd (tk ts)) 0)
   have HZ_z:=HZ_p
   clear HM_p HZ_p
   have hc22:=HW.out.c0
   have hc23:=HW.out.c1
   have hc24:=HW.out.c2
   have hf25:=HW.out.f2
   replace HW:=hide (HW.out.s2 (.int .i64 27) (.string (str (hd (tk ts)))) (.int .i64 0) ((.slice a2 n2 c2)))
   replace HN_z:=hide ((HW.out.ms2).nd HN_z.out)
   have hc26:=HW.out.c2
   have hl27:=HW.out.l2
   go_wp2_with fail
   generalize ((((w16.setCell _ _).setCell _ _).setCell _ _).setCell _ _).setCell _ _=w28 at *
   refine bodyPost_ret (v:=(.agg #[.int .i64 27,.string (str (hd (tk ts))),.int .i64 0,(.slice a2 n2 c2)])) (by simp [results,Tryz.results176,go_sem,hc26,hl27]) rfl ?_
   exact HW.out.post HS.out HK2.out HL.out HZ_z.out HN_z.out
  ·have HQb:Hid (¬ hd (tk ts.tail)=sLB):=fun e=>hq ((tx_hd (HF.out.suf HS.out) sLB (⟨_,_,rfl,by decide⟩)).2 e)
   go_at_call 67
   refine (HW.out.tkN (x:=str sLB) (by decide) hq).mono ?_
   rintro e w29 ⟨rfl,hW,hG⟩
   replace HW:=hW
   clear hG
   have HN_z:Hid (NdV w29 (Av w.heap.size [(w10.heap.size,#[.int .i64 23,.string (str (hd (tk ts))),.int .i64 0,.slice none 0 0],24),(w2.heap.size,#[.int .i64 0,.int .i64 0],52),(w.heap.size,#[.int .i64 0,.string ⟨#[]⟩,.int .i64 0,.slice none 0 0],24)]) (.mk 23 (hd (tk ts)) 0 []) (.agg #[.int .i64 23,.string (str (hd (tk ts))),.int .i64 0,.slice none 0 0])):=NdV.bare 23 (hd (tk ts)) 0 none 0
   have HZ_z:Hid (w.heap.size≤w.heap.size):=Nat.le_refl _
   have hc30:=HW.out.c0
   have hc31:=HW.out.c1
   have hc32:=HW.out.c2
   have hf33:=HW.out.f2
   replace HW:=hide (HW.out.s2 (.int .i64 23) (.string (str (hd (tk ts)))) (.int .i64 0) (.slice none 0 0))
   replace HN_z:=hide ((HW.out.ms2).nd HN_z.out)
   have hc34:=HW.out.c2
   have hl35:=HW.out.l2
   go_wp2_with fail
   generalize (((w29.setCell _ _).setCell _ _).setCell _ _).setCell _ _=w36 at *
   refine bodyPost_ret (v:=(.agg #[.int .i64 23,.string (str (hd (tk ts))),.int .i64 0,.slice none 0 0])) (by simp [results,Tryz.results176,go_sem,hc34,hl35]) rfl ?_
   exact HW.out.post HS.out (by rw [tk_tail];exact r_fi_name HQ_sLP.out HQ_sAMP.out HQ_sCOUNT.out HQ_i.out HQ_l.out HQ_sEXTRA.out HQ_s.out (by rw [← tk_tail];exact HQb.out)) HL.out HZ_z.out HN_z.out
 ·replace HW:=hide (HW.out.alloc' w2.heap.size (by simp) #[.int .i64 0,.int .i64 0] 52)
  go_simp
  refine hK.out _ _ (⟨HW.out.ps.cell1,HW.out.two⟩) (fun hHd=>?_)
  clear hK K
  try simp only [qq]
  generalize w2.alloc _=w37 at *
  refine rq 5 fun K hK=>?_
  go_simp
  refine (text_any HW.out.ps).mono ?_
  rintro e w38 ⟨rfl,hww⟩
  replace hww:w37=w38:=hww.symm
  subst hww
  refine hK.out _ _ (⟨HW.out.ps.cell1,HW.out.two⟩) (fun hHd=>?_)
  clear hK K
  try simp only [qq]
  refine tq 6 ?_ (hy:=by (intro w hSw;have hlk:=hSw.2.look (tx ts) HSz.out;rw [H2.out] at hlk;clear hSw;go_simp)<;>with_reducible rfl)
  simp only [qq]
  refine tq 7 ?_
  simp only [qq]
  refine tq 8 ?_
  simp only [qq]
  refine tq 9 ?_
  simp only [qq]
  refine rq 11 fun K hK=>?_
  have hc39:=HW.out.c0
  have hf40:=HW.out.f0
  replace HW:=hide (HW.out.r00 (.int .i64 0))
  replace HW:=hide (HW.out.r01 (.int .i64 0))
  go_simp
  refine hK.out _ _ (⟨HW.out.ps.cell1,HW.out.two⟩) (fun hHd=>?_)
  clear hK K
  try simp only [qq]
  generalize (w37.setCell _ _).setCell _ _=w41 at *
  clear hc39 hf40
  refine tq 12 ?_
  simp only [qq]
  refine wpAnyH_done (by kernel_rfl) ?_ _
  go_wp2_with fail
  go_at_call 91
  refine (text_any HW.out.ps).mono ?_
  rintro e w42 ⟨rfl,hww⟩
  replace hww:w41=w42:=hww.symm
  subst hww
  go_wp2_with fail
  go_at_call 119
  refine (isName_any HW.out.ps (HF.out.suf HS.out).short 0 (by omega)).mono ?_
  rw [HNm.out]
  rintro e w43 ⟨rfl,hww⟩
  replace hww:w41=w43:=hww.symm
  subst hww
  go_wp2_with fail
  go_at_call 93
  refine (HW.out.nm HS.out HF.out).mono ?_
  rintro e w44 (⟨HQ_s,rfl,HL,hS,hW,hG⟩|⟨hn,rfl,h1⟩)
  rotate_left
  ·exact ⟨rfl,h1,_,HS.out,Or.inr ⟨absurd hn (by rw [HQs0.out];decide),rfl⟩⟩
  replace HW:=hW
  replace HS:=hS
  clear hG
  replace HW:=hide (HW.out.alloc' w44.heap.size (by simp) #[.int .i64 23,.string (str (hd (tk ts))),.int .i64 0,.slice none 0 0] 24)
  go_wp2_with fail
  generalize w44.alloc _=w45 at *
  by_cases hq:tx ts.tail=str sLB
  ·have HQb:Hid (hd (tk ts.tail)=sLB):=(tx_hd (HF.out.suf HS.out) sLB (⟨_,_,rfl,by decide⟩)).1 hq
   go_at_call 67
   refine (HW.out.tkY HS.out (x:=str sLB) (by decide) hq).mono ?_
   rintro e w46 ⟨rfl,HL,HLs,hS,hW,hG⟩
   replace HW:=hW
   replace HS:=hS
   clear hG
   have hc47:=HW.out.c0
   have hf48:=HW.out.f0
   replace HW:=hide (HW.out.p00 (.int .i64 27))
   go_wp2_with fail
   generalize w46.setCell _ _=w49 at *
   clear hc47 hf48
   go_at_call 165
   refine (parts_any HW.out.ps HW.out.two HW.out.glo HW.out.bg HW.out.glt (HF.out.suf HS.out) (Nat.le_trans HS.out.length_le HLn.out) sRB (⟨_,_,rfl,by decide⟩) (by decide) (JMk (tk ts)) (KMk (tk ts)) (by rw [tk_tail,tk_tail];exact loop_mk HQ_sLP.out HQ_sAMP.out HQ_sCOUNT.out HQ_i.out HQ_l.out HQ_sEXTRA.out HQ_s.out (by rw [← tk_tail];exact HQb.out)) (HE.out _ HS.out HL.out) (HE.out.suf HS.out)).mono ?_
   rintro e w50 ⟨hG50,r50,hsu,⟨l2,v2,hlt,hll,hK2,rfl,hM2,hnil,hP50⟩|⟨hK2,rfl⟩⟩
   rotate_left
   ·exact ⟨rfl,grown_trans HW.out.grown hG50,_,hsu.trans HS.out,Or.inr ⟨hK2,rfl⟩⟩
   have HK2:=hide hK2
   have HM_p:=hide (hM2.given HW.out)
   have HZ_p:Hid (w.heap.size≤w49.heap.size):=HW.out.grown.size
   have HL:Hid (r50.length<ts.length):=Nat.lt_of_lt_of_le hlt HS.out.length_le
   replace HW:=hide (HW.out.call hG50 hP50)
   replace HS:=hide ((hsu).trans HS.out)
   clear hP50 hG50 hsu hlt hll hK2 hM2 hnil
   have HV2:Hid (∃ a n c,v2=.slice a n c):=by
    rcases HM_p.out.shape with ⟨e,_⟩|⟨q,cp,e,_⟩
    ·exact ⟨_,_,_,e⟩
    ·exact ⟨_,_,_,e⟩
   obtain ⟨a2,n2,c2,hv2⟩:=HV2.out
   subst hv2
   have hc51:=HW.out.c0
   have hc52:=HW.out.c1
   have hc53:=HW.out.c2
   have hf54:=HW.out.f0
   have hf55:=HW.out.f2
   replace HW:=hide (HW.out.p03 (.slice a2 n2 c2))
   replace HM_p:=hide ((HW.out.mp03).row HM_p.out)
   have HN_z:=hide (HM_p.out.node 27 (hd (tk ts)) 0)
   have HZ_z:=HZ_p
   clear HM_p HZ_p
   have hc56:=HW.out.c0
   have hc57:=HW.out.c1
   have hc58:=HW.out.c2
   have hf59:=HW.out.f2
   replace HW:=hide (HW.out.s2 (.int .i64 27) (.string (str (hd (tk ts)))) (.int .i64 0) ((.slice a2 n2 c2)))
   replace HN_z:=hide ((HW.out.ms2).nd HN_z.out)
   have hc60:=HW.out.c2
   have hl61:=HW.out.l2
   go_wp2_with fail
   generalize ((((w50.setCell _ _).setCell _ _).setCell _ _).setCell _ _).setCell _ _=w62 at *
   refine bodyPost_ret (v:=(.agg #[.int .i64 27,.string (str (hd (tk ts))),.int .i64 0,(.slice a2 n2 c2)])) (by simp [results,Tryz.results176,go_sem,hc60,hl61]) rfl ?_
   exact HW.out.post HS.out HK2.out HL.out HZ_z.out HN_z.out
  ·have HQb:Hid (¬ hd (tk ts.tail)=sLB):=fun e=>hq ((tx_hd (HF.out.suf HS.out) sLB (⟨_,_,rfl,by decide⟩)).2 e)
   go_at_call 67
   refine (HW.out.tkN (x:=str sLB) (by decide) hq).mono ?_
   rintro e w63 ⟨rfl,hW,hG⟩
   replace HW:=hW
   clear hG
   have HN_z:Hid (NdV w63 (Av w.heap.size [(w44.heap.size,#[.int .i64 23,.string (str (hd (tk ts))),.int .i64 0,.slice none 0 0],24),(w2.heap.size,#[.int .i64 0,.int .i64 0],52),(w.heap.size,#[.int .i64 0,.string ⟨#[]⟩,.int .i64 0,.slice none 0 0],24)]) (.mk 23 (hd (tk ts)) 0 []) (.agg #[.int .i64 23,.string (str (hd (tk ts))),.int .i64 0,.slice none 0 0])):=NdV.bare 23 (hd (tk ts)) 0 none 0
   have HZ_z:Hid (w.heap.size≤w.heap.size):=Nat.le_refl _
   have hc64:=HW.out.c0
   have hc65:=HW.out.c1
   have hc66:=HW.out.c2
   have hf67:=HW.out.f2
   replace HW:=hide (HW.out.s2 (.int .i64 23) (.string (str (hd (tk ts)))) (.int .i64 0) (.slice none 0 0))
   replace HN_z:=hide ((HW.out.ms2).nd HN_z.out)
   have hc68:=HW.out.c2
   have hl69:=HW.out.l2
   go_wp2_with fail
   generalize (((w63.setCell _ _).setCell _ _).setCell _ _).setCell _ _=w70 at *
   refine bodyPost_ret (v:=(.agg #[.int .i64 23,.string (str (hd (tk ts))),.int .i64 0,.slice none 0 0])) (by simp [results,Tryz.results176,go_sem,hc68,hl69]) rfl ?_
   exact HW.out.post HS.out (by rw [tk_tail];exact r_fi_name HQ_sLP.out HQ_sAMP.out HQ_sCOUNT.out HQ_i.out HQ_l.out HQ_sEXTRA.out HQ_s.out (by rw [← tk_tail];exact HQb.out)) HL.out HZ_z.out HN_z.out
end Go.Proofs.YthcfianhdkolhaaGreatDoor.Y
namespace Go.Proofs.YthcfianhdkolhaaGreatDoor.Y
open Go.RowKit Go.Proofs.YthcfianhdkolhaaGreatDoor.X Go.Proofs.YthcfianhdkolhaaGreatDoor.T Go.Proofs.YthcfianhdkolhaaGreatDoor.S
set_option linter.unusedVariables false
set_option linter.unusedSimpArgs false
variable {w w' : World} {b g : Nat} {m : Value} {ts : List Tok} {t : Tok}
theorem first_any (hb5:4<b) (hE:Later 143 .expr b g m ts):Meth 176 .first b g m ts:=by
 intro w h hT hGl hgl hF hlen
 by_cases q1:tx ts=str sINT
 ·exact first_int h hT hGl hb5 hgl hF hlen q1 hE
 by_cases q2:tx ts=str sLONG
 ·exact first_long h hT hGl hb5 hgl hF hlen q2 hE
 by_cases q3:tx ts=str sLP
 ·exact first_lp h hT hGl hb5 hgl hF hlen q1 q2 q3 hE
 by_cases q4:tx ts=str sAMP
 ·exact first_amp h hT hGl hb5 hgl hF hlen q1 q2 q3 q4 hE
 by_cases q5:tx ts=str sCOUNT
 ·exact first_count h hT hGl hb5 hgl hF hlen q1 q2 q3 q4 q5 hE
 by_cases q6:tx ts=str sEXTRA
 ·exact first_extra h hT hGl hb5 hgl hF hlen q1 q2 q3 q4 q5 q6 hE
 cases hn:nmAt ts 0 with
 | false=>exact first_num h hT hGl hb5 hgl hF hlen q1 q2 q3 q4 q5 q6 hn hE
 | true=>exact first_name h hT hGl hb5 hgl hF hlen q1 q2 q3 q4 q5 q6 hn hE
theorem PostN.turn {q q':G} {e:Ending} (hq:∀ r,R q (tk ts) r→R q' (tk ts) r) (h:PostN q w b g m ts e w'):PostN q' w b g m ts e w':=by
 obtain ⟨hG,r,hr,⟨n,v,hl,hR,he,hN,hP⟩|⟨hR,he⟩⟩:=h
 ·exact ⟨hG,r,hr,Or.inl ⟨n,v,hl,hq _ hR,he,hN,hP⟩⟩
 ·exact ⟨hG,r,hr,Or.inr ⟨hq _ hR,he⟩⟩
theorem Meth.turn {F:Nat} {q q':G} (hq:∀ r,R q (tk ts) r→R q' (tk ts) r) (h:Meth F q b g m ts):Meth F q' b g m ts:=fun w h1 h2 h3 h4 h5 h6=>(h w h1 h2 h3 h4 h5 h6).mono fun e w'=>PostN.turn hq
theorem expr_circle (hb5:4<b):∀ (n:Nat) (ts:List Tok),ts.length=n→Meth 143 .expr b g m ts∧Meth 173 .unary b g m ts∧Meth 164 (.bound 2) b g m ts∧Meth 153 (.bound 1) b g m ts:=by
 intro n
 induction n using Nat.strongRecOn with
 | ind n ih=>
  intro ts hts
  have L1:Later 143 .expr b g m ts:=fun r _ hl=>(ih r.length (by omega) r rfl).1
  have L2:Later 173 .unary b g m ts:=fun r _ hl=>(ih r.length (by omega) r rfl).2.1
  have L2':Later 173 (.bound 3) b g m ts:=fun r hr hl=>(L2 r hr hl).turn (fun _=>r_b3)
  have L3:Later 164 (.bound 2) b g m ts:=fun r _ hl=>(ih r.length (by omega) r rfl).2.2.1
  have L4:Later 153 (.bound 1) b g m ts:=fun r _ hl=>(ih r.length (by omega) r rfl).2.2.2
  have M0:=first_any hb5 L1
  have M1:Meth 173 .unary b g m ts:=fun w h hT hGl hgl hF hlen=>unary_any h hT hGl hb5 hgl hF hlen M0 L2 L1
  have M2:Meth 164 (.bound 2) b g m ts:=fun w h hT hGl hgl hF hlen=>product_any h hT hGl hb5 hgl hF hlen (M1.turn (fun _=>r_b3)) L2'
  have M3:Meth 153 (.bound 1) b g m ts:=fun w h hT hGl hgl hF hlen=>sum_any h hT hGl hb5 hgl hF hlen M2 L3
  exact ⟨fun w h hT hGl hgl hF hlen=>expr_any h hT hGl hb5 hgl hF hlen M3 L4,M1,M2,M3⟩
theorem expr_meth (hb5:4<b) (ts:List Tok):Meth 143 .expr b g m ts:=(expr_circle hb5 _ ts rfl).1
theorem expr_later (hb5:4<b) (ts:List Tok):Later 143 .expr b g m ts:=fun r _ _=>expr_meth hb5 r
end Go.Proofs.YthcfianhdkolhaaGreatDoor.Y
