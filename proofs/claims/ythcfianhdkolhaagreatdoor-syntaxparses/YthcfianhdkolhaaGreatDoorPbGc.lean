/- PbGa PbGb PbGc -/
import Derived.Test.YthcfianhdkolhaaGreatDoorSign
import Derived.Test.YthcfianhdkolhaaGreatDoorPbG
namespace Go.Proofs.YthcfianhdkolhaaGreatDoor.Y
open Go.RowKit Go.Proofs.YthcfianhdkolhaaGreatDoor.X Go.Proofs.YthcfianhdkolhaaGreatDoor.T Go.Proofs.YthcfianhdkolhaaGreatDoor.S
set_option maxRecDepth 100000
set_option maxHeartbeats 2000000
set_option linter.unusedVariables false
set_option linter.unusedSimpArgs false
variable {w w' : World} {b g : Nat} {m : Value} {ts : List Tok} {t : Tok}
theorem first_long (h:Ps w b g m ts) (hT:Two w b m) (hGl:Og w) (hb5:4<b) (hgl:g<w.heap.size) (hF:Fits ts) (hlen:ts.length≤4000) (hq:tx ts=str sLONG) (hE:Later 143 .expr b g m ts):Calls Tryz.prog 176 #[.pointer (some ⟨b,0,none⟩)] w (PostN .first w b g m ts):=by
 have HW:Hid (Wd w w b g m ts []):=Wd.start h hT hGl hb5 hgl
 have HS:=su ts
 have HF:=ħ hF
 have HLn:=ħ hlen
 have HE:=hide hE
 have HSz:Hid ((tx ts).size≤4000):=tx_short hF
 have H2:Hid (twoOf (tx ts)=(10,31,true)):=by rw [hq];rfl
 have HQ:Hid (hd (tk ts)=sLONG):=(tx_hd hF sLONG (⟨_,_,rfl,by decide⟩)).1 hq
 have HQx:=hide hq
 clear hq
 clear hE
 clear h hT hGl hgl hF hlen
 go_enter Tryz.func176,Tryz.ntmps176
 replace HW:=HW.out.az
 go_wp2_with fail
 generalize w.alloc _=w1 at *
 replace HW:=ħ (HW.out.quiet (grown_drew w1))
 refine wp_region_held_drew (S:=(fun w'=>w'.cell? ⟨b,1,none⟩=some m∧Two w' b m)) (by kernel_rfl) (⟨HW.out.ps.cell1,HW.out.two⟩) (fun hHd=>?_)
 generalize w1.drew=w2 at *
 refine tq 0 ?_
 simp only [qq]
 refine tq 1 ?_
 simp only [qq]
 refine tq 2 ?_
 simp only [qq]
 refine tq 3 ?_ (hy:=by (intro w hSw;obtain ⟨hs1,hs2⟩:=hSw;go_simp)<;>with_reducible rfl)
 simp only [qq]
 refine tq 4 ?_
 simp only [qq]
 refine rq2 5 10 (fun K hK=>?_) fun K hK=>?_
 ·go_simp
  refine (text_any HW.out.ps).mono ?_
  rintro e w3 ⟨rfl,hww⟩
  replace hww:w2=w3:=hww.symm
  subst hww
  refine hK.out _ _ (⟨HW.out.ps.cell1,HW.out.two⟩) (fun hHd=>?_)
  clear hK K
  try simp only [qq]
  refine tq 6 ?_ (hy:=by (intro w hSw;have hlk:=hSw.2.look (tx ts) HSz.out;rw [H2.out] at hlk;clear hSw;go_simp)<;>with_reducible rfl)
  simp only [qq]
  refine tq 7 ?_
  simp only [qq]
  refine tq 8 ?_
  simp only [qq]
  refine tq 9 ?_
  simp only [qq]
  refine rq 10 fun K hK=>?_
  replace HW:=ħ (HW.out.alloc' w2.heap.size (by simp) #[.int .i64 0,.int .i64 0] 52)
  go_simp
  refine hK.out _ _ (⟨HW.out.ps.cell1,HW.out.two⟩) (fun hHd=>?_)
  clear hK K
  try simp only [qq]
  generalize w2.alloc _=w4 at *
  refine rq 11 fun K hK=>?_
  have hc5:=HW.out.c0
  have hf6:=HW.out.f0
  replace HW:=ħ (HW.out.r00 (.int .i64 10))
  replace HW:=ħ (HW.out.r01 (.int .i64 31))
  go_simp
  refine hK.out _ _ (⟨HW.out.ps.cell1,HW.out.two⟩) (fun hHd=>?_)
  clear hK K
  try simp only [qq]
  generalize (w4.setCell _ _).setCell _ _=w7 at *
  clear hc5 hf6
  refine tq 12 ?_
  simp only [qq]
  refine wpAnyH_done (by kernel_rfl) ?_ _
  go_wp2_with fail
  replace HW:=ħ (HW.out.quiet (grown_drew w7))
  refine wp_region_held_drew (S:=(fun w'=>∀ oo,w'.cell? ⟨w2.heap.size,oo,none⟩=(#[Value.int .i64 10,.int .i64 31])[oo]?)) (by kernel_rfl) (cells_at (HW.out.blk (w2.heap.size,#[.int .i64 10,.int .i64 31],52) (List.mem_cons_self)).2) (fun hHd=>?_)
  generalize w7.drew=w8 at *
  refine tq 0 ?_
  simp only [qq]
  refine tq 1 ?_
  simp only [qq]
  refine tq 2 ?_
  simp only [qq]
  refine tq 3 ?_
  simp only [qq]
  refine rq 4 fun K hK=>?_
  go_simp
  refine (text_any HW.out.ps).mono ?_
  rintro e w9 ⟨rfl,hww⟩
  replace hww:w8=w9:=hww.symm
  subst hww
  refine hK.out _ _ (cells_at (HW.out.blk (w2.heap.size,#[.int .i64 10,.int .i64 31],52) (List.mem_cons_self)).2) (fun hHd=>?_)
  clear hK K
  try simp only [qq]
  refine rq 5 fun K hK=>?_
  replace HW:=ħ (HW.out.alloc' w8.heap.size (by simp) #[.string (tx ts)] 9)
  go_simp
  refine hK.out _ _ (cells_at (HW.out.blk (w2.heap.size,#[.int .i64 10,.int .i64 31],52) ((List.mem_cons_of_mem _ List.mem_cons_self))).2) (fun hHd=>?_)
  clear hK K
  try simp only [qq]
  generalize w8.alloc _=w10 at *
  refine rq 6 fun K hK=>?_
  have hxz:(tx ts).size≠0:=by rw [HQx.out];decide
  go_simp
  refine (inside1 HW.out hxz rfl (HF.out.suf HS.out) (Nat.le_trans HS.out.length_le HLn.out) (HE.out.suf HS.out)).mono ?_
  rintro e w11 ⟨hG11,r11,hsu,⟨n_x,vv,hlt,hR,rfl,hN,hP11⟩|⟨hR,rfl⟩⟩
  rotate_left
  ·exact ⟨rfl,grown_trans HW.out.grown hG11,_,(hsu.trans (List.tail_suffix _)).trans HS.out,Or.inr ⟨r_fi_long0 HQ.out (by rw [← tk_tail];exact hR),rfl⟩⟩
  obtain ⟨k_x,t_x,v_x,a_x,l_x,c_x,rfl⟩:=hN.form
  have HR_x:=hide hR
  have HN_x:=ħ (hN.given HW.out)
  have HZ_x:Hid (w.heap.size≤w10.heap.size):=HW.out.grown.size
  have HL:Hid (r11.length<ts.length):=Nat.lt_of_lt_of_le hlt (Nat.le_trans (List.tail_suffix _).length_le HS.out.length_le)
  replace HW:=ħ (HW.out.call hG11 hP11)
  replace HS:=ħ ((hsu.trans (List.tail_suffix _)).trans HS.out)
  clear hP11 hG11 hR hN hsu hlt
  refine hK.out _ _ (cells_at (HW.out.blk (w2.heap.size,#[.int .i64 10,.int .i64 31],52) ((List.mem_cons_of_mem _ List.mem_cons_self))).2) (fun hHd=>?_)
  clear hK K
  try simp only [qq]
  refine rq 7 fun K hK=>?_
  replace HW:=HW.out.an HN_x
  replace HN_x:=HW.out.nA HN_x
  go_simp
  refine hK.out _ _ (cells_at (HW.out.blk (w2.heap.size,#[.int .i64 10,.int .i64 31],52) ((List.mem_cons_of_mem _ (List.mem_cons_of_mem _ List.mem_cons_self)))).2) (fun hHd=>?_)
  clear hK K
  try simp only [qq]
  generalize w11.alloc _=w12 at *
  refine rq 8 fun K hK=>?_
  go_simp
  refine (node_any 31 (some ⟨w11.heap.size,0,none⟩) 1 1 w12).mono ?_
  rintro e w13 ⟨rfl,hG13⟩
  replace HN_x:=(Mv.quiet hG13).N HN_x
  replace HW:=ħ (HW.out.quiet hG13)
  clear hG13
  refine hK.out _ _ (cells_at (HW.out.blk (w2.heap.size,#[.int .i64 10,.int .i64 31],52) ((List.mem_cons_of_mem _ (List.mem_cons_of_mem _ List.mem_cons_self)))).2) (fun hHd=>?_)
  clear hK K
  try simp only [qq]
  refine rq 9 fun K hK=>?_
  have HM_a:=ħ (RowN.o0 HW.out (HN_x.out.less HZ_x.out))
  have HZ_a:=zz w
  clear HN_x HZ_x
  replace HW:=hide HW.out.d0
  have HN_z:=ħ (HM_a.out.node 31 [] 0)
  have HZ_z:=HZ_a
  clear HM_a HZ_a
  have hc14:=HW.out.c2
  have hf15:=HW.out.f2
  replace HW:=ħ (HW.out.s2 (.int .i64 31) (.string ⟨#[]⟩) (.int .i64 0) ((.slice (some ⟨w11.heap.size,0,none⟩) 1 1)))
  replace HN_z:=HW.out.ms2.N HN_z
  go_simp
  refine hK.out _ _ (cells_at (HW.out.blk (w2.heap.size,#[.int .i64 10,.int .i64 31],52) ((List.mem_cons_of_mem _ List.mem_cons_self))).2) (fun hHd=>?_)
  clear hK K
  try simp only [qq]
  generalize (((w13.setCell _ _).setCell _ _).setCell _ _).setCell _ _=w16 at *
  clear hc14 hf15
  refine wpAnyH_done (by kernel_rfl) ?_ _
  have hc17:=HW.out.c0
  have hc18:=HW.out.c1
  have hc19:=HW.out.c2
  have hl20:=HW.out.l2
  go_wp2_with fail
  refine bodyPost_ret (v:=(.agg #[.int .i64 31,.string ⟨#[]⟩,.int .i64 0,(.slice (some ⟨w11.heap.size,0,none⟩) 1 1)])) (by simp [results,Tryz.results176,go_sem,hc17,hc18,hc19,hl20]) rfl ?_
  exact HW.out.post HS.out (r_fi_long HQ.out (by rw [← tk_tail];exact HR_x.out)) HL.out HZ_z.out HN_z.out
 replace HW:=ħ (HW.out.alloc' w2.heap.size (by simp) #[.int .i64 0,.int .i64 0] 52)
 go_simp
 refine hK.out _ _ (⟨HW.out.ps.cell1,HW.out.two⟩) (fun hHd=>?_)
 clear hK K
 try simp only [qq]
 generalize w2.alloc _=w21 at *
 refine rq 5 fun K hK=>?_
 go_simp
 refine (text_any HW.out.ps).mono ?_
 rintro e w22 ⟨rfl,hww⟩
 replace hww:w21=w22:=hww.symm
 subst hww
 refine hK.out _ _ (⟨HW.out.ps.cell1,HW.out.two⟩) (fun hHd=>?_)
 clear hK K
 try simp only [qq]
 refine tq 6 ?_ (hy:=by (intro w hSw;have hlk:=hSw.2.look (tx ts) HSz.out;rw [H2.out] at hlk;clear hSw;go_simp)<;>with_reducible rfl)
 simp only [qq]
 refine tq 7 ?_
 simp only [qq]
 refine tq 8 ?_
 simp only [qq]
 refine tq 9 ?_
 simp only [qq]
 refine rq 11 fun K hK=>?_
 have hc23:=HW.out.c0
 have hf24:=HW.out.f0
 replace HW:=ħ (HW.out.r00 (.int .i64 10))
 replace HW:=ħ (HW.out.r01 (.int .i64 31))
 go_simp
 refine hK.out _ _ (⟨HW.out.ps.cell1,HW.out.two⟩) (fun hHd=>?_)
 clear hK K
 try simp only [qq]
 generalize (w21.setCell _ _).setCell _ _=w25 at *
 clear hc23 hf24
 refine tq 12 ?_
 simp only [qq]
 refine wpAnyH_done (by kernel_rfl) ?_ _
 go_wp2_with fail
 replace HW:=ħ (HW.out.quiet (grown_drew w25))
 refine wp_region_held_drew (S:=(fun w'=>∀ oo,w'.cell? ⟨w2.heap.size,oo,none⟩=(#[Value.int .i64 10,.int .i64 31])[oo]?)) (by kernel_rfl) (cells_at (HW.out.blk (w2.heap.size,#[.int .i64 10,.int .i64 31],52) (List.mem_cons_self)).2) (fun hHd=>?_)
 generalize w25.drew=w26 at *
 refine tq 0 ?_
 simp only [qq]
 refine tq 1 ?_
 simp only [qq]
 refine tq 2 ?_
 simp only [qq]
 refine tq 3 ?_
 simp only [qq]
 refine rq 4 fun K hK=>?_
 go_simp
 refine (text_any HW.out.ps).mono ?_
 rintro e w27 ⟨rfl,hww⟩
 replace hww:w26=w27:=hww.symm
 subst hww
 refine hK.out _ _ (cells_at (HW.out.blk (w2.heap.size,#[.int .i64 10,.int .i64 31],52) (List.mem_cons_self)).2) (fun hHd=>?_)
 clear hK K
 try simp only [qq]
 refine rq 5 fun K hK=>?_
 replace HW:=ħ (HW.out.alloc' w26.heap.size (by simp) #[.string (tx ts)] 9)
 go_simp
 refine hK.out _ _ (cells_at (HW.out.blk (w2.heap.size,#[.int .i64 10,.int .i64 31],52) ((List.mem_cons_of_mem _ List.mem_cons_self))).2) (fun hHd=>?_)
 clear hK K
 try simp only [qq]
 generalize w26.alloc _=w28 at *
 refine rq 6 fun K hK=>?_
 have hxz:(tx ts).size≠0:=by rw [HQx.out];decide
 go_simp
 refine (inside1 HW.out hxz rfl (HF.out.suf HS.out) (Nat.le_trans HS.out.length_le HLn.out) (HE.out.suf HS.out)).mono ?_
 rintro e w29 ⟨hG29,r29,hsu,⟨n_x,vv,hlt,hR,rfl,hN,hP29⟩|⟨hR,rfl⟩⟩
 rotate_left
 ·exact ⟨rfl,grown_trans HW.out.grown hG29,_,(hsu.trans (List.tail_suffix _)).trans HS.out,Or.inr ⟨r_fi_long0 HQ.out (by rw [← tk_tail];exact hR),rfl⟩⟩
 obtain ⟨k_x,t_x,v_x,a_x,l_x,c_x,rfl⟩:=hN.form
 have HR_x:=hide hR
 have HN_x:=ħ (hN.given HW.out)
 have HZ_x:Hid (w.heap.size≤w28.heap.size):=HW.out.grown.size
 have HL:Hid (r29.length<ts.length):=Nat.lt_of_lt_of_le hlt (Nat.le_trans (List.tail_suffix _).length_le HS.out.length_le)
 replace HW:=ħ (HW.out.call hG29 hP29)
 replace HS:=ħ ((hsu.trans (List.tail_suffix _)).trans HS.out)
 clear hP29 hG29 hR hN hsu hlt
 refine hK.out _ _ (cells_at (HW.out.blk (w2.heap.size,#[.int .i64 10,.int .i64 31],52) ((List.mem_cons_of_mem _ List.mem_cons_self))).2) (fun hHd=>?_)
 clear hK K
 try simp only [qq]
 refine rq 7 fun K hK=>?_
 replace HW:=HW.out.an HN_x
 replace HN_x:=HW.out.nA HN_x
 go_simp
 refine hK.out _ _ (cells_at (HW.out.blk (w2.heap.size,#[.int .i64 10,.int .i64 31],52) ((List.mem_cons_of_mem _ (List.mem_cons_of_mem _ List.mem_cons_self)))).2) (fun hHd=>?_)
 clear hK K
 try simp only [qq]
 generalize w29.alloc _=w30 at *
 refine rq 8 fun K hK=>?_
 go_simp
 refine (node_any 31 (some ⟨w29.heap.size,0,none⟩) 1 1 w30).mono ?_
 rintro e w31 ⟨rfl,hG31⟩
 replace HN_x:=(Mv.quiet hG31).N HN_x
 replace HW:=ħ (HW.out.quiet hG31)
 clear hG31
 refine hK.out _ _ (cells_at (HW.out.blk (w2.heap.size,#[.int .i64 10,.int .i64 31],52) ((List.mem_cons_of_mem _ (List.mem_cons_of_mem _ List.mem_cons_self)))).2) (fun hHd=>?_)
 clear hK K
 try simp only [qq]
 refine rq 9 fun K hK=>?_
 have HM_a:=ħ (RowN.o0 HW.out (HN_x.out.less HZ_x.out))
 have HZ_a:=zz w
 clear HN_x HZ_x
 replace HW:=hide HW.out.d0
 have HN_z:=ħ (HM_a.out.node 31 [] 0)
 have HZ_z:=HZ_a
 clear HM_a HZ_a
 have hc32:=HW.out.c2
 have hf33:=HW.out.f2
 replace HW:=ħ (HW.out.s2 (.int .i64 31) (.string ⟨#[]⟩) (.int .i64 0) ((.slice (some ⟨w29.heap.size,0,none⟩) 1 1)))
 replace HN_z:=HW.out.ms2.N HN_z
 go_simp
 refine hK.out _ _ (cells_at (HW.out.blk (w2.heap.size,#[.int .i64 10,.int .i64 31],52) ((List.mem_cons_of_mem _ List.mem_cons_self))).2) (fun hHd=>?_)
 clear hK K
 try simp only [qq]
 generalize (((w31.setCell _ _).setCell _ _).setCell _ _).setCell _ _=w34 at *
 clear hc32 hf33
 refine wpAnyH_done (by kernel_rfl) ?_ _
 have hc35:=HW.out.c0
 have hc36:=HW.out.c1
 have hc37:=HW.out.c2
 have hl38:=HW.out.l2
 go_wp2_with fail
 refine bodyPost_ret (v:=(.agg #[.int .i64 31,.string ⟨#[]⟩,.int .i64 0,(.slice (some ⟨w29.heap.size,0,none⟩) 1 1)])) (by simp [results,Tryz.results176,go_sem,hc35,hc36,hc37,hl38]) rfl ?_
 exact HW.out.post HS.out (r_fi_long HQ.out (by rw [← tk_tail];exact HR_x.out)) HL.out HZ_z.out HN_z.out
theorem first_lp (h:Ps w b g m ts) (hT:Two w b m) (hGl:Og w) (hb5:4<b) (hgl:g<w.heap.size) (hF:Fits ts) (hlen:ts.length≤4000) (hq_i:¬ tx ts=str sINT) (hq_l:¬ tx ts=str sLONG) (hq_sLP:tx ts=str sLP) (hE:Later 143 .expr b g m ts):Calls Tryz.prog 176 #[.pointer (some ⟨b,0,none⟩)] w (PostN .first w b g m ts):=by
 have HW:Hid (Wd w w b g m ts []):=Wd.start h hT hGl hb5 hgl
 have HS:=su ts
 have HF:=ħ hF
 have HLn:=ħ hlen
 have HE:=hide hE
 have HSz:Hid ((tx ts).size≤4000):=tx_short hF
 have H2:Hid (twoOf (tx ts)=(0,0,false)):=by show twoOf (tx ts)=_;unfold twoOf;rw [if_neg hq_i,if_neg hq_l]
 have hc_sLP:((tx ts).toList == ([40]:List UInt8))=true:=by rw [cmp_str];exact decide_eq_true hq_sLP
 have HQ_sLP:Hid (hd (tk ts)=sLP):=(tx_hd hF sLP (⟨_,_,rfl,by decide⟩)).1 hq_sLP
 have HQ_i:Hid (¬ hd (tk ts)=sINT):=fun e=>hq_i ((tx_hd hF sINT (⟨_,_,rfl,by decide⟩)).2 e)
 have HQ_l:Hid (¬ hd (tk ts)=sLONG):=fun e=>hq_l ((tx_hd hF sLONG (⟨_,_,rfl,by decide⟩)).2 e)
 have HQx:=hide hq_sLP
 clear hq_i hq_l hq_sLP
 clear hE
 clear h hT hGl hgl hF hlen
 go_enter Tryz.func176,Tryz.ntmps176
 replace HW:=HW.out.az
 go_wp2_with fail
 generalize w.alloc _=w1 at *
 replace HW:=ħ (HW.out.quiet (grown_drew w1))
 refine wp_region_held_drew (S:=(fun w'=>w'.cell? ⟨b,1,none⟩=some m∧Two w' b m)) (by kernel_rfl) (⟨HW.out.ps.cell1,HW.out.two⟩) (fun hHd=>?_)
 generalize w1.drew=w2 at *
 refine tq 0 ?_
 simp only [qq]
 refine tq 1 ?_
 simp only [qq]
 refine tq 2 ?_
 simp only [qq]
 refine tq 3 ?_ (hy:=by (intro w hSw;obtain ⟨hs1,hs2⟩:=hSw;go_simp)<;>with_reducible rfl)
 simp only [qq]
 refine tq 4 ?_
 simp only [qq]
 refine rq2 5 10 (fun K hK=>?_) fun K hK=>?_
 ·go_simp
  refine (text_any HW.out.ps).mono ?_
  rintro e w3 ⟨rfl,hww⟩
  replace hww:w2=w3:=hww.symm
  subst hww
  refine hK.out _ _ (⟨HW.out.ps.cell1,HW.out.two⟩) (fun hHd=>?_)
  clear hK K
  try simp only [qq]
  refine tq 6 ?_ (hy:=by (intro w hSw;have hlk:=hSw.2.look (tx ts) HSz.out;rw [H2.out] at hlk;clear hSw;go_simp)<;>with_reducible rfl)
  simp only [qq]
  refine tq 7 ?_
  simp only [qq]
  refine tq 8 ?_
  simp only [qq]
  refine tq 9 ?_
  simp only [qq]
  refine rq 10 fun K hK=>?_
  replace HW:=ħ (HW.out.alloc' w2.heap.size (by simp) #[.int .i64 0,.int .i64 0] 52)
  go_simp
  refine hK.out _ _ (⟨HW.out.ps.cell1,HW.out.two⟩) (fun hHd=>?_)
  clear hK K
  try simp only [qq]
  generalize w2.alloc _=w4 at *
  refine rq 11 fun K hK=>?_
  have hc5:=HW.out.c0
  have hf6:=HW.out.f0
  replace HW:=ħ (HW.out.r00 (.int .i64 0))
  replace HW:=ħ (HW.out.r01 (.int .i64 0))
  go_simp
  refine hK.out _ _ (⟨HW.out.ps.cell1,HW.out.two⟩) (fun hHd=>?_)
  clear hK K
  try simp only [qq]
  generalize (w4.setCell _ _).setCell _ _=w7 at *
  clear hc5 hf6
  refine tq 12 ?_
  simp only [qq]
  refine wpAnyH_done (by kernel_rfl) ?_ _
  go_wp2_with fail
  go_at_call 91
  refine (text_any HW.out.ps).mono ?_
  rintro e w8 ⟨rfl,hww⟩
  replace hww:w7=w8:=hww.symm
  subst hww
  go_wp2_with fail
  go_at_call 141
  refine (inside0 HW.out HQx.out (HF.out.suf HS.out) (Nat.le_trans HS.out.length_le HLn.out) (HE.out.suf HS.out)).mono ?_
  rintro e w9 hp
  obtain ⟨r9,n_x,k_x,t_x,v_x,a_x,l_x,c_x,rfl,HR_x,HN_x,HZ_x,HL,HSx,HLs2,hS,hW,hG⟩|⟨r,hR,rfl,h1,h2⟩:=HW.out.okN HS.out hp
  rotate_left
  ·exact ⟨rfl,h1,_,h2,Or.inr ⟨r_fi_lp HQ_sLP.out hR,rfl⟩⟩
  replace HW:=hW
  replace HS:=hS
  clear hG hp
  have hc10:=HW.out.c0
  have hc11:=HW.out.c1
  have hf12:=HW.out.f1
  replace HW:=ħ (HW.out.s1 (.int .i64 k_x) (.string t_x) (.int .i64 v_x) (.slice a_x l_x c_x))
  replace HN_x:=HW.out.ms1.N HN_x
  go_wp2_with fail
  generalize (((w9.setCell _ _).setCell _ _).setCell _ _).setCell _ _=w15 at *
  refine bodyPost_ret (rt rfl rfl HW.out.b1) rfl ?_
  exact HW.out.post HS.out (r_fi_lp HQ_sLP.out HR_x.out) HL.out HZ_x.out HN_x.out
 replace HW:=ħ (HW.out.alloc' w2.heap.size (by simp) #[.int .i64 0,.int .i64 0] 52)
 go_simp
 refine hK.out _ _ (⟨HW.out.ps.cell1,HW.out.two⟩) (fun hHd=>?_)
 clear hK K
 try simp only [qq]
 generalize w2.alloc _=w16 at *
 refine rq 5 fun K hK=>?_
 go_simp
 refine (text_any HW.out.ps).mono ?_
 rintro e w17 ⟨rfl,hww⟩
 replace hww:w16=w17:=hww.symm
 subst hww
 refine hK.out _ _ (⟨HW.out.ps.cell1,HW.out.two⟩) (fun hHd=>?_)
 clear hK K
 try simp only [qq]
 refine tq 6 ?_ (hy:=by (intro w hSw;have hlk:=hSw.2.look (tx ts) HSz.out;rw [H2.out] at hlk;clear hSw;go_simp)<;>with_reducible rfl)
 simp only [qq]
 refine tq 7 ?_
 simp only [qq]
 refine tq 8 ?_
 simp only [qq]
 refine tq 9 ?_
 simp only [qq]
 refine rq 11 fun K hK=>?_
 have hc18:=HW.out.c0
 have hf19:=HW.out.f0
 replace HW:=ħ (HW.out.r00 (.int .i64 0))
 replace HW:=ħ (HW.out.r01 (.int .i64 0))
 go_simp
 refine hK.out _ _ (⟨HW.out.ps.cell1,HW.out.two⟩) (fun hHd=>?_)
 clear hK K
 try simp only [qq]
 generalize (w16.setCell _ _).setCell _ _=w20 at *
 clear hc18 hf19
 refine tq 12 ?_
 simp only [qq]
 refine wpAnyH_done (by kernel_rfl) ?_ _
 go_wp2_with fail
 go_at_call 91
 refine (text_any HW.out.ps).mono ?_
 rintro e w21 ⟨rfl,hww⟩
 replace hww:w20=w21:=hww.symm
 subst hww
 go_wp2_with fail
 go_at_call 141
 refine (inside0 HW.out HQx.out (HF.out.suf HS.out) (Nat.le_trans HS.out.length_le HLn.out) (HE.out.suf HS.out)).mono ?_
 rintro e w22 hp
 obtain ⟨r22,n_x,k_x,t_x,v_x,a_x,l_x,c_x,rfl,HR_x,HN_x,HZ_x,HL,HSx,HLs2,hS,hW,hG⟩|⟨r,hR,rfl,h1,h2⟩:=HW.out.okN HS.out hp
 rotate_left
 ·exact ⟨rfl,h1,_,h2,Or.inr ⟨r_fi_lp HQ_sLP.out hR,rfl⟩⟩
 replace HW:=hW
 replace HS:=hS
 clear hG hp
 have hc23:=HW.out.c0
 have hc24:=HW.out.c1
 have hf25:=HW.out.f1
 replace HW:=ħ (HW.out.s1 (.int .i64 k_x) (.string t_x) (.int .i64 v_x) (.slice a_x l_x c_x))
 replace HN_x:=HW.out.ms1.N HN_x
 go_wp2_with fail
 generalize (((w22.setCell _ _).setCell _ _).setCell _ _).setCell _ _=w28 at *
 refine bodyPost_ret (rt rfl rfl HW.out.b1) rfl ?_
 exact HW.out.post HS.out (r_fi_lp HQ_sLP.out HR_x.out) HL.out HZ_x.out HN_x.out
theorem first_amp (h:Ps w b g m ts) (hT:Two w b m) (hGl:Og w) (hb5:4<b) (hgl:g<w.heap.size) (hF:Fits ts) (hlen:ts.length≤4000) (hq_i:¬ tx ts=str sINT) (hq_l:¬ tx ts=str sLONG) (hq_sLP:¬ tx ts=str sLP) (hq_sAMP:tx ts=str sAMP) (hE:Later 143 .expr b g m ts):Calls Tryz.prog 176 #[.pointer (some ⟨b,0,none⟩)] w (PostN .first w b g m ts):=by
 have HW:Hid (Wd w w b g m ts []):=Wd.start h hT hGl hb5 hgl
 have HS:=su ts
 have HF:=ħ hF
 have HLn:=ħ hlen
 have HE:=hide hE
 have HSz:Hid ((tx ts).size≤4000):=tx_short hF
 have H2:Hid (twoOf (tx ts)=(0,0,false)):=by show twoOf (tx ts)=_;unfold twoOf;rw [if_neg hq_i,if_neg hq_l]
 have hc_sLP:((tx ts).toList == ([40]:List UInt8))=false:=by rw [cmp_str];exact decide_eq_false hq_sLP
 have hc_sAMP:((tx ts).toList == ([38]:List UInt8))=true:=by rw [cmp_str];exact decide_eq_true hq_sAMP
 have HQ_sLP:Hid (¬ hd (tk ts)=sLP):=fun e=>hq_sLP ((tx_hd hF sLP (⟨_,_,rfl,by decide⟩)).2 e)
 have HQ_sAMP:Hid (hd (tk ts)=sAMP):=(tx_hd hF sAMP (⟨_,_,rfl,by decide⟩)).1 hq_sAMP
 have HQ_i:Hid (¬ hd (tk ts)=sINT):=fun e=>hq_i ((tx_hd hF sINT (⟨_,_,rfl,by decide⟩)).2 e)
 have HQ_l:Hid (¬ hd (tk ts)=sLONG):=fun e=>hq_l ((tx_hd hF sLONG (⟨_,_,rfl,by decide⟩)).2 e)
 have HQx:=hide hq_sAMP
 clear hq_i hq_l hq_sLP hq_sAMP
 clear hE
 clear h hT hGl hgl hF hlen
 go_enter Tryz.func176,Tryz.ntmps176
 replace HW:=HW.out.az
 go_wp2_with fail
 generalize w.alloc _=w1 at *
 replace HW:=ħ (HW.out.quiet (grown_drew w1))
 refine wp_region_held_drew (S:=(fun w'=>w'.cell? ⟨b,1,none⟩=some m∧Two w' b m)) (by kernel_rfl) (⟨HW.out.ps.cell1,HW.out.two⟩) (fun hHd=>?_)
 generalize w1.drew=w2 at *
 refine tq 0 ?_
 simp only [qq]
 refine tq 1 ?_
 simp only [qq]
 refine tq 2 ?_
 simp only [qq]
 refine tq 3 ?_ (hy:=by (intro w hSw;obtain ⟨hs1,hs2⟩:=hSw;go_simp)<;>with_reducible rfl)
 simp only [qq]
 refine tq 4 ?_
 simp only [qq]
 refine rq2 5 10 (fun K hK=>?_) fun K hK=>?_
 ·go_simp
  refine (text_any HW.out.ps).mono ?_
  rintro e w3 ⟨rfl,hww⟩
  replace hww:w2=w3:=hww.symm
  subst hww
  refine hK.out _ _ (⟨HW.out.ps.cell1,HW.out.two⟩) (fun hHd=>?_)
  clear hK K
  try simp only [qq]
  refine tq 6 ?_ (hy:=by (intro w hSw;have hlk:=hSw.2.look (tx ts) HSz.out;rw [H2.out] at hlk;clear hSw;go_simp)<;>with_reducible rfl)
  simp only [qq]
  refine tq 7 ?_
  simp only [qq]
  refine tq 8 ?_
  simp only [qq]
  refine tq 9 ?_
  simp only [qq]
  refine rq 10 fun K hK=>?_
  replace HW:=ħ (HW.out.alloc' w2.heap.size (by simp) #[.int .i64 0,.int .i64 0] 52)
  go_simp
  refine hK.out _ _ (⟨HW.out.ps.cell1,HW.out.two⟩) (fun hHd=>?_)
  clear hK K
  try simp only [qq]
  generalize w2.alloc _=w4 at *
  refine rq 11 fun K hK=>?_
  have hc5:=HW.out.c0
  have hf6:=HW.out.f0
  replace HW:=ħ (HW.out.r00 (.int .i64 0))
  replace HW:=ħ (HW.out.r01 (.int .i64 0))
  go_simp
  refine hK.out _ _ (⟨HW.out.ps.cell1,HW.out.two⟩) (fun hHd=>?_)
  clear hK K
  try simp only [qq]
  generalize (w4.setCell _ _).setCell _ _=w7 at *
  clear hc5 hf6
  refine tq 12 ?_
  simp only [qq]
  refine wpAnyH_done (by kernel_rfl) ?_ _
  go_wp2_with fail
  go_at_call 91
  refine (text_any HW.out.ps).mono ?_
  rintro e w8 ⟨rfl,hww⟩
  replace hww:w7=w8:=hww.symm
  subst hww
  go_wp2_with fail
  go_at_call 92
  refine (pass_tx HW.out.ps (by decide) HQx.out).mono ?_
  rintro e w9 ⟨rfl,hP9,hG9⟩
  have HL:Hid (ts.tail.length<ts.length):=Nat.lt_of_lt_of_le (tail_lt (by decide) HQx.out) HS.out.length_le
  replace HW:=ħ (HW.out.call hG9 hP9)
  replace HS:=ħ ((List.tail_suffix _).trans HS.out)
  clear hP9 hG9
  go_wp2_with fail
  go_at_call 93
  refine (HW.out.nm HS.out HF.out).mono ?_
  rintro e w10 (⟨HQ_s,rfl,HL,hS,hW,hG⟩|⟨hn,rfl,h1⟩)
  rotate_left
  ·exact ⟨rfl,h1,_,HS.out,Or.inr ⟨by rw [tk_tail];exact r_fi_amp0 HQ_sAMP.out (by rw [← tk_tail];exact hn),rfl⟩⟩
  replace HW:=hW
  replace HS:=hS
  clear hG
  have HN_z:Hid (NdV w10 (Av w.heap.size [(w2.heap.size,#[.int .i64 0,.int .i64 0],52),(w.heap.size,#[.int .i64 0,.string ⟨#[]⟩,.int .i64 0,.slice none 0 0],24)]) (.mk 26 (hd (tk ts.tail)) 0 []) (.agg #[.int .i64 26,.string (str (hd (tk ts.tail))),.int .i64 0,.slice none 0 0])):=NdV.bare 26 (hd (tk ts.tail)) 0 none 0
  have HZ_z:=zz w
  have hc11:=HW.out.c0
  have hc12:=HW.out.c1
  have hf13:=HW.out.f1
  replace HW:=ħ (HW.out.s1 (.int .i64 26) (.string (str (hd (tk ts.tail)))) (.int .i64 0) (.slice none 0 0))
  replace HN_z:=HW.out.ms1.N HN_z
  go_wp2_with fail
  generalize (((w10.setCell _ _).setCell _ _).setCell _ _).setCell _ _=w16 at *
  refine bodyPost_ret (rt rfl rfl HW.out.b1) rfl ?_
  exact HW.out.post HS.out (by simp only [tk_tail];exact r_fi_amp HQ_sAMP.out (by rw [← tk_tail];exact HQ_s.out)) HL.out HZ_z.out HN_z.out
 replace HW:=ħ (HW.out.alloc' w2.heap.size (by simp) #[.int .i64 0,.int .i64 0] 52)
 go_simp
 refine hK.out _ _ (⟨HW.out.ps.cell1,HW.out.two⟩) (fun hHd=>?_)
 clear hK K
 try simp only [qq]
 generalize w2.alloc _=w17 at *
 refine rq 5 fun K hK=>?_
 go_simp
 refine (text_any HW.out.ps).mono ?_
 rintro e w18 ⟨rfl,hww⟩
 replace hww:w17=w18:=hww.symm
 subst hww
 refine hK.out _ _ (⟨HW.out.ps.cell1,HW.out.two⟩) (fun hHd=>?_)
 clear hK K
 try simp only [qq]
 refine tq 6 ?_ (hy:=by (intro w hSw;have hlk:=hSw.2.look (tx ts) HSz.out;rw [H2.out] at hlk;clear hSw;go_simp)<;>with_reducible rfl)
 simp only [qq]
 refine tq 7 ?_
 simp only [qq]
 refine tq 8 ?_
 simp only [qq]
 refine tq 9 ?_
 simp only [qq]
 refine rq 11 fun K hK=>?_
 have hc19:=HW.out.c0
 have hf20:=HW.out.f0
 replace HW:=ħ (HW.out.r00 (.int .i64 0))
 replace HW:=ħ (HW.out.r01 (.int .i64 0))
 go_simp
 refine hK.out _ _ (⟨HW.out.ps.cell1,HW.out.two⟩) (fun hHd=>?_)
 clear hK K
 try simp only [qq]
 generalize (w17.setCell _ _).setCell _ _=w21 at *
 clear hc19 hf20
 refine tq 12 ?_
 simp only [qq]
 refine wpAnyH_done (by kernel_rfl) ?_ _
 go_wp2_with fail
 go_at_call 91
 refine (text_any HW.out.ps).mono ?_
 rintro e w22 ⟨rfl,hww⟩
 replace hww:w21=w22:=hww.symm
 subst hww
 go_wp2_with fail
 go_at_call 92
 refine (pass_tx HW.out.ps (by decide) HQx.out).mono ?_
 rintro e w23 ⟨rfl,hP23,hG23⟩
 have HL:Hid (ts.tail.length<ts.length):=Nat.lt_of_lt_of_le (tail_lt (by decide) HQx.out) HS.out.length_le
 replace HW:=ħ (HW.out.call hG23 hP23)
 replace HS:=ħ ((List.tail_suffix _).trans HS.out)
 clear hP23 hG23
 go_wp2_with fail
 go_at_call 93
 refine (HW.out.nm HS.out HF.out).mono ?_
 rintro e w24 (⟨HQ_s,rfl,HL,hS,hW,hG⟩|⟨hn,rfl,h1⟩)
 rotate_left
 ·exact ⟨rfl,h1,_,HS.out,Or.inr ⟨by rw [tk_tail];exact r_fi_amp0 HQ_sAMP.out (by rw [← tk_tail];exact hn),rfl⟩⟩
 replace HW:=hW
 replace HS:=hS
 clear hG
 have HN_z:Hid (NdV w24 (Av w.heap.size [(w2.heap.size,#[.int .i64 0,.int .i64 0],52),(w.heap.size,#[.int .i64 0,.string ⟨#[]⟩,.int .i64 0,.slice none 0 0],24)]) (.mk 26 (hd (tk ts.tail)) 0 []) (.agg #[.int .i64 26,.string (str (hd (tk ts.tail))),.int .i64 0,.slice none 0 0])):=NdV.bare 26 (hd (tk ts.tail)) 0 none 0
 have HZ_z:=zz w
 have hc25:=HW.out.c0
 have hc26:=HW.out.c1
 have hf27:=HW.out.f1
 replace HW:=ħ (HW.out.s1 (.int .i64 26) (.string (str (hd (tk ts.tail)))) (.int .i64 0) (.slice none 0 0))
 replace HN_z:=HW.out.ms1.N HN_z
 go_wp2_with fail
 generalize (((w24.setCell _ _).setCell _ _).setCell _ _).setCell _ _=w30 at *
 refine bodyPost_ret (rt rfl rfl HW.out.b1) rfl ?_
 exact HW.out.post HS.out (by simp only [tk_tail];exact r_fi_amp HQ_sAMP.out (by rw [← tk_tail];exact HQ_s.out)) HL.out HZ_z.out HN_z.out
theorem first_count (h:Ps w b g m ts) (hT:Two w b m) (hGl:Og w) (hb5:4<b) (hgl:g<w.heap.size) (hF:Fits ts) (hlen:ts.length≤4000) (hq_i:¬ tx ts=str sINT) (hq_l:¬ tx ts=str sLONG) (hq_sLP:¬ tx ts=str sLP) (hq_sAMP:¬ tx ts=str sAMP) (hq_sCOUNT:tx ts=str sCOUNT) (hE:Later 143 .expr b g m ts):Calls Tryz.prog 176 #[.pointer (some ⟨b,0,none⟩)] w (PostN .first w b g m ts):=by
 have HW:Hid (Wd w w b g m ts []):=Wd.start h hT hGl hb5 hgl
 have HS:=su ts
 have HF:=ħ hF
 have HLn:=ħ hlen
 have HE:=hide hE
 have HSz:Hid ((tx ts).size≤4000):=tx_short hF
 have H2:Hid (twoOf (tx ts)=(0,0,false)):=by show twoOf (tx ts)=_;unfold twoOf;rw [if_neg hq_i,if_neg hq_l]
 have hc_sLP:((tx ts).toList == ([40]:List UInt8))=false:=by rw [cmp_str];exact decide_eq_false hq_sLP
 have hc_sAMP:((tx ts).toList == ([38]:List UInt8))=false:=by rw [cmp_str];exact decide_eq_false hq_sAMP
 have hc_sCOUNT:((tx ts).toList == ([99,111,117,110,116]:List UInt8))=true:=by rw [cmp_str];exact decide_eq_true hq_sCOUNT
 have HQ_sLP:Hid (¬ hd (tk ts)=sLP):=fun e=>hq_sLP ((tx_hd hF sLP (⟨_,_,rfl,by decide⟩)).2 e)
 have HQ_sAMP:Hid (¬ hd (tk ts)=sAMP):=fun e=>hq_sAMP ((tx_hd hF sAMP (⟨_,_,rfl,by decide⟩)).2 e)
 have HQ_sCOUNT:Hid (hd (tk ts)=sCOUNT):=(tx_hd hF sCOUNT (⟨_,_,rfl,by decide⟩)).1 hq_sCOUNT
 have HQ_i:Hid (¬ hd (tk ts)=sINT):=fun e=>hq_i ((tx_hd hF sINT (⟨_,_,rfl,by decide⟩)).2 e)
 have HQ_l:Hid (¬ hd (tk ts)=sLONG):=fun e=>hq_l ((tx_hd hF sLONG (⟨_,_,rfl,by decide⟩)).2 e)
 have HQx:=hide hq_sCOUNT
 clear hq_i hq_l hq_sLP hq_sAMP hq_sCOUNT
 clear hE
 clear h hT hGl hgl hF hlen
 go_enter Tryz.func176,Tryz.ntmps176
 replace HW:=HW.out.az
 go_wp2_with fail
 generalize w.alloc _=w1 at *
 replace HW:=ħ (HW.out.quiet (grown_drew w1))
 refine wp_region_held_drew (S:=(fun w'=>w'.cell? ⟨b,1,none⟩=some m∧Two w' b m)) (by kernel_rfl) (⟨HW.out.ps.cell1,HW.out.two⟩) (fun hHd=>?_)
 generalize w1.drew=w2 at *
 refine tq 0 ?_
 simp only [qq]
 refine tq 1 ?_
 simp only [qq]
 refine tq 2 ?_
 simp only [qq]
 refine tq 3 ?_ (hy:=by (intro w hSw;obtain ⟨hs1,hs2⟩:=hSw;go_simp)<;>with_reducible rfl)
 simp only [qq]
 refine tq 4 ?_
 simp only [qq]
 refine rq2 5 10 (fun K hK=>?_) fun K hK=>?_
 ·go_simp
  refine (text_any HW.out.ps).mono ?_
  rintro e w3 ⟨rfl,hww⟩
  replace hww:w2=w3:=hww.symm
  subst hww
  refine hK.out _ _ (⟨HW.out.ps.cell1,HW.out.two⟩) (fun hHd=>?_)
  clear hK K
  try simp only [qq]
  refine tq 6 ?_ (hy:=by (intro w hSw;have hlk:=hSw.2.look (tx ts) HSz.out;rw [H2.out] at hlk;clear hSw;go_simp)<;>with_reducible rfl)
  simp only [qq]
  refine tq 7 ?_
  simp only [qq]
  refine tq 8 ?_
  simp only [qq]
  refine tq 9 ?_
  simp only [qq]
  refine rq 10 fun K hK=>?_
  replace HW:=ħ (HW.out.alloc' w2.heap.size (by simp) #[.int .i64 0,.int .i64 0] 52)
  go_simp
  refine hK.out _ _ (⟨HW.out.ps.cell1,HW.out.two⟩) (fun hHd=>?_)
  clear hK K
  try simp only [qq]
  generalize w2.alloc _=w4 at *
  refine rq 11 fun K hK=>?_
  have hc5:=HW.out.c0
  have hf6:=HW.out.f0
  replace HW:=ħ (HW.out.r00 (.int .i64 0))
  replace HW:=ħ (HW.out.r01 (.int .i64 0))
  go_simp
  refine hK.out _ _ (⟨HW.out.ps.cell1,HW.out.two⟩) (fun hHd=>?_)
  clear hK K
  try simp only [qq]
  generalize (w4.setCell _ _).setCell _ _=w7 at *
  clear hc5 hf6
  refine tq 12 ?_
  simp only [qq]
  refine wpAnyH_done (by kernel_rfl) ?_ _
  go_wp2_with fail
  go_at_call 91
  refine (text_any HW.out.ps).mono ?_
  rintro e w8 ⟨rfl,hww⟩
  replace hww:w7=w8:=hww.symm
  subst hww
  go_wp2_with fail
  go_at_call 92
  refine (pass_tx HW.out.ps (by decide) HQx.out).mono ?_
  rintro e w9 ⟨rfl,hP9,hG9⟩
  have HL:Hid (ts.tail.length<ts.length):=Nat.lt_of_lt_of_le (tail_lt (by decide) HQx.out) HS.out.length_le
  replace HW:=ħ (HW.out.call hG9 hP9)
  replace HS:=ħ ((List.tail_suffix _).trans HS.out)
  clear hP9 hG9
  have HN_z:Hid (NdV w9 (Av w.heap.size [(w2.heap.size,#[.int .i64 0,.int .i64 0],52),(w.heap.size,#[.int .i64 0,.string ⟨#[]⟩,.int .i64 0,.slice none 0 0],24)]) (.mk 33 [] 0 []) (.agg #[.int .i64 33,.string (str []),.int .i64 0,.slice none 0 0])):=NdV.bare 33 [] 0 none 0
  have HZ_z:=zz w
  have hc10:=HW.out.c0
  have hc11:=HW.out.c1
  have hf12:=HW.out.f1
  replace HW:=ħ (HW.out.s1 (.int .i64 33) (.string ⟨#[]⟩) (.int .i64 0) (.slice none 0 0))
  replace HN_z:=HW.out.ms1.N HN_z
  go_wp2_with fail
  generalize (((w9.setCell _ _).setCell _ _).setCell _ _).setCell _ _=w15 at *
  refine bodyPost_ret (rt rfl rfl HW.out.b1) rfl ?_
  exact HW.out.post HS.out (by rw [tk_tail];exact r_fi_count HQ_sCOUNT.out) HL.out HZ_z.out HN_z.out
 replace HW:=ħ (HW.out.alloc' w2.heap.size (by simp) #[.int .i64 0,.int .i64 0] 52)
 go_simp
 refine hK.out _ _ (⟨HW.out.ps.cell1,HW.out.two⟩) (fun hHd=>?_)
 clear hK K
 try simp only [qq]
 generalize w2.alloc _=w16 at *
 refine rq 5 fun K hK=>?_
 go_simp
 refine (text_any HW.out.ps).mono ?_
 rintro e w17 ⟨rfl,hww⟩
 replace hww:w16=w17:=hww.symm
 subst hww
 refine hK.out _ _ (⟨HW.out.ps.cell1,HW.out.two⟩) (fun hHd=>?_)
 clear hK K
 try simp only [qq]
 refine tq 6 ?_ (hy:=by (intro w hSw;have hlk:=hSw.2.look (tx ts) HSz.out;rw [H2.out] at hlk;clear hSw;go_simp)<;>with_reducible rfl)
 simp only [qq]
 refine tq 7 ?_
 simp only [qq]
 refine tq 8 ?_
 simp only [qq]
 refine tq 9 ?_
 simp only [qq]
 refine rq 11 fun K hK=>?_
 have hc18:=HW.out.c0
 have hf19:=HW.out.f0
 replace HW:=ħ (HW.out.r00 (.int .i64 0))
 replace HW:=ħ (HW.out.r01 (.int .i64 0))
 go_simp
 refine hK.out _ _ (⟨HW.out.ps.cell1,HW.out.two⟩) (fun hHd=>?_)
 clear hK K
 try simp only [qq]
 generalize (w16.setCell _ _).setCell _ _=w20 at *
 clear hc18 hf19
 refine tq 12 ?_
 simp only [qq]
 refine wpAnyH_done (by kernel_rfl) ?_ _
 go_wp2_with fail
 go_at_call 91
 refine (text_any HW.out.ps).mono ?_
 rintro e w21 ⟨rfl,hww⟩
 replace hww:w20=w21:=hww.symm
 subst hww
 go_wp2_with fail
 go_at_call 92
 refine (pass_tx HW.out.ps (by decide) HQx.out).mono ?_
 rintro e w22 ⟨rfl,hP22,hG22⟩
 have HL:Hid (ts.tail.length<ts.length):=Nat.lt_of_lt_of_le (tail_lt (by decide) HQx.out) HS.out.length_le
 replace HW:=ħ (HW.out.call hG22 hP22)
 replace HS:=ħ ((List.tail_suffix _).trans HS.out)
 clear hP22 hG22
 have HN_z:Hid (NdV w22 (Av w.heap.size [(w2.heap.size,#[.int .i64 0,.int .i64 0],52),(w.heap.size,#[.int .i64 0,.string ⟨#[]⟩,.int .i64 0,.slice none 0 0],24)]) (.mk 33 [] 0 []) (.agg #[.int .i64 33,.string (str []),.int .i64 0,.slice none 0 0])):=NdV.bare 33 [] 0 none 0
 have HZ_z:=zz w
 have hc23:=HW.out.c0
 have hc24:=HW.out.c1
 have hf25:=HW.out.f1
 replace HW:=ħ (HW.out.s1 (.int .i64 33) (.string ⟨#[]⟩) (.int .i64 0) (.slice none 0 0))
 replace HN_z:=HW.out.ms1.N HN_z
 go_wp2_with fail
 generalize (((w22.setCell _ _).setCell _ _).setCell _ _).setCell _ _=w28 at *
 refine bodyPost_ret (rt rfl rfl HW.out.b1) rfl ?_
 exact HW.out.post HS.out (by rw [tk_tail];exact r_fi_count HQ_sCOUNT.out) HL.out HZ_z.out HN_z.out
theorem first_extra (h:Ps w b g m ts) (hT:Two w b m) (hGl:Og w) (hb5:4<b) (hgl:g<w.heap.size) (hF:Fits ts) (hlen:ts.length≤4000) (hq_i:¬ tx ts=str sINT) (hq_l:¬ tx ts=str sLONG) (hq_sLP:¬ tx ts=str sLP) (hq_sAMP:¬ tx ts=str sAMP) (hq_sCOUNT:¬ tx ts=str sCOUNT) (hq_sEXTRA:tx ts=str sEXTRA) (hE:Later 143 .expr b g m ts):Calls Tryz.prog 176 #[.pointer (some ⟨b,0,none⟩)] w (PostN .first w b g m ts):=by
 have HW:Hid (Wd w w b g m ts []):=Wd.start h hT hGl hb5 hgl
 have HS:=su ts
 have HF:=ħ hF
 have HLn:=ħ hlen
 have HE:=hide hE
 have HSz:Hid ((tx ts).size≤4000):=tx_short hF
 have H2:Hid (twoOf (tx ts)=(0,0,false)):=by show twoOf (tx ts)=_;unfold twoOf;rw [if_neg hq_i,if_neg hq_l]
 have hc_sLP:((tx ts).toList == ([40]:List UInt8))=false:=by rw [cmp_str];exact decide_eq_false hq_sLP
 have hc_sAMP:((tx ts).toList == ([38]:List UInt8))=false:=by rw [cmp_str];exact decide_eq_false hq_sAMP
 have hc_sCOUNT:((tx ts).toList == ([99,111,117,110,116]:List UInt8))=false:=by rw [cmp_str];exact decide_eq_false hq_sCOUNT
 have hc_sEXTRA:((tx ts).toList == ([101,120,116,114,97]:List UInt8))=true:=by rw [cmp_str];exact decide_eq_true hq_sEXTRA
 have HQ_sLP:Hid (¬ hd (tk ts)=sLP):=fun e=>hq_sLP ((tx_hd hF sLP (⟨_,_,rfl,by decide⟩)).2 e)
 have HQ_sAMP:Hid (¬ hd (tk ts)=sAMP):=fun e=>hq_sAMP ((tx_hd hF sAMP (⟨_,_,rfl,by decide⟩)).2 e)
 have HQ_sCOUNT:Hid (¬ hd (tk ts)=sCOUNT):=fun e=>hq_sCOUNT ((tx_hd hF sCOUNT (⟨_,_,rfl,by decide⟩)).2 e)
 have HQ_sEXTRA:Hid (hd (tk ts)=sEXTRA):=(tx_hd hF sEXTRA (⟨_,_,rfl,by decide⟩)).1 hq_sEXTRA
 have HQ_i:Hid (¬ hd (tk ts)=sINT):=fun e=>hq_i ((tx_hd hF sINT (⟨_,_,rfl,by decide⟩)).2 e)
 have HQ_l:Hid (¬ hd (tk ts)=sLONG):=fun e=>hq_l ((tx_hd hF sLONG (⟨_,_,rfl,by decide⟩)).2 e)
 have HQx:=hide hq_sEXTRA
 clear hq_i hq_l hq_sLP hq_sAMP hq_sCOUNT hq_sEXTRA
 clear hE
 clear h hT hGl hgl hF hlen
 go_enter Tryz.func176,Tryz.ntmps176
 replace HW:=HW.out.az
 go_wp2_with fail
 generalize w.alloc _=w1 at *
 replace HW:=ħ (HW.out.quiet (grown_drew w1))
 refine wp_region_held_drew (S:=(fun w'=>w'.cell? ⟨b,1,none⟩=some m∧Two w' b m)) (by kernel_rfl) (⟨HW.out.ps.cell1,HW.out.two⟩) (fun hHd=>?_)
 generalize w1.drew=w2 at *
 refine tq 0 ?_
 simp only [qq]
 refine tq 1 ?_
 simp only [qq]
 refine tq 2 ?_
 simp only [qq]
 refine tq 3 ?_ (hy:=by (intro w hSw;obtain ⟨hs1,hs2⟩:=hSw;go_simp)<;>with_reducible rfl)
 simp only [qq]
 refine tq 4 ?_
 simp only [qq]
 refine rq2 5 10 (fun K hK=>?_) fun K hK=>?_
 ·go_simp
  refine (text_any HW.out.ps).mono ?_
  rintro e w3 ⟨rfl,hww⟩
  replace hww:w2=w3:=hww.symm
  subst hww
  refine hK.out _ _ (⟨HW.out.ps.cell1,HW.out.two⟩) (fun hHd=>?_)
  clear hK K
  try simp only [qq]
  refine tq 6 ?_ (hy:=by (intro w hSw;have hlk:=hSw.2.look (tx ts) HSz.out;rw [H2.out] at hlk;clear hSw;go_simp)<;>with_reducible rfl)
  simp only [qq]
  refine tq 7 ?_
  simp only [qq]
  refine tq 8 ?_
  simp only [qq]
  refine tq 9 ?_
  simp only [qq]
  refine rq 10 fun K hK=>?_
  replace HW:=ħ (HW.out.alloc' w2.heap.size (by simp) #[.int .i64 0,.int .i64 0] 52)
  go_simp
  refine hK.out _ _ (⟨HW.out.ps.cell1,HW.out.two⟩) (fun hHd=>?_)
  clear hK K
  try simp only [qq]
  generalize w2.alloc _=w4 at *
  refine rq 11 fun K hK=>?_
  have hc5:=HW.out.c0
  have hf6:=HW.out.f0
  replace HW:=ħ (HW.out.r00 (.int .i64 0))
  replace HW:=ħ (HW.out.r01 (.int .i64 0))
  go_simp
  refine hK.out _ _ (⟨HW.out.ps.cell1,HW.out.two⟩) (fun hHd=>?_)
  clear hK K
  try simp only [qq]
  generalize (w4.setCell _ _).setCell _ _=w7 at *
  clear hc5 hf6
  refine tq 12 ?_
  simp only [qq]
  refine wpAnyH_done (by kernel_rfl) ?_ _
  go_wp2_with fail
  go_at_call 91
  refine (text_any HW.out.ps).mono ?_
  rintro e w8 ⟨rfl,hww⟩
  replace hww:w7=w8:=hww.symm
  subst hww
  replace HW:=ħ (HW.out.alloc' w7.heap.size (by simp) #[.string ⟨#[101,120,116,114,97]⟩] 9)
  go_wp2_with fail
  generalize w7.alloc _=w9 at *
  go_at_call 141
  refine (inside1 HW.out (by decide) HQx.out (HF.out.suf HS.out) (Nat.le_trans HS.out.length_le HLn.out) (HE.out.suf HS.out)).mono ?_
  rintro e w10 ⟨hG10,r10,hsu,⟨n_x,vv,hlt,hR,rfl,hN,hP10⟩|⟨hR,rfl⟩⟩
  rotate_left
  ·exact ⟨rfl,grown_trans HW.out.grown hG10,_,(hsu.trans (List.tail_suffix _)).trans HS.out,Or.inr ⟨r_fi_extra0 HQ_sEXTRA.out (by rw [← tk_tail];exact hR),rfl⟩⟩
  obtain ⟨k_x,t_x,v_x,a_x,l_x,c_x,rfl⟩:=hN.form
  have HR_x:=hide hR
  have HN_x:=ħ (hN.given HW.out)
  have HZ_x:Hid (w.heap.size≤w9.heap.size):=HW.out.grown.size
  have HL:Hid (r10.length<ts.length):=Nat.lt_of_lt_of_le hlt (Nat.le_trans (List.tail_suffix _).length_le HS.out.length_le)
  replace HW:=ħ (HW.out.call hG10 hP10)
  replace HS:=ħ ((hsu.trans (List.tail_suffix _)).trans HS.out)
  clear hP10 hG10 hR hN hsu hlt
  replace HW:=HW.out.an HN_x
  replace HN_x:=HW.out.nA HN_x
  go_wp2_with fail
  generalize w10.alloc _=w11 at *
  go_at_call 140
  refine (node_any 34 (some ⟨w10.heap.size,0,none⟩) 1 1 w11).mono ?_
  rintro e w12 ⟨rfl,hG12⟩
  replace HN_x:=(Mv.quiet hG12).N HN_x
  replace HW:=ħ (HW.out.quiet hG12)
  clear hG12
  have HM_a:=ħ (RowN.o0 HW.out (HN_x.out.less HZ_x.out))
  have HZ_a:=zz w
  clear HN_x HZ_x
  replace HW:=hide HW.out.d0
  have HN_z:=ħ (HM_a.out.node 34 [] 0)
  have HZ_z:=HZ_a
  clear HM_a HZ_a
  have hc13:=HW.out.c0
  have hc14:=HW.out.c1
  have hc15:=HW.out.c2
  have hf16:=HW.out.f2
  replace HW:=ħ (HW.out.s2 (.int .i64 34) (.string ⟨#[]⟩) (.int .i64 0) ((.slice (some ⟨w10.heap.size,0,none⟩) 1 1)))
  replace HN_z:=HW.out.ms2.N HN_z
  go_wp2_with fail
  generalize (((w12.setCell _ _).setCell _ _).setCell _ _).setCell _ _=w19 at *
  refine bodyPost_ret (rt rfl rfl HW.out.b2) rfl ?_
  exact HW.out.post HS.out (r_fi_extra HQ_sEXTRA.out (by rw [← tk_tail];exact HR_x.out)) HL.out HZ_z.out HN_z.out
 replace HW:=ħ (HW.out.alloc' w2.heap.size (by simp) #[.int .i64 0,.int .i64 0] 52)
 go_simp
 refine hK.out _ _ (⟨HW.out.ps.cell1,HW.out.two⟩) (fun hHd=>?_)
 clear hK K
 try simp only [qq]
 generalize w2.alloc _=w20 at *
 refine rq 5 fun K hK=>?_
 go_simp
 refine (text_any HW.out.ps).mono ?_
 rintro e w21 ⟨rfl,hww⟩
 replace hww:w20=w21:=hww.symm
 subst hww
 refine hK.out _ _ (⟨HW.out.ps.cell1,HW.out.two⟩) (fun hHd=>?_)
 clear hK K
 try simp only [qq]
 refine tq 6 ?_ (hy:=by (intro w hSw;have hlk:=hSw.2.look (tx ts) HSz.out;rw [H2.out] at hlk;clear hSw;go_simp)<;>with_reducible rfl)
 simp only [qq]
 refine tq 7 ?_
 simp only [qq]
 refine tq 8 ?_
 simp only [qq]
 refine tq 9 ?_
 simp only [qq]
 refine rq 11 fun K hK=>?_
 have hc22:=HW.out.c0
 have hf23:=HW.out.f0
 replace HW:=ħ (HW.out.r00 (.int .i64 0))
 replace HW:=ħ (HW.out.r01 (.int .i64 0))
 go_simp
 refine hK.out _ _ (⟨HW.out.ps.cell1,HW.out.two⟩) (fun hHd=>?_)
 clear hK K
 try simp only [qq]
 generalize (w20.setCell _ _).setCell _ _=w24 at *
 clear hc22 hf23
 refine tq 12 ?_
 simp only [qq]
 refine wpAnyH_done (by kernel_rfl) ?_ _
 go_wp2_with fail
 go_at_call 91
 refine (text_any HW.out.ps).mono ?_
 rintro e w25 ⟨rfl,hww⟩
 replace hww:w24=w25:=hww.symm
 subst hww
 replace HW:=ħ (HW.out.alloc' w24.heap.size (by simp) #[.string ⟨#[101,120,116,114,97]⟩] 9)
 go_wp2_with fail
 generalize w24.alloc _=w26 at *
 go_at_call 141
 refine (inside1 HW.out (by decide) HQx.out (HF.out.suf HS.out) (Nat.le_trans HS.out.length_le HLn.out) (HE.out.suf HS.out)).mono ?_
 rintro e w27 ⟨hG27,r27,hsu,⟨n_x,vv,hlt,hR,rfl,hN,hP27⟩|⟨hR,rfl⟩⟩
 rotate_left
 ·exact ⟨rfl,grown_trans HW.out.grown hG27,_,(hsu.trans (List.tail_suffix _)).trans HS.out,Or.inr ⟨r_fi_extra0 HQ_sEXTRA.out (by rw [← tk_tail];exact hR),rfl⟩⟩
 obtain ⟨k_x,t_x,v_x,a_x,l_x,c_x,rfl⟩:=hN.form
 have HR_x:=hide hR
 have HN_x:=ħ (hN.given HW.out)
 have HZ_x:Hid (w.heap.size≤w26.heap.size):=HW.out.grown.size
 have HL:Hid (r27.length<ts.length):=Nat.lt_of_lt_of_le hlt (Nat.le_trans (List.tail_suffix _).length_le HS.out.length_le)
 replace HW:=ħ (HW.out.call hG27 hP27)
 replace HS:=ħ ((hsu.trans (List.tail_suffix _)).trans HS.out)
 clear hP27 hG27 hR hN hsu hlt
 replace HW:=HW.out.an HN_x
 replace HN_x:=HW.out.nA HN_x
 go_wp2_with fail
 generalize w27.alloc _=w28 at *
 go_at_call 140
 refine (node_any 34 (some ⟨w27.heap.size,0,none⟩) 1 1 w28).mono ?_
 rintro e w29 ⟨rfl,hG29⟩
 replace HN_x:=(Mv.quiet hG29).N HN_x
 replace HW:=ħ (HW.out.quiet hG29)
 clear hG29
 have HM_a:=ħ (RowN.o0 HW.out (HN_x.out.less HZ_x.out))
 have HZ_a:=zz w
 clear HN_x HZ_x
 replace HW:=hide HW.out.d0
 have HN_z:=ħ (HM_a.out.node 34 [] 0)
 have HZ_z:=HZ_a
 clear HM_a HZ_a
 have hc30:=HW.out.c0
 have hc31:=HW.out.c1
 have hc32:=HW.out.c2
 have hf33:=HW.out.f2
 replace HW:=ħ (HW.out.s2 (.int .i64 34) (.string ⟨#[]⟩) (.int .i64 0) ((.slice (some ⟨w27.heap.size,0,none⟩) 1 1)))
 replace HN_z:=HW.out.ms2.N HN_z
 go_wp2_with fail
 generalize (((w29.setCell _ _).setCell _ _).setCell _ _).setCell _ _=w36 at *
 refine bodyPost_ret (rt rfl rfl HW.out.b2) rfl ?_
 exact HW.out.post HS.out (r_fi_extra HQ_sEXTRA.out (by rw [← tk_tail];exact HR_x.out)) HL.out HZ_z.out HN_z.out
theorem first_num (h:Ps w b g m ts) (hT:Two w b m) (hGl:Og w) (hb5:4<b) (hgl:g<w.heap.size) (hF:Fits ts) (hlen:ts.length≤4000) (hq_i:¬ tx ts=str sINT) (hq_l:¬ tx ts=str sLONG) (hq_sLP:¬ tx ts=str sLP) (hq_sAMP:¬ tx ts=str sAMP) (hq_sCOUNT:¬ tx ts=str sCOUNT) (hq_sEXTRA:¬ tx ts=str sEXTRA) (hn0:nmAt ts 0=false) (hE:Later 143 .expr b g m ts):Calls Tryz.prog 176 #[.pointer (some ⟨b,0,none⟩)] w (PostN .first w b g m ts):=by
 have HW:Hid (Wd w w b g m ts []):=Wd.start h hT hGl hb5 hgl
 have HS:=su ts
 have HF:=ħ hF
 have HLn:=ħ hlen
 have HE:=hide hE
 have HSz:Hid ((tx ts).size≤4000):=tx_short hF
 have H2:Hid (twoOf (tx ts)=(0,0,false)):=by show twoOf (tx ts)=_;unfold twoOf;rw [if_neg hq_i,if_neg hq_l]
 have hc_sLP:((tx ts).toList == ([40]:List UInt8))=false:=by rw [cmp_str];exact decide_eq_false hq_sLP
 have hc_sAMP:((tx ts).toList == ([38]:List UInt8))=false:=by rw [cmp_str];exact decide_eq_false hq_sAMP
 have hc_sCOUNT:((tx ts).toList == ([99,111,117,110,116]:List UInt8))=false:=by rw [cmp_str];exact decide_eq_false hq_sCOUNT
 have hc_sEXTRA:((tx ts).toList == ([101,120,116,114,97]:List UInt8))=false:=by rw [cmp_str];exact decide_eq_false hq_sEXTRA
 have HQ_sLP:Hid (¬ hd (tk ts)=sLP):=fun e=>hq_sLP ((tx_hd hF sLP (⟨_,_,rfl,by decide⟩)).2 e)
 have HQ_sAMP:Hid (¬ hd (tk ts)=sAMP):=fun e=>hq_sAMP ((tx_hd hF sAMP (⟨_,_,rfl,by decide⟩)).2 e)
 have HQ_sCOUNT:Hid (¬ hd (tk ts)=sCOUNT):=fun e=>hq_sCOUNT ((tx_hd hF sCOUNT (⟨_,_,rfl,by decide⟩)).2 e)
 have HQ_sEXTRA:Hid (¬ hd (tk ts)=sEXTRA):=fun e=>hq_sEXTRA ((tx_hd hF sEXTRA (⟨_,_,rfl,by decide⟩)).2 e)
 have HQ_i:Hid (¬ hd (tk ts)=sINT):=fun e=>hq_i ((tx_hd hF sINT (⟨_,_,rfl,by decide⟩)).2 e)
 have HQ_l:Hid (¬ hd (tk ts)=sLONG):=fun e=>hq_l ((tx_hd hF sLONG (⟨_,_,rfl,by decide⟩)).2 e)
 have HNm:=hide hn0
 have HNb:Hid (nameB (hd (tk ts))=false):=(nm_hd hF).symm.trans hn0
 clear hn0
 clear hq_i hq_l hq_sLP hq_sAMP hq_sCOUNT hq_sEXTRA
 clear hE
 clear h hT hGl hgl hF hlen
 go_enter Tryz.func176,Tryz.ntmps176
 replace HW:=HW.out.az
 go_wp2_with fail
 generalize w.alloc _=w1 at *
 replace HW:=ħ (HW.out.quiet (grown_drew w1))
 refine wp_region_held_drew (S:=(fun w'=>w'.cell? ⟨b,1,none⟩=some m∧Two w' b m)) (by kernel_rfl) (⟨HW.out.ps.cell1,HW.out.two⟩) (fun hHd=>?_)
 generalize w1.drew=w2 at *
 refine tq 0 ?_
 simp only [qq]
 refine tq 1 ?_
 simp only [qq]
 refine tq 2 ?_
 simp only [qq]
 refine tq 3 ?_ (hy:=by (intro w hSw;obtain ⟨hs1,hs2⟩:=hSw;go_simp)<;>with_reducible rfl)
 simp only [qq]
 refine tq 4 ?_
 simp only [qq]
 refine rq2 5 10 (fun K hK=>?_) fun K hK=>?_
 ·go_simp
  refine (text_any HW.out.ps).mono ?_
  rintro e w3 ⟨rfl,hww⟩
  replace hww:w2=w3:=hww.symm
  subst hww
  refine hK.out _ _ (⟨HW.out.ps.cell1,HW.out.two⟩) (fun hHd=>?_)
  clear hK K
  try simp only [qq]
  refine tq 6 ?_ (hy:=by (intro w hSw;have hlk:=hSw.2.look (tx ts) HSz.out;rw [H2.out] at hlk;clear hSw;go_simp)<;>with_reducible rfl)
  simp only [qq]
  refine tq 7 ?_
  simp only [qq]
  refine tq 8 ?_
  simp only [qq]
  refine tq 9 ?_
  simp only [qq]
  refine rq 10 fun K hK=>?_
  replace HW:=ħ (HW.out.alloc' w2.heap.size (by simp) #[.int .i64 0,.int .i64 0] 52)
  go_simp
  refine hK.out _ _ (⟨HW.out.ps.cell1,HW.out.two⟩) (fun hHd=>?_)
  clear hK K
  try simp only [qq]
  generalize w2.alloc _=w4 at *
  refine rq 11 fun K hK=>?_
  have hc5:=HW.out.c0
  have hf6:=HW.out.f0
  replace HW:=ħ (HW.out.r00 (.int .i64 0))
  replace HW:=ħ (HW.out.r01 (.int .i64 0))
  go_simp
  refine hK.out _ _ (⟨HW.out.ps.cell1,HW.out.two⟩) (fun hHd=>?_)
  clear hK K
  try simp only [qq]
  generalize (w4.setCell _ _).setCell _ _=w7 at *
  clear hc5 hf6
  refine tq 12 ?_
  simp only [qq]
  refine wpAnyH_done (by kernel_rfl) ?_ _
  go_wp2_with fail
  go_at_call 91
  refine (text_any HW.out.ps).mono ?_
  rintro e w8 ⟨rfl,hww⟩
  replace hww:w7=w8:=hww.symm
  subst hww
  go_wp2_with fail
  go_at_call 119
  refine (isName_any HW.out.ps (HF.out.suf HS.out).short 0 (by omega)).mono ?_
  rw [HNm.out]
  rintro e w9 ⟨rfl,hww⟩
  replace hww:w7=w9:=hww.symm
  subst hww
  go_wp2_with fail
  go_at_call 124
  refine (number_any HW.out.ps (HF.out.suf HS.out)).mono ?_
  rintro e w10 ⟨hG10,⟨kk,x,hnum,rfl,hP10⟩|⟨hnum,rfl⟩⟩
  rotate_left
  ·exact ⟨rfl,grown_trans HW.out.grown hG10,_,HS.out,Or.inr ⟨r_fi_num HQ_sLP.out HQ_sAMP.out HQ_sCOUNT.out HQ_i.out HQ_l.out HQ_sEXTRA.out HNb.out hnum,rfl⟩⟩
  have HNum:=hide hnum
  have HL:Hid (ts.tail.length<ts.length):=number_lt hnum
  replace HW:=ħ (HW.out.call hG10 hP10)
  replace HS:=ħ ((List.tail_suffix _).trans HS.out)
  clear hP10 hG10 hnum
  have HN_z:Hid (NdV w10 (Av w.heap.size [(w2.heap.size,#[.int .i64 0,.int .i64 0],52),(w.heap.size,#[.int .i64 0,.string ⟨#[]⟩,.int .i64 0,.slice none 0 0],24)]) (.mk kk [] x []) (.agg #[.int .i64 kk,.string (str []),.int .i64 x,.slice none 0 0])):=NdV.bare kk [] x none 0
  have HZ_z:=zz w
  have hc11:=HW.out.c0
  have hc12:=HW.out.c1
  have hf13:=HW.out.f1
  replace HW:=ħ (HW.out.s1 (.int .i64 kk) (.string ⟨#[]⟩) (.int .i64 x) (.slice none 0 0))
  replace HN_z:=HW.out.ms1.N HN_z
  go_wp2_with fail
  generalize (((w10.setCell _ _).setCell _ _).setCell _ _).setCell _ _=w16 at *
  refine bodyPost_ret (rt rfl rfl HW.out.b1) rfl ?_
  exact HW.out.post HS.out (r_fi_num HQ_sLP.out HQ_sAMP.out HQ_sCOUNT.out HQ_i.out HQ_l.out HQ_sEXTRA.out HNb.out HNum.out) HL.out HZ_z.out HN_z.out
 replace HW:=ħ (HW.out.alloc' w2.heap.size (by simp) #[.int .i64 0,.int .i64 0] 52)
 go_simp
 refine hK.out _ _ (⟨HW.out.ps.cell1,HW.out.two⟩) (fun hHd=>?_)
 clear hK K
 try simp only [qq]
 generalize w2.alloc _=w17 at *
 refine rq 5 fun K hK=>?_
 go_simp
 refine (text_any HW.out.ps).mono ?_
 rintro e w18 ⟨rfl,hww⟩
 replace hww:w17=w18:=hww.symm
 subst hww
 refine hK.out _ _ (⟨HW.out.ps.cell1,HW.out.two⟩) (fun hHd=>?_)
 clear hK K
 try simp only [qq]
 refine tq 6 ?_ (hy:=by (intro w hSw;have hlk:=hSw.2.look (tx ts) HSz.out;rw [H2.out] at hlk;clear hSw;go_simp)<;>with_reducible rfl)
 simp only [qq]
 refine tq 7 ?_
 simp only [qq]
 refine tq 8 ?_
 simp only [qq]
 refine tq 9 ?_
 simp only [qq]
 refine rq 11 fun K hK=>?_
 have hc19:=HW.out.c0
 have hf20:=HW.out.f0
 replace HW:=ħ (HW.out.r00 (.int .i64 0))
 replace HW:=ħ (HW.out.r01 (.int .i64 0))
 go_simp
 refine hK.out _ _ (⟨HW.out.ps.cell1,HW.out.two⟩) (fun hHd=>?_)
 clear hK K
 try simp only [qq]
 generalize (w17.setCell _ _).setCell _ _=w21 at *
 clear hc19 hf20
 refine tq 12 ?_
 simp only [qq]
 refine wpAnyH_done (by kernel_rfl) ?_ _
 go_wp2_with fail
 go_at_call 91
 refine (text_any HW.out.ps).mono ?_
 rintro e w22 ⟨rfl,hww⟩
 replace hww:w21=w22:=hww.symm
 subst hww
 go_wp2_with fail
 go_at_call 119
 refine (isName_any HW.out.ps (HF.out.suf HS.out).short 0 (by omega)).mono ?_
 rw [HNm.out]
 rintro e w23 ⟨rfl,hww⟩
 replace hww:w21=w23:=hww.symm
 subst hww
 go_wp2_with fail
 go_at_call 124
 refine (number_any HW.out.ps (HF.out.suf HS.out)).mono ?_
 rintro e w24 ⟨hG24,⟨kk,x,hnum,rfl,hP24⟩|⟨hnum,rfl⟩⟩
 rotate_left
 ·exact ⟨rfl,grown_trans HW.out.grown hG24,_,HS.out,Or.inr ⟨r_fi_num HQ_sLP.out HQ_sAMP.out HQ_sCOUNT.out HQ_i.out HQ_l.out HQ_sEXTRA.out HNb.out hnum,rfl⟩⟩
 have HNum:=hide hnum
 have HL:Hid (ts.tail.length<ts.length):=number_lt hnum
 replace HW:=ħ (HW.out.call hG24 hP24)
 replace HS:=ħ ((List.tail_suffix _).trans HS.out)
 clear hP24 hG24 hnum
 have HN_z:Hid (NdV w24 (Av w.heap.size [(w2.heap.size,#[.int .i64 0,.int .i64 0],52),(w.heap.size,#[.int .i64 0,.string ⟨#[]⟩,.int .i64 0,.slice none 0 0],24)]) (.mk kk [] x []) (.agg #[.int .i64 kk,.string (str []),.int .i64 x,.slice none 0 0])):=NdV.bare kk [] x none 0
 have HZ_z:=zz w
 have hc25:=HW.out.c0
 have hc26:=HW.out.c1
 have hf27:=HW.out.f1
 replace HW:=ħ (HW.out.s1 (.int .i64 kk) (.string ⟨#[]⟩) (.int .i64 x) (.slice none 0 0))
 replace HN_z:=HW.out.ms1.N HN_z
 go_wp2_with fail
 generalize (((w24.setCell _ _).setCell _ _).setCell _ _).setCell _ _=w30 at *
 refine bodyPost_ret (rt rfl rfl HW.out.b1) rfl ?_
 exact HW.out.post HS.out (r_fi_num HQ_sLP.out HQ_sAMP.out HQ_sCOUNT.out HQ_i.out HQ_l.out HQ_sEXTRA.out HNb.out HNum.out) HL.out HZ_z.out HN_z.out
end Go.Proofs.YthcfianhdkolhaaGreatDoor.Y
