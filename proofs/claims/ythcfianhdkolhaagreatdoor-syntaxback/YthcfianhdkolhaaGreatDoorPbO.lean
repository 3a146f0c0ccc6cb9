/- PbN PbO -/
import Derived.Test.YthcfianhdkolhaaGreatDoorShelf
import Derived.Test.YthcfianhdkolhaaGreatDoorPbM
namespace Go.Proofs.YthcfianhdkolhaaGreatDoor.Y
open Go.RowKit Go.Proofs.YthcfianhdkolhaaGreatDoor.X Go.Proofs.YthcfianhdkolhaaGreatDoor.T Go.Proofs.YthcfianhdkolhaaGreatDoor.S
set_option maxRecDepth 100000
set_option maxHeartbeats 2000000
set_option linter.unusedVariables false
set_option linter.unusedSimpArgs false
variable {w w' : World} {b g : Nat} {m : Value} {ts : List Tok} {t : Tok}
theorem setOrDo_any (h:Ps w b g m ts) (hT:Two w b m) (hGl:T.Gl w) (hb5:4<b) (hgl:g<w.heap.size) (hF:Fits ts) (hlen:ts.length≤4000):Calls Tryz.prog 144 #[.pointer (some ⟨b,0,none⟩)] w (PostS w b g m ts):=by
 have HW:Hid (Wd w w b g m ts []):=Wd.start h hT hGl hb5 hgl
 have HS:Hid (ts <:+ ts):=List.suffix_refl _
 have HF:Hid (Fits ts):=hF
 have HLn:Hid (ts.length≤4000):=hlen
 have HE:Hid (Later 143 .expr b g m ts):=expr_later hb5 ts
 clear h hT hGl hgl hF hlen
 go_enter Tryz.func144,Tryz.ntmps144
 replace HW:=hide (HW.out.alloc' w.heap.size (by simp) #[.int .i64 0,.string ⟨#[]⟩,.int .i64 0,.slice none 0 0] 24)
 go_wp2_with fail
 generalize w.alloc _=w1 at *
 go_at_call 93
 refine (HW.out.nm HS.out HF.out).mono ?_
 rintro e w2 (⟨HQ_s,rfl,HL,hS,hW,hG⟩|⟨hn,rfl,h1⟩)
 rotate_left
 ·exact ⟨rfl,h1,_,HS.out,Or.inr ⟨Or.inl ⟨hn,rfl⟩,rfl⟩⟩
 replace HW:=hW
 replace HS:=hS
 clear hG
 have HN_x:Hid (NdV w2 (Av w.heap.size [(w.heap.size,#[.int .i64 0,.string ⟨#[]⟩,.int .i64 0,.slice none 0 0],24)]) (.mk 23 (hd (tk ts)) 0 []) (.agg #[.int .i64 23,.string (str (hd (tk ts))),.int .i64 0,.slice none 0 0])):=NdV.bare 23 (hd (tk ts)) 0 none 0
 have HZ_x:Hid (w.heap.size≤w.heap.size):=Nat.le_refl _
 go_wp2_with fail
 go_at_call 156
 refine (behind_any HW.out (HF.out.suf HS.out) (Nat.le_trans HS.out.length_le HLn.out) (.mk 23 (hd (tk ts)) 0 []) _ _ _ _ _ _ (HN_x.out.less HZ_x.out) (HE.out.suf HS.out)).mono ?_
 rintro e w3 ⟨hG3,r3,hsu,⟨n_y,vv,hR,rfl,hN,hW3⟩|⟨hR,rfl⟩⟩
 rotate_left
 ·exact ⟨rfl,hG3,_,hsu.trans HS.out,Or.inr ⟨Or.inr ⟨HQ_s.out,by rw [← tk_tail];exact post_no (Ch.nm _) hR⟩,rfl⟩⟩
 obtain ⟨k_y,t_y,v_y,a_y,l_y,c_y,rfl⟩:=hN.form
 have HR_y:=hide hR
 have HN_y:=hide hN
 have HZ_y:Hid (w.heap.size≤w.heap.size):=Nat.le_refl _
 clear HN_x HZ_x
 replace HL:=hide (Nat.lt_of_le_of_lt hsu.length_le HL.out)
 replace HS:=hide (hsu.trans HS.out)
 replace HW:=hide (hW3)
 clear hR hN hsu hW3 hG3
 obtain ⟨c',hch,hd1,hd2,hsim⟩:=post_ok (Ch.nm _) HR_y.out
 have HCh:=hide hch
 have HD1:=hide hd1
 have HD2:=hide hd2
 have HSim:=hide hsim
 clear hch hd1 hd2 hsim
 replace HW:=hide (HW.out.alloc' w3.heap.size (by simp) #[.int .i64 k_y,.string t_y,.int .i64 v_y,.slice a_y l_y c_y] 24)
 replace HN_y:=hide ((HW.out.ma (by simp)).nd HN_y.out)
 have hc4:=HW.out.c0
 go_wp2_with fail
 generalize w3.alloc _=w5 at *
 clear hc4
 go_at_call 149
 refine (call_ch HN_y.out HCh.out).mono ?_
 rintro e w6 ⟨rfl,hG6⟩
 replace HN_y:=hide ((Mv.quiet hG6).nd HN_y.out)
 replace HW:=hide (HW.out.quiet hG6)
 clear hG6
 by_cases hk:kindN n_y=25
 ·have hct:=HCh.out.kind hk
  subst hct
  rw [decide_eq_true hk]
  have HK:=hide hk
  clear hk
  have hc7:=HW.out.c0
  replace HW:=hide (HW.out.alloc' w6.heap.size (by simp) #[.int .i64 k_y,.string t_y,.int .i64 v_y,.slice a_y l_y c_y] 24)
  replace HN_y:=hide ((HW.out.ma (by simp)).nd HN_y.out)
  have hc8:=HW.out.c0
  have hc9:=HW.out.c1
  go_wp2_with fail
  generalize w6.alloc _=w10 at *
  clear hc7 hc8 hc9
  go_at_call 140
  refine (node_any 20 (some ⟨w6.heap.size,0,none⟩) 1 1 w10).mono ?_
  rintro e w11 ⟨rfl,hG11⟩
  replace HN_y:=hide ((Mv.quiet hG11).nd HN_y.out)
  replace HW:=hide (HW.out.quiet hG11)
  clear hG11
  have HM_a:=hide (RowN.o0 HW.out (HN_y.out.less HZ_y.out))
  have HZ_a:Hid (w.heap.size≤w.heap.size):=Nat.le_refl _
  clear HN_y HZ_y
  replace HW:=hide HW.out.d0
  have HN_z:=hide (HM_a.out.node 20 [] 0)
  have HZ_z:=HZ_a
  clear HM_a HZ_a
  have hc12:=HW.out.c0
  have hc13:=HW.out.c1
  have hf14:=HW.out.f1
  replace HW:=hide (HW.out.s1 (.int .i64 20) (.string ⟨#[]⟩) (.int .i64 0) ((.slice (some ⟨w6.heap.size,0,none⟩) 1 1)))
  replace HN_z:=hide ((HW.out.ms1).nd HN_z.out)
  have hc15:=HW.out.c1
  have hl16:=HW.out.l1
  go_wp2_with fail
  generalize (((w11.setCell _ _).setCell _ _).setCell _ _).setCell _ _=w17 at *
  refine bodyPost_ret (v:=(.agg #[.int .i64 20,.string ⟨#[]⟩,.int .i64 0,(.slice (some ⟨w6.heap.size,0,none⟩) 1 1)])) (by simp [results,Tryz.results144,go_sem,hc15,hl16]) rfl ?_
  exact ⟨HW.out.grown,_,HS.out,Or.inl ⟨_,_,HL.out,⟨HQ_s.out,by rw [← tk_tail];exact HSim.out _ (r_sL_do HD1.out HD2.out HK.out)⟩,rfl,HN_z.out.mono (fun k hk _=>Nat.le_trans HZ_z.out hk.1),HW.out.ps⟩⟩
 ·rw [decide_eq_false hk]
  have HK:=hide hk
  clear hk
  have hc18:=HW.out.c0
  go_wp2_with fail
  clear hc18
  go_at_call 148
  refine (place_ch HN_y.out HCh.out).mono ?_
  rintro e w19 ⟨rfl,hG19⟩
  replace HN_y:=hide ((Mv.quiet hG19).nd HN_y.out)
  replace HW:=hide (HW.out.quiet hG19)
  clear hG19
  cases c' with
  | true=>
   go_wp2_with fail
   go_at_call 120
   refine (giveUp_any HW.out.ps).mono ?_
   rintro e w20 ⟨rfl,rfl⟩
   exact ⟨rfl,HW.out.grown,_,HS.out,Or.inr ⟨Or.inr ⟨HQ_s.out,by rw [← tk_tail];exact HSim.out _ (r_sL_no HD1.out HD2.out HK.out)⟩,rfl⟩⟩
  | false=>
   have HA:=hide (HW.out.ask1 HS.out HF.out (s:=sEQ) (⟨_,_,rfl,by decide⟩) (by decide) (q:=w19.heap.size) (by simp))
   go_wp2_with fail
   go_at_call 94
   refine HA.out.mono ?_
   clear HA
   rintro e w20 (⟨HQe,rfl,HL,hS,hW,hG⟩|⟨hq,rfl,h1⟩)
   rotate_left
   ·exact ⟨rfl,h1,_,HS.out,Or.inr ⟨Or.inr ⟨HQ_s.out,by rw [← tk_tail];exact HSim.out _ (r_sL_eq0 HD1.out HD2.out hq)⟩,rfl⟩⟩
   replace HN_y:=hide ((Mv.call (Nat.lt_of_lt_of_le HW.out.bl HZ_y.out) hG _).nd HN_y.out)
   replace HW:=hW
   replace HS:=hS
   clear hG
   go_wp2_with fail
   replace HN_y:=hide ((Mv.quiet (grown_drew w20)).nd HN_y.out)
   replace HW:=hide (HW.out.quiet (grown_drew w20))
   refine wp_region_held_drew (S:=(fun _=>True)) (by kernel_rfl) trivial fun hHd=>?_
   generalize w20.drew=w21 at *
   refine tq 1 ?_
   simp only [qq]
   refine rq2 0 2 (fun K hK=>?_) fun K hK=>?_
   ·have hc22:=HW.out.c0
    go_simp
    clear hc22
    refine hK.out _ _ trivial fun hHd=>?_
    clear hK K
    try simp only [qq]
    refine rq 2 fun K hK=>?_
    go_simp
    refine (HE.out r3.tail HS.out HL.out w21 HW.out.ps HW.out.two HW.out.glo HW.out.glt (HF.out.suf HS.out) (Nat.le_trans HS.out.length_le HLn.out)).mono ?_
    rintro e w23 hp
    obtain ⟨r23,n_x,k_x,t_x,v_x,a_x,l_x,c_x,rfl,HR_x,HN_x,HZ_x,HL,HSx,HLs2,hS,hW,hG⟩|⟨r,hR,rfl,h1,h2⟩:=HW.out.okN HS.out hp
    rotate_left
    ·exact ⟨rfl,h1,_,h2,Or.inr ⟨Or.inr ⟨HQ_s.out,by rw [← tk_tail];exact HSim.out _ (r_sL_eq1 HD1.out HD2.out HQe.out (by rw [← tk_tail];exact hR))⟩,rfl⟩⟩
    replace HN_y:=hide ((Mv.call (Nat.lt_of_lt_of_le HW.out.bl HZ_y.out) hG _).nd HN_y.out)
    replace HW:=hW
    replace HS:=hS
    clear hG hp
    refine hK.out _ _ trivial fun hHd=>?_
    clear hK K
    try simp only [qq]
    refine rq 3 fun K hK=>?_
    replace HW:=hide (HW.out.alloc' w23.heap.size (by simp) #[.int .i64 k_y,.string t_y,.int .i64 v_y,.slice a_y l_y c_y,.int .i64 k_x,.string t_x,.int .i64 v_x,.slice a_x l_x c_x] 24)
    replace HN_y:=hide ((HW.out.ma (by simp)).nd HN_y.out)
    replace HN_x:=hide ((HW.out.ma (by simp)).nd HN_x.out)
    go_simp
    refine hK.out _ _ trivial fun hHd=>?_
    clear hK K
    try simp only [qq]
    generalize w23.alloc _=w24 at *
    refine rq 4 fun K hK=>?_
    go_simp
    refine (node_any 15 (some ⟨w23.heap.size,0,none⟩) 2 2 w24).mono ?_
    rintro e w25 ⟨rfl,hG25⟩
    replace HN_y:=hide ((Mv.quiet hG25).nd HN_y.out)
    replace HN_x:=hide ((Mv.quiet hG25).nd HN_x.out)
    replace HW:=hide (HW.out.quiet hG25)
    clear hG25
    refine hK.out _ _ trivial fun hHd=>?_
    clear hK K
    try simp only [qq]
    refine rq 5 fun K hK=>?_
    have HM_a:=hide (RowN.t0 HW.out (HN_y.out.less HZ_y.out) (HN_x.out.less HZ_x.out))
    have HZ_a:Hid (w.heap.size≤w.heap.size):=Nat.le_refl _
    clear HN_y HZ_y HN_x HZ_x
    replace HW:=hide HW.out.d0
    have HN_z:=hide (HM_a.out.node 15 [] 0)
    have HZ_z:=HZ_a
    clear HM_a HZ_a
    have hc26:=HW.out.c1
    have hf27:=HW.out.f1
    replace HW:=hide (HW.out.s1 (.int .i64 15) (.string ⟨#[]⟩) (.int .i64 0) ((.slice (some ⟨w23.heap.size,0,none⟩) 2 2)))
    replace HN_z:=hide ((HW.out.ms1).nd HN_z.out)
    go_simp
    refine hK.out _ _ trivial fun hHd=>?_
    clear hK K
    try simp only [qq]
    generalize (((w25.setCell _ _).setCell _ _).setCell _ _).setCell _ _=w28 at *
    clear hc26 hf27
    refine wpAnyH_done (by kernel_rfl) ?_ _
    have hc29:=HW.out.c1
    have hl30:=HW.out.l1
    go_wp2_with fail
    refine bodyPost_ret (v:=(.agg #[.int .i64 15,.string ⟨#[]⟩,.int .i64 0,(.slice (some ⟨w23.heap.size,0,none⟩) 2 2)])) (by simp [results,Tryz.results144,go_sem,hc29,hl30]) rfl ?_
    exact ⟨HW.out.grown,_,HS.out,Or.inl ⟨_,_,HL.out,⟨HQ_s.out,by rw [← tk_tail];exact HSim.out _ (r_sL_eq2 HD1.out HD2.out HQe.out (by rw [← tk_tail];exact HR_x.out))⟩,rfl,HN_z.out.mono (fun k hk _=>Nat.le_trans HZ_z.out hk.1),HW.out.ps⟩⟩
   ·go_simp
    refine (HE.out r3.tail HS.out HL.out w21 HW.out.ps HW.out.two HW.out.glo HW.out.glt (HF.out.suf HS.out) (Nat.le_trans HS.out.length_le HLn.out)).mono ?_
    rintro e w31 hp
    obtain ⟨r31,n_x,k_x,t_x,v_x,a_x,l_x,c_x,rfl,HR_x,HN_x,HZ_x,HL,HSx,HLs2,hS,hW,hG⟩|⟨r,hR,rfl,h1,h2⟩:=HW.out.okN HS.out hp
    rotate_left
    ·exact ⟨rfl,h1,_,h2,Or.inr ⟨Or.inr ⟨HQ_s.out,by rw [← tk_tail];exact HSim.out _ (r_sL_eq1 HD1.out HD2.out HQe.out (by rw [← tk_tail];exact hR))⟩,rfl⟩⟩
    replace HN_y:=hide ((Mv.call (Nat.lt_of_lt_of_le HW.out.bl HZ_y.out) hG _).nd HN_y.out)
    replace HW:=hW
    replace HS:=hS
    clear hG hp
    refine hK.out _ _ trivial fun hHd=>?_
    clear hK K
    try simp only [qq]
    refine rq 0 fun K hK=>?_
    have hc32:=HW.out.c0
    go_simp
    clear hc32
    refine hK.out _ _ trivial fun hHd=>?_
    clear hK K
    try simp only [qq]
    refine rq 3 fun K hK=>?_
    replace HW:=hide (HW.out.alloc' w31.heap.size (by simp) #[.int .i64 k_y,.string t_y,.int .i64 v_y,.slice a_y l_y c_y,.int .i64 k_x,.string t_x,.int .i64 v_x,.slice a_x l_x c_x] 24)
    replace HN_y:=hide ((HW.out.ma (by simp)).nd HN_y.out)
    replace HN_x:=hide ((HW.out.ma (by simp)).nd HN_x.out)
    go_simp
    refine hK.out _ _ trivial fun hHd=>?_
    clear hK K
    try simp only [qq]
    generalize w31.alloc _=w33 at *
    refine rq 4 fun K hK=>?_
    go_simp
    refine (node_any 15 (some ⟨w31.heap.size,0,none⟩) 2 2 w33).mono ?_
    rintro e w34 ⟨rfl,hG34⟩
    replace HN_y:=hide ((Mv.quiet hG34).nd HN_y.out)
    replace HN_x:=hide ((Mv.quiet hG34).nd HN_x.out)
    replace HW:=hide (HW.out.quiet hG34)
    clear hG34
    refine hK.out _ _ trivial fun hHd=>?_
    clear hK K
    try simp only [qq]
    refine rq 5 fun K hK=>?_
    have HM_a:=hide (RowN.t0 HW.out (HN_y.out.less HZ_y.out) (HN_x.out.less HZ_x.out))
    have HZ_a:Hid (w.heap.size≤w.heap.size):=Nat.le_refl _
    clear HN_y HZ_y HN_x HZ_x
    replace HW:=hide HW.out.d0
    have HN_z:=hide (HM_a.out.node 15 [] 0)
    have HZ_z:=HZ_a
    clear HM_a HZ_a
    have hc35:=HW.out.c1
    have hf36:=HW.out.f1
    replace HW:=hide (HW.out.s1 (.int .i64 15) (.string ⟨#[]⟩) (.int .i64 0) ((.slice (some ⟨w31.heap.size,0,none⟩) 2 2)))
    replace HN_z:=hide ((HW.out.ms1).nd HN_z.out)
    go_simp
    refine hK.out _ _ trivial fun hHd=>?_
    clear hK K
    try simp only [qq]
    generalize (((w34.setCell _ _).setCell _ _).setCell _ _).setCell _ _=w37 at *
    clear hc35 hf36
    refine wpAnyH_done (by kernel_rfl) ?_ _
    have hc38:=HW.out.c1
    have hl39:=HW.out.l1
    go_wp2_with fail
    refine bodyPost_ret (v:=(.agg #[.int .i64 15,.string ⟨#[]⟩,.int .i64 0,(.slice (some ⟨w31.heap.size,0,none⟩) 2 2)])) (by simp [results,Tryz.results144,go_sem,hc38,hl39]) rfl ?_
    exact ⟨HW.out.grown,_,HS.out,Or.inl ⟨_,_,HL.out,⟨HQ_s.out,by rw [← tk_tail];exact HSim.out _ (r_sL_eq2 HD1.out HD2.out HQe.out (by rw [← tk_tail];exact HR_x.out))⟩,rfl,HN_z.out.mono (fun k hk _=>Nat.le_trans HZ_z.out hk.1),HW.out.ps⟩⟩
end Go.Proofs.YthcfianhdkolhaaGreatDoor.Y
namespace Go.Proofs.YthcfianhdkolhaaGreatDoor.Y
open Go.RowKit Go.Proofs.YthcfianhdkolhaaGreatDoor.X Go.Proofs.YthcfianhdkolhaaGreatDoor.T Go.Proofs.YthcfianhdkolhaaGreatDoor.S
set_option maxRecDepth 100000
set_option maxHeartbeats 2000000
set_option linter.unusedVariables false
set_option linter.unusedSimpArgs false
variable {w w' : World} {b g : Nat} {m : Value} {ts : List Tok} {t : Tok}
theorem r_blk0 {ts:List Tk} (h:¬ hd ts=sLB):R .block ts (.no ts):=⟨1,by simp [P,F,must,h]⟩
theorem r_blk1 {ts:List Tk} {q:Res} (h:hd ts=sLB) (a:R (.blockL []) ts.tail q):R .block ts q:=by
 obtain ⟨n,e⟩:=a
 exact ⟨n+1,by simp [P,F,must,h,e]⟩
theorem r_bkL0 {l:List Nd} {ts:List Tk} (h:hd ts=sRB):R (.blockL l) ts (.ok (.nd (.mk 13 [] 0 l)) ts.tail):=⟨1,by simp [P,F,h,okN]⟩
theorem r_bkL1 {l:List Nd} {ts r:List Tk} (h:¬ hd ts=sRB) (a:R .stat ts (.no r)):R (.blockL l) ts (.no r):=by
 obtain ⟨n,e⟩:=a
 exact ⟨n+1,by simp [P,F,h,andN,e]⟩
theorem r_bkL2 {l:List Nd} {ts r:List Tk} {x:Nd} {q:Res} (h:¬ hd ts=sRB) (a:R .stat ts (.ok (.nd x) r)) (k:R (.blockL (l++[x])) r q):R (.blockL l) ts q:=by
 obtain ⟨n,e,e2⟩:=both a k
 exact ⟨n+1,by simp [P,F,h,andN,e,e2]⟩
theorem block_any (h:Ps w b g m ts) (hT:Two w b m) (hGl:T.Gl w) (hb5:4<b) (hgl:g<w.heap.size) (hF:Fits ts) (hlen:ts.length≤4000) (hSt:Later 125 .stat b g m ts):Calls Tryz.prog 98 #[.pointer (some ⟨b,0,none⟩)] w (PostN .block w b g m ts):=by
 have HW:Hid (Wd w w b g m ts []):=Wd.start h hT hGl hb5 hgl
 have HS:Hid (ts <:+ ts):=List.suffix_refl _
 have HF:Hid (Fits ts):=hF
 have HLn:Hid (ts.length≤4000):=hlen
 have HSt:=hide hSt
 clear hSt
 clear h hT hGl hgl hF hlen
 go_enter Tryz.func98,Tryz.ntmps98
 replace HW:=hide (HW.out.alloc' w.heap.size (by simp) #[.int .i64 0,.string ⟨#[]⟩,.int .i64 0,.slice none 0 0] 24)
 replace HW:=hide (HW.out.alloc' (w.heap.size+1) (by simp) #[.int .i64 13,.string ⟨#[]⟩,.int .i64 0,.slice none 0 0] 24)
 have HA:=hide (HW.out.ask1 HS.out HF.out (s:=sLB) (⟨_,_,rfl,by decide⟩) (by decide) (q:=(w.heap.size+2)) (by simp))
 go_wp2_with fail
 generalize (w.alloc _).alloc _=w1 at *
 go_at_call 94
 refine HA.out.mono ?_
 clear HA
 rintro e w2 (⟨HQ,rfl,HL,hS,hW,hG⟩|⟨hq,rfl,h1⟩)
 rotate_left
 ·exact ⟨rfl,h1,_,HS.out,Or.inr ⟨r_blk0 hq,rfl⟩⟩
 replace HW:=hW
 replace HS:=hS
 clear hG
 go_wp2_with fail
 go_loopw [] (fun wr=>∃ (r:List Tok) (l:List Nd) (a1:Option Addr) (n1 c1:Nat),Hid (Wd w wr b g m r [((w.heap.size+1),#[.int .i64 13,.string ⟨#[]⟩,.int .i64 0,.slice a1 n1 c1],24),(w.heap.size,#[.int .i64 0,.string ⟨#[]⟩,.int .i64 0,.slice none 0 0],24)])∧Hid (RowN wr (Av w.heap.size [((w.heap.size+1),#[.int .i64 13,.string ⟨#[]⟩,.int .i64 0,.slice a1 n1 c1],24),(w.heap.size,#[.int .i64 0,.string ⟨#[]⟩,.int .i64 0,.slice none 0 0],24)]) (.slice a1 n1 c1) l)∧Hid (r <:+ ts)∧Hid (r.length<ts.length)∧Hid (l.length+r.length≤ts.length)∧Hid (∀ q,R (.blockL l) (tk r) q→R .block (tk ts) q)) (fun wr=>leftOf b wr)
 case atStart=>exact ⟨_,[],_,_,_,HW,RowN.nil _ _,HS,HL,(by have:=HL.out;show 0+_≤_;omega),fun q hr=>r_blk1 HQ.out (by rw [← tk_tail];exact hr)⟩
 case round=>
  obtain ⟨r,l,a1,n1,c1,HW,HM_l,HS,HL,HLl,HI⟩:=hrel
  have HZ_l:Hid (w.heap.size≤w.heap.size):=Nat.le_refl _
  have hmu:=HW.out.ps.leftOf
  have HMu:=hide hmu
  clear hmu
  go_wp2_with fail
  by_cases hq:tx r=str sRB
  ·have HQ1:Hid (hd (tk r)=sRB):=(tx_hd (HF.out.suf HS.out) sRB (⟨_,_,rfl,by decide⟩)).1 hq
   go_at_call 67
   refine (HW.out.tkY HS.out (x:=str sRB) (by decide) hq).mono ?_
   rintro e w21 ⟨rfl,HL,HLs,hS,hW,hG⟩
   replace HM_l:=hide ((Mv.call (Nat.lt_of_lt_of_le HW.out.bl HZ_l.out) hG _).row HM_l.out)
   replace HW:=hW
   replace HS:=hS
   clear hG
   have HN_z:=hide (HM_l.out.node 13 [] 0)
   have HZ_z:=HZ_l
   clear HM_l HZ_l
   have hc22:=HW.out.c0
   have hc23:=HW.out.c1
   have hf24:=HW.out.f1
   replace HW:=hide (HW.out.s1 (.int .i64 13) (.string ⟨#[]⟩) (.int .i64 0) ((.slice a1 n1 c1)))
   replace HN_z:=hide ((HW.out.ms1).nd HN_z.out)
   have hc25:=HW.out.c1
   have hl26:=HW.out.l1
   go_wp2_with fail
   generalize (((w21.setCell _ _).setCell _ _).setCell _ _).setCell _ _=w27 at *
   refine bodyPost_ret (v:=(.agg #[.int .i64 13,.string ⟨#[]⟩,.int .i64 0,(.slice a1 n1 c1)])) (by simp [results,Tryz.results98,go_sem,hc25,hl26]) rfl ?_
   exact HW.out.post HS.out (by rw [tk_tail];exact HI.out _ (r_bkL0 HQ1.out)) HL.out HZ_z.out HN_z.out
  ·have HQ1:Hid (¬ hd (tk r)=sRB):=fun e=>hq ((tx_hd (HF.out.suf HS.out) sRB (⟨_,_,rfl,by decide⟩)).2 e)
   go_at_call 67
   refine (HW.out.tkN (x:=str sRB) (by decide) hq).mono ?_
   rintro e w28 ⟨rfl,hW,hG⟩
   replace HM_l:=hide ((Mv.call (Nat.lt_of_lt_of_le HW.out.bl HZ_l.out) hG _).row HM_l.out)
   replace HW:=hW
   clear hG
   go_wp2_with fail
   replace HM_l:=hide ((Mv.quiet (grown_drew w28)).row HM_l.out)
   replace HW:=hide (HW.out.quiet (grown_drew w28))
   refine wp_region_held_drew (S:=(fun _=>True)) (by kernel_rfl) trivial fun hHd=>?_
   generalize w28.drew=w29 at *
   refine tq 0 ?_
   simp only [qq]
   refine tq 2 ?_
   simp only [qq]
   refine rq2 1 3 (fun K hK=>?_) fun K hK=>?_
   ·have hc30:=HW.out.c0
    go_simp
    clear hc30
    refine hK.out _ _ trivial fun hHd=>?_
    clear hK K
    try simp only [qq]
    refine rq 3 fun K hK=>?_
    go_simp
    refine (HSt.out r HS.out HL.out w29 HW.out.ps HW.out.two HW.out.glo HW.out.glt (HF.out.suf HS.out) (Nat.le_trans HS.out.length_le HLn.out)).mono ?_
    rintro e w31 hp
    obtain ⟨r31,n_y,k_y,t_y,v_y,a_y,l_y,c_y,rfl,HR_y,HN_y,HZ_y,HL,HSy,HLs2,hS,hW,hG⟩|⟨r,hR,rfl,h1,h2⟩:=HW.out.okN HS.out hp
    rotate_left
    ·exact ⟨rfl,h1,_,h2,Or.inr ⟨HI.out _ (r_bkL1 HQ1.out hR),rfl⟩⟩
    have HO_l:=hide HM_l.out.lt
    replace HM_l:=hide ((Mv.call (Nat.lt_of_lt_of_le HW.out.bl HZ_l.out) hG _).row HM_l.out)
    replace HW:=hW
    replace HS:=hS
    clear hG hp
    refine hK.out _ _ trivial fun hHd=>?_
    clear hK K
    try simp only [qq]
    refine rq 4 fun K hK=>?_
    replace HW:=hide (HW.out.alloc' w31.heap.size (by simp) #[.int .i64 k_y,.string t_y,.int .i64 v_y,.slice a_y l_y c_y] 24)
    replace HN_y:=hide ((HW.out.ma (by simp)).nd HN_y.out)
    replace HM_l:=hide ((HW.out.ma (by simp)).row HM_l.out)
    go_simp
    refine hK.out _ _ trivial fun hHd=>?_
    clear hK K
    try simp only [qq]
    generalize w31.alloc _=w32 at *
    refine rq 5 fun K hK=>?_
    refine app_s0 _ _ rfl rfl HW.out HM_l.out HN_y.out HZ_l.out HZ_y.out HO_l.out (by have:=HLl.out;have:=HLn.out;omega) ⟨rfl,rfl,rfl,rfl⟩ rfl rfl ?_
    intro g33 c33 w33 hW hM hG
    clear HM_l HN_y HZ_l HZ_y HO_l
    replace HW:=hide hW
    have HM_l2:=hide hM
    have HZ_l2:Hid (w.heap.size≤w.heap.size):=Nat.le_refl _
    clear hW hM hG
    refine hK.out _ _ trivial fun hHd=>?_
    clear hK K
    try simp only [qq]
    refine tq 6 ?_
    simp only [qq]
    refine rq 7 fun K hK=>?_
    have hc34:=HW.out.c0
    have hf35:=HW.out.f0
    replace HW:=hide (HW.out.p03 ((.slice (some ⟨g33,0,none⟩) (l.length+1) c33)))
    replace HM_l2:=hide ((HW.out.mp03).row HM_l2.out)
    go_simp
    refine hK.out _ _ trivial fun hHd=>?_
    clear hK K
    try simp only [qq]
    generalize w33.setCell _ _=w36 at *
    clear hc34 hf35
    refine wpAnyH_done (by kernel_rfl) ?_ _
    go_wp2_with fail
    go_roundw
    case rel=>exact ⟨_,_,_,_,_,HW,HM_l2,HS,HL,(by have h1:=HLl.out;have h2:=HLs2.out;show (l++[n_y]).length+_≤_;rw [List.length_append,List.length_singleton];omega),fun q hr=>HI.out q (r_bkL2 HQ1.out HR_y.out hr)⟩
    case measure=>rw [HW.out.ps.leftOf,HMu.out];exact HLs2.out
   ·go_simp
    refine (HSt.out r HS.out HL.out w29 HW.out.ps HW.out.two HW.out.glo HW.out.glt (HF.out.suf HS.out) (Nat.le_trans HS.out.length_le HLn.out)).mono ?_
    rintro e w37 hp
    obtain ⟨r37,n_y,k_y,t_y,v_y,a_y,l_y,c_y,rfl,HR_y,HN_y,HZ_y,HL,HSy,HLs2,hS,hW,hG⟩|⟨r,hR,rfl,h1,h2⟩:=HW.out.okN HS.out hp
    rotate_left
    ·exact ⟨rfl,h1,_,h2,Or.inr ⟨HI.out _ (r_bkL1 HQ1.out hR),rfl⟩⟩
    have HO_l:=hide HM_l.out.lt
    replace HM_l:=hide ((Mv.call (Nat.lt_of_lt_of_le HW.out.bl HZ_l.out) hG _).row HM_l.out)
    replace HW:=hW
    replace HS:=hS
    clear hG hp
    refine hK.out _ _ trivial fun hHd=>?_
    clear hK K
    try simp only [qq]
    refine rq2 1 4 (fun K hK=>?_) fun K hK=>?_
    ·have hc38:=HW.out.c0
     go_simp
     clear hc38
     refine hK.out _ _ trivial fun hHd=>?_
     clear hK K
     try simp only [qq]
     refine rq 4 fun K hK=>?_
     replace HW:=hide (HW.out.alloc' w37.heap.size (by simp) #[.int .i64 k_y,.string t_y,.int .i64 v_y,.slice a_y l_y c_y] 24)
     replace HN_y:=hide ((HW.out.ma (by simp)).nd HN_y.out)
     replace HM_l:=hide ((HW.out.ma (by simp)).row HM_l.out)
     go_simp
     refine hK.out _ _ trivial fun hHd=>?_
     clear hK K
     try simp only [qq]
     generalize w37.alloc _=w39 at *
     refine rq 5 fun K hK=>?_
     refine app_s0 _ _ rfl rfl HW.out HM_l.out HN_y.out HZ_l.out HZ_y.out HO_l.out (by have:=HLl.out;have:=HLn.out;omega) ⟨rfl,rfl,rfl,rfl⟩ rfl rfl ?_
     intro g40 c40 w40 hW hM hG
     clear HM_l HN_y HZ_l HZ_y HO_l
     replace HW:=hide hW
     have HM_l2:=hide hM
     have HZ_l2:Hid (w.heap.size≤w.heap.size):=Nat.le_refl _
     clear hW hM hG
     refine hK.out _ _ trivial fun hHd=>?_
     clear hK K
     try simp only [qq]
     refine tq 6 ?_
     simp only [qq]
     refine rq 7 fun K hK=>?_
     have hc41:=HW.out.c0
     have hf42:=HW.out.f0
     replace HW:=hide (HW.out.p03 ((.slice (some ⟨g40,0,none⟩) (l.length+1) c40)))
     replace HM_l2:=hide ((HW.out.mp03).row HM_l2.out)
     go_simp
     refine hK.out _ _ trivial fun hHd=>?_
     clear hK K
     try simp only [qq]
     generalize w40.setCell _ _=w43 at *
     clear hc41 hf42
     refine wpAnyH_done (by kernel_rfl) ?_ _
     go_wp2_with fail
     go_roundw
     case rel=>exact ⟨_,_,_,_,_,HW,HM_l2,HS,HL,(by have h1:=HLl.out;have h2:=HLs2.out;show (l++[n_y]).length+_≤_;rw [List.length_append,List.length_singleton];omega),fun q hr=>HI.out q (r_bkL2 HQ1.out HR_y.out hr)⟩
     case measure=>rw [HW.out.ps.leftOf,HMu.out];exact HLs2.out
    ·replace HW:=hide (HW.out.alloc' w37.heap.size (by simp) #[.int .i64 k_y,.string t_y,.int .i64 v_y,.slice a_y l_y c_y] 24)
     replace HN_y:=hide ((HW.out.ma (by simp)).nd HN_y.out)
     replace HM_l:=hide ((HW.out.ma (by simp)).row HM_l.out)
     go_simp
     refine hK.out _ _ trivial fun hHd=>?_
     clear hK K
     try simp only [qq]
     generalize w37.alloc _=w44 at *
     refine rq 1 fun K hK=>?_
     have hc45:=HW.out.c1
     go_simp
     clear hc45
     refine hK.out _ _ trivial fun hHd=>?_
     clear hK K
     try simp only [qq]
     refine rq 5 fun K hK=>?_
     refine app_s0 _ _ rfl rfl HW.out HM_l.out HN_y.out HZ_l.out HZ_y.out HO_l.out (by have:=HLl.out;have:=HLn.out;omega) ⟨rfl,rfl,rfl,rfl⟩ rfl rfl ?_
     intro g46 c46 w46 hW hM hG
     clear HM_l HN_y HZ_l HZ_y HO_l
     replace HW:=hide hW
     have HM_l2:=hide hM
     have HZ_l2:Hid (w.heap.size≤w.heap.size):=Nat.le_refl _
     clear hW hM hG
     refine hK.out _ _ trivial fun hHd=>?_
     clear hK K
     try simp only [qq]
     refine tq 6 ?_
     simp only [qq]
     refine rq 7 fun K hK=>?_
     have hc47:=HW.out.c0
     have hf48:=HW.out.f0
     replace HW:=hide (HW.out.p03 ((.slice (some ⟨g46,0,none⟩) (l.length+1) c46)))
     replace HM_l2:=hide ((HW.out.mp03).row HM_l2.out)
     go_simp
     refine hK.out _ _ trivial fun hHd=>?_
     clear hK K
     try simp only [qq]
     generalize w46.setCell _ _=w49 at *
     clear hc47 hf48
     refine wpAnyH_done (by kernel_rfl) ?_ _
     go_wp2_with fail
     go_roundw
     case rel=>exact ⟨_,_,_,_,_,HW,HM_l2,HS,HL,(by have h1:=HLl.out;have h2:=HLs2.out;show (l++[n_y]).length+_≤_;rw [List.length_append,List.length_singleton];omega),fun q hr=>HI.out q (r_bkL2 HQ1.out HR_y.out hr)⟩
     case measure=>rw [HW.out.ps.leftOf,HMu.out];exact HLs2.out
end Go.Proofs.YthcfianhdkolhaaGreatDoor.Y
