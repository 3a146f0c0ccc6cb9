/- PbV -/
import Derived.Test.YthcfianhdkolhaaGreatDoorSign
import Derived.Test.YthcfianhdkolhaaGreatDoorPbU
namespace Go.Proofs.YthcfianhdkolhaaGreatDoor.Y
open Go.RowKit Go.Proofs.YthcfianhdkolhaaGreatDoor.X Go.Proofs.YthcfianhdkolhaaGreatDoor.T Go.Proofs.YthcfianhdkolhaaGreatDoor.S
set_option maxRecDepth 100000
set_option maxHeartbeats 2000000
set_option linter.unusedVariables false
set_option linter.unusedSimpArgs false
variable {w w' : World} {b g : Nat} {m : Value} {ts : List Tok} {t : Tok}
def KDe (st:Bool) (ts:List Tk) (q:Res):Prop:=∃ n,(andN (P n .typ ts) fun t r=>S.name r fun s r=>
 if hd r=sLP then andR (P n (.rows 1) r) fun l d r=>andN (P n .block r) fun b r=>okN (.mk 7 s (b2n st+2*b2n d) (l++[t]++[b])) r
 else must sEQ r fun r=>andN (number (if hd r=sMINUS then r.tail else r)) fun k r'=>match k with|.mk kk x v q=>must sSEMI r' fun r'=>okN (.mk 6 s (b2n st) [t,.mk kk x (if hd r=sMINUS then -v else v) q]) r')=some q
theorem kd0 {st:Bool} {ts r:List Tk} (h:TyNo ts r):KDe st ts (.no r):=by
 rcases h with ⟨n,e⟩|⟨t,⟨n,e⟩,h2⟩
 ·exact ⟨n,by simp [andN,e]⟩
 exact ⟨n,by simp [andN,e,S.name,h2]⟩
theorem eq_lp {r:List Tk} (h:hd r=sEQ):¬ hd r=sLP:=fun e=>by rw [h] at e;revert e;decide
theorem kd1 {st:Bool} {ts r r2:List Tk} {t:Nd} {s:List UInt8} (h:TyOk ts t s r) (h2:hd r=sEQ) (k:number (if hd r.tail=sMINUS then r.tail.tail else r.tail)=some (.no r2)):KDe st ts (.no r2):=by
 have h4:=eq_lp h2
 obtain ⟨r1,⟨n,e⟩,h3,rfl,rfl⟩:=h
 exact ⟨n,by simp [andN,e,S.name,h3,h2,must,k]⟩
theorem kd2 {st:Bool} {ts r r2:List Tk} {t:Nd} {s:List UInt8} {kk v:Int} (h:TyOk ts t s r) (h2:hd r=sEQ) (k:number (if hd r.tail=sMINUS then r.tail.tail else r.tail)=some (.ok (.nd (.mk kk [] v [])) r2)) (h5:¬ hd r2=sSEMI):KDe st ts (.no r2):=by
 have h4:=eq_lp h2
 obtain ⟨r1,⟨n,e⟩,h3,rfl,rfl⟩:=h
 exact ⟨n,by simp [andN,e,S.name,h3,h2,must,k,h5]⟩
theorem kd3 {st:Bool} {ts r r2:List Tk} {t:Nd} {s:List UInt8} {kk v:Int} (h:TyOk ts t s r) (h2:hd r=sEQ) (k:number (if hd r.tail=sMINUS then r.tail.tail else r.tail)=some (.ok (.nd (.mk kk [] v [])) r2)) (h5:hd r2=sSEMI):KDe st ts (.ok (.nd (.mk 6 s (b2n st) ([t]++[.mk kk [] (if hd r.tail=sMINUS then -v else v) []]))) r2.tail):=by
 have h4:=eq_lp h2
 obtain ⟨r1,⟨n,e⟩,h3,rfl,rfl⟩:=h
 exact ⟨n,by simp [andN,e,S.name,h3,h2,must,k,h5,okN]⟩
theorem kd4 {st:Bool} {ts r r2:List Tk} {t:Nd} {s:List UInt8} (h:TyOk ts t s r) (h2:¬ hd r=sEQ) (k:R (.rows 1) r (.no r2)):KDe st ts (.no r2):=by
 obtain ⟨r1,a,h3,rfl,rfl⟩:=h
 by_cases h4:hd r1.tail=sLP
 ·obtain ⟨n,e,e2⟩:=both a k
  exact ⟨n,by simp [andN,e,S.name,h3,h4,andR,e2]⟩
 have e0:=R_one k (r_ro0 h4)
 injection e0 with e0
 subst e0
 obtain ⟨n,e⟩:=a
 exact ⟨n,by simp [andN,e,S.name,h3,h4,must,h2]⟩
theorem kd5 {st:Bool} {ts r r2 r3:List Tk} {t:Nd} {s:List UInt8} {l:List Nd} {d:Bool} (h:TyOk ts t s r) (k:R (.rows 1) r (.ok (.row l d) r2)) (j:R .block r2 (.no r3)):KDe st ts (.no r3):=by
 have h4:=lp_of k
 obtain ⟨r1,a,h3,rfl,rfl⟩:=h
 obtain ⟨n,e,e2,e3⟩:=three a k j
 exact ⟨n,by simp [andN,e,S.name,h3,h4,andR,e2,e3]⟩
theorem kd6 {st:Bool} {ts r r2 r3:List Tk} {t x:Nd} {s:List UInt8} {l:List Nd} {d:Bool} (h:TyOk ts t s r) (k:R (.rows 1) r (.ok (.row l d) r2)) (j:R .block r2 (.ok (.nd x) r3)):KDe st ts (.ok (.nd (.mk 7 s (b2n st+2*b2n d) (l++[t]++[x]))) r3):=by
 have h4:=lp_of k
 obtain ⟨r1,a,h3,rfl,rfl⟩:=h
 obtain ⟨n,e,e2,e3⟩:=three a k j
 exact ⟨n,by simp [andN,e,S.name,h3,h4,andR,e2,e3,okN]⟩
theorem NdV.both {A A' B:Nat→Prop} {v:Value} {n:Nd} (h:NdV w (fun k=>A k∧B k) n v) (hm:Mv w w' A A'):NdV w' (fun k=>A' k∧B k) n v:=h.move (fun k hk hl=>⟨(hm k hk.1 hl).1,(hm k hk.1 hl).2,hk.2⟩)
theorem b2n_bd (d:Bool):0≤b2n d∧b2n d≤1:=by cases d<;>decide
theorem block_later (hb5:4<b) (ts:List Tok):Later 98 .block b g m ts:=fun r _ _=>block_meth hb5 r
theorem defined_any (h:Ps w b g m ts) (hT:Two w b m) (hGl:Og w) (hb5:4<b) (hgl:g<w.heap.size) (hF:Fits ts) (hlen:ts.length≤4000) (st:Bool):Calls Tryz.prog 70 #[.pointer (some ⟨b,0,none⟩),.int .i64 (b2n st)] w (PostK (KDe st) w b g m ts):=by
 have HW:Hid (Wd w w b g m ts []):=Wd.start h hT hGl hb5 hgl
 have HS:=su ts
 have HF:=ħ hF
 have HLn:=ħ hlen
 have HBl:Hid (Later 98 .block b g m ts):=block_later hb5 ts
 obtain ⟨hst0,hst1⟩:=b2n_bd st
 obtain ⟨sn,hsn⟩:∃ sn,sn=b2n st:=⟨_,rfl⟩
 rw [← hsn] at hst0 hst1 ⊢
 have HSn:=hide hsn
 clear hsn
 clear h hT hGl hgl hF hlen
 go_enter Tryz.func70,Tryz.ntmps70
 replace HW:=HW.out.az
 go_wp2_with fail
 generalize w.alloc _=w1 at *
 go_at_call 95
 refine (typed_any HW.out.ps HW.out.two HW.out.glo HW.out.bg HW.out.glt (HF.out.suf HS.out) (Nat.le_trans HS.out.length_le HLn.out) 6).mono ?_
 rintro e w2 ⟨hG2,r2,hsu,⟨t_k,s_k,q_k,hlt,hO,rfl,hM,hP2⟩|⟨hO,rfl⟩⟩
 rotate_left
 ·exact ⟨rfl,grown_trans HW.out.grown hG2,_,hsu.trans HS.out,Or.inr ⟨kd0 hO,rfl⟩⟩
 have HT_k:=hide hO
 have HM_k:=ħ (hM.given HW.out)
 have HZ_k:Hid (w.heap.size≤w1.heap.size):=HW.out.grown.size
 have HSk:Hid (r2 <:+ ts):=hsu
 have HLs2:Hid (r2.length<ts.length):=hlt
 have HL:Hid (r2.length<ts.length):=Nat.lt_of_lt_of_le hlt HS.out.length_le
 replace HW:=ħ (HW.out.call hG2 hP2)
 replace HS:=ħ ((hsu).trans HS.out)
 clear hP2 hG2 hO hM hsu hlt
 replace HW:=HW.out.al w2.heap.size #[.int .i64 6,.string (str s_k),.int .i64 0,(.slice (some ⟨q_k,0,none⟩) 1 1)]
 replace HM_k:=HW.out.rA HM_k
 go_wp2_with fail
 generalize w2.alloc _=w3 at *
 by_cases hq:tx r2=str sEQ
 ·have HQ:Hid (hd (tk r2)=sEQ):=(tx_hd (HF.out.suf HS.out) sEQ (⟨_,_,rfl,by decide⟩)).1 hq
  go_at_call 67
  refine (HW.out.tkY HS.out (x:=str sEQ) (by decide) hq).mono ?_
  rintro e w4 ⟨rfl,HL,HLs,hS,hW,hG⟩
  replace HM_k:=HW.out.kR HZ_k hG HM_k
  replace HW:=hW
  replace HS:=hS
  clear hG
  clear hq
  have hc5:=HW.out.c0
  have hf6:=HW.out.f0
  replace HW:=ħ (HW.out.p02 (.int .i64 sn))
  replace HM_k:=HW.out.mp02.R HM_k
  go_wp2_with fail
  generalize w4.setCell _ _=w7 at *
  clear hc5 hf6
  replace HM_k:=ħ ((Mv.quiet (grown_drew w7)).row HM_k.out)
  replace HW:=ħ (HW.out.quiet (grown_drew w7))
  refine wp_region_held_drew (S:=(fun _=>True)) (by kernel_rfl) trivial fun hHd=>?_
  generalize w7.drew=w8 at *
  refine tq 0 ?_
  simp only [qq]
  refine tq 2 ?_
  simp only [qq]
  refine wpAnyH_ready (rs:=[1,3,5]) (by kernel_rfl) (by simp) ?_
  refine AllReadyH.cons rfl (fun K hK=>?_) (AllReadyH.cons rfl (fun K hK=>?_) (AllReadyH.cons rfl (fun K hK=>?_) AllReadyH.nil))
  ·have hc9:=HW.out.c0
   go_simp
   clear hc9
   refine hK.out _ _ trivial fun hHd=>?_
   clear hK K
   try simp only [qq]
   refine tq 4 ?_
   simp only [qq]
   refine rq2 3 5 (fun K hK=>?_) fun K hK=>?_
   ·go_simp
    refine (value_any HW.out.ps HW.out.two HW.out.glo HW.out.bg HW.out.glt (HF.out.suf HS.out) (Nat.le_trans HS.out.length_le HLn.out)).mono ?_
    rintro e w10 ⟨hG10,r10,hsu,⟨kk,x,hlt,hnum,rfl,hP10⟩|⟨hnum,rfl⟩⟩
    rotate_left
    ·exact ⟨rfl,grown_trans HW.out.grown hG10,_,hsu.trans HS.out,Or.inr ⟨kd1 HT_k.out HQ.out (by rw [← tk_tail];exact hnum),rfl⟩⟩
    have HNum:=hide hnum
    have HZ_y:Hid (w.heap.size≤w8.heap.size):=HW.out.grown.size
    have HL:Hid (r10.length<ts.length):=Nat.lt_of_lt_of_le hlt HS.out.length_le
    obtain ⟨xx,hxx⟩:∃ xx,xx=(if hd (tk r2.tail)=sMINUS then -x else x):=⟨_,rfl⟩
    rw [← hxx]
    have HXX:=hide hxx
    clear hxx
    have HO_k:Hid (∀ k,((.slice (some ⟨q_k,0,none⟩) 1 1):Value).ownBlock=some k→k<w8.heap.size):=HM_k.out.lt
    replace HM_k:=HW.out.kR HZ_k hG10 HM_k
    replace HW:=ħ (HW.out.call hG10 hP10)
    replace HS:=ħ ((hsu).trans HS.out)
    have HN_y:Hid (NdV w10 (Av w8.heap.size [(w2.heap.size,#[.int .i64 6,.string (str s_k),.int .i64 sn,(.slice (some ⟨q_k,0,none⟩) 1 1)],24),(w.heap.size,#[.int .i64 0,.string ⟨#[]⟩,.int .i64 0,.slice none 0 0],24)]) (.mk kk [] xx []) (.agg #[.int .i64 kk,.string ⟨#[]⟩,.int .i64 xx,.slice none 0 0])):=NdV.bare kk [] xx none 0
    clear hP10 hG10 hnum hsu hlt
    refine hK.out _ _ trivial fun hHd=>?_
    clear hK K
    try simp only [qq]
    refine rq 5 fun K hK=>?_
    replace HW:=HW.out.az
    replace HN_y:=HW.out.nA HN_y
    replace HM_k:=HW.out.rA HM_k
    go_simp
    refine hK.out _ _ trivial fun hHd=>?_
    clear hK K
    try simp only [qq]
    generalize w10.alloc _=w11 at *
    refine rq 6 fun K hK=>?_
    refine app_z0 _ _ rfl rfl HW.out HM_k.out HN_y.out HZ_k.out HZ_y.out HO_k.out (by simp) rfl rfl ?_
    intro g12 c12 w12 hW12 hM12 hN12
    clear HM_k HZ_k HO_k HN_y HZ_y
    replace HW:=ħ (hW12)
    have HM_zz:Hid (RowN w12 (Av w.heap.size _) (.slice (some ⟨g12,0,none⟩) 2 c12) ([t_k]++[.mk 0 [] 0 []])):=hM12
    have HN_y:Hid (NdV w12 (fun j=>Av w.heap.size _ j∧j≠g12) (.mk kk [] xx []) (.agg #[.int .i64 kk,.string ⟨#[]⟩,.int .i64 xx,.slice none 0 0])):=hN12
    have HZ_zz:=zz w
    have HZ_y:=HZ_zz
    clear hW12 hM12 hN12
    refine hK.out _ _ trivial fun hHd=>?_
    clear hK K
    try simp only [qq]
    refine tq 7 ?_
    simp only [qq]
    refine tq 9 ?_
    simp only [qq]
    refine rq2 8 10 (fun K hK=>?_) fun K hK=>?_
    ·obtain ⟨hRw,hGr,⟨z0,z1,z2,z3,y0,y1,y2,y3⟩,hfz⟩:=RowN.last (l:=[t_k]) HM_zz.out HN_y.out
     simp only [S4,List.length_cons,List.length_nil,Nat.zero_add,Nat.one_mul,Nat.reduceAdd] at hRw hGr y0 y1 y2 y3
     have hAg:Av w.heap.size _ g12:=HM_zz.out.own g12 rfl
     have HW2:=ħ (HW.out.rowed hGr (Nat.le_refl _) (fun j hj=>by obtain rfl:g12=j:=Option.some.inj hj;exact hAg))
     have HM_z:=hide hRw
     have HZ_z:=zz w
     clear hRw hGr HM_zz HN_y HW hAg HZ_y HZ_zz
     go_simp
     refine hK.out _ _ trivial (fun hHd=>?_)
     clear hK K y0 y1 y2 y3 hfz
     try simp only [qq]
     have HW:=HW2
     clear HW2
     generalize (((w12.setCell _ _).setCell _ _).setCell _ _).setCell _ _=w13 at *
     refine rq 10 fun K hK=>?_
     have hc14:=HW.out.c0
     have hf15:=HW.out.f0
     replace HW:=ħ (HW.out.p03 ((.slice (some ⟨g12,0,none⟩) 2 c12)))
     replace HM_z:=HW.out.mp03.R HM_z
     go_simp
     refine hK.out _ _ trivial fun hHd=>?_
     clear hK K
     try simp only [qq]
     generalize w13.setCell _ _=w16 at *
     clear hc14 hf15
     refine wpAnyH_done (by kernel_rfl) ?_ _
     have HA:=ħ (HW.out.ask1 HS.out HF.out (s:=sSEMI) (⟨_,_,rfl,by decide⟩) (by decide) (q:=w16.heap.size) (by simp))
     go_wp2_with fail
     go_at_call 94
     refine HA.out.mono ?_
     clear HA
     rintro e w17 (⟨HQ3,rfl,HL,hS,hW,hG⟩|⟨hq,rfl,h1⟩)
     rotate_left
     ·exact ⟨rfl,h1,_,HS.out,Or.inr ⟨kd2 HT_k.out HQ.out (by rw [← tk_tail];exact HNum.out) hq,rfl⟩⟩
     replace HM_z:=HW.out.kR HZ_z hG HM_z
     replace HW:=hW
     replace HS:=hS
     clear hG
     have HN_r:=ħ (HM_z.out.node 6 s_k sn)
     have HZ_r:=HZ_z
     clear HM_z HZ_z
     have hc18:=HW.out.c0
     have hc19:=HW.out.c1
     have hf20:=HW.out.f1
     replace HW:=ħ (HW.out.s1 (.int .i64 6) (.string (str s_k)) (.int .i64 sn) ((.slice (some ⟨g12,0,none⟩) 2 c12)))
     replace HN_r:=HW.out.ms1.N HN_r
     go_wp2_with fail
     generalize (((w17.setCell _ _).setCell _ _).setCell _ _).setCell _ _=w23 at *
     refine bodyPost_ret (rt rfl rfl HW.out.b1) rfl ?_
     exact ⟨HW.out.grown,_,HS.out,Or.inl ⟨_,_,HL.out,by rw [tk_tail,HSn.out,HXX.out,tk_tail];exact kd3 HT_k.out HQ.out (by rw [← tk_tail];exact HNum.out) HQ3.out,rfl,HN_r.out.mono (fun k hk _=>Nat.le_trans HZ_r.out hk.1),HW.out.ps⟩⟩
    have hc24:=HW.out.c0
    have hf25:=HW.out.f0
    replace HW:=ħ (HW.out.p03 ((.slice (some ⟨g12,0,none⟩) 2 c12)))
    replace HN_y:=ħ (HN_y.out.both (HW.out.mp03))
    replace HM_zz:=HW.out.mp03.R HM_zz
    go_simp
    refine hK.out _ _ trivial fun hHd=>?_
    clear hK K
    try simp only [qq]
    generalize w12.setCell _ _=w26 at *
    clear hc24 hf25
    refine rq 8 fun K hK=>?_
    obtain ⟨hRw,hGr,⟨z0,z1,z2,z3,y0,y1,y2,y3⟩,hfz⟩:=RowN.last (l:=[t_k]) HM_zz.out HN_y.out
    simp only [S4,List.length_cons,List.length_nil,Nat.zero_add,Nat.one_mul,Nat.reduceAdd] at hRw hGr y0 y1 y2 y3
    have hAg:Av w.heap.size _ g12:=HM_zz.out.own g12 rfl
    have HW2:=ħ (HW.out.rowed hGr (Nat.le_refl _) (fun j hj=>by obtain rfl:g12=j:=Option.some.inj hj;exact hAg))
    have HM_z:=hide hRw
    have HZ_z:=zz w
    clear hRw hGr HM_zz HN_y HW hAg HZ_y HZ_zz
    go_simp
    refine hK.out _ _ trivial (fun hHd=>?_)
    clear hK K y0 y1 y2 y3 hfz
    try simp only [qq]
    have HW:=HW2
    clear HW2
    generalize (((w26.setCell _ _).setCell _ _).setCell _ _).setCell _ _=w27 at *
    refine wpAnyH_done (by kernel_rfl) ?_ _
    have HA:=ħ (HW.out.ask1 HS.out HF.out (s:=sSEMI) (⟨_,_,rfl,by decide⟩) (by decide) (q:=w27.heap.size) (by simp))
    go_wp2_with fail
    go_at_call 94
    refine HA.out.mono ?_
    clear HA
    rintro e w28 (⟨HQ3,rfl,HL,hS,hW,hG⟩|⟨hq,rfl,h1⟩)
    rotate_left
    ·exact ⟨rfl,h1,_,HS.out,Or.inr ⟨kd2 HT_k.out HQ.out (by rw [← tk_tail];exact HNum.out) hq,rfl⟩⟩
    replace HM_z:=HW.out.kR HZ_z hG HM_z
    replace HW:=hW
    replace HS:=hS
    clear hG
    have HN_r:=ħ (HM_z.out.node 6 s_k sn)
    have HZ_r:=HZ_z
    clear HM_z HZ_z
    have hc29:=HW.out.c0
    have hc30:=HW.out.c1
    have hf31:=HW.out.f1
    replace HW:=ħ (HW.out.s1 (.int .i64 6) (.string (str s_k)) (.int .i64 sn) ((.slice (some ⟨g12,0,none⟩) 2 c12)))
    replace HN_r:=HW.out.ms1.N HN_r
    go_wp2_with fail
    generalize (((w28.setCell _ _).setCell _ _).setCell _ _).setCell _ _=w34 at *
    refine bodyPost_ret (rt rfl rfl HW.out.b1) rfl ?_
    exact ⟨HW.out.grown,_,HS.out,Or.inl ⟨_,_,HL.out,by rw [tk_tail,HSn.out,HXX.out,tk_tail];exact kd3 HT_k.out HQ.out (by rw [← tk_tail];exact HNum.out) HQ3.out,rfl,HN_r.out.mono (fun k hk _=>Nat.le_trans HZ_r.out hk.1),HW.out.ps⟩⟩
   replace HW:=HW.out.az
   replace HM_k:=HW.out.rA HM_k
   go_simp
   refine hK.out _ _ trivial fun hHd=>?_
   clear hK K
   try simp only [qq]
   generalize w8.alloc _=w35 at *
   refine rq 3 fun K hK=>?_
   go_simp
   refine (value_any HW.out.ps HW.out.two HW.out.glo HW.out.bg HW.out.glt (HF.out.suf HS.out) (Nat.le_trans HS.out.length_le HLn.out)).mono ?_
   rintro e w36 ⟨hG36,r36,hsu,⟨kk,x,hlt,hnum,rfl,hP36⟩|⟨hnum,rfl⟩⟩
   rotate_left
   ·exact ⟨rfl,grown_trans HW.out.grown hG36,_,hsu.trans HS.out,Or.inr ⟨kd1 HT_k.out HQ.out (by rw [← tk_tail];exact hnum),rfl⟩⟩
   have HNum:=hide hnum
   have HZ_y:Hid (w.heap.size≤w35.heap.size):=HW.out.grown.size
   have HL:Hid (r36.length<ts.length):=Nat.lt_of_lt_of_le hlt HS.out.length_le
   obtain ⟨xx,hxx⟩:∃ xx,xx=(if hd (tk r2.tail)=sMINUS then -x else x):=⟨_,rfl⟩
   rw [← hxx]
   have HXX:=hide hxx
   clear hxx
   have HO_k:Hid (∀ k,((.slice (some ⟨q_k,0,none⟩) 1 1):Value).ownBlock=some k→k<w35.heap.size):=HM_k.out.lt
   replace HM_k:=HW.out.kR HZ_k hG36 HM_k
   replace HW:=ħ (HW.out.call hG36 hP36)
   replace HS:=ħ ((hsu).trans HS.out)
   have HN_y:Hid (NdV w36 (Av w35.heap.size [(w8.heap.size,#[.int .i64 0,.string ⟨#[]⟩,.int .i64 0,.slice none 0 0],24),(w2.heap.size,#[.int .i64 6,.string (str s_k),.int .i64 sn,(.slice (some ⟨q_k,0,none⟩) 1 1)],24),(w.heap.size,#[.int .i64 0,.string ⟨#[]⟩,.int .i64 0,.slice none 0 0],24)]) (.mk kk [] xx []) (.agg #[.int .i64 kk,.string ⟨#[]⟩,.int .i64 xx,.slice none 0 0])):=NdV.bare kk [] xx none 0
   clear hP36 hG36 hnum hsu hlt
   refine hK.out _ _ trivial fun hHd=>?_
   clear hK K
   try simp only [qq]
   refine rq 6 fun K hK=>?_
   refine app_z0 _ _ rfl rfl HW.out HM_k.out HN_y.out HZ_k.out HZ_y.out HO_k.out (by simp) rfl rfl ?_
   intro g37 c37 w37 hW37 hM37 hN37
   clear HM_k HZ_k HO_k HN_y HZ_y
   replace HW:=ħ (hW37)
   have HM_zz:Hid (RowN w37 (Av w.heap.size _) (.slice (some ⟨g37,0,none⟩) 2 c37) ([t_k]++[.mk 0 [] 0 []])):=hM37
   have HN_y:Hid (NdV w37 (fun j=>Av w.heap.size _ j∧j≠g37) (.mk kk [] xx []) (.agg #[.int .i64 kk,.string ⟨#[]⟩,.int .i64 xx,.slice none 0 0])):=hN37
   have HZ_zz:=zz w
   have HZ_y:=HZ_zz
   clear hW37 hM37 hN37
   refine hK.out _ _ trivial fun hHd=>?_
   clear hK K
   try simp only [qq]
   refine tq 7 ?_
   simp only [qq]
   refine tq 9 ?_
   simp only [qq]
   refine rq2 8 10 (fun K hK=>?_) fun K hK=>?_
   ·obtain ⟨hRw,hGr,⟨z0,z1,z2,z3,y0,y1,y2,y3⟩,hfz⟩:=RowN.last (l:=[t_k]) HM_zz.out HN_y.out
    simp only [S4,List.length_cons,List.length_nil,Nat.zero_add,Nat.one_mul,Nat.reduceAdd] at hRw hGr y0 y1 y2 y3
    have hAg:Av w.heap.size _ g37:=HM_zz.out.own g37 rfl
    have HW2:=ħ (HW.out.rowed hGr (Nat.le_refl _) (fun j hj=>by obtain rfl:g37=j:=Option.some.inj hj;exact hAg))
    have HM_z:=hide hRw
    have HZ_z:=zz w
    clear hRw hGr HM_zz HN_y HW hAg HZ_y HZ_zz
    go_simp
    refine hK.out _ _ trivial (fun hHd=>?_)
    clear hK K y0 y1 y2 y3 hfz
    try simp only [qq]
    have HW:=HW2
    clear HW2
    generalize (((w37.setCell _ _).setCell _ _).setCell _ _).setCell _ _=w38 at *
    refine rq 10 fun K hK=>?_
    have hc39:=HW.out.c0
    have hf40:=HW.out.f0
    replace HW:=ħ (HW.out.p03 ((.slice (some ⟨g37,0,none⟩) 2 c37)))
    replace HM_z:=HW.out.mp03.R HM_z
    go_simp
    refine hK.out _ _ trivial fun hHd=>?_
    clear hK K
    try simp only [qq]
    generalize w38.setCell _ _=w41 at *
    clear hc39 hf40
    refine wpAnyH_done (by kernel_rfl) ?_ _
    have HA:=ħ (HW.out.ask1 HS.out HF.out (s:=sSEMI) (⟨_,_,rfl,by decide⟩) (by decide) (q:=w41.heap.size) (by simp))
    go_wp2_with fail
    go_at_call 94
    refine HA.out.mono ?_
    clear HA
    rintro e w42 (⟨HQ3,rfl,HL,hS,hW,hG⟩|⟨hq,rfl,h1⟩)
    rotate_left
    ·exact ⟨rfl,h1,_,HS.out,Or.inr ⟨kd2 HT_k.out HQ.out (by rw [← tk_tail];exact HNum.out) hq,rfl⟩⟩
    replace HM_z:=HW.out.kR HZ_z hG HM_z
    replace HW:=hW
    replace HS:=hS
    clear hG
    have HN_r:=ħ (HM_z.out.node 6 s_k sn)
    have HZ_r:=HZ_z
    clear HM_z HZ_z
    have hc43:=HW.out.c0
    have hc44:=HW.out.c1
    have hf45:=HW.out.f1
    replace HW:=ħ (HW.out.s1 (.int .i64 6) (.string (str s_k)) (.int .i64 sn) ((.slice (some ⟨g37,0,none⟩) 2 c37)))
    replace HN_r:=HW.out.ms1.N HN_r
    go_wp2_with fail
    generalize (((w42.setCell _ _).setCell _ _).setCell _ _).setCell _ _=w48 at *
    refine bodyPost_ret (rt rfl rfl HW.out.b1) rfl ?_
    exact ⟨HW.out.grown,_,HS.out,Or.inl ⟨_,_,HL.out,by rw [tk_tail,HSn.out,HXX.out,tk_tail];exact kd3 HT_k.out HQ.out (by rw [← tk_tail];exact HNum.out) HQ3.out,rfl,HN_r.out.mono (fun k hk _=>Nat.le_trans HZ_r.out hk.1),HW.out.ps⟩⟩
   have hc49:=HW.out.c0
   have hf50:=HW.out.f0
   replace HW:=ħ (HW.out.p03 ((.slice (some ⟨g37,0,none⟩) 2 c37)))
   replace HN_y:=ħ (HN_y.out.both (HW.out.mp03))
   replace HM_zz:=HW.out.mp03.R HM_zz
   go_simp
   refine hK.out _ _ trivial fun hHd=>?_
   clear hK K
   try simp only [qq]
   generalize w37.setCell _ _=w51 at *
   clear hc49 hf50
   refine rq 8 fun K hK=>?_
   obtain ⟨hRw,hGr,⟨z0,z1,z2,z3,y0,y1,y2,y3⟩,hfz⟩:=RowN.last (l:=[t_k]) HM_zz.out HN_y.out
   simp only [S4,List.length_cons,List.length_nil,Nat.zero_add,Nat.one_mul,Nat.reduceAdd] at hRw hGr y0 y1 y2 y3
   have hAg:Av w.heap.size _ g37:=HM_zz.out.own g37 rfl
   have HW2:=ħ (HW.out.rowed hGr (Nat.le_refl _) (fun j hj=>by obtain rfl:g37=j:=Option.some.inj hj;exact hAg))
   have HM_z:=hide hRw
   have HZ_z:=zz w
   clear hRw hGr HM_zz HN_y HW hAg HZ_y HZ_zz
   go_simp
   refine hK.out _ _ trivial (fun hHd=>?_)
   clear hK K y0 y1 y2 y3 hfz
   try simp only [qq]
   have HW:=HW2
   clear HW2
   generalize (((w51.setCell _ _).setCell _ _).setCell _ _).setCell _ _=w52 at *
   refine wpAnyH_done (by kernel_rfl) ?_ _
   have HA:=ħ (HW.out.ask1 HS.out HF.out (s:=sSEMI) (⟨_,_,rfl,by decide⟩) (by decide) (q:=w52.heap.size) (by simp))
   go_wp2_with fail
   go_at_call 94
   refine HA.out.mono ?_
   clear HA
   rintro e w53 (⟨HQ3,rfl,HL,hS,hW,hG⟩|⟨hq,rfl,h1⟩)
   rotate_left
   ·exact ⟨rfl,h1,_,HS.out,Or.inr ⟨kd2 HT_k.out HQ.out (by rw [← tk_tail];exact HNum.out) hq,rfl⟩⟩
   replace HM_z:=HW.out.kR HZ_z hG HM_z
   replace HW:=hW
   replace HS:=hS
   clear hG
   have HN_r:=ħ (HM_z.out.node 6 s_k sn)
   have HZ_r:=HZ_z
   clear HM_z HZ_z
   have hc54:=HW.out.c0
   have hc55:=HW.out.c1
   have hf56:=HW.out.f1
   replace HW:=ħ (HW.out.s1 (.int .i64 6) (.string (str s_k)) (.int .i64 sn) ((.slice (some ⟨g37,0,none⟩) 2 c37)))
   replace HN_r:=HW.out.ms1.N HN_r
   go_wp2_with fail
   generalize (((w53.setCell _ _).setCell _ _).setCell _ _).setCell _ _=w59 at *
   refine bodyPost_ret (rt rfl rfl HW.out.b1) rfl ?_
   exact ⟨HW.out.grown,_,HS.out,Or.inl ⟨_,_,HL.out,by rw [tk_tail,HSn.out,HXX.out,tk_tail];exact kd3 HT_k.out HQ.out (by rw [← tk_tail];exact HNum.out) HQ3.out,rfl,HN_r.out.mono (fun k hk _=>Nat.le_trans HZ_r.out hk.1),HW.out.ps⟩⟩
  ·go_simp
   refine (value_any HW.out.ps HW.out.two HW.out.glo HW.out.bg HW.out.glt (HF.out.suf HS.out) (Nat.le_trans HS.out.length_le HLn.out)).mono ?_
   rintro e w60 ⟨hG60,r60,hsu,⟨kk,x,hlt,hnum,rfl,hP60⟩|⟨hnum,rfl⟩⟩
   rotate_left
   ·exact ⟨rfl,grown_trans HW.out.grown hG60,_,hsu.trans HS.out,Or.inr ⟨kd1 HT_k.out HQ.out (by rw [← tk_tail];exact hnum),rfl⟩⟩
   have HNum:=hide hnum
   have HZ_y:Hid (w.heap.size≤w8.heap.size):=HW.out.grown.size
   have HL:Hid (r60.length<ts.length):=Nat.lt_of_lt_of_le hlt HS.out.length_le
   obtain ⟨xx,hxx⟩:∃ xx,xx=(if hd (tk r2.tail)=sMINUS then -x else x):=⟨_,rfl⟩
   rw [← hxx]
   have HXX:=hide hxx
   clear hxx
   have HO_k:Hid (∀ k,((.slice (some ⟨q_k,0,none⟩) 1 1):Value).ownBlock=some k→k<w8.heap.size):=HM_k.out.lt
   replace HM_k:=HW.out.kR HZ_k hG60 HM_k
   replace HW:=ħ (HW.out.call hG60 hP60)
   replace HS:=ħ ((hsu).trans HS.out)
   have HN_y:Hid (NdV w60 (Av w8.heap.size [(w2.heap.size,#[.int .i64 6,.string (str s_k),.int .i64 sn,(.slice (some ⟨q_k,0,none⟩) 1 1)],24),(w.heap.size,#[.int .i64 0,.string ⟨#[]⟩,.int .i64 0,.slice none 0 0],24)]) (.mk kk [] xx []) (.agg #[.int .i64 kk,.string ⟨#[]⟩,.int .i64 xx,.slice none 0 0])):=NdV.bare kk [] xx none 0
   clear hP60 hG60 hnum hsu hlt
   refine hK.out _ _ trivial fun hHd=>?_
   clear hK K
   try simp only [qq]
   refine rq2 1 5 (fun K hK=>?_) fun K hK=>?_
   ·have hc61:=HW.out.c0
    go_simp
    clear hc61
    refine hK.out _ _ trivial fun hHd=>?_
    clear hK K
    try simp only [qq]
    refine tq 4 ?_
    simp only [qq]
    refine rq 5 fun K hK=>?_
    replace HW:=HW.out.az
    replace HN_y:=HW.out.nA HN_y
    replace HM_k:=HW.out.rA HM_k
    go_simp
    refine hK.out _ _ trivial fun hHd=>?_
    clear hK K
    try simp only [qq]
    generalize w60.alloc _=w62 at *
    refine rq 6 fun K hK=>?_
    refine app_z0 _ _ rfl rfl HW.out HM_k.out HN_y.out HZ_k.out HZ_y.out HO_k.out (by simp) rfl rfl ?_
    intro g63 c63 w63 hW63 hM63 hN63
    clear HM_k HZ_k HO_k HN_y HZ_y
    replace HW:=ħ (hW63)
    have HM_zz:Hid (RowN w63 (Av w.heap.size _) (.slice (some ⟨g63,0,none⟩) 2 c63) ([t_k]++[.mk 0 [] 0 []])):=hM63
    have HN_y:Hid (NdV w63 (fun j=>Av w.heap.size _ j∧j≠g63) (.mk kk [] xx []) (.agg #[.int .i64 kk,.string ⟨#[]⟩,.int .i64 xx,.slice none 0 0])):=hN63
    have HZ_zz:=zz w
    have HZ_y:=HZ_zz
    clear hW63 hM63 hN63
    refine hK.out _ _ trivial fun hHd=>?_
    clear hK K
    try simp only [qq]
    refine tq 7 ?_
    simp only [qq]
    refine tq 9 ?_
    simp only [qq]
    refine rq2 8 10 (fun K hK=>?_) fun K hK=>?_
    ·obtain ⟨hRw,hGr,⟨z0,z1,z2,z3,y0,y1,y2,y3⟩,hfz⟩:=RowN.last (l:=[t_k]) HM_zz.out HN_y.out
     simp only [S4,List.length_cons,List.length_nil,Nat.zero_add,Nat.one_mul,Nat.reduceAdd] at hRw hGr y0 y1 y2 y3
     have hAg:Av w.heap.size _ g63:=HM_zz.out.own g63 rfl
     have HW2:=ħ (HW.out.rowed hGr (Nat.le_refl _) (fun j hj=>by obtain rfl:g63=j:=Option.some.inj hj;exact hAg))
     have HM_z:=hide hRw
     have HZ_z:=zz w
     clear hRw hGr HM_zz HN_y HW hAg HZ_y HZ_zz
     go_simp
     refine hK.out _ _ trivial (fun hHd=>?_)
     clear hK K y0 y1 y2 y3 hfz
     try simp only [qq]
     have HW:=HW2
     clear HW2
     generalize (((w63.setCell _ _).setCell _ _).setCell _ _).setCell _ _=w64 at *
     refine rq 10 fun K hK=>?_
     have hc65:=HW.out.c0
     have hf66:=HW.out.f0
     replace HW:=ħ (HW.out.p03 ((.slice (some ⟨g63,0,none⟩) 2 c63)))
     replace HM_z:=HW.out.mp03.R HM_z
     go_simp
     refine hK.out _ _ trivial fun hHd=>?_
     clear hK K
     try simp only [qq]
     generalize w64.setCell _ _=w67 at *
     clear hc65 hf66
     refine wpAnyH_done (by kernel_rfl) ?_ _
     have HA:=ħ (HW.out.ask1 HS.out HF.out (s:=sSEMI) (⟨_,_,rfl,by decide⟩) (by decide) (q:=w67.heap.size) (by simp))
     go_wp2_with fail
     go_at_call 94
     refine HA.out.mono ?_
     clear HA
     rintro e w68 (⟨HQ3,rfl,HL,hS,hW,hG⟩|⟨hq,rfl,h1⟩)
     rotate_left
     ·exact ⟨rfl,h1,_,HS.out,Or.inr ⟨kd2 HT_k.out HQ.out (by rw [← tk_tail];exact HNum.out) hq,rfl⟩⟩
     replace HM_z:=HW.out.kR HZ_z hG HM_z
     replace HW:=hW
     replace HS:=hS
     clear hG
     have HN_r:=ħ (HM_z.out.node 6 s_k sn)
     have HZ_r:=HZ_z
     clear HM_z HZ_z
     have hc69:=HW.out.c0
     have hc70:=HW.out.c1
     have hf71:=HW.out.f1
     replace HW:=ħ (HW.out.s1 (.int .i64 6) (.string (str s_k)) (.int .i64 sn) ((.slice (some ⟨g63,0,none⟩) 2 c63)))
     replace HN_r:=HW.out.ms1.N HN_r
     go_wp2_with fail
     generalize (((w68.setCell _ _).setCell _ _).setCell _ _).setCell _ _=w74 at *
     refine bodyPost_ret (rt rfl rfl HW.out.b1) rfl ?_
     exact ⟨HW.out.grown,_,HS.out,Or.inl ⟨_,_,HL.out,by rw [tk_tail,HSn.out,HXX.out,tk_tail];exact kd3 HT_k.out HQ.out (by rw [← tk_tail];exact HNum.out) HQ3.out,rfl,HN_r.out.mono (fun k hk _=>Nat.le_trans HZ_r.out hk.1),HW.out.ps⟩⟩
    have hc75:=HW.out.c0
    have hf76:=HW.out.f0
    replace HW:=ħ (HW.out.p03 ((.slice (some ⟨g63,0,none⟩) 2 c63)))
    replace HN_y:=ħ (HN_y.out.both (HW.out.mp03))
    replace HM_zz:=HW.out.mp03.R HM_zz
    go_simp
    refine hK.out _ _ trivial fun hHd=>?_
    clear hK K
    try simp only [qq]
    generalize w63.setCell _ _=w77 at *
    clear hc75 hf76
    refine rq 8 fun K hK=>?_
    obtain ⟨hRw,hGr,⟨z0,z1,z2,z3,y0,y1,y2,y3⟩,hfz⟩:=RowN.last (l:=[t_k]) HM_zz.out HN_y.out
    simp only [S4,List.length_cons,List.length_nil,Nat.zero_add,Nat.one_mul,Nat.reduceAdd] at hRw hGr y0 y1 y2 y3
    have hAg:Av w.heap.size _ g63:=HM_zz.out.own g63 rfl
    have HW2:=ħ (HW.out.rowed hGr (Nat.le_refl _) (fun j hj=>by obtain rfl:g63=j:=Option.some.inj hj;exact hAg))
    have HM_z:=hide hRw
    have HZ_z:=zz w
    clear hRw hGr HM_zz HN_y HW hAg HZ_y HZ_zz
    go_simp
    refine hK.out _ _ trivial (fun hHd=>?_)
    clear hK K y0 y1 y2 y3 hfz
    try simp only [qq]
    have HW:=HW2
    clear HW2
    generalize (((w77.setCell _ _).setCell _ _).setCell _ _).setCell _ _=w78 at *
    refine wpAnyH_done (by kernel_rfl) ?_ _
    have HA:=ħ (HW.out.ask1 HS.out HF.out (s:=sSEMI) (⟨_,_,rfl,by decide⟩) (by decide) (q:=w78.heap.size) (by simp))
    go_wp2_with fail
    go_at_call 94
    refine HA.out.mono ?_
    clear HA
    rintro e w79 (⟨HQ3,rfl,HL,hS,hW,hG⟩|⟨hq,rfl,h1⟩)
    rotate_left
    ·exact ⟨rfl,h1,_,HS.out,Or.inr ⟨kd2 HT_k.out HQ.out (by rw [← tk_tail];exact HNum.out) hq,rfl⟩⟩
    replace HM_z:=HW.out.kR HZ_z hG HM_z
    replace HW:=hW
    replace HS:=hS
    clear hG
    have HN_r:=ħ (HM_z.out.node 6 s_k sn)
    have HZ_r:=HZ_z
    clear HM_z HZ_z
    have hc80:=HW.out.c0
    have hc81:=HW.out.c1
    have hf82:=HW.out.f1
    replace HW:=ħ (HW.out.s1 (.int .i64 6) (.string (str s_k)) (.int .i64 sn) ((.slice (some ⟨g63,0,none⟩) 2 c63)))
    replace HN_r:=HW.out.ms1.N HN_r
    go_wp2_with fail
    generalize (((w79.setCell _ _).setCell _ _).setCell _ _).setCell _ _=w85 at *
    refine bodyPost_ret (rt rfl rfl HW.out.b1) rfl ?_
    exact ⟨HW.out.grown,_,HS.out,Or.inl ⟨_,_,HL.out,by rw [tk_tail,HSn.out,HXX.out,tk_tail];exact kd3 HT_k.out HQ.out (by rw [← tk_tail];exact HNum.out) HQ3.out,rfl,HN_r.out.mono (fun k hk _=>Nat.le_trans HZ_r.out hk.1),HW.out.ps⟩⟩
   replace HW:=HW.out.az
   replace HN_y:=HW.out.nA HN_y
   replace HM_k:=HW.out.rA HM_k
   go_simp
   refine hK.out _ _ trivial fun hHd=>?_
   clear hK K
   try simp only [qq]
   generalize w60.alloc _=w86 at *
   refine rq 1 fun K hK=>?_
   have hc87:=HW.out.c1
   go_simp
   clear hc87
   refine hK.out _ _ trivial fun hHd=>?_
   clear hK K
   try simp only [qq]
   refine tq 4 ?_
   simp only [qq]
   refine rq 6 fun K hK=>?_
   refine app_z0 _ _ rfl rfl HW.out HM_k.out HN_y.out HZ_k.out HZ_y.out HO_k.out (by simp) rfl rfl ?_
   intro g88 c88 w88 hW88 hM88 hN88
   clear HM_k HZ_k HO_k HN_y HZ_y
   replace HW:=ħ (hW88)
   have HM_zz:Hid (RowN w88 (Av w.heap.size _) (.slice (some ⟨g88,0,none⟩) 2 c88) ([t_k]++[.mk 0 [] 0 []])):=hM88
   have HN_y:Hid (NdV w88 (fun j=>Av w.heap.size _ j∧j≠g88) (.mk kk [] xx []) (.agg #[.int .i64 kk,.string ⟨#[]⟩,.int .i64 xx,.slice none 0 0])):=hN88
   have HZ_zz:=zz w
   have HZ_y:=HZ_zz
   clear hW88 hM88 hN88
   refine hK.out _ _ trivial fun hHd=>?_
   clear hK K
   try simp only [qq]
   refine tq 7 ?_
   simp only [qq]
   refine tq 9 ?_
   simp only [qq]
   refine rq2 8 10 (fun K hK=>?_) fun K hK=>?_
   ·obtain ⟨hRw,hGr,⟨z0,z1,z2,z3,y0,y1,y2,y3⟩,hfz⟩:=RowN.last (l:=[t_k]) HM_zz.out HN_y.out
    simp only [S4,List.length_cons,List.length_nil,Nat.zero_add,Nat.one_mul,Nat.reduceAdd] at hRw hGr y0 y1 y2 y3
    have hAg:Av w.heap.size _ g88:=HM_zz.out.own g88 rfl
    have HW2:=ħ (HW.out.rowed hGr (Nat.le_refl _) (fun j hj=>by obtain rfl:g88=j:=Option.some.inj hj;exact hAg))
    have HM_z:=hide hRw
    have HZ_z:=zz w
    clear hRw hGr HM_zz HN_y HW hAg HZ_y HZ_zz
    go_simp
    refine hK.out _ _ trivial (fun hHd=>?_)
    clear hK K y0 y1 y2 y3 hfz
    try simp only [qq]
    have HW:=HW2
    clear HW2
    generalize (((w88.setCell _ _).setCell _ _).setCell _ _).setCell _ _=w89 at *
    refine rq 10 fun K hK=>?_
    have hc90:=HW.out.c0
    have hf91:=HW.out.f0
    replace HW:=ħ (HW.out.p03 ((.slice (some ⟨g88,0,none⟩) 2 c88)))
    replace HM_z:=HW.out.mp03.R HM_z
    go_simp
    refine hK.out _ _ trivial fun hHd=>?_
    clear hK K
    try simp only [qq]
    generalize w89.setCell _ _=w92 at *
    clear hc90 hf91
    refine wpAnyH_done (by kernel_rfl) ?_ _
    have HA:=ħ (HW.out.ask1 HS.out HF.out (s:=sSEMI) (⟨_,_,rfl,by decide⟩) (by decide) (q:=w92.heap.size) (by simp))
    go_wp2_with fail
    go_at_call 94
    refine HA.out.mono ?_
    clear HA
    rintro e w93 (⟨HQ3,rfl,HL,hS,hW,hG⟩|⟨hq,rfl,h1⟩)
    rotate_left
    ·exact ⟨rfl,h1,_,HS.out,Or.inr ⟨kd2 HT_k.out HQ.out (by rw [← tk_tail];exact HNum.out) hq,rfl⟩⟩
    replace HM_z:=HW.out.kR HZ_z hG HM_z
    replace HW:=hW
    replace HS:=hS
    clear hG
    have HN_r:=ħ (HM_z.out.node 6 s_k sn)
    have HZ_r:=HZ_z
    clear HM_z HZ_z
    have hc94:=HW.out.c0
    have hc95:=HW.out.c1
    have hf96:=HW.out.f1
    replace HW:=ħ (HW.out.s1 (.int .i64 6) (.string (str s_k)) (.int .i64 sn) ((.slice (some ⟨g88,0,none⟩) 2 c88)))
    replace HN_r:=HW.out.ms1.N HN_r
    go_wp2_with fail
    generalize (((w93.setCell _ _).setCell _ _).setCell _ _).setCell _ _=w99 at *
    refine bodyPost_ret (rt rfl rfl HW.out.b1) rfl ?_
    exact ⟨HW.out.grown,_,HS.out,Or.inl ⟨_,_,HL.out,by rw [tk_tail,HSn.out,HXX.out,tk_tail];exact kd3 HT_k.out HQ.out (by rw [← tk_tail];exact HNum.out) HQ3.out,rfl,HN_r.out.mono (fun k hk _=>Nat.le_trans HZ_r.out hk.1),HW.out.ps⟩⟩
   have hc100:=HW.out.c0
   have hf101:=HW.out.f0
   replace HW:=ħ (HW.out.p03 ((.slice (some ⟨g88,0,none⟩) 2 c88)))
   replace HN_y:=ħ (HN_y.out.both (HW.out.mp03))
   replace HM_zz:=HW.out.mp03.R HM_zz
   go_simp
   refine hK.out _ _ trivial fun hHd=>?_
   clear hK K
   try simp only [qq]
   generalize w88.setCell _ _=w102 at *
   clear hc100 hf101
   refine rq 8 fun K hK=>?_
   obtain ⟨hRw,hGr,⟨z0,z1,z2,z3,y0,y1,y2,y3⟩,hfz⟩:=RowN.last (l:=[t_k]) HM_zz.out HN_y.out
   simp only [S4,List.length_cons,List.length_nil,Nat.zero_add,Nat.one_mul,Nat.reduceAdd] at hRw hGr y0 y1 y2 y3
   have hAg:Av w.heap.size _ g88:=HM_zz.out.own g88 rfl
   have HW2:=ħ (HW.out.rowed hGr (Nat.le_refl _) (fun j hj=>by obtain rfl:g88=j:=Option.some.inj hj;exact hAg))
   have HM_z:=hide hRw
   have HZ_z:=zz w
   clear hRw hGr HM_zz HN_y HW hAg HZ_y HZ_zz
   go_simp
   refine hK.out _ _ trivial (fun hHd=>?_)
   clear hK K y0 y1 y2 y3 hfz
   try simp only [qq]
   have HW:=HW2
   clear HW2
   generalize (((w102.setCell _ _).setCell _ _).setCell _ _).setCell _ _=w103 at *
   refine wpAnyH_done (by kernel_rfl) ?_ _
   have HA:=ħ (HW.out.ask1 HS.out HF.out (s:=sSEMI) (⟨_,_,rfl,by decide⟩) (by decide) (q:=w103.heap.size) (by simp))
   go_wp2_with fail
   go_at_call 94
   refine HA.out.mono ?_
   clear HA
   rintro e w104 (⟨HQ3,rfl,HL,hS,hW,hG⟩|⟨hq,rfl,h1⟩)
   rotate_left
   ·exact ⟨rfl,h1,_,HS.out,Or.inr ⟨kd2 HT_k.out HQ.out (by rw [← tk_tail];exact HNum.out) hq,rfl⟩⟩
   replace HM_z:=HW.out.kR HZ_z hG HM_z
   replace HW:=hW
   replace HS:=hS
   clear hG
   have HN_r:=ħ (HM_z.out.node 6 s_k sn)
   have HZ_r:=HZ_z
   clear HM_z HZ_z
   have hc105:=HW.out.c0
   have hc106:=HW.out.c1
   have hf107:=HW.out.f1
   replace HW:=ħ (HW.out.s1 (.int .i64 6) (.string (str s_k)) (.int .i64 sn) ((.slice (some ⟨g88,0,none⟩) 2 c88)))
   replace HN_r:=HW.out.ms1.N HN_r
   go_wp2_with fail
   generalize (((w104.setCell _ _).setCell _ _).setCell _ _).setCell _ _=w110 at *
   refine bodyPost_ret (rt rfl rfl HW.out.b1) rfl ?_
   exact ⟨HW.out.grown,_,HS.out,Or.inl ⟨_,_,HL.out,by rw [tk_tail,HSn.out,HXX.out,tk_tail];exact kd3 HT_k.out HQ.out (by rw [← tk_tail];exact HNum.out) HQ3.out,rfl,HN_r.out.mono (fun k hk _=>Nat.le_trans HZ_r.out hk.1),HW.out.ps⟩⟩
  replace HW:=HW.out.az
  replace HM_k:=HW.out.rA HM_k
  go_simp
  refine hK.out _ _ trivial fun hHd=>?_
  clear hK K
  try simp only [qq]
  generalize w8.alloc _=w111 at *
  refine rq2 1 3 (fun K hK=>?_) fun K hK=>?_
  ·have hc112:=HW.out.c1
   go_simp
   clear hc112
   refine hK.out _ _ trivial fun hHd=>?_
   clear hK K
   try simp only [qq]
   refine tq 4 ?_
   simp only [qq]
   refine rq 3 fun K hK=>?_
   go_simp
   refine (value_any HW.out.ps HW.out.two HW.out.glo HW.out.bg HW.out.glt (HF.out.suf HS.out) (Nat.le_trans HS.out.length_le HLn.out)).mono ?_
   rintro e w113 ⟨hG113,r113,hsu,⟨kk,x,hlt,hnum,rfl,hP113⟩|⟨hnum,rfl⟩⟩
   rotate_left
   ·exact ⟨rfl,grown_trans HW.out.grown hG113,_,hsu.trans HS.out,Or.inr ⟨kd1 HT_k.out HQ.out (by rw [← tk_tail];exact hnum),rfl⟩⟩
   have HNum:=hide hnum
   have HZ_y:Hid (w.heap.size≤w111.heap.size):=HW.out.grown.size
   have HL:Hid (r113.length<ts.length):=Nat.lt_of_lt_of_le hlt HS.out.length_le
   obtain ⟨xx,hxx⟩:∃ xx,xx=(if hd (tk r2.tail)=sMINUS then -x else x):=⟨_,rfl⟩
   rw [← hxx]
   have HXX:=hide hxx
   clear hxx
   have HO_k:Hid (∀ k,((.slice (some ⟨q_k,0,none⟩) 1 1):Value).ownBlock=some k→k<w111.heap.size):=HM_k.out.lt
   replace HM_k:=HW.out.kR HZ_k hG113 HM_k
   replace HW:=ħ (HW.out.call hG113 hP113)
   replace HS:=ħ ((hsu).trans HS.out)
   have HN_y:Hid (NdV w113 (Av w111.heap.size [(w8.heap.size,#[.int .i64 0,.string ⟨#[]⟩,.int .i64 0,.slice none 0 0],24),(w2.heap.size,#[.int .i64 6,.string (str s_k),.int .i64 sn,(.slice (some ⟨q_k,0,none⟩) 1 1)],24),(w.heap.size,#[.int .i64 0,.string ⟨#[]⟩,.int .i64 0,.slice none 0 0],24)]) (.mk kk [] xx []) (.agg #[.int .i64 kk,.string ⟨#[]⟩,.int .i64 xx,.slice none 0 0])):=NdV.bare kk [] xx none 0
   clear hP113 hG113 hnum hsu hlt
   refine hK.out _ _ trivial fun hHd=>?_
   clear hK K
   try simp only [qq]
   refine rq 6 fun K hK=>?_
   refine app_z0 _ _ rfl rfl HW.out HM_k.out HN_y.out HZ_k.out HZ_y.out HO_k.out (by simp) rfl rfl ?_
   intro g114 c114 w114 hW114 hM114 hN114
   clear HM_k HZ_k HO_k HN_y HZ_y
   replace HW:=ħ (hW114)
   have HM_zz:Hid (RowN w114 (Av w.heap.size _) (.slice (some ⟨g114,0,none⟩) 2 c114) ([t_k]++[.mk 0 [] 0 []])):=hM114
   have HN_y:Hid (NdV w114 (fun j=>Av w.heap.size _ j∧j≠g114) (.mk kk [] xx []) (.agg #[.int .i64 kk,.string ⟨#[]⟩,.int .i64 xx,.slice none 0 0])):=hN114
   have HZ_zz:=zz w
   have HZ_y:=HZ_zz
   clear hW114 hM114 hN114
   refine hK.out _ _ trivial fun hHd=>?_
   clear hK K
   try simp only [qq]
   refine tq 7 ?_
   simp only [qq]
   refine tq 9 ?_
   simp only [qq]
   refine rq2 8 10 (fun K hK=>?_) fun K hK=>?_
   ·obtain ⟨hRw,hGr,⟨z0,z1,z2,z3,y0,y1,y2,y3⟩,hfz⟩:=RowN.last (l:=[t_k]) HM_zz.out HN_y.out
    simp only [S4,List.length_cons,List.length_nil,Nat.zero_add,Nat.one_mul,Nat.reduceAdd] at hRw hGr y0 y1 y2 y3
    have hAg:Av w.heap.size _ g114:=HM_zz.out.own g114 rfl
    have HW2:=ħ (HW.out.rowed hGr (Nat.le_refl _) (fun j hj=>by obtain rfl:g114=j:=Option.some.inj hj;exact hAg))
    have HM_z:=hide hRw
    have HZ_z:=zz w
    clear hRw hGr HM_zz HN_y HW hAg HZ_y HZ_zz
    go_simp
    refine hK.out _ _ trivial (fun hHd=>?_)
    clear hK K y0 y1 y2 y3 hfz
    try simp only [qq]
    have HW:=HW2
    clear HW2
    generalize (((w114.setCell _ _).setCell _ _).setCell _ _).setCell _ _=w115 at *
    refine rq 10 fun K hK=>?_
    have hc116:=HW.out.c0
    have hf117:=HW.out.f0
    replace HW:=ħ (HW.out.p03 ((.slice (some ⟨g114,0,none⟩) 2 c114)))
    replace HM_z:=HW.out.mp03.R HM_z
    go_simp
    refine hK.out _ _ trivial fun hHd=>?_
    clear hK K
    try simp only [qq]
    generalize w115.setCell _ _=w118 at *
    clear hc116 hf117
    refine wpAnyH_done (by kernel_rfl) ?_ _
    have HA:=ħ (HW.out.ask1 HS.out HF.out (s:=sSEMI) (⟨_,_,rfl,by decide⟩) (by decide) (q:=w118.heap.size) (by simp))
    go_wp2_with fail
    go_at_call 94
    refine HA.out.mono ?_
    clear HA
    rintro e w119 (⟨HQ3,rfl,HL,hS,hW,hG⟩|⟨hq,rfl,h1⟩)
    rotate_left
    ·exact ⟨rfl,h1,_,HS.out,Or.inr ⟨kd2 HT_k.out HQ.out (by rw [← tk_tail];exact HNum.out) hq,rfl⟩⟩
    replace HM_z:=HW.out.kR HZ_z hG HM_z
    replace HW:=hW
    replace HS:=hS
    clear hG
    have HN_r:=ħ (HM_z.out.node 6 s_k sn)
    have HZ_r:=HZ_z
    clear HM_z HZ_z
    have hc120:=HW.out.c0
    have hc121:=HW.out.c1
    have hf122:=HW.out.f1
    replace HW:=ħ (HW.out.s1 (.int .i64 6) (.string (str s_k)) (.int .i64 sn) ((.slice (some ⟨g114,0,none⟩) 2 c114)))
    replace HN_r:=HW.out.ms1.N HN_r
    go_wp2_with fail
    generalize (((w119.setCell _ _).setCell _ _).setCell _ _).setCell _ _=w125 at *
    refine bodyPost_ret (rt rfl rfl HW.out.b1) rfl ?_
    exact ⟨HW.out.grown,_,HS.out,Or.inl ⟨_,_,HL.out,by rw [tk_tail,HSn.out,HXX.out,tk_tail];exact kd3 HT_k.out HQ.out (by rw [← tk_tail];exact HNum.out) HQ3.out,rfl,HN_r.out.mono (fun k hk _=>Nat.le_trans HZ_r.out hk.1),HW.out.ps⟩⟩
   have hc126:=HW.out.c0
   have hf127:=HW.out.f0
   replace HW:=ħ (HW.out.p03 ((.slice (some ⟨g114,0,none⟩) 2 c114)))
   replace HN_y:=ħ (HN_y.out.both (HW.out.mp03))
   replace HM_zz:=HW.out.mp03.R HM_zz
   go_simp
   refine hK.out _ _ trivial fun hHd=>?_
   clear hK K
   try simp only [qq]
   generalize w114.setCell _ _=w128 at *
   clear hc126 hf127
   refine rq 8 fun K hK=>?_
   obtain ⟨hRw,hGr,⟨z0,z1,z2,z3,y0,y1,y2,y3⟩,hfz⟩:=RowN.last (l:=[t_k]) HM_zz.out HN_y.out
   simp only [S4,List.length_cons,List.length_nil,Nat.zero_add,Nat.one_mul,Nat.reduceAdd] at hRw hGr y0 y1 y2 y3
   have hAg:Av w.heap.size _ g114:=HM_zz.out.own g114 rfl
   have HW2:=ħ (HW.out.rowed hGr (Nat.le_refl _) (fun j hj=>by obtain rfl:g114=j:=Option.some.inj hj;exact hAg))
   have HM_z:=hide hRw
   have HZ_z:=zz w
   clear hRw hGr HM_zz HN_y HW hAg HZ_y HZ_zz
   go_simp
   refine hK.out _ _ trivial (fun hHd=>?_)
   clear hK K y0 y1 y2 y3 hfz
   try simp only [qq]
   have HW:=HW2
   clear HW2
   generalize (((w128.setCell _ _).setCell _ _).setCell _ _).setCell _ _=w129 at *
   refine wpAnyH_done (by kernel_rfl) ?_ _
   have HA:=ħ (HW.out.ask1 HS.out HF.out (s:=sSEMI) (⟨_,_,rfl,by decide⟩) (by decide) (q:=w129.heap.size) (by simp))
   go_wp2_with fail
   go_at_call 94
   refine HA.out.mono ?_
   clear HA
   rintro e w130 (⟨HQ3,rfl,HL,hS,hW,hG⟩|⟨hq,rfl,h1⟩)
   rotate_left
   ·exact ⟨rfl,h1,_,HS.out,Or.inr ⟨kd2 HT_k.out HQ.out (by rw [← tk_tail];exact HNum.out) hq,rfl⟩⟩
   replace HM_z:=HW.out.kR HZ_z hG HM_z
   replace HW:=hW
   replace HS:=hS
   clear hG
   have HN_r:=ħ (HM_z.out.node 6 s_k sn)
   have HZ_r:=HZ_z
   clear HM_z HZ_z
   have hc131:=HW.out.c0
   have hc132:=HW.out.c1
   have hf133:=HW.out.f1
   replace HW:=ħ (HW.out.s1 (.int .i64 6) (.string (str s_k)) (.int .i64 sn) ((.slice (some ⟨g114,0,none⟩) 2 c114)))
   replace HN_r:=HW.out.ms1.N HN_r
   go_wp2_with fail
   generalize (((w130.setCell _ _).setCell _ _).setCell _ _).setCell _ _=w136 at *
   refine bodyPost_ret (rt rfl rfl HW.out.b1) rfl ?_
   exact ⟨HW.out.grown,_,HS.out,Or.inl ⟨_,_,HL.out,by rw [tk_tail,HSn.out,HXX.out,tk_tail];exact kd3 HT_k.out HQ.out (by rw [← tk_tail];exact HNum.out) HQ3.out,rfl,HN_r.out.mono (fun k hk _=>Nat.le_trans HZ_r.out hk.1),HW.out.ps⟩⟩
  go_simp
  refine (value_any HW.out.ps HW.out.two HW.out.glo HW.out.bg HW.out.glt (HF.out.suf HS.out) (Nat.le_trans HS.out.length_le HLn.out)).mono ?_
  rintro e w137 ⟨hG137,r137,hsu,⟨kk,x,hlt,hnum,rfl,hP137⟩|⟨hnum,rfl⟩⟩
  rotate_left
  ·exact ⟨rfl,grown_trans HW.out.grown hG137,_,hsu.trans HS.out,Or.inr ⟨kd1 HT_k.out HQ.out (by rw [← tk_tail];exact hnum),rfl⟩⟩
  have HNum:=hide hnum
  have HZ_y:Hid (w.heap.size≤w111.heap.size):=HW.out.grown.size
  have HL:Hid (r137.length<ts.length):=Nat.lt_of_lt_of_le hlt HS.out.length_le
  obtain ⟨xx,hxx⟩:∃ xx,xx=(if hd (tk r2.tail)=sMINUS then -x else x):=⟨_,rfl⟩
  rw [← hxx]
  have HXX:=hide hxx
  clear hxx
  have HO_k:Hid (∀ k,((.slice (some ⟨q_k,0,none⟩) 1 1):Value).ownBlock=some k→k<w111.heap.size):=HM_k.out.lt
  replace HM_k:=HW.out.kR HZ_k hG137 HM_k
  replace HW:=ħ (HW.out.call hG137 hP137)
  replace HS:=ħ ((hsu).trans HS.out)
  have HN_y:Hid (NdV w137 (Av w111.heap.size [(w8.heap.size,#[.int .i64 0,.string ⟨#[]⟩,.int .i64 0,.slice none 0 0],24),(w2.heap.size,#[.int .i64 6,.string (str s_k),.int .i64 sn,(.slice (some ⟨q_k,0,none⟩) 1 1)],24),(w.heap.size,#[.int .i64 0,.string ⟨#[]⟩,.int .i64 0,.slice none 0 0],24)]) (.mk kk [] xx []) (.agg #[.int .i64 kk,.string ⟨#[]⟩,.int .i64 xx,.slice none 0 0])):=NdV.bare kk [] xx none 0
  clear hP137 hG137 hnum hsu hlt
  refine hK.out _ _ trivial fun hHd=>?_
  clear hK K
  try simp only [qq]
  refine rq 1 fun K hK=>?_
  have hc138:=HW.out.c1
  go_simp
  clear hc138
  refine hK.out _ _ trivial fun hHd=>?_
  clear hK K
  try simp only [qq]
  refine tq 4 ?_
  simp only [qq]
  refine rq 6 fun K hK=>?_
  refine app_z0 _ _ rfl rfl HW.out HM_k.out HN_y.out HZ_k.out HZ_y.out HO_k.out (by simp) rfl rfl ?_
  intro g139 c139 w139 hW139 hM139 hN139
  clear HM_k HZ_k HO_k HN_y HZ_y
  replace HW:=ħ (hW139)
  have HM_zz:Hid (RowN w139 (Av w.heap.size _) (.slice (some ⟨g139,0,none⟩) 2 c139) ([t_k]++[.mk 0 [] 0 []])):=hM139
  have HN_y:Hid (NdV w139 (fun j=>Av w.heap.size _ j∧j≠g139) (.mk kk [] xx []) (.agg #[.int .i64 kk,.string ⟨#[]⟩,.int .i64 xx,.slice none 0 0])):=hN139
  have HZ_zz:=zz w
  have HZ_y:=HZ_zz
  clear hW139 hM139 hN139
  refine hK.out _ _ trivial fun hHd=>?_
  clear hK K
  try simp only [qq]
  refine tq 7 ?_
  simp only [qq]
  refine tq 9 ?_
  simp only [qq]
  refine rq2 8 10 (fun K hK=>?_) fun K hK=>?_
  ·obtain ⟨hRw,hGr,⟨z0,z1,z2,z3,y0,y1,y2,y3⟩,hfz⟩:=RowN.last (l:=[t_k]) HM_zz.out HN_y.out
   simp only [S4,List.length_cons,List.length_nil,Nat.zero_add,Nat.one_mul,Nat.reduceAdd] at hRw hGr y0 y1 y2 y3
   have hAg:Av w.heap.size _ g139:=HM_zz.out.own g139 rfl
   have HW2:=ħ (HW.out.rowed hGr (Nat.le_refl _) (fun j hj=>by obtain rfl:g139=j:=Option.some.inj hj;exact hAg))
   have HM_z:=hide hRw
   have HZ_z:=zz w
   clear hRw hGr HM_zz HN_y HW hAg HZ_y HZ_zz
   go_simp
   refine hK.out _ _ trivial (fun hHd=>?_)
   clear hK K y0 y1 y2 y3 hfz
   try simp only [qq]
   have HW:=HW2
   clear HW2
   generalize (((w139.setCell _ _).setCell _ _).setCell _ _).setCell _ _=w140 at *
   refine rq 10 fun K hK=>?_
   have hc141:=HW.out.c0
   have hf142:=HW.out.f0
   replace HW:=ħ (HW.out.p03 ((.slice (some ⟨g139,0,none⟩) 2 c139)))
   replace HM_z:=HW.out.mp03.R HM_z
   go_simp
   refine hK.out _ _ trivial fun hHd=>?_
   clear hK K
   try simp only [qq]
   generalize w140.setCell _ _=w143 at *
   clear hc141 hf142
   refine wpAnyH_done (by kernel_rfl) ?_ _
   have HA:=ħ (HW.out.ask1 HS.out HF.out (s:=sSEMI) (⟨_,_,rfl,by decide⟩) (by decide) (q:=w143.heap.size) (by simp))
   go_wp2_with fail
   go_at_call 94
   refine HA.out.mono ?_
   clear HA
   rintro e w144 (⟨HQ3,rfl,HL,hS,hW,hG⟩|⟨hq,rfl,h1⟩)
   rotate_left
   ·exact ⟨rfl,h1,_,HS.out,Or.inr ⟨kd2 HT_k.out HQ.out (by rw [← tk_tail];exact HNum.out) hq,rfl⟩⟩
   replace HM_z:=HW.out.kR HZ_z hG HM_z
   replace HW:=hW
   replace HS:=hS
   clear hG
   have HN_r:=ħ (HM_z.out.node 6 s_k sn)
   have HZ_r:=HZ_z
   clear HM_z HZ_z
   have hc145:=HW.out.c0
   have hc146:=HW.out.c1
   have hf147:=HW.out.f1
   replace HW:=ħ (HW.out.s1 (.int .i64 6) (.string (str s_k)) (.int .i64 sn) ((.slice (some ⟨g139,0,none⟩) 2 c139)))
   replace HN_r:=HW.out.ms1.N HN_r
   go_wp2_with fail
   generalize (((w144.setCell _ _).setCell _ _).setCell _ _).setCell _ _=w150 at *
   refine bodyPost_ret (rt rfl rfl HW.out.b1) rfl ?_
   exact ⟨HW.out.grown,_,HS.out,Or.inl ⟨_,_,HL.out,by rw [tk_tail,HSn.out,HXX.out,tk_tail];exact kd3 HT_k.out HQ.out (by rw [← tk_tail];exact HNum.out) HQ3.out,rfl,HN_r.out.mono (fun k hk _=>Nat.le_trans HZ_r.out hk.1),HW.out.ps⟩⟩
  have hc151:=HW.out.c0
  have hf152:=HW.out.f0
  replace HW:=ħ (HW.out.p03 ((.slice (some ⟨g139,0,none⟩) 2 c139)))
  replace HN_y:=ħ (HN_y.out.both (HW.out.mp03))
  replace HM_zz:=HW.out.mp03.R HM_zz
  go_simp
  refine hK.out _ _ trivial fun hHd=>?_
  clear hK K
  try simp only [qq]
  generalize w139.setCell _ _=w153 at *
  clear hc151 hf152
  refine rq 8 fun K hK=>?_
  obtain ⟨hRw,hGr,⟨z0,z1,z2,z3,y0,y1,y2,y3⟩,hfz⟩:=RowN.last (l:=[t_k]) HM_zz.out HN_y.out
  simp only [S4,List.length_cons,List.length_nil,Nat.zero_add,Nat.one_mul,Nat.reduceAdd] at hRw hGr y0 y1 y2 y3
  have hAg:Av w.heap.size _ g139:=HM_zz.out.own g139 rfl
  have HW2:=ħ (HW.out.rowed hGr (Nat.le_refl _) (fun j hj=>by obtain rfl:g139=j:=Option.some.inj hj;exact hAg))
  have HM_z:=hide hRw
  have HZ_z:=zz w
  clear hRw hGr HM_zz HN_y HW hAg HZ_y HZ_zz
  go_simp
  refine hK.out _ _ trivial (fun hHd=>?_)
  clear hK K y0 y1 y2 y3 hfz
  try simp only [qq]
  have HW:=HW2
  clear HW2
  generalize (((w153.setCell _ _).setCell _ _).setCell _ _).setCell _ _=w154 at *
  refine wpAnyH_done (by kernel_rfl) ?_ _
  have HA:=ħ (HW.out.ask1 HS.out HF.out (s:=sSEMI) (⟨_,_,rfl,by decide⟩) (by decide) (q:=w154.heap.size) (by simp))
  go_wp2_with fail
  go_at_call 94
  refine HA.out.mono ?_
  clear HA
  rintro e w155 (⟨HQ3,rfl,HL,hS,hW,hG⟩|⟨hq,rfl,h1⟩)
  rotate_left
  ·exact ⟨rfl,h1,_,HS.out,Or.inr ⟨kd2 HT_k.out HQ.out (by rw [← tk_tail];exact HNum.out) hq,rfl⟩⟩
  replace HM_z:=HW.out.kR HZ_z hG HM_z
  replace HW:=hW
  replace HS:=hS
  clear hG
  have HN_r:=ħ (HM_z.out.node 6 s_k sn)
  have HZ_r:=HZ_z
  clear HM_z HZ_z
  have hc156:=HW.out.c0
  have hc157:=HW.out.c1
  have hf158:=HW.out.f1
  replace HW:=ħ (HW.out.s1 (.int .i64 6) (.string (str s_k)) (.int .i64 sn) ((.slice (some ⟨g139,0,none⟩) 2 c139)))
  replace HN_r:=HW.out.ms1.N HN_r
  go_wp2_with fail
  generalize (((w155.setCell _ _).setCell _ _).setCell _ _).setCell _ _=w161 at *
  refine bodyPost_ret (rt rfl rfl HW.out.b1) rfl ?_
  exact ⟨HW.out.grown,_,HS.out,Or.inl ⟨_,_,HL.out,by rw [tk_tail,HSn.out,HXX.out,tk_tail];exact kd3 HT_k.out HQ.out (by rw [← tk_tail];exact HNum.out) HQ3.out,rfl,HN_r.out.mono (fun k hk _=>Nat.le_trans HZ_r.out hk.1),HW.out.ps⟩⟩
 have HQ:Hid (¬ hd (tk r2)=sEQ):=fun e=>hq ((tx_hd (HF.out.suf HS.out) sEQ (⟨_,_,rfl,by decide⟩)).2 e)
 go_at_call 67
 refine (HW.out.tkN (x:=str sEQ) (by decide) hq).mono ?_
 rintro e w162 ⟨rfl,hW,hG⟩
 replace HM_k:=HW.out.kR HZ_k hG HM_k
 replace HW:=hW
 clear hG
 clear hq
 go_wp2_with fail
 go_at_call 96
 refine (function_any HW.out (HM_k.out.less HZ_k.out) (HF.out.suf HS.out) (Nat.le_trans HS.out.length_le HLn.out)).mono ?_
 rintro e w163 ⟨hG163,r163,hsu,⟨l_p,d_p,g_p,c_p,hlt,hll,hR,rfl,hW163,hM⟩|⟨hR,rfl⟩⟩
 rotate_left
 ·exact ⟨rfl,hG163,_,hsu.trans HS.out,Or.inr ⟨kd4 HT_k.out HQ.out hR,rfl⟩⟩
 have HR_p:=hide hR
 have HLl_p:Hid (l_p.length+r163.length≤r2.length):=hll
 have HM_p:=hide hM
 have HZ_p:=zz w
 have HL:Hid (r163.length<ts.length):=Nat.lt_of_lt_of_le hlt HS.out.length_le
 replace HS:=ħ (hsu.trans HS.out)
 clear HM_k HZ_k
 replace HW:=ħ (hW163)
 clear hR hM hsu hlt hll hW163 hG163
 obtain ⟨hd0,hd1⟩:=b2n_bd d_p
 obtain ⟨dn,hdn⟩:∃ dn,dn=b2n d_p:=⟨_,rfl⟩
 rw [← hdn] at hd0 hd1 HW HM_p
 have HDn:=hide hdn
 clear hdn
 obtain ⟨lp,hlp⟩:∃ lp,lp=l_p++[t_k]:=⟨_,rfl⟩
 have hlp2:l_p.length+1=lp.length:=by rw [hlp];simp
 rw [hlp2] at HW HM_p
 rw [← hlp] at HM_p
 have HLp:=hide hlp
 have HLp2:=hide hlp2
 clear hlp hlp2
 have hix:(lp.length:Int)<(lp.length:Int)+1:=by omega
 have hc164:=HW.out.c0
 have hf165:=HW.out.f0
 replace HW:=ħ (HW.out.p00 (.int .i64 7))
 replace HM_p:=HW.out.mp00.R HM_p
 have hc166:=HW.out.c0
 have hf167:=HW.out.f0
 replace HW:=ħ (HW.out.p02 (.int .i64 (sn+2*dn)))
 replace HM_p:=HW.out.mp02.R HM_p
 go_wp2_with fail
 generalize (w163.setCell _ _).setCell _ _=w168 at *
 clear hc164 hf165 hc166 hf167
 replace HM_p:=ħ ((Mv.quiet (grown_drew w168)).row HM_p.out)
 replace HW:=ħ (HW.out.quiet (grown_drew w168))
 refine wp_region_held_drew (S:=(fun _=>True)) (by kernel_rfl) trivial fun hHd=>?_
 generalize w168.drew=w169 at *
 refine tq 0 ?_
 simp only [qq]
 refine tq 2 ?_
 simp only [qq]
 refine wpAnyH_ready (rs:=[1,3,5]) (by kernel_rfl) (by simp) ?_
 refine AllReadyH.cons rfl (fun K hK=>?_) (AllReadyH.cons rfl (fun K hK=>?_) (AllReadyH.cons rfl (fun K hK=>?_) AllReadyH.nil))
 ·have hc170:=HW.out.c0
  go_simp
  clear hc170
  refine hK.out _ _ trivial fun hHd=>?_
  clear hK K
  try simp only [qq]
  refine tq 4 ?_
  simp only [qq]
  refine rq2 3 5 (fun K hK=>?_) fun K hK=>?_
  ·go_simp
   refine (HBl.out r163 HS.out HL.out w169 HW.out.ps HW.out.two HW.out.glo HW.out.glt (HF.out.suf HS.out) (Nat.le_trans HS.out.length_le HLn.out)).mono ?_
   rintro e w171 hp
   obtain ⟨r171,n_y,k_y,t_y,v_y,a_y,l_y,c_y,rfl,HR_y,HN_y,HZ_y,HL,HSy,HLs2,hS,hW,hG⟩|⟨r,hR,rfl,h1,h2⟩:=HW.out.okN HS.out hp
   rotate_left
   ·exact ⟨rfl,h1,_,h2,Or.inr ⟨kd5 HT_k.out HR_p.out hR,rfl⟩⟩
   have HO_p:=hide HM_p.out.lt
   replace HM_p:=HW.out.kR HZ_p hG HM_p
   replace HW:=hW
   replace HS:=hS
   clear hG hp
   refine hK.out _ _ trivial fun hHd=>?_
   clear hK K
   try simp only [qq]
   refine rq 5 fun K hK=>?_
   replace HW:=HW.out.az
   replace HN_y:=HW.out.nA HN_y
   replace HM_p:=HW.out.rA HM_p
   go_simp
   refine hK.out _ _ trivial fun hHd=>?_
   clear hK K
   try simp only [qq]
   generalize w171.alloc _=w172 at *
   refine rq 6 fun K hK=>?_
   refine app_z0 _ _ rfl rfl HW.out HM_p.out HN_y.out HZ_p.out HZ_y.out HO_p.out (by have h1:=HLl_p.out;have h2:=HLn.out;have h3:=HSk.out.length_le;have h4:=HLp2.out;omega) rfl rfl ?_
   intro g173 c173 w173 hW173 hM173 hN173
   clear HM_p HZ_p HO_p HN_y HZ_y
   replace HW:=ħ (hW173)
   have HM_zz:Hid (RowN w173 (Av w.heap.size _) (.slice (some ⟨g173,0,none⟩) (lp.length+1) c173) (lp++[.mk 0 [] 0 []])):=hM173
   have HN_y:Hid (NdV w173 (fun j=>Av w.heap.size _ j∧j≠g173) n_y (.agg #[.int .i64 k_y,.string t_y,.int .i64 v_y,.slice a_y l_y c_y])):=hN173
   have HZ_zz:=zz w
   have HZ_y:=HZ_zz
   clear hW173 hM173 hN173
   refine hK.out _ _ trivial fun hHd=>?_
   clear hK K
   try simp only [qq]
   refine tq 7 ?_
   simp only [qq]
   refine tq 9 ?_
   simp only [qq]
   refine rq2 8 10 (fun K hK=>?_) fun K hK=>?_
   ·obtain ⟨hRw,hGr,⟨z0,z1,z2,z3,y0,y1,y2,y3⟩,hfz⟩:=RowN.last (l:=lp) HM_zz.out HN_y.out
    simp only [S4,List.length_cons,List.length_nil,Nat.zero_add,Nat.one_mul,Nat.reduceAdd] at hRw hGr y0 y1 y2 y3
    have hAg:Av w.heap.size _ g173:=HM_zz.out.own g173 rfl
    have HW2:=ħ (HW.out.rowed hGr (Nat.le_refl _) (fun j hj=>by obtain rfl:g173=j:=Option.some.inj hj;exact hAg))
    have HM_z:=hide hRw
    have HZ_z:=zz w
    clear hRw hGr HM_zz HN_y HW hAg HZ_y HZ_zz
    go_simp
    refine hK.out _ _ trivial (fun hHd=>?_)
    clear hK K y0 y1 y2 y3 hfz
    try simp only [qq]
    have HW:=HW2
    clear HW2
    generalize (((w173.setCell _ _).setCell _ _).setCell _ _).setCell _ _=w174 at *
    refine rq 10 fun K hK=>?_
    have hc175:=HW.out.c0
    have hf176:=HW.out.f0
    replace HW:=ħ (HW.out.p03 ((.slice (some ⟨g173,0,none⟩) (lp.length+1) c173)))
    replace HM_z:=HW.out.mp03.R HM_z
    go_simp
    refine hK.out _ _ trivial fun hHd=>?_
    clear hK K
    try simp only [qq]
    generalize w174.setCell _ _=w177 at *
    clear hc175 hf176
    refine wpAnyH_done (by kernel_rfl) ?_ _
    have HN_r:=ħ (HM_z.out.node 7 s_k (sn+2*dn))
    have HZ_r:=HZ_z
    clear HM_z HZ_z
    have hc178:=HW.out.c0
    have hc179:=HW.out.c1
    have hf180:=HW.out.f1
    replace HW:=ħ (HW.out.s1 (.int .i64 7) (.string (str s_k)) (.int .i64 (sn+2*dn)) ((.slice (some ⟨g173,0,none⟩) (lp.length+1) c173)))
    replace HN_r:=HW.out.ms1.N HN_r
    go_wp2_with fail
    generalize (((w177.setCell _ _).setCell _ _).setCell _ _).setCell _ _=w183 at *
    refine bodyPost_ret (rt rfl rfl HW.out.b1) rfl ?_
    exact ⟨HW.out.grown,_,HS.out,Or.inl ⟨_,_,HL.out,by rw [HSn.out,HDn.out,HLp.out];exact kd6 HT_k.out HR_p.out HR_y.out,rfl,HN_r.out.mono (fun k hk _=>Nat.le_trans HZ_r.out hk.1),HW.out.ps⟩⟩
   have hc184:=HW.out.c0
   have hf185:=HW.out.f0
   replace HW:=ħ (HW.out.p03 ((.slice (some ⟨g173,0,none⟩) (lp.length+1) c173)))
   replace HN_y:=ħ (HN_y.out.both (HW.out.mp03))
   replace HM_zz:=HW.out.mp03.R HM_zz
   go_simp
   refine hK.out _ _ trivial fun hHd=>?_
   clear hK K
   try simp only [qq]
   generalize w173.setCell _ _=w186 at *
   clear hc184 hf185
   refine rq 8 fun K hK=>?_
   obtain ⟨hRw,hGr,⟨z0,z1,z2,z3,y0,y1,y2,y3⟩,hfz⟩:=RowN.last (l:=lp) HM_zz.out HN_y.out
   simp only [S4,List.length_cons,List.length_nil,Nat.zero_add,Nat.one_mul,Nat.reduceAdd] at hRw hGr y0 y1 y2 y3
   have hAg:Av w.heap.size _ g173:=HM_zz.out.own g173 rfl
   have HW2:=ħ (HW.out.rowed hGr (Nat.le_refl _) (fun j hj=>by obtain rfl:g173=j:=Option.some.inj hj;exact hAg))
   have HM_z:=hide hRw
   have HZ_z:=zz w
   clear hRw hGr HM_zz HN_y HW hAg HZ_y HZ_zz
   go_simp
   refine hK.out _ _ trivial (fun hHd=>?_)
   clear hK K y0 y1 y2 y3 hfz
   try simp only [qq]
   have HW:=HW2
   clear HW2
   generalize (((w186.setCell _ _).setCell _ _).setCell _ _).setCell _ _=w187 at *
   refine wpAnyH_done (by kernel_rfl) ?_ _
   have HN_r:=ħ (HM_z.out.node 7 s_k (sn+2*dn))
   have HZ_r:=HZ_z
   clear HM_z HZ_z
   have hc188:=HW.out.c0
   have hc189:=HW.out.c1
   have hf190:=HW.out.f1
   replace HW:=ħ (HW.out.s1 (.int .i64 7) (.string (str s_k)) (.int .i64 (sn+2*dn)) ((.slice (some ⟨g173,0,none⟩) (lp.length+1) c173)))
   replace HN_r:=HW.out.ms1.N HN_r
   go_wp2_with fail
   generalize (((w187.setCell _ _).setCell _ _).setCell _ _).setCell _ _=w193 at *
   refine bodyPost_ret (rt rfl rfl HW.out.b1) rfl ?_
   exact ⟨HW.out.grown,_,HS.out,Or.inl ⟨_,_,HL.out,by rw [HSn.out,HDn.out,HLp.out];exact kd6 HT_k.out HR_p.out HR_y.out,rfl,HN_r.out.mono (fun k hk _=>Nat.le_trans HZ_r.out hk.1),HW.out.ps⟩⟩
  replace HW:=HW.out.az
  replace HM_p:=HW.out.rA HM_p
  go_simp
  refine hK.out _ _ trivial fun hHd=>?_
  clear hK K
  try simp only [qq]
  generalize w169.alloc _=w194 at *
  refine rq 3 fun K hK=>?_
  go_simp
  refine (HBl.out r163 HS.out HL.out w194 HW.out.ps HW.out.two HW.out.glo HW.out.glt (HF.out.suf HS.out) (Nat.le_trans HS.out.length_le HLn.out)).mono ?_
  rintro e w195 hp
  obtain ⟨r195,n_y,k_y,t_y,v_y,a_y,l_y,c_y,rfl,HR_y,HN_y,HZ_y,HL,HSy,HLs2,hS,hW,hG⟩|⟨r,hR,rfl,h1,h2⟩:=HW.out.okN HS.out hp
  rotate_left
  ·exact ⟨rfl,h1,_,h2,Or.inr ⟨kd5 HT_k.out HR_p.out hR,rfl⟩⟩
  have HO_p:=hide HM_p.out.lt
  replace HM_p:=HW.out.kR HZ_p hG HM_p
  replace HW:=hW
  replace HS:=hS
  clear hG hp
  refine hK.out _ _ trivial fun hHd=>?_
  clear hK K
  try simp only [qq]
  refine rq 6 fun K hK=>?_
  refine app_z0 _ _ rfl rfl HW.out HM_p.out HN_y.out HZ_p.out HZ_y.out HO_p.out (by have h1:=HLl_p.out;have h2:=HLn.out;have h3:=HSk.out.length_le;have h4:=HLp2.out;omega) rfl rfl ?_
  intro g196 c196 w196 hW196 hM196 hN196
  clear HM_p HZ_p HO_p HN_y HZ_y
  replace HW:=ħ (hW196)
  have HM_zz:Hid (RowN w196 (Av w.heap.size _) (.slice (some ⟨g196,0,none⟩) (lp.length+1) c196) (lp++[.mk 0 [] 0 []])):=hM196
  have HN_y:Hid (NdV w196 (fun j=>Av w.heap.size _ j∧j≠g196) n_y (.agg #[.int .i64 k_y,.string t_y,.int .i64 v_y,.slice a_y l_y c_y])):=hN196
  have HZ_zz:=zz w
  have HZ_y:=HZ_zz
  clear hW196 hM196 hN196
  refine hK.out _ _ trivial fun hHd=>?_
  clear hK K
  try simp only [qq]
  refine tq 7 ?_
  simp only [qq]
  refine tq 9 ?_
  simp only [qq]
  refine rq2 8 10 (fun K hK=>?_) fun K hK=>?_
  ·obtain ⟨hRw,hGr,⟨z0,z1,z2,z3,y0,y1,y2,y3⟩,hfz⟩:=RowN.last (l:=lp) HM_zz.out HN_y.out
   simp only [S4,List.length_cons,List.length_nil,Nat.zero_add,Nat.one_mul,Nat.reduceAdd] at hRw hGr y0 y1 y2 y3
   have hAg:Av w.heap.size _ g196:=HM_zz.out.own g196 rfl
   have HW2:=ħ (HW.out.rowed hGr (Nat.le_refl _) (fun j hj=>by obtain rfl:g196=j:=Option.some.inj hj;exact hAg))
   have HM_z:=hide hRw
   have HZ_z:=zz w
   clear hRw hGr HM_zz HN_y HW hAg HZ_y HZ_zz
   go_simp
   refine hK.out _ _ trivial (fun hHd=>?_)
   clear hK K y0 y1 y2 y3 hfz
   try simp only [qq]
   have HW:=HW2
   clear HW2
   generalize (((w196.setCell _ _).setCell _ _).setCell _ _).setCell _ _=w197 at *
   refine rq 10 fun K hK=>?_
   have hc198:=HW.out.c0
   have hf199:=HW.out.f0
   replace HW:=ħ (HW.out.p03 ((.slice (some ⟨g196,0,none⟩) (lp.length+1) c196)))
   replace HM_z:=HW.out.mp03.R HM_z
   go_simp
   refine hK.out _ _ trivial fun hHd=>?_
   clear hK K
   try simp only [qq]
   generalize w197.setCell _ _=w200 at *
   clear hc198 hf199
   refine wpAnyH_done (by kernel_rfl) ?_ _
   have HN_r:=ħ (HM_z.out.node 7 s_k (sn+2*dn))
   have HZ_r:=HZ_z
   clear HM_z HZ_z
   have hc201:=HW.out.c0
   have hc202:=HW.out.c1
   have hf203:=HW.out.f1
   replace HW:=ħ (HW.out.s1 (.int .i64 7) (.string (str s_k)) (.int .i64 (sn+2*dn)) ((.slice (some ⟨g196,0,none⟩) (lp.length+1) c196)))
   replace HN_r:=HW.out.ms1.N HN_r
   go_wp2_with fail
   generalize (((w200.setCell _ _).setCell _ _).setCell _ _).setCell _ _=w206 at *
   refine bodyPost_ret (rt rfl rfl HW.out.b1) rfl ?_
   exact ⟨HW.out.grown,_,HS.out,Or.inl ⟨_,_,HL.out,by rw [HSn.out,HDn.out,HLp.out];exact kd6 HT_k.out HR_p.out HR_y.out,rfl,HN_r.out.mono (fun k hk _=>Nat.le_trans HZ_r.out hk.1),HW.out.ps⟩⟩
  have hc207:=HW.out.c0
  have hf208:=HW.out.f0
  replace HW:=ħ (HW.out.p03 ((.slice (some ⟨g196,0,none⟩) (lp.length+1) c196)))
  replace HN_y:=ħ (HN_y.out.both (HW.out.mp03))
  replace HM_zz:=HW.out.mp03.R HM_zz
  go_simp
  refine hK.out _ _ trivial fun hHd=>?_
  clear hK K
  try simp only [qq]
  generalize w196.setCell _ _=w209 at *
  clear hc207 hf208
  refine rq 8 fun K hK=>?_
  obtain ⟨hRw,hGr,⟨z0,z1,z2,z3,y0,y1,y2,y3⟩,hfz⟩:=RowN.last (l:=lp) HM_zz.out HN_y.out
  simp only [S4,List.length_cons,List.length_nil,Nat.zero_add,Nat.one_mul,Nat.reduceAdd] at hRw hGr y0 y1 y2 y3
  have hAg:Av w.heap.size _ g196:=HM_zz.out.own g196 rfl
  have HW2:=ħ (HW.out.rowed hGr (Nat.le_refl _) (fun j hj=>by obtain rfl:g196=j:=Option.some.inj hj;exact hAg))
  have HM_z:=hide hRw
  have HZ_z:=zz w
  clear hRw hGr HM_zz HN_y HW hAg HZ_y HZ_zz
  go_simp
  refine hK.out _ _ trivial (fun hHd=>?_)
  clear hK K y0 y1 y2 y3 hfz
  try simp only [qq]
  have HW:=HW2
  clear HW2
  generalize (((w209.setCell _ _).setCell _ _).setCell _ _).setCell _ _=w210 at *
  refine wpAnyH_done (by kernel_rfl) ?_ _
  have HN_r:=ħ (HM_z.out.node 7 s_k (sn+2*dn))
  have HZ_r:=HZ_z
  clear HM_z HZ_z
  have hc211:=HW.out.c0
  have hc212:=HW.out.c1
  have hf213:=HW.out.f1
  replace HW:=ħ (HW.out.s1 (.int .i64 7) (.string (str s_k)) (.int .i64 (sn+2*dn)) ((.slice (some ⟨g196,0,none⟩) (lp.length+1) c196)))
  replace HN_r:=HW.out.ms1.N HN_r
  go_wp2_with fail
  generalize (((w210.setCell _ _).setCell _ _).setCell _ _).setCell _ _=w216 at *
  refine bodyPost_ret (rt rfl rfl HW.out.b1) rfl ?_
  exact ⟨HW.out.grown,_,HS.out,Or.inl ⟨_,_,HL.out,by rw [HSn.out,HDn.out,HLp.out];exact kd6 HT_k.out HR_p.out HR_y.out,rfl,HN_r.out.mono (fun k hk _=>Nat.le_trans HZ_r.out hk.1),HW.out.ps⟩⟩
 ·go_simp
  refine (HBl.out r163 HS.out HL.out w169 HW.out.ps HW.out.two HW.out.glo HW.out.glt (HF.out.suf HS.out) (Nat.le_trans HS.out.length_le HLn.out)).mono ?_
  rintro e w217 hp
  obtain ⟨r217,n_y,k_y,t_y,v_y,a_y,l_y,c_y,rfl,HR_y,HN_y,HZ_y,HL,HSy,HLs2,hS,hW,hG⟩|⟨r,hR,rfl,h1,h2⟩:=HW.out.okN HS.out hp
  rotate_left
  ·exact ⟨rfl,h1,_,h2,Or.inr ⟨kd5 HT_k.out HR_p.out hR,rfl⟩⟩
  have HO_p:=hide HM_p.out.lt
  replace HM_p:=HW.out.kR HZ_p hG HM_p
  replace HW:=hW
  replace HS:=hS
  clear hG hp
  refine hK.out _ _ trivial fun hHd=>?_
  clear hK K
  try simp only [qq]
  refine rq2 1 5 (fun K hK=>?_) fun K hK=>?_
  ·have hc218:=HW.out.c0
   go_simp
   clear hc218
   refine hK.out _ _ trivial fun hHd=>?_
   clear hK K
   try simp only [qq]
   refine tq 4 ?_
   simp only [qq]
   refine rq 5 fun K hK=>?_
   replace HW:=HW.out.az
   replace HN_y:=HW.out.nA HN_y
   replace HM_p:=HW.out.rA HM_p
   go_simp
   refine hK.out _ _ trivial fun hHd=>?_
   clear hK K
   try simp only [qq]
   generalize w217.alloc _=w219 at *
   refine rq 6 fun K hK=>?_
   refine app_z0 _ _ rfl rfl HW.out HM_p.out HN_y.out HZ_p.out HZ_y.out HO_p.out (by have h1:=HLl_p.out;have h2:=HLn.out;have h3:=HSk.out.length_le;have h4:=HLp2.out;omega) rfl rfl ?_
   intro g220 c220 w220 hW220 hM220 hN220
   clear HM_p HZ_p HO_p HN_y HZ_y
   replace HW:=ħ (hW220)
   have HM_zz:Hid (RowN w220 (Av w.heap.size _) (.slice (some ⟨g220,0,none⟩) (lp.length+1) c220) (lp++[.mk 0 [] 0 []])):=hM220
   have HN_y:Hid (NdV w220 (fun j=>Av w.heap.size _ j∧j≠g220) n_y (.agg #[.int .i64 k_y,.string t_y,.int .i64 v_y,.slice a_y l_y c_y])):=hN220
   have HZ_zz:=zz w
   have HZ_y:=HZ_zz
   clear hW220 hM220 hN220
   refine hK.out _ _ trivial fun hHd=>?_
   clear hK K
   try simp only [qq]
   refine tq 7 ?_
   simp only [qq]
   refine tq 9 ?_
   simp only [qq]
   refine rq2 8 10 (fun K hK=>?_) fun K hK=>?_
   ·obtain ⟨hRw,hGr,⟨z0,z1,z2,z3,y0,y1,y2,y3⟩,hfz⟩:=RowN.last (l:=lp) HM_zz.out HN_y.out
    simp only [S4,List.length_cons,List.length_nil,Nat.zero_add,Nat.one_mul,Nat.reduceAdd] at hRw hGr y0 y1 y2 y3
    have hAg:Av w.heap.size _ g220:=HM_zz.out.own g220 rfl
    have HW2:=ħ (HW.out.rowed hGr (Nat.le_refl _) (fun j hj=>by obtain rfl:g220=j:=Option.some.inj hj;exact hAg))
    have HM_z:=hide hRw
    have HZ_z:=zz w
    clear hRw hGr HM_zz HN_y HW hAg HZ_y HZ_zz
    go_simp
    refine hK.out _ _ trivial (fun hHd=>?_)
    clear hK K y0 y1 y2 y3 hfz
    try simp only [qq]
    have HW:=HW2
    clear HW2
    generalize (((w220.setCell _ _).setCell _ _).setCell _ _).setCell _ _=w221 at *
    refine rq 10 fun K hK=>?_
    have hc222:=HW.out.c0
    have hf223:=HW.out.f0
    replace HW:=ħ (HW.out.p03 ((.slice (some ⟨g220,0,none⟩) (lp.length+1) c220)))
    replace HM_z:=HW.out.mp03.R HM_z
    go_simp
    refine hK.out _ _ trivial fun hHd=>?_
    clear hK K
    try simp only [qq]
    generalize w221.setCell _ _=w224 at *
    clear hc222 hf223
    refine wpAnyH_done (by kernel_rfl) ?_ _
    have HN_r:=ħ (HM_z.out.node 7 s_k (sn+2*dn))
    have HZ_r:=HZ_z
    clear HM_z HZ_z
    have hc225:=HW.out.c0
    have hc226:=HW.out.c1
    have hf227:=HW.out.f1
    replace HW:=ħ (HW.out.s1 (.int .i64 7) (.string (str s_k)) (.int .i64 (sn+2*dn)) ((.slice (some ⟨g220,0,none⟩) (lp.length+1) c220)))
    replace HN_r:=HW.out.ms1.N HN_r
    go_wp2_with fail
    generalize (((w224.setCell _ _).setCell _ _).setCell _ _).setCell _ _=w230 at *
    refine bodyPost_ret (rt rfl rfl HW.out.b1) rfl ?_
    exact ⟨HW.out.grown,_,HS.out,Or.inl ⟨_,_,HL.out,by rw [HSn.out,HDn.out,HLp.out];exact kd6 HT_k.out HR_p.out HR_y.out,rfl,HN_r.out.mono (fun k hk _=>Nat.le_trans HZ_r.out hk.1),HW.out.ps⟩⟩
   have hc231:=HW.out.c0
   have hf232:=HW.out.f0
   replace HW:=ħ (HW.out.p03 ((.slice (some ⟨g220,0,none⟩) (lp.length+1) c220)))
   replace HN_y:=ħ (HN_y.out.both (HW.out.mp03))
   replace HM_zz:=HW.out.mp03.R HM_zz
   go_simp
   refine hK.out _ _ trivial fun hHd=>?_
   clear hK K
   try simp only [qq]
   generalize w220.setCell _ _=w233 at *
   clear hc231 hf232
   refine rq 8 fun K hK=>?_
   obtain ⟨hRw,hGr,⟨z0,z1,z2,z3,y0,y1,y2,y3⟩,hfz⟩:=RowN.last (l:=lp) HM_zz.out HN_y.out
   simp only [S4,List.length_cons,List.length_nil,Nat.zero_add,Nat.one_mul,Nat.reduceAdd] at hRw hGr y0 y1 y2 y3
   have hAg:Av w.heap.size _ g220:=HM_zz.out.own g220 rfl
   have HW2:=ħ (HW.out.rowed hGr (Nat.le_refl _) (fun j hj=>by obtain rfl:g220=j:=Option.some.inj hj;exact hAg))
   have HM_z:=hide hRw
   have HZ_z:=zz w
   clear hRw hGr HM_zz HN_y HW hAg HZ_y HZ_zz
   go_simp
   refine hK.out _ _ trivial (fun hHd=>?_)
   clear hK K y0 y1 y2 y3 hfz
   try simp only [qq]
   have HW:=HW2
   clear HW2
   generalize (((w233.setCell _ _).setCell _ _).setCell _ _).setCell _ _=w234 at *
   refine wpAnyH_done (by kernel_rfl) ?_ _
   have HN_r:=ħ (HM_z.out.node 7 s_k (sn+2*dn))
   have HZ_r:=HZ_z
   clear HM_z HZ_z
   have hc235:=HW.out.c0
   have hc236:=HW.out.c1
   have hf237:=HW.out.f1
   replace HW:=ħ (HW.out.s1 (.int .i64 7) (.string (str s_k)) (.int .i64 (sn+2*dn)) ((.slice (some ⟨g220,0,none⟩) (lp.length+1) c220)))
   replace HN_r:=HW.out.ms1.N HN_r
   go_wp2_with fail
   generalize (((w234.setCell _ _).setCell _ _).setCell _ _).setCell _ _=w240 at *
   refine bodyPost_ret (rt rfl rfl HW.out.b1) rfl ?_
   exact ⟨HW.out.grown,_,HS.out,Or.inl ⟨_,_,HL.out,by rw [HSn.out,HDn.out,HLp.out];exact kd6 HT_k.out HR_p.out HR_y.out,rfl,HN_r.out.mono (fun k hk _=>Nat.le_trans HZ_r.out hk.1),HW.out.ps⟩⟩
  replace HW:=HW.out.az
  replace HN_y:=HW.out.nA HN_y
  replace HM_p:=HW.out.rA HM_p
  go_simp
  refine hK.out _ _ trivial fun hHd=>?_
  clear hK K
  try simp only [qq]
  generalize w217.alloc _=w241 at *
  refine rq 1 fun K hK=>?_
  have hc242:=HW.out.c1
  go_simp
  clear hc242
  refine hK.out _ _ trivial fun hHd=>?_
  clear hK K
  try simp only [qq]
  refine tq 4 ?_
  simp only [qq]
  refine rq 6 fun K hK=>?_
  refine app_z0 _ _ rfl rfl HW.out HM_p.out HN_y.out HZ_p.out HZ_y.out HO_p.out (by have h1:=HLl_p.out;have h2:=HLn.out;have h3:=HSk.out.length_le;have h4:=HLp2.out;omega) rfl rfl ?_
  intro g243 c243 w243 hW243 hM243 hN243
  clear HM_p HZ_p HO_p HN_y HZ_y
  replace HW:=ħ (hW243)
  have HM_zz:Hid (RowN w243 (Av w.heap.size _) (.slice (some ⟨g243,0,none⟩) (lp.length+1) c243) (lp++[.mk 0 [] 0 []])):=hM243
  have HN_y:Hid (NdV w243 (fun j=>Av w.heap.size _ j∧j≠g243) n_y (.agg #[.int .i64 k_y,.string t_y,.int .i64 v_y,.slice a_y l_y c_y])):=hN243
  have HZ_zz:=zz w
  have HZ_y:=HZ_zz
  clear hW243 hM243 hN243
  refine hK.out _ _ trivial fun hHd=>?_
  clear hK K
  try simp only [qq]
  refine tq 7 ?_
  simp only [qq]
  refine tq 9 ?_
  simp only [qq]
  refine rq2 8 10 (fun K hK=>?_) fun K hK=>?_
  ·obtain ⟨hRw,hGr,⟨z0,z1,z2,z3,y0,y1,y2,y3⟩,hfz⟩:=RowN.last (l:=lp) HM_zz.out HN_y.out
   simp only [S4,List.length_cons,List.length_nil,Nat.zero_add,Nat.one_mul,Nat.reduceAdd] at hRw hGr y0 y1 y2 y3
   have hAg:Av w.heap.size _ g243:=HM_zz.out.own g243 rfl
   have HW2:=ħ (HW.out.rowed hGr (Nat.le_refl _) (fun j hj=>by obtain rfl:g243=j:=Option.some.inj hj;exact hAg))
   have HM_z:=hide hRw
   have HZ_z:=zz w
   clear hRw hGr HM_zz HN_y HW hAg HZ_y HZ_zz
   go_simp
   refine hK.out _ _ trivial (fun hHd=>?_)
   clear hK K y0 y1 y2 y3 hfz
   try simp only [qq]
   have HW:=HW2
   clear HW2
   generalize (((w243.setCell _ _).setCell _ _).setCell _ _).setCell _ _=w244 at *
   refine rq 10 fun K hK=>?_
   have hc245:=HW.out.c0
   have hf246:=HW.out.f0
   replace HW:=ħ (HW.out.p03 ((.slice (some ⟨g243,0,none⟩) (lp.length+1) c243)))
   replace HM_z:=HW.out.mp03.R HM_z
   go_simp
   refine hK.out _ _ trivial fun hHd=>?_
   clear hK K
   try simp only [qq]
   generalize w244.setCell _ _=w247 at *
   clear hc245 hf246
   refine wpAnyH_done (by kernel_rfl) ?_ _
   have HN_r:=ħ (HM_z.out.node 7 s_k (sn+2*dn))
   have HZ_r:=HZ_z
   clear HM_z HZ_z
   have hc248:=HW.out.c0
   have hc249:=HW.out.c1
   have hf250:=HW.out.f1
   replace HW:=ħ (HW.out.s1 (.int .i64 7) (.string (str s_k)) (.int .i64 (sn+2*dn)) ((.slice (some ⟨g243,0,none⟩) (lp.length+1) c243)))
   replace HN_r:=HW.out.ms1.N HN_r
   go_wp2_with fail
   generalize (((w247.setCell _ _).setCell _ _).setCell _ _).setCell _ _=w253 at *
   refine bodyPost_ret (rt rfl rfl HW.out.b1) rfl ?_
   exact ⟨HW.out.grown,_,HS.out,Or.inl ⟨_,_,HL.out,by rw [HSn.out,HDn.out,HLp.out];exact kd6 HT_k.out HR_p.out HR_y.out,rfl,HN_r.out.mono (fun k hk _=>Nat.le_trans HZ_r.out hk.1),HW.out.ps⟩⟩
  have hc254:=HW.out.c0
  have hf255:=HW.out.f0
  replace HW:=ħ (HW.out.p03 ((.slice (some ⟨g243,0,none⟩) (lp.length+1) c243)))
  replace HN_y:=ħ (HN_y.out.both (HW.out.mp03))
  replace HM_zz:=HW.out.mp03.R HM_zz
  go_simp
  refine hK.out _ _ trivial fun hHd=>?_
  clear hK K
  try simp only [qq]
  generalize w243.setCell _ _=w256 at *
  clear hc254 hf255
  refine rq 8 fun K hK=>?_
  obtain ⟨hRw,hGr,⟨z0,z1,z2,z3,y0,y1,y2,y3⟩,hfz⟩:=RowN.last (l:=lp) HM_zz.out HN_y.out
  simp only [S4,List.length_cons,List.length_nil,Nat.zero_add,Nat.one_mul,Nat.reduceAdd] at hRw hGr y0 y1 y2 y3
  have hAg:Av w.heap.size _ g243:=HM_zz.out.own g243 rfl
  have HW2:=ħ (HW.out.rowed hGr (Nat.le_refl _) (fun j hj=>by obtain rfl:g243=j:=Option.some.inj hj;exact hAg))
  have HM_z:=hide hRw
  have HZ_z:=zz w
  clear hRw hGr HM_zz HN_y HW hAg HZ_y HZ_zz
  go_simp
  refine hK.out _ _ trivial (fun hHd=>?_)
  clear hK K y0 y1 y2 y3 hfz
  try simp only [qq]
  have HW:=HW2
  clear HW2
  generalize (((w256.setCell _ _).setCell _ _).setCell _ _).setCell _ _=w257 at *
  refine wpAnyH_done (by kernel_rfl) ?_ _
  have HN_r:=ħ (HM_z.out.node 7 s_k (sn+2*dn))
  have HZ_r:=HZ_z
  clear HM_z HZ_z
  have hc258:=HW.out.c0
  have hc259:=HW.out.c1
  have hf260:=HW.out.f1
  replace HW:=ħ (HW.out.s1 (.int .i64 7) (.string (str s_k)) (.int .i64 (sn+2*dn)) ((.slice (some ⟨g243,0,none⟩) (lp.length+1) c243)))
  replace HN_r:=HW.out.ms1.N HN_r
  go_wp2_with fail
  generalize (((w257.setCell _ _).setCell _ _).setCell _ _).setCell _ _=w263 at *
  refine bodyPost_ret (rt rfl rfl HW.out.b1) rfl ?_
  exact ⟨HW.out.grown,_,HS.out,Or.inl ⟨_,_,HL.out,by rw [HSn.out,HDn.out,HLp.out];exact kd6 HT_k.out HR_p.out HR_y.out,rfl,HN_r.out.mono (fun k hk _=>Nat.le_trans HZ_r.out hk.1),HW.out.ps⟩⟩
 replace HW:=HW.out.az
 replace HM_p:=HW.out.rA HM_p
 go_simp
 refine hK.out _ _ trivial fun hHd=>?_
 clear hK K
 try simp only [qq]
 generalize w169.alloc _=w264 at *
 refine rq2 1 3 (fun K hK=>?_) fun K hK=>?_
 ·have hc265:=HW.out.c1
  go_simp
  clear hc265
  refine hK.out _ _ trivial fun hHd=>?_
  clear hK K
  try simp only [qq]
  refine tq 4 ?_
  simp only [qq]
  refine rq 3 fun K hK=>?_
  go_simp
  refine (HBl.out r163 HS.out HL.out w264 HW.out.ps HW.out.two HW.out.glo HW.out.glt (HF.out.suf HS.out) (Nat.le_trans HS.out.length_le HLn.out)).mono ?_
  rintro e w266 hp
  obtain ⟨r266,n_y,k_y,t_y,v_y,a_y,l_y,c_y,rfl,HR_y,HN_y,HZ_y,HL,HSy,HLs2,hS,hW,hG⟩|⟨r,hR,rfl,h1,h2⟩:=HW.out.okN HS.out hp
  rotate_left
  ·exact ⟨rfl,h1,_,h2,Or.inr ⟨kd5 HT_k.out HR_p.out hR,rfl⟩⟩
  have HO_p:=hide HM_p.out.lt
  replace HM_p:=HW.out.kR HZ_p hG HM_p
  replace HW:=hW
  replace HS:=hS
  clear hG hp
  refine hK.out _ _ trivial fun hHd=>?_
  clear hK K
  try simp only [qq]
  refine rq 6 fun K hK=>?_
  refine app_z0 _ _ rfl rfl HW.out HM_p.out HN_y.out HZ_p.out HZ_y.out HO_p.out (by have h1:=HLl_p.out;have h2:=HLn.out;have h3:=HSk.out.length_le;have h4:=HLp2.out;omega) rfl rfl ?_
  intro g267 c267 w267 hW267 hM267 hN267
  clear HM_p HZ_p HO_p HN_y HZ_y
  replace HW:=ħ (hW267)
  have HM_zz:Hid (RowN w267 (Av w.heap.size _) (.slice (some ⟨g267,0,none⟩) (lp.length+1) c267) (lp++[.mk 0 [] 0 []])):=hM267
  have HN_y:Hid (NdV w267 (fun j=>Av w.heap.size _ j∧j≠g267) n_y (.agg #[.int .i64 k_y,.string t_y,.int .i64 v_y,.slice a_y l_y c_y])):=hN267
  have HZ_zz:=zz w
  have HZ_y:=HZ_zz
  clear hW267 hM267 hN267
  refine hK.out _ _ trivial fun hHd=>?_
  clear hK K
  try simp only [qq]
  refine tq 7 ?_
  simp only [qq]
  refine tq 9 ?_
  simp only [qq]
  refine rq2 8 10 (fun K hK=>?_) fun K hK=>?_
  ·obtain ⟨hRw,hGr,⟨z0,z1,z2,z3,y0,y1,y2,y3⟩,hfz⟩:=RowN.last (l:=lp) HM_zz.out HN_y.out
   simp only [S4,List.length_cons,List.length_nil,Nat.zero_add,Nat.one_mul,Nat.reduceAdd] at hRw hGr y0 y1 y2 y3
   have hAg:Av w.heap.size _ g267:=HM_zz.out.own g267 rfl
   have HW2:=ħ (HW.out.rowed hGr (Nat.le_refl _) (fun j hj=>by obtain rfl:g267=j:=Option.some.inj hj;exact hAg))
   have HM_z:=hide hRw
   have HZ_z:=zz w
   clear hRw hGr HM_zz HN_y HW hAg HZ_y HZ_zz
   go_simp
   refine hK.out _ _ trivial (fun hHd=>?_)
   clear hK K y0 y1 y2 y3 hfz
   try simp only [qq]
   have HW:=HW2
   clear HW2
   generalize (((w267.setCell _ _).setCell _ _).setCell _ _).setCell _ _=w268 at *
   refine rq 10 fun K hK=>?_
   have hc269:=HW.out.c0
   have hf270:=HW.out.f0
   replace HW:=ħ (HW.out.p03 ((.slice (some ⟨g267,0,none⟩) (lp.length+1) c267)))
   replace HM_z:=HW.out.mp03.R HM_z
   go_simp
   refine hK.out _ _ trivial fun hHd=>?_
   clear hK K
   try simp only [qq]
   generalize w268.setCell _ _=w271 at *
   clear hc269 hf270
   refine wpAnyH_done (by kernel_rfl) ?_ _
   have HN_r:=ħ (HM_z.out.node 7 s_k (sn+2*dn))
   have HZ_r:=HZ_z
   clear HM_z HZ_z
   have hc272:=HW.out.c0
   have hc273:=HW.out.c1
   have hf274:=HW.out.f1
   replace HW:=ħ (HW.out.s1 (.int .i64 7) (.string (str s_k)) (.int .i64 (sn+2*dn)) ((.slice (some ⟨g267,0,none⟩) (lp.length+1) c267)))
   replace HN_r:=HW.out.ms1.N HN_r
   go_wp2_with fail
   generalize (((w271.setCell _ _).setCell _ _).setCell _ _).setCell _ _=w277 at *
   refine bodyPost_ret (rt rfl rfl HW.out.b1) rfl ?_
   exact ⟨HW.out.grown,_,HS.out,Or.inl ⟨_,_,HL.out,by rw [HSn.out,HDn.out,HLp.out];exact kd6 HT_k.out HR_p.out HR_y.out,rfl,HN_r.out.mono (fun k hk _=>Nat.le_trans HZ_r.out hk.1),HW.out.ps⟩⟩
  have hc278:=HW.out.c0
  have hf279:=HW.out.f0
  replace HW:=ħ (HW.out.p03 ((.slice (some ⟨g267,0,none⟩) (lp.length+1) c267)))
  replace HN_y:=ħ (HN_y.out.both (HW.out.mp03))
  replace HM_zz:=HW.out.mp03.R HM_zz
  go_simp
  refine hK.out _ _ trivial fun hHd=>?_
  clear hK K
  try simp only [qq]
  generalize w267.setCell _ _=w280 at *
  clear hc278 hf279
  refine rq 8 fun K hK=>?_
  obtain ⟨hRw,hGr,⟨z0,z1,z2,z3,y0,y1,y2,y3⟩,hfz⟩:=RowN.last (l:=lp) HM_zz.out HN_y.out
  simp only [S4,List.length_cons,List.length_nil,Nat.zero_add,Nat.one_mul,Nat.reduceAdd] at hRw hGr y0 y1 y2 y3
  have hAg:Av w.heap.size _ g267:=HM_zz.out.own g267 rfl
  have HW2:=ħ (HW.out.rowed hGr (Nat.le_refl _) (fun j hj=>by obtain rfl:g267=j:=Option.some.inj hj;exact hAg))
  have HM_z:=hide hRw
  have HZ_z:=zz w
  clear hRw hGr HM_zz HN_y HW hAg HZ_y HZ_zz
  go_simp
  refine hK.out _ _ trivial (fun hHd=>?_)
  clear hK K y0 y1 y2 y3 hfz
  try simp only [qq]
  have HW:=HW2
  clear HW2
  generalize (((w280.setCell _ _).setCell _ _).setCell _ _).setCell _ _=w281 at *
  refine wpAnyH_done (by kernel_rfl) ?_ _
  have HN_r:=ħ (HM_z.out.node 7 s_k (sn+2*dn))
  have HZ_r:=HZ_z
  clear HM_z HZ_z
  have hc282:=HW.out.c0
  have hc283:=HW.out.c1
  have hf284:=HW.out.f1
  replace HW:=ħ (HW.out.s1 (.int .i64 7) (.string (str s_k)) (.int .i64 (sn+2*dn)) ((.slice (some ⟨g267,0,none⟩) (lp.length+1) c267)))
  replace HN_r:=HW.out.ms1.N HN_r
  go_wp2_with fail
  generalize (((w281.setCell _ _).setCell _ _).setCell _ _).setCell _ _=w287 at *
  refine bodyPost_ret (rt rfl rfl HW.out.b1) rfl ?_
  exact ⟨HW.out.grown,_,HS.out,Or.inl ⟨_,_,HL.out,by rw [HSn.out,HDn.out,HLp.out];exact kd6 HT_k.out HR_p.out HR_y.out,rfl,HN_r.out.mono (fun k hk _=>Nat.le_trans HZ_r.out hk.1),HW.out.ps⟩⟩
 go_simp
 refine (HBl.out r163 HS.out HL.out w264 HW.out.ps HW.out.two HW.out.glo HW.out.glt (HF.out.suf HS.out) (Nat.le_trans HS.out.length_le HLn.out)).mono ?_
 rintro e w288 hp
 obtain ⟨r288,n_y,k_y,t_y,v_y,a_y,l_y,c_y,rfl,HR_y,HN_y,HZ_y,HL,HSy,HLs2,hS,hW,hG⟩|⟨r,hR,rfl,h1,h2⟩:=HW.out.okN HS.out hp
 rotate_left
 ·exact ⟨rfl,h1,_,h2,Or.inr ⟨kd5 HT_k.out HR_p.out hR,rfl⟩⟩
 have HO_p:=hide HM_p.out.lt
 replace HM_p:=HW.out.kR HZ_p hG HM_p
 replace HW:=hW
 replace HS:=hS
 clear hG hp
 refine hK.out _ _ trivial fun hHd=>?_
 clear hK K
 try simp only [qq]
 refine rq 1 fun K hK=>?_
 have hc289:=HW.out.c1
 go_simp
 clear hc289
 refine hK.out _ _ trivial fun hHd=>?_
 clear hK K
 try simp only [qq]
 refine tq 4 ?_
 simp only [qq]
 refine rq 6 fun K hK=>?_
 refine app_z0 _ _ rfl rfl HW.out HM_p.out HN_y.out HZ_p.out HZ_y.out HO_p.out (by have h1:=HLl_p.out;have h2:=HLn.out;have h3:=HSk.out.length_le;have h4:=HLp2.out;omega) rfl rfl ?_
 intro g290 c290 w290 hW290 hM290 hN290
 clear HM_p HZ_p HO_p HN_y HZ_y
 replace HW:=ħ (hW290)
 have HM_zz:Hid (RowN w290 (Av w.heap.size _) (.slice (some ⟨g290,0,none⟩) (lp.length+1) c290) (lp++[.mk 0 [] 0 []])):=hM290
 have HN_y:Hid (NdV w290 (fun j=>Av w.heap.size _ j∧j≠g290) n_y (.agg #[.int .i64 k_y,.string t_y,.int .i64 v_y,.slice a_y l_y c_y])):=hN290
 have HZ_zz:=zz w
 have HZ_y:=HZ_zz
 clear hW290 hM290 hN290
 refine hK.out _ _ trivial fun hHd=>?_
 clear hK K
 try simp only [qq]
 refine tq 7 ?_
 simp only [qq]
 refine tq 9 ?_
 simp only [qq]
 refine rq2 8 10 (fun K hK=>?_) fun K hK=>?_
 ·obtain ⟨hRw,hGr,⟨z0,z1,z2,z3,y0,y1,y2,y3⟩,hfz⟩:=RowN.last (l:=lp) HM_zz.out HN_y.out
  simp only [S4,List.length_cons,List.length_nil,Nat.zero_add,Nat.one_mul,Nat.reduceAdd] at hRw hGr y0 y1 y2 y3
  have hAg:Av w.heap.size _ g290:=HM_zz.out.own g290 rfl
  have HW2:=ħ (HW.out.rowed hGr (Nat.le_refl _) (fun j hj=>by obtain rfl:g290=j:=Option.some.inj hj;exact hAg))
  have HM_z:=hide hRw
  have HZ_z:=zz w
  clear hRw hGr HM_zz HN_y HW hAg HZ_y HZ_zz
  go_simp
  refine hK.out _ _ trivial (fun hHd=>?_)
  clear hK K y0 y1 y2 y3 hfz
  try simp only [qq]
  have HW:=HW2
  clear HW2
  generalize (((w290.setCell _ _).setCell _ _).setCell _ _).setCell _ _=w291 at *
  refine rq 10 fun K hK=>?_
  have hc292:=HW.out.c0
  have hf293:=HW.out.f0
  replace HW:=ħ (HW.out.p03 ((.slice (some ⟨g290,0,none⟩) (lp.length+1) c290)))
  replace HM_z:=HW.out.mp03.R HM_z
  go_simp
  refine hK.out _ _ trivial fun hHd=>?_
  clear hK K
  try simp only [qq]
  generalize w291.setCell _ _=w294 at *
  clear hc292 hf293
  refine wpAnyH_done (by kernel_rfl) ?_ _
  have HN_r:=ħ (HM_z.out.node 7 s_k (sn+2*dn))
  have HZ_r:=HZ_z
  clear HM_z HZ_z
  have hc295:=HW.out.c0
  have hc296:=HW.out.c1
  have hf297:=HW.out.f1
  replace HW:=ħ (HW.out.s1 (.int .i64 7) (.string (str s_k)) (.int .i64 (sn+2*dn)) ((.slice (some ⟨g290,0,none⟩) (lp.length+1) c290)))
  replace HN_r:=HW.out.ms1.N HN_r
  go_wp2_with fail
  generalize (((w294.setCell _ _).setCell _ _).setCell _ _).setCell _ _=w300 at *
  refine bodyPost_ret (rt rfl rfl HW.out.b1) rfl ?_
  exact ⟨HW.out.grown,_,HS.out,Or.inl ⟨_,_,HL.out,by rw [HSn.out,HDn.out,HLp.out];exact kd6 HT_k.out HR_p.out HR_y.out,rfl,HN_r.out.mono (fun k hk _=>Nat.le_trans HZ_r.out hk.1),HW.out.ps⟩⟩
 have hc301:=HW.out.c0
 have hf302:=HW.out.f0
 replace HW:=ħ (HW.out.p03 ((.slice (some ⟨g290,0,none⟩) (lp.length+1) c290)))
 replace HN_y:=ħ (HN_y.out.both (HW.out.mp03))
 replace HM_zz:=HW.out.mp03.R HM_zz
 go_simp
 refine hK.out _ _ trivial fun hHd=>?_
 clear hK K
 try simp only [qq]
 generalize w290.setCell _ _=w303 at *
 clear hc301 hf302
 refine rq 8 fun K hK=>?_
 obtain ⟨hRw,hGr,⟨z0,z1,z2,z3,y0,y1,y2,y3⟩,hfz⟩:=RowN.last (l:=lp) HM_zz.out HN_y.out
 simp only [S4,List.length_cons,List.length_nil,Nat.zero_add,Nat.one_mul,Nat.reduceAdd] at hRw hGr y0 y1 y2 y3
 have hAg:Av w.heap.size _ g290:=HM_zz.out.own g290 rfl
 have HW2:=ħ (HW.out.rowed hGr (Nat.le_refl _) (fun j hj=>by obtain rfl:g290=j:=Option.some.inj hj;exact hAg))
 have HM_z:=hide hRw
 have HZ_z:=zz w
 clear hRw hGr HM_zz HN_y HW hAg HZ_y HZ_zz
 go_simp
 refine hK.out _ _ trivial (fun hHd=>?_)
 clear hK K y0 y1 y2 y3 hfz
 try simp only [qq]
 have HW:=HW2
 clear HW2
 generalize (((w303.setCell _ _).setCell _ _).setCell _ _).setCell _ _=w304 at *
 refine wpAnyH_done (by kernel_rfl) ?_ _
 have HN_r:=ħ (HM_z.out.node 7 s_k (sn+2*dn))
 have HZ_r:=HZ_z
 clear HM_z HZ_z
 have hc305:=HW.out.c0
 have hc306:=HW.out.c1
 have hf307:=HW.out.f1
 replace HW:=ħ (HW.out.s1 (.int .i64 7) (.string (str s_k)) (.int .i64 (sn+2*dn)) ((.slice (some ⟨g290,0,none⟩) (lp.length+1) c290)))
 replace HN_r:=HW.out.ms1.N HN_r
 go_wp2_with fail
 generalize (((w304.setCell _ _).setCell _ _).setCell _ _).setCell _ _=w310 at *
 refine bodyPost_ret (rt rfl rfl HW.out.b1) rfl ?_
 exact ⟨HW.out.grown,_,HS.out,Or.inl ⟨_,_,HL.out,by rw [HSn.out,HDn.out,HLp.out];exact kd6 HT_k.out HR_p.out HR_y.out,rfl,HN_r.out.mono (fun k hk _=>Nat.le_trans HZ_r.out hk.1),HW.out.ps⟩⟩
end Go.Proofs.YthcfianhdkolhaaGreatDoor.Y
