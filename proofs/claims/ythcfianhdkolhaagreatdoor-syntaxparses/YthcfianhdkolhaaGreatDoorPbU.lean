/- PbT PbU -/
import Derived.Test.YthcfianhdkolhaaGreatDoorSign
import Derived.Test.YthcfianhdkolhaaGreatDoorPbS
namespace Go.Proofs.YthcfianhdkolhaaGreatDoor.Y
open Go.RowKit Go.Proofs.YthcfianhdkolhaaGreatDoor.X Go.Proofs.YthcfianhdkolhaaGreatDoor.T Go.Proofs.YthcfianhdkolhaaGreatDoor.S
set_option maxRecDepth 100000
set_option maxHeartbeats 2000000
set_option linter.unusedVariables false
set_option linter.unusedSimpArgs false
variable {w w' : World} {b g : Nat} {m : Value} {ts : List Tok} {t : Tok}
theorem structure_any (h:Ps w b g m ts) (hT:Two w b m) (hGl:Og w) (hb5:4<b) (hgl:g<w.heap.size) (hF:Fits ts) (hlen:ts.length≤4000):Calls Tryz.prog 68 #[.pointer (some ⟨b,0,none⟩)] w (PostK KSt w b g m ts):=by
 have HW:Hid (Wd w w b g m ts []):=Wd.start h hT hGl hb5 hgl
 have HS:=su ts
 have HF:=ħ hF
 have HLn:=ħ hlen
 clear h hT hGl hgl hF hlen
 go_enter Tryz.func68,Tryz.ntmps68
 replace HW:=HW.out.az
 go_wp2_with fail
 generalize w.alloc _=w1 at *
 go_at_call 93
 refine (HW.out.nm HS.out HF.out).mono ?_
 rintro e w2 (⟨HQ_s,rfl,HL,hS,hW,hG⟩|⟨hn,rfl,h1⟩)
 rotate_left
 ·exact ⟨rfl,h1,_,HS.out,Or.inr ⟨ks0 hn,rfl⟩⟩
 replace HW:=hW
 replace HS:=hS
 clear hG
 replace HW:=HW.out.al w2.heap.size #[.int .i64 2,.string (str (hd (tk ts))),.int .i64 0,.slice none 0 0]
 have HA:=ħ (HW.out.ask1 HS.out HF.out (s:=sLB) (⟨_,_,rfl,by decide⟩) (by decide) (q:=(w2.heap.size+1)) (by simp))
 go_wp2_with fail
 generalize w2.alloc _=w3 at *
 go_at_call 94
 refine HA.out.mono ?_
 clear HA
 rintro e w4 (⟨HQ,rfl,HL,hS,hW,hG⟩|⟨hq,rfl,h1⟩)
 rotate_left
 ·exact ⟨rfl,h1,_,HS.out,Or.inr ⟨by rw [tk_tail];exact ks1 HQ_s.out (by rw [← tk_tail];exact hq),rfl⟩⟩
 replace HW:=hW
 replace HS:=hS
 clear hG
 go_wp2_with fail
 go_loopw [] (fun wr=>∃ (r:List Tok) (l:List Nd) (a1:Option Addr) (n1 c1:Nat),Hid (Wd w wr b g m r [(w2.heap.size,#[.int .i64 2,.string (str (hd (tk ts))),.int .i64 0,.slice a1 n1 c1],24),(w.heap.size,#[.int .i64 0,.string ⟨#[]⟩,.int .i64 0,.slice none 0 0],24)])∧Hid (RowN wr (Av w.heap.size [(w2.heap.size,#[.int .i64 2,.string (str (hd (tk ts))),.int .i64 0,.slice a1 n1 c1],24),(w.heap.size,#[.int .i64 0,.string ⟨#[]⟩,.int .i64 0,.slice none 0 0],24)]) (.slice a1 n1 c1) l)∧Hid (r <:+ ts)∧Hid (r.length<ts.length)∧Hid (l.length+r.length≤ts.length)∧Hid (∀ q,R (.fieldsL (hd (tk ts)) l) (tk r) q→KSt (tk ts) q)) (fun wr=>leftOf b wr)
 case atStart=>exact ⟨_,[],_,_,_,HW,RowN.nil _ _,HS,HL,(by have:=HL.out;show 0+_≤_;omega),fun q hr=>ks2 HQ_s.out (by rw [← tk_tail];exact HQ.out) (by rw [← tk_tail,← tk_tail];exact hr)⟩
 case round=>
  obtain ⟨r,l,a1,n1,c1,HW,HM_l,HS,HL,HLl,HI⟩:=hrel
  have HZ_l:=zz w
  have hmu:=HW.out.ps.leftOf
  have HMu:=hide hmu
  clear hmu
  go_wp2_with fail
  replace HM_l:=ħ ((Mv.quiet (grown_drew wr)).row HM_l.out)
  replace HW:=ħ (HW.out.quiet (grown_drew wr))
  refine wp_region_held_drew (S:=(fun _=>True)) (by kernel_rfl) trivial fun hHd=>?_
  generalize wr.drew=w21 at *
  refine tq 0 ?_
  simp only [qq]
  refine tq 2 ?_
  simp only [qq]
  refine rq2 1 3 (fun K hK=>?_) fun K hK=>?_
  ·have hc22:=HW.out.c0
   go_simp
   clear hc22
   refine hK.out _ _ trivial fun hHd=>?_
   clear hK K
   try simp only [qq]
   refine rq 3 fun K hK=>?_
   go_simp
   refine (typed_any HW.out.ps HW.out.two HW.out.glo HW.out.bg HW.out.glt (HF.out.suf HS.out) (Nat.le_trans HS.out.length_le HLn.out) 3).mono ?_
   rintro e w23 ⟨hG23,r23,hsu,⟨t_x,s_x,q_x,hlt,hO,rfl,hM,hP23⟩|⟨hO,rfl⟩⟩
   rotate_left
   ·exact ⟨rfl,grown_trans HW.out.grown hG23,_,hsu.trans HS.out,Or.inr ⟨HI.out _ (r_fl0 hO),rfl⟩⟩
   have HT_x:=hide hO
   have HM_x:=ħ (hM.given HW.out)
   have HZ_x:Hid (w.heap.size≤w21.heap.size):=HW.out.grown.size
   have HSx:Hid (r23 <:+ r):=hsu
   have HLs2:Hid (r23.length<r.length):=hlt
   have HL:Hid (r23.length<ts.length):=Nat.lt_of_lt_of_le hlt HS.out.length_le
   have HO_l:Hid (∀ k,((.slice a1 n1 c1):Value).ownBlock=some k→k<w21.heap.size):=HM_l.out.lt
   replace HM_l:=HW.out.kR HZ_l hG23 HM_l
   replace HW:=ħ (HW.out.call hG23 hP23)
   replace HS:=ħ ((hsu).trans HS.out)
   clear hP23 hG23 hO hM hsu hlt
   refine hK.out _ _ trivial fun hHd=>?_
   clear hK K
   try simp only [qq]
   have HN_y:=ħ (HM_x.out.node 3 s_x 0)
   have HZ_y:=HZ_x
   clear HM_x HZ_x
   refine rq 4 fun K hK=>?_
   replace HW:=HW.out.al w23.heap.size #[.int .i64 3,.string (str s_x),.int .i64 0,(.slice (some ⟨q_x,0,none⟩) 1 1)]
   replace HN_y:=HW.out.nA HN_y
   replace HM_l:=HW.out.rA HM_l
   go_simp
   refine hK.out _ _ trivial fun hHd=>?_
   clear hK K
   try simp only [qq]
   generalize w23.alloc _=w24 at *
   refine rq 5 fun K hK=>?_
   refine app_s0 _ _ rfl rfl HW.out HM_l.out HN_y.out HZ_l.out HZ_y.out HO_l.out (by have:=HLl.out;have:=HLn.out;omega) ⟨rfl,rfl,rfl,rfl⟩ rfl rfl ?_
   intro g25 c25 w25 hW hM hG
   clear HM_l HN_y HZ_l HZ_y HO_l
   replace HW:=hide hW
   have HM_l2:=hide hM
   have HZ_l2:=zz w
   clear hW hM hG
   refine hK.out _ _ trivial fun hHd=>?_
   clear hK K
   try simp only [qq]
   refine tq 6 ?_
   simp only [qq]
   refine rq 7 fun K hK=>?_
   have hc26:=HW.out.c0
   have hf27:=HW.out.f0
   replace HW:=ħ (HW.out.p03 ((.slice (some ⟨g25,0,none⟩) (l.length+1) c25)))
   replace HM_l2:=HW.out.mp03.R HM_l2
   go_simp
   refine hK.out _ _ trivial fun hHd=>?_
   clear hK K
   try simp only [qq]
   generalize w25.setCell _ _=w28 at *
   clear hc26 hf27
   refine wpAnyH_done (by kernel_rfl) ?_ _
   have HA:=ħ (HW.out.ask1 HS.out HF.out (s:=sSEMI) (⟨_,_,rfl,by decide⟩) (by decide) (q:=w28.heap.size) (by simp))
   go_wp2_with fail
   go_at_call 94
   refine HA.out.mono ?_
   clear HA
   rintro e w29 (⟨HQ1,rfl,HL,hS,hW,hG⟩|⟨hq,rfl,h1⟩)
   rotate_left
   ·exact ⟨rfl,h1,_,HS.out,Or.inr ⟨HI.out _ (r_fl1 HT_x.out hq),rfl⟩⟩
   replace HM_l2:=HW.out.kR HZ_l2 hG HM_l2
   replace HW:=hW
   replace HS:=hS
   clear hG
   go_wp2_with fail
   by_cases hq:tx r23.tail=str sRB
   ·have HQ2:Hid (hd (tk r23.tail)=sRB):=(tx_hd (HF.out.suf HS.out) sRB (⟨_,_,rfl,by decide⟩)).1 hq
    go_at_call 67
    refine (HW.out.tkY HS.out (x:=str sRB) (by decide) hq).mono ?_
    rintro e w30 ⟨rfl,HL,HLs,hS,hW,hG⟩
    replace HM_l2:=HW.out.kR HZ_l2 hG HM_l2
    replace HW:=hW
    replace HS:=hS
    clear hG
    clear hq
    have HN_z:=ħ (HM_l2.out.node 2 (hd (tk ts)) 0)
    have HZ_z:=HZ_l2
    clear HM_l2 HZ_l2
    have hc31:=HW.out.c0
    have hc32:=HW.out.c1
    have hf33:=HW.out.f1
    replace HW:=ħ (HW.out.s1 (.int .i64 2) (.string (str (hd (tk ts)))) (.int .i64 0) ((.slice (some ⟨g25,0,none⟩) (l.length+1) c25)))
    replace HN_z:=HW.out.ms1.N HN_z
    go_wp2_with fail
    generalize (((w30.setCell _ _).setCell _ _).setCell _ _).setCell _ _=w36 at *
    refine bodyPost_ret (rt rfl rfl HW.out.b1) rfl ?_
    exact ⟨HW.out.grown,_,HS.out,Or.inl ⟨_,_,HL.out,by simp only [tk_tail];exact HI.out _ (r_fl2 HT_x.out HQ1.out (by rw [← tk_tail];exact HQ2.out)),rfl,HN_z.out.mono (fun k hk _=>Nat.le_trans HZ_z.out hk.1),HW.out.ps⟩⟩
   have HQ2:Hid (¬ hd (tk r23.tail)=sRB):=fun e=>hq ((tx_hd (HF.out.suf HS.out) sRB (⟨_,_,rfl,by decide⟩)).2 e)
   go_at_call 67
   refine (HW.out.tkN (x:=str sRB) (by decide) hq).mono ?_
   rintro e w37 ⟨rfl,hW,hG⟩
   replace HM_l2:=HW.out.kR HZ_l2 hG HM_l2
   replace HW:=hW
   clear hG
   clear hq
   go_wp2_with fail
   go_roundw
   case rel=>exact ⟨_,_,_,_,_,HW,HM_l2,HS,HL,(by have h1:=HLl.out;have h2:=HLs2.out;have h3:=(List.tail_suffix r23).length_le;show (l++[_]).length+_≤_;rw [List.length_append,List.length_singleton];omega),fun q hr=>HI.out q (r_fl3 HT_x.out HQ1.out (by rw [← tk_tail];exact HQ2.out) (by rw [← tk_tail];exact hr))⟩
   case measure=>rw [HW.out.ps.leftOf,HMu.out];have h2:=HLs2.out;have h3:=(List.tail_suffix r23).length_le;omega
  go_simp
  refine (typed_any HW.out.ps HW.out.two HW.out.glo HW.out.bg HW.out.glt (HF.out.suf HS.out) (Nat.le_trans HS.out.length_le HLn.out) 3).mono ?_
  rintro e w38 ⟨hG38,r38,hsu,⟨t_x,s_x,q_x,hlt,hO,rfl,hM,hP38⟩|⟨hO,rfl⟩⟩
  rotate_left
  ·exact ⟨rfl,grown_trans HW.out.grown hG38,_,hsu.trans HS.out,Or.inr ⟨HI.out _ (r_fl0 hO),rfl⟩⟩
  have HT_x:=hide hO
  have HM_x:=ħ (hM.given HW.out)
  have HZ_x:Hid (w.heap.size≤w21.heap.size):=HW.out.grown.size
  have HSx:Hid (r38 <:+ r):=hsu
  have HLs2:Hid (r38.length<r.length):=hlt
  have HL:Hid (r38.length<ts.length):=Nat.lt_of_lt_of_le hlt HS.out.length_le
  have HO_l:Hid (∀ k,((.slice a1 n1 c1):Value).ownBlock=some k→k<w21.heap.size):=HM_l.out.lt
  replace HM_l:=HW.out.kR HZ_l hG38 HM_l
  replace HW:=ħ (HW.out.call hG38 hP38)
  replace HS:=ħ ((hsu).trans HS.out)
  clear hP38 hG38 hO hM hsu hlt
  refine hK.out _ _ trivial fun hHd=>?_
  clear hK K
  try simp only [qq]
  have HN_y:=ħ (HM_x.out.node 3 s_x 0)
  have HZ_y:=HZ_x
  clear HM_x HZ_x
  refine rq2 1 4 (fun K hK=>?_) fun K hK=>?_
  ·have hc39:=HW.out.c0
   go_simp
   clear hc39
   refine hK.out _ _ trivial fun hHd=>?_
   clear hK K
   try simp only [qq]
   refine rq 4 fun K hK=>?_
   replace HW:=HW.out.al w38.heap.size #[.int .i64 3,.string (str s_x),.int .i64 0,(.slice (some ⟨q_x,0,none⟩) 1 1)]
   replace HN_y:=HW.out.nA HN_y
   replace HM_l:=HW.out.rA HM_l
   go_simp
   refine hK.out _ _ trivial fun hHd=>?_
   clear hK K
   try simp only [qq]
   generalize w38.alloc _=w40 at *
   refine rq 5 fun K hK=>?_
   refine app_s0 _ _ rfl rfl HW.out HM_l.out HN_y.out HZ_l.out HZ_y.out HO_l.out (by have:=HLl.out;have:=HLn.out;omega) ⟨rfl,rfl,rfl,rfl⟩ rfl rfl ?_
   intro g41 c41 w41 hW hM hG
   clear HM_l HN_y HZ_l HZ_y HO_l
   replace HW:=hide hW
   have HM_l2:=hide hM
   have HZ_l2:=zz w
   clear hW hM hG
   refine hK.out _ _ trivial fun hHd=>?_
   clear hK K
   try simp only [qq]
   refine tq 6 ?_
   simp only [qq]
   refine rq 7 fun K hK=>?_
   have hc42:=HW.out.c0
   have hf43:=HW.out.f0
   replace HW:=ħ (HW.out.p03 ((.slice (some ⟨g41,0,none⟩) (l.length+1) c41)))
   replace HM_l2:=HW.out.mp03.R HM_l2
   go_simp
   refine hK.out _ _ trivial fun hHd=>?_
   clear hK K
   try simp only [qq]
   generalize w41.setCell _ _=w44 at *
   clear hc42 hf43
   refine wpAnyH_done (by kernel_rfl) ?_ _
   have HA:=ħ (HW.out.ask1 HS.out HF.out (s:=sSEMI) (⟨_,_,rfl,by decide⟩) (by decide) (q:=w44.heap.size) (by simp))
   go_wp2_with fail
   go_at_call 94
   refine HA.out.mono ?_
   clear HA
   rintro e w45 (⟨HQ1,rfl,HL,hS,hW,hG⟩|⟨hq,rfl,h1⟩)
   rotate_left
   ·exact ⟨rfl,h1,_,HS.out,Or.inr ⟨HI.out _ (r_fl1 HT_x.out hq),rfl⟩⟩
   replace HM_l2:=HW.out.kR HZ_l2 hG HM_l2
   replace HW:=hW
   replace HS:=hS
   clear hG
   go_wp2_with fail
   by_cases hq:tx r38.tail=str sRB
   ·have HQ2:Hid (hd (tk r38.tail)=sRB):=(tx_hd (HF.out.suf HS.out) sRB (⟨_,_,rfl,by decide⟩)).1 hq
    go_at_call 67
    refine (HW.out.tkY HS.out (x:=str sRB) (by decide) hq).mono ?_
    rintro e w46 ⟨rfl,HL,HLs,hS,hW,hG⟩
    replace HM_l2:=HW.out.kR HZ_l2 hG HM_l2
    replace HW:=hW
    replace HS:=hS
    clear hG
    clear hq
    have HN_z:=ħ (HM_l2.out.node 2 (hd (tk ts)) 0)
    have HZ_z:=HZ_l2
    clear HM_l2 HZ_l2
    have hc47:=HW.out.c0
    have hc48:=HW.out.c1
    have hf49:=HW.out.f1
    replace HW:=ħ (HW.out.s1 (.int .i64 2) (.string (str (hd (tk ts)))) (.int .i64 0) ((.slice (some ⟨g41,0,none⟩) (l.length+1) c41)))
    replace HN_z:=HW.out.ms1.N HN_z
    go_wp2_with fail
    generalize (((w46.setCell _ _).setCell _ _).setCell _ _).setCell _ _=w52 at *
    refine bodyPost_ret (rt rfl rfl HW.out.b1) rfl ?_
    exact ⟨HW.out.grown,_,HS.out,Or.inl ⟨_,_,HL.out,by simp only [tk_tail];exact HI.out _ (r_fl2 HT_x.out HQ1.out (by rw [← tk_tail];exact HQ2.out)),rfl,HN_z.out.mono (fun k hk _=>Nat.le_trans HZ_z.out hk.1),HW.out.ps⟩⟩
   have HQ2:Hid (¬ hd (tk r38.tail)=sRB):=fun e=>hq ((tx_hd (HF.out.suf HS.out) sRB (⟨_,_,rfl,by decide⟩)).2 e)
   go_at_call 67
   refine (HW.out.tkN (x:=str sRB) (by decide) hq).mono ?_
   rintro e w53 ⟨rfl,hW,hG⟩
   replace HM_l2:=HW.out.kR HZ_l2 hG HM_l2
   replace HW:=hW
   clear hG
   clear hq
   go_wp2_with fail
   go_roundw
   case rel=>exact ⟨_,_,_,_,_,HW,HM_l2,HS,HL,(by have h1:=HLl.out;have h2:=HLs2.out;have h3:=(List.tail_suffix r38).length_le;show (l++[_]).length+_≤_;rw [List.length_append,List.length_singleton];omega),fun q hr=>HI.out q (r_fl3 HT_x.out HQ1.out (by rw [← tk_tail];exact HQ2.out) (by rw [← tk_tail];exact hr))⟩
   case measure=>rw [HW.out.ps.leftOf,HMu.out];have h2:=HLs2.out;have h3:=(List.tail_suffix r38).length_le;omega
  replace HW:=HW.out.al w38.heap.size #[.int .i64 3,.string (str s_x),.int .i64 0,(.slice (some ⟨q_x,0,none⟩) 1 1)]
  replace HN_y:=HW.out.nA HN_y
  replace HM_l:=HW.out.rA HM_l
  go_simp
  refine hK.out _ _ trivial fun hHd=>?_
  clear hK K
  try simp only [qq]
  generalize w38.alloc _=w54 at *
  refine rq 1 fun K hK=>?_
  have hc55:=HW.out.c1
  go_simp
  clear hc55
  refine hK.out _ _ trivial fun hHd=>?_
  clear hK K
  try simp only [qq]
  refine rq 5 fun K hK=>?_
  refine app_s0 _ _ rfl rfl HW.out HM_l.out HN_y.out HZ_l.out HZ_y.out HO_l.out (by have:=HLl.out;have:=HLn.out;omega) ⟨rfl,rfl,rfl,rfl⟩ rfl rfl ?_
  intro g56 c56 w56 hW hM hG
  clear HM_l HN_y HZ_l HZ_y HO_l
  replace HW:=hide hW
  have HM_l2:=hide hM
  have HZ_l2:=zz w
  clear hW hM hG
  refine hK.out _ _ trivial fun hHd=>?_
  clear hK K
  try simp only [qq]
  refine tq 6 ?_
  simp only [qq]
  refine rq 7 fun K hK=>?_
  have hc57:=HW.out.c0
  have hf58:=HW.out.f0
  replace HW:=ħ (HW.out.p03 ((.slice (some ⟨g56,0,none⟩) (l.length+1) c56)))
  replace HM_l2:=HW.out.mp03.R HM_l2
  go_simp
  refine hK.out _ _ trivial fun hHd=>?_
  clear hK K
  try simp only [qq]
  generalize w56.setCell _ _=w59 at *
  clear hc57 hf58
  refine wpAnyH_done (by kernel_rfl) ?_ _
  have HA:=ħ (HW.out.ask1 HS.out HF.out (s:=sSEMI) (⟨_,_,rfl,by decide⟩) (by decide) (q:=w59.heap.size) (by simp))
  go_wp2_with fail
  go_at_call 94
  refine HA.out.mono ?_
  clear HA
  rintro e w60 (⟨HQ1,rfl,HL,hS,hW,hG⟩|⟨hq,rfl,h1⟩)
  rotate_left
  ·exact ⟨rfl,h1,_,HS.out,Or.inr ⟨HI.out _ (r_fl1 HT_x.out hq),rfl⟩⟩
  replace HM_l2:=HW.out.kR HZ_l2 hG HM_l2
  replace HW:=hW
  replace HS:=hS
  clear hG
  go_wp2_with fail
  by_cases hq:tx r38.tail=str sRB
  ·have HQ2:Hid (hd (tk r38.tail)=sRB):=(tx_hd (HF.out.suf HS.out) sRB (⟨_,_,rfl,by decide⟩)).1 hq
   go_at_call 67
   refine (HW.out.tkY HS.out (x:=str sRB) (by decide) hq).mono ?_
   rintro e w61 ⟨rfl,HL,HLs,hS,hW,hG⟩
   replace HM_l2:=HW.out.kR HZ_l2 hG HM_l2
   replace HW:=hW
   replace HS:=hS
   clear hG
   clear hq
   have HN_z:=ħ (HM_l2.out.node 2 (hd (tk ts)) 0)
   have HZ_z:=HZ_l2
   clear HM_l2 HZ_l2
   have hc62:=HW.out.c0
   have hc63:=HW.out.c1
   have hf64:=HW.out.f1
   replace HW:=ħ (HW.out.s1 (.int .i64 2) (.string (str (hd (tk ts)))) (.int .i64 0) ((.slice (some ⟨g56,0,none⟩) (l.length+1) c56)))
   replace HN_z:=HW.out.ms1.N HN_z
   go_wp2_with fail
   generalize (((w61.setCell _ _).setCell _ _).setCell _ _).setCell _ _=w67 at *
   refine bodyPost_ret (rt rfl rfl HW.out.b1) rfl ?_
   exact ⟨HW.out.grown,_,HS.out,Or.inl ⟨_,_,HL.out,by simp only [tk_tail];exact HI.out _ (r_fl2 HT_x.out HQ1.out (by rw [← tk_tail];exact HQ2.out)),rfl,HN_z.out.mono (fun k hk _=>Nat.le_trans HZ_z.out hk.1),HW.out.ps⟩⟩
  have HQ2:Hid (¬ hd (tk r38.tail)=sRB):=fun e=>hq ((tx_hd (HF.out.suf HS.out) sRB (⟨_,_,rfl,by decide⟩)).2 e)
  go_at_call 67
  refine (HW.out.tkN (x:=str sRB) (by decide) hq).mono ?_
  rintro e w68 ⟨rfl,hW,hG⟩
  replace HM_l2:=HW.out.kR HZ_l2 hG HM_l2
  replace HW:=hW
  clear hG
  clear hq
  go_wp2_with fail
  go_roundw
  case rel=>exact ⟨_,_,_,_,_,HW,HM_l2,HS,HL,(by have h1:=HLl.out;have h2:=HLs2.out;have h3:=(List.tail_suffix r38).length_le;show (l++[_]).length+_≤_;rw [List.length_append,List.length_singleton];omega),fun q hr=>HI.out q (r_fl3 HT_x.out HQ1.out (by rw [← tk_tail];exact HQ2.out) (by rw [← tk_tail];exact hr))⟩
  case measure=>rw [HW.out.ps.leftOf,HMu.out];have h2:=HLs2.out;have h3:=(List.tail_suffix r38).length_le;omega
theorem extern_any (h:Ps w b g m ts) (hT:Two w b m) (hGl:Og w) (hb5:4<b) (hgl:g<w.heap.size) (hF:Fits ts) (hlen:ts.length≤4000):Calls Tryz.prog 69 #[.pointer (some ⟨b,0,none⟩)] w (PostK KEx w b g m ts):=by
 have HW:Hid (Wd w w b g m ts []):=Wd.start h hT hGl hb5 hgl
 have HS:=su ts
 have HF:=ħ hF
 have HLn:=ħ hlen
 clear h hT hGl hgl hF hlen
 go_enter Tryz.func69,Tryz.ntmps69
 replace HW:=HW.out.az
 go_wp2_with fail
 generalize w.alloc _=w1 at *
 go_at_call 95
 refine (typed_any HW.out.ps HW.out.two HW.out.glo HW.out.bg HW.out.glt (HF.out.suf HS.out) (Nat.le_trans HS.out.length_le HLn.out) 5).mono ?_
 rintro e w2 ⟨hG2,r2,hsu,⟨t_k,s_k,q_k,hlt,hO,rfl,hM,hP2⟩|⟨hO,rfl⟩⟩
 rotate_left
 ·exact ⟨rfl,grown_trans HW.out.grown hG2,_,hsu.trans HS.out,Or.inr ⟨ke0 hO,rfl⟩⟩
 have HT_k:=hide hO
 have HM_k:=ħ (hM.given HW.out)
 have HZ_k:Hid (w.heap.size≤w1.heap.size):=HW.out.grown.size
 have HSk:Hid (r2 <:+ ts):=hsu
 have HLs2:Hid (r2.length<ts.length):=hlt
 have HL:Hid (r2.length<ts.length):=Nat.lt_of_lt_of_le hlt HS.out.length_le
 replace HW:=ħ (HW.out.call hG2 hP2)
 replace HS:=ħ ((hsu).trans HS.out)
 clear hP2 hG2 hO hM hsu hlt
 replace HW:=HW.out.al w2.heap.size #[.int .i64 5,.string (str s_k),.int .i64 0,(.slice (some ⟨q_k,0,none⟩) 1 1)]
 replace HM_k:=HW.out.rA HM_k
 go_wp2_with fail
 generalize w2.alloc _=w3 at *
 by_cases hq:tx r2=str sSEMI
 ·have HQ:Hid (hd (tk r2)=sSEMI):=(tx_hd (HF.out.suf HS.out) sSEMI (⟨_,_,rfl,by decide⟩)).1 hq
  go_at_call 67
  refine (HW.out.tkY HS.out (x:=str sSEMI) (by decide) hq).mono ?_
  rintro e w4 ⟨rfl,HL,HLs,hS,hW,hG⟩
  replace HM_k:=HW.out.kR HZ_k hG HM_k
  replace HW:=hW
  replace HS:=hS
  clear hG
  clear hq
  have HN_z:=ħ (HM_k.out.node 5 s_k 0)
  have HZ_z:=HZ_k
  clear HM_k HZ_k
  have hc5:=HW.out.c0
  have hc6:=HW.out.c1
  have hf7:=HW.out.f1
  replace HW:=ħ (HW.out.s1 (.int .i64 5) (.string (str s_k)) (.int .i64 0) ((.slice (some ⟨q_k,0,none⟩) 1 1)))
  replace HN_z:=HW.out.ms1.N HN_z
  go_wp2_with fail
  generalize (((w4.setCell _ _).setCell _ _).setCell _ _).setCell _ _=w10 at *
  refine bodyPost_ret (rt rfl rfl HW.out.b1) rfl ?_
  exact ⟨HW.out.grown,_,HS.out,Or.inl ⟨_,_,HL.out,by rw [tk_tail];exact ke1 HT_k.out HQ.out,rfl,HN_z.out.mono (fun k hk _=>Nat.le_trans HZ_z.out hk.1),HW.out.ps⟩⟩
 have HQ:Hid (¬ hd (tk r2)=sSEMI):=fun e=>hq ((tx_hd (HF.out.suf HS.out) sSEMI (⟨_,_,rfl,by decide⟩)).2 e)
 go_at_call 67
 refine (HW.out.tkN (x:=str sSEMI) (by decide) hq).mono ?_
 rintro e w11 ⟨rfl,hW,hG⟩
 replace HM_k:=HW.out.kR HZ_k hG HM_k
 replace HW:=hW
 clear hG
 clear hq
 go_wp2_with fail
 go_at_call 96
 refine (function_any HW.out (HM_k.out.less HZ_k.out) (HF.out.suf HS.out) (Nat.le_trans HS.out.length_le HLn.out)).mono ?_
 rintro e w12 ⟨hG12,r12,hsu,⟨l_p,d_p,g_p,c_p,hlt,hll,hR,rfl,hW12,hM⟩|⟨hR,rfl⟩⟩
 rotate_left
 ·exact ⟨rfl,hG12,_,hsu.trans HS.out,Or.inr ⟨ke2 HT_k.out HQ.out hR,rfl⟩⟩
 have HR_p:=hide hR
 have HLl_p:Hid (l_p.length+r12.length≤r2.length):=hll
 have HM_p:=hide hM
 have HZ_p:=zz w
 have HL:Hid (r12.length<ts.length):=Nat.lt_of_lt_of_le hlt HS.out.length_le
 replace HS:=ħ (hsu.trans HS.out)
 clear HM_k HZ_k
 replace HW:=ħ (hW12)
 clear hR hM hsu hlt hll hW12 hG12
 have hc13:=HW.out.c0
 have hf14:=HW.out.f0
 replace HW:=ħ (HW.out.p00 (.int .i64 4))
 replace HM_p:=HW.out.mp00.R HM_p
 have HA:=ħ (HW.out.ask1 HS.out HF.out (s:=sSEMI) (⟨_,_,rfl,by decide⟩) (by decide) (q:=w12.heap.size) (by simp))
 go_wp2_with fail
 generalize w12.setCell _ _=w15 at *
 clear hc13 hf14
 go_at_call 94
 refine HA.out.mono ?_
 clear HA
 rintro e w16 (⟨HQ3,rfl,HL,hS,hW,hG⟩|⟨hq,rfl,h1⟩)
 rotate_left
 ·exact ⟨rfl,h1,_,HS.out,Or.inr ⟨ke3 HT_k.out HR_p.out hq,rfl⟩⟩
 replace HM_p:=HW.out.kR HZ_p hG HM_p
 replace HW:=hW
 replace HS:=hS
 clear hG
 have HN_z:=ħ (HM_p.out.node 4 s_k (b2n d_p))
 have HZ_z:=HZ_p
 clear HM_p HZ_p
 have hc17:=HW.out.c0
 have hc18:=HW.out.c1
 have hf19:=HW.out.f1
 replace HW:=ħ (HW.out.s1 (.int .i64 4) (.string (str s_k)) (.int .i64 (b2n d_p)) ((.slice (some ⟨g_p,0,none⟩) (l_p.length+1) c_p)))
 replace HN_z:=HW.out.ms1.N HN_z
 go_wp2_with fail
 generalize (((w16.setCell _ _).setCell _ _).setCell _ _).setCell _ _=w22 at *
 refine bodyPost_ret (rt rfl rfl HW.out.b1) rfl ?_
 exact ⟨HW.out.grown,_,HS.out,Or.inl ⟨_,_,HL.out,by rw [tk_tail];exact ke4 HT_k.out HR_p.out HQ3.out,rfl,HN_z.out.mono (fun k hk _=>Nat.le_trans HZ_z.out hk.1),HW.out.ps⟩⟩
end Go.Proofs.YthcfianhdkolhaaGreatDoor.Y
namespace Go.Proofs.YthcfianhdkolhaaGreatDoor.Y
open Go.RowKit Go.Proofs.YthcfianhdkolhaaGreatDoor.X Go.Proofs.YthcfianhdkolhaaGreatDoor.T Go.Proofs.YthcfianhdkolhaaGreatDoor.S
set_option linter.unusedVariables false
set_option linter.unusedSimpArgs false
variable {w w' w0 : World} {b g : Nat} {m : Value} {ts : List Tok} {t : Tok}
abbrev S4 (w:World) (g o:Nat) (x0 x1 x2 x3:Value):World:=(((w.setCell ⟨g,o,none⟩ x0).setCell ⟨g,o+1,none⟩ x1).setCell ⟨g,o+2,none⟩ x2).setCell ⟨g,o+3,none⟩ x3
theorem app_zero_step {ops:Array Oper} {o:Oper} {a:Act} {K:Act→World→Prop} {Q:Exit→Act→World→Prop} {E:Prop} (p q:Operand) (hgd:o.guard=none)
  (ho:o.op=.call { callee:=.builtin .append,args:=#[p,q],argTypes:=#[22,22] }) (L1 L2:List Bk) {B s0 s1:Nat} {v vy:Value} {l:List Nd} {y:Nd}
  (HW:Wd w0 w b g m ts (L1++(B,#[.int .i64 0,.string ⟨#[]⟩,.int .i64 0,.slice none 0 0],24)::L2)) (HM:RowN w (Av s0 (L1++(B,#[.int .i64 0,.string ⟨#[]⟩,.int .i64 0,.slice none 0 0],24)::L2)) v l) (HN:NdV w (Av s1 (L1++(B,#[.int .i64 0,.string ⟨#[]⟩,.int .i64 0,.slice none 0 0],24)::L2)) y vy) (hz:w0.heap.size≤s0) (hz1:w0.heap.size≤s1) (hk:∀ j,v.ownBlock=some j→j<s1) (hn:l.length≤16000)
  (hs:a.eval p=v) (hx:a.eval q=.slice (some ⟨B,0,none⟩) 1 1)
  (h:∀ gg cap w',Wd w0 w' b g m ts (L1++L2)→RowN w' (Av w0.heap.size (L1++L2)) (.slice (some ⟨gg,0,none⟩) (l.length+1) cap) (l++[.mk 0 [] 0 []])→NdV w' (fun k=>Av w0.heap.size (L1++L2) k∧k≠gg) y vy→K (a.put o.dst (.slice (some ⟨gg,0,none⟩) (l.length+1) cap)) w'):
  if Region.wanted o (yielded ops a.tmps)=true then Oper.wp Tryz.prog o a w K Q else E:=by
 refine step_nd p q hgd ho (Av w0.heap.size (L1++(B,#[.int .i64 0,.string ⟨#[]⟩,.int .i64 0,.slice none 0 0],24)::L2)) (Av w0.heap.size (L1++(B,#[.int .i64 0,.string ⟨#[]⟩,.int .i64 0,.slice none 0 0],24)::L2)) v l hs (HM.less hz) B (.mk 0 [] 0 []) (.int .i64 0) (.string ⟨#[]⟩) (.int .i64 0) (.slice none 0 0) hx (HW.blk (B,#[.int .i64 0,.string ⟨#[]⟩,.int .i64 0,.slice none 0 0],24) (by simp)).2 ⟨rfl,rfl,rfl,rfl⟩ (NdV.bare 0 [] 0 none 0) hn (fun _ h=>h) ⟨HW.grown.size,fun y hy=>by have:=HW.lt y hy;omega⟩ ?_
 intro gg cap w' hR hG hat hlt
 refine h gg cap w' ((HW.rowed hG (Nat.le_refl _) (fun j hj=>(HM.less hz).own j hj)).drop L1 L2) ((Mv.drop L1 L2 w').row hR) (HN.move (fun k hk' hl=>⟨hG.block k hl (fun e=>by have:=hk k e.symm;have:=hk'.1;omega),⟨Nat.le_trans hz1 hk'.1,fun y hy=>hk'.2 y (by
  rcases List.mem_append.1 hy with hy|hy
  ·simp [hy]
  simp [hy])⟩,fun e=>?_⟩))
 rcases hat with h1|h1
 ·have:=hk gg h1
  have:=hk'.1
  omega
 omega
theorem app_z0 {ops:Array Oper} {o:Oper} {a:Act} {K:Act→World→Prop} {Q:Exit→Act→World→Prop} {E:Prop} (p q:Operand) (hgd:o.guard=none)
  (ho:o.op=.call { callee:=.builtin .append,args:=#[p,q],argTypes:=#[22,22] }) {L:List Bk} {B s0 s1:Nat} {v vy:Value} {l:List Nd} {y:Nd}
  (HW:Wd w0 w b g m ts ((B,#[.int .i64 0,.string ⟨#[]⟩,.int .i64 0,.slice none 0 0],24)::L)) (HM:RowN w (Av s0 ((B,#[.int .i64 0,.string ⟨#[]⟩,.int .i64 0,.slice none 0 0],24)::L)) v l) (HN:NdV w (Av s1 ((B,#[.int .i64 0,.string ⟨#[]⟩,.int .i64 0,.slice none 0 0],24)::L)) y vy) (hz:w0.heap.size≤s0) (hz1:w0.heap.size≤s1) (hk:∀ j,v.ownBlock=some j→j<s1) (hn:l.length≤16000)
  (hs:a.eval p=v) (hx:a.eval q=.slice (some ⟨B,0,none⟩) 1 1)
  (h:∀ gg cap w',Wd w0 w' b g m ts L→RowN w' (Av w0.heap.size L) (.slice (some ⟨gg,0,none⟩) (l.length+1) cap) (l++[.mk 0 [] 0 []])→NdV w' (fun k=>Av w0.heap.size L k∧k≠gg) y vy→K (a.put o.dst (.slice (some ⟨gg,0,none⟩) (l.length+1) cap)) w'):
  if Region.wanted o (yielded ops a.tmps)=true then Oper.wp Tryz.prog o a w K Q else E:=app_zero_step p q hgd ho [] L HW HM HN hz hz1 hk hn hs hx h
theorem take_set (cur:List Value) (xs:List Value) (n:Nat) (a b c d:Value) (hl:xs.length=n*4) (h:cur.take ((n+1)*4)=xs++[a,b,c,d]) (x0 x1 x2 x3:Value):
  ((((cur.set (n*4) x0).set (n*4+1) x1).set (n*4+2) x2).set (n*4+3) x3).take ((n+1)*4)=xs++[x0,x1,x2,x3]:=by
 have hlen:(n+1)*4≤cur.length:=by
  have:=congrArg List.length h
  simp only [List.length_take,List.length_append,List.length_cons,List.length_nil,hl] at this
  omega
 apply List.ext_getElem?
 intro i
 have hi0:=congrArg (fun z:List Value=>z[i]?) h
 by_cases hi:i<(n+1)*4
 ·rw [List.getElem?_take_of_lt hi] at hi0 ⊢
  by_cases h3:i=n*4+3
  ·subst h3
   rw [List.getElem?_set_self (by simp;omega),List.getElem?_append_right (by omega),hl]
   simp
  rw [List.getElem?_set_ne (by omega)]
  by_cases h2:i=n*4+2
  ·subst h2
   rw [List.getElem?_set_self (by simp;omega),List.getElem?_append_right (by omega),hl]
   simp
  rw [List.getElem?_set_ne (by omega)]
  by_cases h1:i=n*4+1
  ·subst h1
   rw [List.getElem?_set_self (by simp;omega),List.getElem?_append_right (by omega),hl]
   simp
  rw [List.getElem?_set_ne (by omega)]
  by_cases h0:i=n*4
  ·subst h0
   rw [List.getElem?_set_self (by omega),List.getElem?_append_right (by omega),hl]
   simp
  rw [List.getElem?_set_ne (by omega),hi0,List.getElem?_append_left (by omega),List.getElem?_append_left (by omega)]
 rw [List.getElem?_take_eq_none (by omega)]
 rw [List.getElem?_eq_none]
 simp only [List.length_append,List.length_cons,List.length_nil,hl]
 omega
theorem RowN.last {A:Nat→Prop} {q cap:Nat} {l:List Nd} {z y:Nd} {x0 x1 x2 x3:Value} (h:RowN w A (.slice (some ⟨q,0,none⟩) (l.length+1) cap) (l++[z])) (hy:NdV w (fun k=>A k∧k≠q) y (.agg #[x0,x1,x2,x3])):
  RowN (S4 w q (l.length*4) x0 x1 x2 x3) A (.slice (some ⟨q,0,none⟩) (l.length+1) cap) (l++[y])∧w.grownBy (S4 w q (l.length*4) x0 x1 x2 x3) (some q) ∧
  (∃ c0 c1 c2 c3,w.cell? ⟨q,l.length*4,none⟩=some c0∧w.cell? ⟨q,l.length*4+1,none⟩=some c1∧w.cell? ⟨q,l.length*4+2,none⟩=some c2∧w.cell? ⟨q,l.length*4+3,none⟩=some c3)∧(∀ o,w.frozen? ⟨q,o,none⟩=false):=by
 have hG:w.grownBy (S4 w q (l.length*4) x0 x1 x2 x3) (some q):=⟨rfl,rfl,rfl,by simp,fun k hk hn=>by
  have hne:k≠q:=fun e=>hn (by rw [e])
  rw [heap_setCell_other _ _ k _ hne,heap_setCell_other _ _ k _ hne,heap_setCell_other _ _ k _ hne,heap_setCell_other _ _ k _ hne]⟩
 obtain ⟨cs,c1,c2,c3⟩:=h.row
 have hAq:=h.own q rfl
 rcases c2.2 with ⟨e,_⟩|⟨g',cap',cur,e,hb,hh,hn,hm,hs,ht⟩
 ·cases e
 have e2:q=g'∧cap=cap':=by
  have:=Value.slice.inj e
  obtain ⟨e1,_,e3⟩:=this
  have e4:=Option.some.inj e1
  exact ⟨(Addr.mk.inj e4).1,e3⟩
 obtain ⟨rfl,rfl⟩:=e2
 have el:(l++[z]).length=l.length+1:=by simp
 rw [el] at hn ht c1
 obtain ⟨cs0,last,rfl⟩:∃ cs0 last,cs=cs0++[last]:=⟨cs.dropLast,cs.getLast (fun e=>by rw [e] at c1;cases c1),(List.dropLast_concat_getLast _).symm⟩
 have hc0:cs0.length=l.length:=by simpa using c1
 obtain ⟨a0,a1,a2,a3⟩:=last
 rw [cellsN_app] at ht
 have ht':cur.toList.take ((l.length+1)*4)=cellsN cs0++[a0,a1,a2,a3]:=ht
 have hl0:(cellsN cs0).length=l.length*4:=by rw [cellsN_length,hc0]
 have hsz:(l.length+1)*4≤cur.size:=by rw [hs];omega
 have k0:=heap_setCell_same w q (l.length*4) cur 24 x0 hh
 have k1:=heap_setCell_same _ q (l.length*4+1) _ 24 x1 k0
 have k2:=heap_setCell_same _ q (l.length*4+2) _ 24 x2 k1
 have k3:=heap_setCell_same _ q (l.length*4+3) _ 24 x3 k2
 refine ⟨⟨fun k hk=>?_,cs0++[(x0,x1,x2,x3)],by simp [hc0],⟨?_,Or.inr ⟨q,cap,_,by simp,hb,k3,by simpa using hn,hm,by simpa using hs,?_⟩⟩,fun j hj hj'=>?_⟩,hG,?_,fun o=>frozen_at hh o⟩
 ·obtain rfl:q=k:=by simpa [Value.ownBlock] using hk
  exact hAq
 ·rw [cellsN_app]
  simp only [List.length_append,List.length_cons,List.length_nil,cellsN,hl0]
  omega
 ·rw [cellsN_app]
  have:=take_set cur.toList (cellsN cs0) l.length a0 a1 a2 a3 hl0 ht' x0 x1 x2 x3
  simpa [cellsN] using this
 ·have hmv:∀ n u,NdV w (fun k=>A k∧k≠q) n u→NdV (S4 w q (l.length*4) x0 x1 x2 x3) (fun k=>A k∧some k≠(Value.slice (some ⟨q,0,none⟩) (l.length+1) cap).ownBlock) n u:=fun n u hu=>hu.move (fun k hk hl=>⟨hG.block k hl (fun e=>hk.2 (Option.some.inj e)),hk.1,fun e=>hk.2 (Option.some.inj e)⟩)
  by_cases q1:j<l.length
  ·have q2:j<cs0.length:=by omega
   have:=c3 j (by simp;omega) (by simp;omega)
   rw [List.getElem_append_left q1] at this ⊢
   simp only [List.getElem_append_left q2] at this ⊢
   exact hmv _ _ (this.mono (fun k hk _=>⟨hk.1,fun e=>hk.2 (by rw [e];rfl)⟩))
  have e:j=l.length:=by simp at hj;omega
  subst e
  rw [List.getElem_append_right (Nat.le_refl _)]
  simp only [List.getElem_append_right (show cs0.length≤l.length by omega),hc0,Nat.sub_self,List.getElem_cons_zero]
  exact hmv _ _ hy
 have hcell:∀ o,o<4→∃ c,w.cell? ⟨q,l.length*4+o,none⟩=some c:=fun o ho=>by
  rw [cells_at hh]
  exact ⟨_,Array.getElem?_eq_getElem (by omega)⟩
 obtain ⟨c0,r0⟩:=hcell 0 (by omega)
 obtain ⟨c1',r1⟩:=hcell 1 (by omega)
 obtain ⟨c2',r2⟩:=hcell 2 (by omega)
 obtain ⟨c3',r3⟩:=hcell 3 (by omega)
 exact ⟨c0,c1',c2',c3',r0,r1,r2,r3⟩
end Go.Proofs.YthcfianhdkolhaaGreatDoor.Y
