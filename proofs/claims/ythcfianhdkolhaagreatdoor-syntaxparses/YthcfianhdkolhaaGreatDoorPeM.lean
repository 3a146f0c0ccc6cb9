/- PeLv0 PeLv1 PeLv2 PeLv3 PeLs PeM -/
import Derived.Test.YthcfianhdkolhaaGreatDoorPeL1
namespace Go.Proofs.YthcfianhdkolhaaGreatDoor.Y.Z
open Go.RowKit Go.Proofs.YthcfianhdkolhaaGreatDoor.T Go.Proofs.YthcfianhdkolhaaGreatDoor.S
open Go.Proofs.YthcfianhdkolhaaGreatDoor.X (Tok)
set_option linter.unusedVariables false
set_option linter.unusedSimpArgs false
set_option maxRecDepth 100000
set_option maxHeartbeats 2000000
variable {w w' : World} {b g : Nat} {K ts : List Tok} {β : Bool}
theorem stat_var0 (g0:¬ hd (tk ts)=sIF) (g1:¬ hd (tk ts)=sWHILE) (g2:¬ hd (tk ts)=sRET) (g3:¬ hd (tk ts)=sPUT) (gv:hd (tk ts)=sINT) (hB:Nx 33 #[.pointer (some ⟨b,0,none⟩)] .block b g K ts):Gd 54 #[.pointer (some ⟨b,0,none⟩)] .stat b g K ts:=by
 intro w h hF
 have HW:Hid (Wr w w b g K false ts []):=Wr.start h
 have HS:=su ts
 have HF:=ħ hF
 have HE:=ħ (Nx.all (ts:=ts) (expr_any (b:=b) (g:=g) (K:=K)))
 have HR:=ħ (Nx.all (ts:=ts) (round_any (b:=b) (g:=g) (K:=K)))
 have HB:=ħ hB
 clear hB
 have H_g0:=ħ g0
 clear g0
 have H_g1:=ħ g1
 clear g1
 have H_g2:=ħ g2
 clear g2
 have H_g3:=ħ g3
 clear g3
 have H_gv:=ħ gv
 clear gv
 clear h hF
 go_enter Tryz.func54,Tryz.ntmps54
 replace HW:=HW.out.az w.heap.size
 replace HW:=HW.out.az (w.heap.size+1)
 obtain ⟨pp1,pa1,pc1,hx1,hx2,hx3⟩:=HW.out.ps.blk
 have hc1:=cells_at hx2
 clear hx1 hx2 hx3
 go_wp2_with fail
 generalize (w.alloc _).alloc _=w2 at *
 clear hc1
 go_at_call 27
 refine (HW.out.eatN (s:=sIF) (fun e=>H_g0.out e.2)).mono ?_
 rintro e w3 ⟨rfl,hW,-⟩
 replace HW:=hW
 go_wp2_with fail
 go_at_call 27
 refine (HW.out.eatN (s:=sWHILE) (fun e=>H_g1.out e.2)).mono ?_
 rintro e w4 ⟨rfl,hW,-⟩
 replace HW:=hW
 go_wp2_with fail
 go_at_call 31
 refine (HW.out.tx 0 (by omega)).mono ?_
 rintro e w5 ⟨rfl,hW,-⟩
 replace HW:=hW
 rw [List.drop_zero]
 go_wp2_with fail
 go_at_call 27
 refine (HW.out.eatN (s:=sRET) (fun e=>H_g2.out e.2)).mono ?_
 rintro e w6 ⟨rfl,hW,-⟩
 replace HW:=hW
 go_wp2_with fail
 go_at_call 27
 refine (HW.out.eatN (s:=sPUT) (fun e=>H_g3.out e.2)).mono ?_
 rintro e w7 ⟨rfl,hW,-⟩
 replace HW:=hW
 have hq8:((str (hd (tk ts))).toList == [105,110,116])=true:=tx_yes H_gv.out
 go_wp2_with fail
 clear hq8
 go_at_call 30
 refine (typ_any ts w7 false HW.out.ps (HF.out.suf HS.out)).mono ?_
 rintro e w9 hp
 obtain ⟨n_t,k_t,t_t,v_t,a_t,l_t,c_t,β9,r9,rfl,HR_t,HN_t,HZ_t,HS_t,HL,hS,hW,-⟩:=HW.out.okN HS.out hp
 replace HW:=hW
 replace HS:=hS
 clear hp
 replace HW:=HW.out.am w9.heap.size HN_t
 replace HN_t:=HW.out.nA HN_t
 go_wp2_with fail
 generalize w9.alloc _=w10 at *
 go_at_call 28
 refine (HW.out.nm HS.out HF.out).mono ?_
 rintro e w11 ⟨x_s,β11,r11,rfl,HQ_s,HL,hS,hW,hG⟩
 replace HN_t:=HW.out.kN HZ_t hG HN_t
 replace HW:=hW
 replace HS:=hS
 clear hG
 have hc12:=HW.out.c1
 have hf13:=HW.out.f1
 replace HW:=ħ (HW.out.s1 (.int .i64 14) (.string (str x_s)) (.int .i64 0) (.slice none 0 0))
 replace HN_t:=HW.out.ms1.N HN_t
 go_wp2_with fail
 generalize (((w11.setCell _ _).setCell _ _).setCell _ _).setCell _ _=w14 at *
 clear hc12 hf13
 go_at_call 29
 refine (HW.out.mu HS.out (s:=sEQ) (by decide)).mono ?_
 rintro e w15 ⟨mv15,β15,r15,rfl,HQ1,HL,hS,hW,hG⟩
 replace HN_t:=HW.out.kN HZ_t hG HN_t
 replace HW:=hW
 replace HS:=hS
 clear hG
 go_wp2_with fail
 go_at_call 53
 refine (HE.out w15 β15 r15 HS.out HL.out HW.out.ps (HF.out.suf HS.out)).mono ?_
 rintro e w16 hp
 obtain ⟨n_x,k_x,t_x,v_x,a_x,l_x,c_x,β16,r16,rfl,HR_x,HN_x,HZ_x,HS_x,HL,hS,hW,hG⟩:=HW.out.okN HS.out hp
 replace HN_t:=HW.out.kN HZ_t hG HN_t
 replace HW:=hW
 replace HS:=hS
 clear hG hp
 replace HW:=HW.out.am w16.heap.size HN_x
 replace HN_t:=HW.out.nA HN_t
 replace HN_x:=HW.out.nA HN_x
 have hc17:=HW.out.c0
 have hc18:=HW.out.c1
 have hc19:=HW.out.c2
 replace HW:=HW.out.al (w16.heap.size+1) #[.int .i64 k_t,.string t_t,.int .i64 v_t,.slice a_t l_t c_t,.int .i64 k_x,.string t_x,.int .i64 v_x,.slice a_x l_x c_x]
 replace HN_t:=HW.out.nA HN_t
 replace HN_x:=HW.out.nA HN_x
 have HM_a:=ħ (Wr.t0 HW.out (HN_t.out.less HZ_t.out) (HN_x.out.less HZ_x.out))
 have HZ_a:=zz w
 clear HN_t HZ_t HN_x HZ_x
 replace HW:=ħ HW.out.d0
 have hc20:=HW.out.c2
 have hf21:=HW.out.f2
 replace HW:=ħ (HW.out.p23 (.slice (some ⟨(w16.heap.size+1),0,none⟩) 2 2))
 replace HM_a:=HW.out.mp23.R HM_a
 go_wp2_with fail
 generalize ((w16.alloc _).alloc _).setCell _ _=w22 at *
 clear hc17 hc18 hc19 hc20 hf21
 replace HM_a:=(Mv.d0 _).R HM_a
 replace HW:=ħ HW.out.d0
 replace HM_a:=(Mv.d0 _).R HM_a
 replace HW:=ħ HW.out.d0
 go_at_call 29
 refine (HW.out.mu HS.out (s:=sSEMI) (by decide)).mono ?_
 rintro e w23 ⟨mv23,β23,r23,rfl,HQ2,HL,hS,hW,hG⟩
 replace HM_a:=HW.out.kR HZ_a hG HM_a
 replace HW:=hW
 replace HS:=hS
 clear hG
 have HN_z:=ħ (HM_a.out.node 14 x_s 0)
 have HZ_z:=HZ_a
 clear HM_a HZ_a
 have hc24:=HW.out.c0
 have hc25:=HW.out.c1
 have hf26:=HW.out.f1
 replace HW:=ħ (HW.out.s1 (.int .i64 14) (.string (str x_s)) (.int .i64 0) ((.slice (some ⟨(w16.heap.size+1),0,none⟩) 2 2)))
 replace HN_z:=HW.out.ms1.N HN_z
 go_wp2_with fail
 exact HW.out.e HW.out.b1 HS HZ_z HN_z (md_var0 H_g0.out H_g1.out H_g2.out H_g3.out H_gv.out HR_t.out HQ_s.out HQ1.out HR_x.out HQ2.out)
theorem stat_var1 (g0:¬ hd (tk ts)=sIF) (g1:¬ hd (tk ts)=sWHILE) (g2:¬ hd (tk ts)=sRET) (g3:¬ hd (tk ts)=sPUT) (nsINT:¬ hd (tk ts)=sINT) (gv:hd (tk ts)=sLONG) (hB:Nx 33 #[.pointer (some ⟨b,0,none⟩)] .block b g K ts):Gd 54 #[.pointer (some ⟨b,0,none⟩)] .stat b g K ts:=by
 intro w h hF
 have HW:Hid (Wr w w b g K false ts []):=Wr.start h
 have HS:=su ts
 have HF:=ħ hF
 have HE:=ħ (Nx.all (ts:=ts) (expr_any (b:=b) (g:=g) (K:=K)))
 have HR:=ħ (Nx.all (ts:=ts) (round_any (b:=b) (g:=g) (K:=K)))
 have HB:=ħ hB
 clear hB
 have H_g0:=ħ g0
 clear g0
 have H_g1:=ħ g1
 clear g1
 have H_g2:=ħ g2
 clear g2
 have H_g3:=ħ g3
 clear g3
 have H_nsINT:=ħ nsINT
 clear nsINT
 have H_gv:=ħ gv
 clear gv
 clear h hF
 go_enter Tryz.func54,Tryz.ntmps54
 replace HW:=HW.out.az w.heap.size
 replace HW:=HW.out.az (w.heap.size+1)
 obtain ⟨pp1,pa1,pc1,hx1,hx2,hx3⟩:=HW.out.ps.blk
 have hc1:=cells_at hx2
 clear hx1 hx2 hx3
 go_wp2_with fail
 generalize (w.alloc _).alloc _=w2 at *
 clear hc1
 go_at_call 27
 refine (HW.out.eatN (s:=sIF) (fun e=>H_g0.out e.2)).mono ?_
 rintro e w3 ⟨rfl,hW,-⟩
 replace HW:=hW
 go_wp2_with fail
 go_at_call 27
 refine (HW.out.eatN (s:=sWHILE) (fun e=>H_g1.out e.2)).mono ?_
 rintro e w4 ⟨rfl,hW,-⟩
 replace HW:=hW
 go_wp2_with fail
 go_at_call 31
 refine (HW.out.tx 0 (by omega)).mono ?_
 rintro e w5 ⟨rfl,hW,-⟩
 replace HW:=hW
 rw [List.drop_zero]
 go_wp2_with fail
 go_at_call 27
 refine (HW.out.eatN (s:=sRET) (fun e=>H_g2.out e.2)).mono ?_
 rintro e w6 ⟨rfl,hW,-⟩
 replace HW:=hW
 go_wp2_with fail
 go_at_call 27
 refine (HW.out.eatN (s:=sPUT) (fun e=>H_g3.out e.2)).mono ?_
 rintro e w7 ⟨rfl,hW,-⟩
 replace HW:=hW
 have hq8:((str (hd (tk ts))).toList == [105,110,116])=false:=tx_no H_nsINT.out
 have hq9:((str (hd (tk ts))).toList == [108,111,110,103])=true:=tx_yes H_gv.out
 go_wp2_with fail
 clear hq8 hq9
 go_at_call 30
 refine (typ_any ts w7 false HW.out.ps (HF.out.suf HS.out)).mono ?_
 rintro e w10 hp
 obtain ⟨n_t,k_t,t_t,v_t,a_t,l_t,c_t,β10,r10,rfl,HR_t,HN_t,HZ_t,HS_t,HL,hS,hW,-⟩:=HW.out.okN HS.out hp
 replace HW:=hW
 replace HS:=hS
 clear hp
 replace HW:=HW.out.am w10.heap.size HN_t
 replace HN_t:=HW.out.nA HN_t
 go_wp2_with fail
 generalize w10.alloc _=w11 at *
 go_at_call 28
 refine (HW.out.nm HS.out HF.out).mono ?_
 rintro e w12 ⟨x_s,β12,r12,rfl,HQ_s,HL,hS,hW,hG⟩
 replace HN_t:=HW.out.kN HZ_t hG HN_t
 replace HW:=hW
 replace HS:=hS
 clear hG
 have hc13:=HW.out.c1
 have hf14:=HW.out.f1
 replace HW:=ħ (HW.out.s1 (.int .i64 14) (.string (str x_s)) (.int .i64 0) (.slice none 0 0))
 replace HN_t:=HW.out.ms1.N HN_t
 go_wp2_with fail
 generalize (((w12.setCell _ _).setCell _ _).setCell _ _).setCell _ _=w15 at *
 clear hc13 hf14
 go_at_call 29
 refine (HW.out.mu HS.out (s:=sEQ) (by decide)).mono ?_
 rintro e w16 ⟨mv16,β16,r16,rfl,HQ1,HL,hS,hW,hG⟩
 replace HN_t:=HW.out.kN HZ_t hG HN_t
 replace HW:=hW
 replace HS:=hS
 clear hG
 go_wp2_with fail
 go_at_call 53
 refine (HE.out w16 β16 r16 HS.out HL.out HW.out.ps (HF.out.suf HS.out)).mono ?_
 rintro e w17 hp
 obtain ⟨n_x,k_x,t_x,v_x,a_x,l_x,c_x,β17,r17,rfl,HR_x,HN_x,HZ_x,HS_x,HL,hS,hW,hG⟩:=HW.out.okN HS.out hp
 replace HN_t:=HW.out.kN HZ_t hG HN_t
 replace HW:=hW
 replace HS:=hS
 clear hG hp
 replace HW:=HW.out.am w17.heap.size HN_x
 replace HN_t:=HW.out.nA HN_t
 replace HN_x:=HW.out.nA HN_x
 have hc18:=HW.out.c0
 have hc19:=HW.out.c1
 have hc20:=HW.out.c2
 replace HW:=HW.out.al (w17.heap.size+1) #[.int .i64 k_t,.string t_t,.int .i64 v_t,.slice a_t l_t c_t,.int .i64 k_x,.string t_x,.int .i64 v_x,.slice a_x l_x c_x]
 replace HN_t:=HW.out.nA HN_t
 replace HN_x:=HW.out.nA HN_x
 have HM_a:=ħ (Wr.t0 HW.out (HN_t.out.less HZ_t.out) (HN_x.out.less HZ_x.out))
 have HZ_a:=zz w
 clear HN_t HZ_t HN_x HZ_x
 replace HW:=ħ HW.out.d0
 have hc21:=HW.out.c2
 have hf22:=HW.out.f2
 replace HW:=ħ (HW.out.p23 (.slice (some ⟨(w17.heap.size+1),0,none⟩) 2 2))
 replace HM_a:=HW.out.mp23.R HM_a
 go_wp2_with fail
 generalize ((w17.alloc _).alloc _).setCell _ _=w23 at *
 clear hc18 hc19 hc20 hc21 hf22
 replace HM_a:=(Mv.d0 _).R HM_a
 replace HW:=ħ HW.out.d0
 replace HM_a:=(Mv.d0 _).R HM_a
 replace HW:=ħ HW.out.d0
 go_at_call 29
 refine (HW.out.mu HS.out (s:=sSEMI) (by decide)).mono ?_
 rintro e w24 ⟨mv24,β24,r24,rfl,HQ2,HL,hS,hW,hG⟩
 replace HM_a:=HW.out.kR HZ_a hG HM_a
 replace HW:=hW
 replace HS:=hS
 clear hG
 have HN_z:=ħ (HM_a.out.node 14 x_s 0)
 have HZ_z:=HZ_a
 clear HM_a HZ_a
 have hc25:=HW.out.c0
 have hc26:=HW.out.c1
 have hf27:=HW.out.f1
 replace HW:=ħ (HW.out.s1 (.int .i64 14) (.string (str x_s)) (.int .i64 0) ((.slice (some ⟨(w17.heap.size+1),0,none⟩) 2 2)))
 replace HN_z:=HW.out.ms1.N HN_z
 go_wp2_with fail
 exact HW.out.e HW.out.b1 HS HZ_z HN_z (md_var1 H_g0.out H_g1.out H_g2.out H_g3.out H_gv.out HR_t.out HQ_s.out HQ1.out HR_x.out HQ2.out)
theorem stat_var2 (g0:¬ hd (tk ts)=sIF) (g1:¬ hd (tk ts)=sWHILE) (g2:¬ hd (tk ts)=sRET) (g3:¬ hd (tk ts)=sPUT) (nsINT:¬ hd (tk ts)=sINT) (nsLONG:¬ hd (tk ts)=sLONG) (gv:hd (tk ts)=sFN) (hB:Nx 33 #[.pointer (some ⟨b,0,none⟩)] .block b g K ts):Gd 54 #[.pointer (some ⟨b,0,none⟩)] .stat b g K ts:=by
 intro w h hF
 have HW:Hid (Wr w w b g K false ts []):=Wr.start h
 have HS:=su ts
 have HF:=ħ hF
 have HE:=ħ (Nx.all (ts:=ts) (expr_any (b:=b) (g:=g) (K:=K)))
 have HR:=ħ (Nx.all (ts:=ts) (round_any (b:=b) (g:=g) (K:=K)))
 have HB:=ħ hB
 clear hB
 have H_g0:=ħ g0
 clear g0
 have H_g1:=ħ g1
 clear g1
 have H_g2:=ħ g2
 clear g2
 have H_g3:=ħ g3
 clear g3
 have H_nsINT:=ħ nsINT
 clear nsINT
 have H_nsLONG:=ħ nsLONG
 clear nsLONG
 have H_gv:=ħ gv
 clear gv
 clear h hF
 go_enter Tryz.func54,Tryz.ntmps54
 replace HW:=HW.out.az w.heap.size
 replace HW:=HW.out.az (w.heap.size+1)
 obtain ⟨pp1,pa1,pc1,hx1,hx2,hx3⟩:=HW.out.ps.blk
 have hc1:=cells_at hx2
 clear hx1 hx2 hx3
 go_wp2_with fail
 generalize (w.alloc _).alloc _=w2 at *
 clear hc1
 go_at_call 27
 refine (HW.out.eatN (s:=sIF) (fun e=>H_g0.out e.2)).mono ?_
 rintro e w3 ⟨rfl,hW,-⟩
 replace HW:=hW
 go_wp2_with fail
 go_at_call 27
 refine (HW.out.eatN (s:=sWHILE) (fun e=>H_g1.out e.2)).mono ?_
 rintro e w4 ⟨rfl,hW,-⟩
 replace HW:=hW
 go_wp2_with fail
 go_at_call 31
 refine (HW.out.tx 0 (by omega)).mono ?_
 rintro e w5 ⟨rfl,hW,-⟩
 replace HW:=hW
 rw [List.drop_zero]
 go_wp2_with fail
 go_at_call 27
 refine (HW.out.eatN (s:=sRET) (fun e=>H_g2.out e.2)).mono ?_
 rintro e w6 ⟨rfl,hW,-⟩
 replace HW:=hW
 go_wp2_with fail
 go_at_call 27
 refine (HW.out.eatN (s:=sPUT) (fun e=>H_g3.out e.2)).mono ?_
 rintro e w7 ⟨rfl,hW,-⟩
 replace HW:=hW
 have hq8:((str (hd (tk ts))).toList == [105,110,116])=false:=tx_no H_nsINT.out
 have hq9:((str (hd (tk ts))).toList == [108,111,110,103])=false:=tx_no H_nsLONG.out
 have hq10:((str (hd (tk ts))).toList == [102,110])=true:=tx_yes H_gv.out
 go_wp2_with fail
 clear hq8 hq9 hq10
 go_at_call 30
 refine (typ_any ts w7 false HW.out.ps (HF.out.suf HS.out)).mono ?_
 rintro e w11 hp
 obtain ⟨n_t,k_t,t_t,v_t,a_t,l_t,c_t,β11,r11,rfl,HR_t,HN_t,HZ_t,HS_t,HL,hS,hW,-⟩:=HW.out.okN HS.out hp
 replace HW:=hW
 replace HS:=hS
 clear hp
 replace HW:=HW.out.am w11.heap.size HN_t
 replace HN_t:=HW.out.nA HN_t
 go_wp2_with fail
 generalize w11.alloc _=w12 at *
 go_at_call 28
 refine (HW.out.nm HS.out HF.out).mono ?_
 rintro e w13 ⟨x_s,β13,r13,rfl,HQ_s,HL,hS,hW,hG⟩
 replace HN_t:=HW.out.kN HZ_t hG HN_t
 replace HW:=hW
 replace HS:=hS
 clear hG
 have hc14:=HW.out.c1
 have hf15:=HW.out.f1
 replace HW:=ħ (HW.out.s1 (.int .i64 14) (.string (str x_s)) (.int .i64 0) (.slice none 0 0))
 replace HN_t:=HW.out.ms1.N HN_t
 go_wp2_with fail
 generalize (((w13.setCell _ _).setCell _ _).setCell _ _).setCell _ _=w16 at *
 clear hc14 hf15
 go_at_call 29
 refine (HW.out.mu HS.out (s:=sEQ) (by decide)).mono ?_
 rintro e w17 ⟨mv17,β17,r17,rfl,HQ1,HL,hS,hW,hG⟩
 replace HN_t:=HW.out.kN HZ_t hG HN_t
 replace HW:=hW
 replace HS:=hS
 clear hG
 go_wp2_with fail
 go_at_call 53
 refine (HE.out w17 β17 r17 HS.out HL.out HW.out.ps (HF.out.suf HS.out)).mono ?_
 rintro e w18 hp
 obtain ⟨n_x,k_x,t_x,v_x,a_x,l_x,c_x,β18,r18,rfl,HR_x,HN_x,HZ_x,HS_x,HL,hS,hW,hG⟩:=HW.out.okN HS.out hp
 replace HN_t:=HW.out.kN HZ_t hG HN_t
 replace HW:=hW
 replace HS:=hS
 clear hG hp
 replace HW:=HW.out.am w18.heap.size HN_x
 replace HN_t:=HW.out.nA HN_t
 replace HN_x:=HW.out.nA HN_x
 have hc19:=HW.out.c0
 have hc20:=HW.out.c1
 have hc21:=HW.out.c2
 replace HW:=HW.out.al (w18.heap.size+1) #[.int .i64 k_t,.string t_t,.int .i64 v_t,.slice a_t l_t c_t,.int .i64 k_x,.string t_x,.int .i64 v_x,.slice a_x l_x c_x]
 replace HN_t:=HW.out.nA HN_t
 replace HN_x:=HW.out.nA HN_x
 have HM_a:=ħ (Wr.t0 HW.out (HN_t.out.less HZ_t.out) (HN_x.out.less HZ_x.out))
 have HZ_a:=zz w
 clear HN_t HZ_t HN_x HZ_x
 replace HW:=ħ HW.out.d0
 have hc22:=HW.out.c2
 have hf23:=HW.out.f2
 replace HW:=ħ (HW.out.p23 (.slice (some ⟨(w18.heap.size+1),0,none⟩) 2 2))
 replace HM_a:=HW.out.mp23.R HM_a
 go_wp2_with fail
 generalize ((w18.alloc _).alloc _).setCell _ _=w24 at *
 clear hc19 hc20 hc21 hc22 hf23
 replace HM_a:=(Mv.d0 _).R HM_a
 replace HW:=ħ HW.out.d0
 replace HM_a:=(Mv.d0 _).R HM_a
 replace HW:=ħ HW.out.d0
 go_at_call 29
 refine (HW.out.mu HS.out (s:=sSEMI) (by decide)).mono ?_
 rintro e w25 ⟨mv25,β25,r25,rfl,HQ2,HL,hS,hW,hG⟩
 replace HM_a:=HW.out.kR HZ_a hG HM_a
 replace HW:=hW
 replace HS:=hS
 clear hG
 have HN_z:=ħ (HM_a.out.node 14 x_s 0)
 have HZ_z:=HZ_a
 clear HM_a HZ_a
 have hc26:=HW.out.c0
 have hc27:=HW.out.c1
 have hf28:=HW.out.f1
 replace HW:=ħ (HW.out.s1 (.int .i64 14) (.string (str x_s)) (.int .i64 0) ((.slice (some ⟨(w18.heap.size+1),0,none⟩) 2 2)))
 replace HN_z:=HW.out.ms1.N HN_z
 go_wp2_with fail
 exact HW.out.e HW.out.b1 HS HZ_z HN_z (md_var2 H_g0.out H_g1.out H_g2.out H_g3.out H_gv.out HR_t.out HQ_s.out HQ1.out HR_x.out HQ2.out)
theorem stat_var3 (g0:¬ hd (tk ts)=sIF) (g1:¬ hd (tk ts)=sWHILE) (g2:¬ hd (tk ts)=sRET) (g3:¬ hd (tk ts)=sPUT) (nsINT:¬ hd (tk ts)=sINT) (nsLONG:¬ hd (tk ts)=sLONG) (nsFN:¬ hd (tk ts)=sFN) (gn:nameB (hd (tk ts))=true) (gm:nameB (hd (tk ts).tail)=true) (hB:Nx 33 #[.pointer (some ⟨b,0,none⟩)] .block b g K ts):Gd 54 #[.pointer (some ⟨b,0,none⟩)] .stat b g K ts:=by
 intro w h hF
 have HW:Hid (Wr w w b g K false ts []):=Wr.start h
 have HS:=su ts
 have HF:=ħ hF
 have HE:=ħ (Nx.all (ts:=ts) (expr_any (b:=b) (g:=g) (K:=K)))
 have HR:=ħ (Nx.all (ts:=ts) (round_any (b:=b) (g:=g) (K:=K)))
 have HB:=ħ hB
 clear hB
 have H_g0:=ħ g0
 clear g0
 have H_g1:=ħ g1
 clear g1
 have H_g2:=ħ g2
 clear g2
 have H_g3:=ħ g3
 clear g3
 have H_nsINT:=ħ nsINT
 clear nsINT
 have H_nsLONG:=ħ nsLONG
 clear nsLONG
 have H_nsFN:=ħ nsFN
 clear nsFN
 have H_gn:=ħ gn
 clear gn
 have H_gm:=ħ gm
 clear gm
 clear h hF
 go_enter Tryz.func54,Tryz.ntmps54
 replace HW:=HW.out.az w.heap.size
 replace HW:=HW.out.az (w.heap.size+1)
 obtain ⟨pp1,pa1,pc1,hx1,hx2,hx3⟩:=HW.out.ps.blk
 have hc1:=cells_at hx2
 clear hx1 hx2 hx3
 go_wp2_with fail
 generalize (w.alloc _).alloc _=w2 at *
 clear hc1
 go_at_call 27
 refine (HW.out.eatN (s:=sIF) (fun e=>H_g0.out e.2)).mono ?_
 rintro e w3 ⟨rfl,hW,-⟩
 replace HW:=hW
 go_wp2_with fail
 go_at_call 27
 refine (HW.out.eatN (s:=sWHILE) (fun e=>H_g1.out e.2)).mono ?_
 rintro e w4 ⟨rfl,hW,-⟩
 replace HW:=hW
 go_wp2_with fail
 go_at_call 31
 refine (HW.out.tx 0 (by omega)).mono ?_
 rintro e w5 ⟨rfl,hW,-⟩
 replace HW:=hW
 rw [List.drop_zero]
 go_wp2_with fail
 go_at_call 27
 refine (HW.out.eatN (s:=sRET) (fun e=>H_g2.out e.2)).mono ?_
 rintro e w6 ⟨rfl,hW,-⟩
 replace HW:=hW
 go_wp2_with fail
 go_at_call 27
 refine (HW.out.eatN (s:=sPUT) (fun e=>H_g3.out e.2)).mono ?_
 rintro e w7 ⟨rfl,hW,-⟩
 replace HW:=hW
 have hq8:((str (hd (tk ts))).toList == [105,110,116])=false:=tx_no H_nsINT.out
 have hq9:((str (hd (tk ts))).toList == [108,111,110,103])=false:=tx_no H_nsLONG.out
 have hq10:((str (hd (tk ts))).toList == [102,110])=false:=tx_no H_nsFN.out
 go_wp2_with fail
 clear hq8 hq9 hq10
 go_at_call 51
 refine (HW.out.isn HS.out HF.out 0 (by omega)).mono ?_
 rintro e w11 ⟨rfl,hW,-⟩
 replace HW:=hW
 rw [List.drop_zero,H_gn.out]
 go_wp2_with fail
 go_at_call 51
 refine (HW.out.isn HS.out HF.out 1 (by omega)).mono ?_
 rintro e w12 ⟨rfl,hW,-⟩
 replace HW:=hW
 rw [List.drop_one,tk_tail,H_gm.out]
 go_wp2_with fail
 go_at_call 30
 refine (typ_any ts w12 false HW.out.ps (HF.out.suf HS.out)).mono ?_
 rintro e w13 hp
 obtain ⟨n_t,k_t,t_t,v_t,a_t,l_t,c_t,β13,r13,rfl,HR_t,HN_t,HZ_t,HS_t,HL,hS,hW,-⟩:=HW.out.okN HS.out hp
 replace HW:=hW
 replace HS:=hS
 clear hp
 replace HW:=HW.out.am w13.heap.size HN_t
 replace HN_t:=HW.out.nA HN_t
 go_wp2_with fail
 generalize w13.alloc _=w14 at *
 go_at_call 28
 refine (HW.out.nm HS.out HF.out).mono ?_
 rintro e w15 ⟨x_s,β15,r15,rfl,HQ_s,HL,hS,hW,hG⟩
 replace HN_t:=HW.out.kN HZ_t hG HN_t
 replace HW:=hW
 replace HS:=hS
 clear hG
 have hc16:=HW.out.c1
 have hf17:=HW.out.f1
 replace HW:=ħ (HW.out.s1 (.int .i64 14) (.string (str x_s)) (.int .i64 0) (.slice none 0 0))
 replace HN_t:=HW.out.ms1.N HN_t
 go_wp2_with fail
 generalize (((w15.setCell _ _).setCell _ _).setCell _ _).setCell _ _=w18 at *
 clear hc16 hf17
 go_at_call 29
 refine (HW.out.mu HS.out (s:=sEQ) (by decide)).mono ?_
 rintro e w19 ⟨mv19,β19,r19,rfl,HQ1,HL,hS,hW,hG⟩
 replace HN_t:=HW.out.kN HZ_t hG HN_t
 replace HW:=hW
 replace HS:=hS
 clear hG
 go_wp2_with fail
 go_at_call 53
 refine (HE.out w19 β19 r19 HS.out HL.out HW.out.ps (HF.out.suf HS.out)).mono ?_
 rintro e w20 hp
 obtain ⟨n_x,k_x,t_x,v_x,a_x,l_x,c_x,β20,r20,rfl,HR_x,HN_x,HZ_x,HS_x,HL,hS,hW,hG⟩:=HW.out.okN HS.out hp
 replace HN_t:=HW.out.kN HZ_t hG HN_t
 replace HW:=hW
 replace HS:=hS
 clear hG hp
 replace HW:=HW.out.am w20.heap.size HN_x
 replace HN_t:=HW.out.nA HN_t
 replace HN_x:=HW.out.nA HN_x
 have hc21:=HW.out.c0
 have hc22:=HW.out.c1
 have hc23:=HW.out.c2
 replace HW:=HW.out.al (w20.heap.size+1) #[.int .i64 k_t,.string t_t,.int .i64 v_t,.slice a_t l_t c_t,.int .i64 k_x,.string t_x,.int .i64 v_x,.slice a_x l_x c_x]
 replace HN_t:=HW.out.nA HN_t
 replace HN_x:=HW.out.nA HN_x
 have HM_a:=ħ (Wr.t0 HW.out (HN_t.out.less HZ_t.out) (HN_x.out.less HZ_x.out))
 have HZ_a:=zz w
 clear HN_t HZ_t HN_x HZ_x
 replace HW:=ħ HW.out.d0
 have hc24:=HW.out.c2
 have hf25:=HW.out.f2
 replace HW:=ħ (HW.out.p23 (.slice (some ⟨(w20.heap.size+1),0,none⟩) 2 2))
 replace HM_a:=HW.out.mp23.R HM_a
 go_wp2_with fail
 generalize ((w20.alloc _).alloc _).setCell _ _=w26 at *
 clear hc21 hc22 hc23 hc24 hf25
 replace HM_a:=(Mv.d0 _).R HM_a
 replace HW:=ħ HW.out.d0
 replace HM_a:=(Mv.d0 _).R HM_a
 replace HW:=ħ HW.out.d0
 go_at_call 29
 refine (HW.out.mu HS.out (s:=sSEMI) (by decide)).mono ?_
 rintro e w27 ⟨mv27,β27,r27,rfl,HQ2,HL,hS,hW,hG⟩
 replace HM_a:=HW.out.kR HZ_a hG HM_a
 replace HW:=hW
 replace HS:=hS
 clear hG
 have HN_z:=ħ (HM_a.out.node 14 x_s 0)
 have HZ_z:=HZ_a
 clear HM_a HZ_a
 have hc28:=HW.out.c0
 have hc29:=HW.out.c1
 have hf30:=HW.out.f1
 replace HW:=ħ (HW.out.s1 (.int .i64 14) (.string (str x_s)) (.int .i64 0) ((.slice (some ⟨(w20.heap.size+1),0,none⟩) 2 2)))
 replace HN_z:=HW.out.ms1.N HN_z
 go_wp2_with fail
 exact HW.out.e HW.out.b1 HS HZ_z HN_z (md_var3 H_g0.out H_g1.out H_g2.out H_g3.out H_gn.out H_gm.out HR_t.out HQ_s.out HQ1.out HR_x.out HQ2.out)
theorem stat_sim0 (g0:¬ hd (tk ts)=sIF) (g1:¬ hd (tk ts)=sWHILE) (g2:¬ hd (tk ts)=sRET) (g3:¬ hd (tk ts)=sPUT) (nsINT:¬ hd (tk ts)=sINT) (nsLONG:¬ hd (tk ts)=sLONG) (nsFN:¬ hd (tk ts)=sFN) (gn:nameB (hd (tk ts))=true) (gm:nameB (hd (tk ts).tail)=false) (hB:Nx 33 #[.pointer (some ⟨b,0,none⟩)] .block b g K ts):Gd 54 #[.pointer (some ⟨b,0,none⟩)] .stat b g K ts:=by
 intro w h hF
 have HW:Hid (Wr w w b g K false ts []):=Wr.start h
 have HS:=su ts
 have HF:=ħ hF
 have HE:=ħ (Nx.all (ts:=ts) (expr_any (b:=b) (g:=g) (K:=K)))
 have HR:=ħ (Nx.all (ts:=ts) (round_any (b:=b) (g:=g) (K:=K)))
 have HB:=ħ hB
 clear hB
 have H_g0:=ħ g0
 clear g0
 have H_g1:=ħ g1
 clear g1
 have H_g2:=ħ g2
 clear g2
 have H_g3:=ħ g3
 clear g3
 have H_nsINT:=ħ nsINT
 clear nsINT
 have H_nsLONG:=ħ nsLONG
 clear nsLONG
 have H_nsFN:=ħ nsFN
 clear nsFN
 have H_gn:=ħ gn
 clear gn
 have H_gm:=ħ gm
 clear gm
 clear h hF
 go_enter Tryz.func54,Tryz.ntmps54
 replace HW:=HW.out.az w.heap.size
 replace HW:=HW.out.az (w.heap.size+1)
 obtain ⟨pp1,pa1,pc1,hx1,hx2,hx3⟩:=HW.out.ps.blk
 have hc1:=cells_at hx2
 clear hx1 hx2 hx3
 go_wp2_with fail
 generalize (w.alloc _).alloc _=w2 at *
 clear hc1
 go_at_call 27
 refine (HW.out.eatN (s:=sIF) (fun e=>H_g0.out e.2)).mono ?_
 rintro e w3 ⟨rfl,hW,-⟩
 replace HW:=hW
 go_wp2_with fail
 go_at_call 27
 refine (HW.out.eatN (s:=sWHILE) (fun e=>H_g1.out e.2)).mono ?_
 rintro e w4 ⟨rfl,hW,-⟩
 replace HW:=hW
 go_wp2_with fail
 go_at_call 31
 refine (HW.out.tx 0 (by omega)).mono ?_
 rintro e w5 ⟨rfl,hW,-⟩
 replace HW:=hW
 rw [List.drop_zero]
 go_wp2_with fail
 go_at_call 27
 refine (HW.out.eatN (s:=sRET) (fun e=>H_g2.out e.2)).mono ?_
 rintro e w6 ⟨rfl,hW,-⟩
 replace HW:=hW
 go_wp2_with fail
 go_at_call 27
 refine (HW.out.eatN (s:=sPUT) (fun e=>H_g3.out e.2)).mono ?_
 rintro e w7 ⟨rfl,hW,-⟩
 replace HW:=hW
 have hq8:((str (hd (tk ts))).toList == [105,110,116])=false:=tx_no H_nsINT.out
 have hq9:((str (hd (tk ts))).toList == [108,111,110,103])=false:=tx_no H_nsLONG.out
 have hq10:((str (hd (tk ts))).toList == [102,110])=false:=tx_no H_nsFN.out
 go_wp2_with fail
 clear hq8 hq9 hq10
 go_at_call 51
 refine (HW.out.isn HS.out HF.out 0 (by omega)).mono ?_
 rintro e w11 ⟨rfl,hW,-⟩
 replace HW:=hW
 rw [List.drop_zero,H_gn.out]
 go_wp2_with fail
 go_at_call 51
 refine (HW.out.isn HS.out HF.out 1 (by omega)).mono ?_
 rintro e w12 ⟨rfl,hW,-⟩
 replace HW:=hW
 rw [List.drop_one,tk_tail,H_gm.out]
 go_wp2_with fail
 go_at_call 74
 refine (simple_gd w12 HW.out.ps (HF.out.suf HS.out)).mono ?_
 rintro e w13 hp
 obtain ⟨n_x,k_x,t_x,v_x,a_x,l_x,c_x,β13,r13,rfl,HR_x,HN_x,HZ_x,HS_x,HL,hS,hW,-⟩:=HW.out.okN HS.out hp
 replace HW:=hW
 replace HS:=hS
 clear hp
 have hc14:=HW.out.c0
 have hf15:=HW.out.f0
 replace HW:=ħ (HW.out.s0 (.int .i64 k_x) (.string t_x) (.int .i64 v_x) (.slice a_x l_x c_x))
 replace HN_x:=HW.out.ms0.N HN_x
 go_wp2_with fail
 generalize (((w13.setCell _ _).setCell _ _).setCell _ _).setCell _ _=w16 at *
 clear hc14 hf15
 go_at_call 29
 refine (HW.out.mu HS.out (s:=sSEMI) (by decide)).mono ?_
 rintro e w17 ⟨mv17,β17,r17,rfl,HQ1,HL,hS,hW,hG⟩
 replace HN_x:=HW.out.kN HZ_x hG HN_x
 replace HW:=hW
 replace HS:=hS
 clear hG
 have hc18:=HW.out.c0
 have hc19:=HW.out.c1
 have hf20:=HW.out.f1
 replace HW:=ħ (HW.out.s1 (.int .i64 k_x) (.string t_x) (.int .i64 v_x) (.slice a_x l_x c_x))
 replace HN_x:=HW.out.ms1.N HN_x
 go_wp2_with fail
 exact HW.out.e HW.out.b1 HS HZ_x HN_x (md_simple H_g0.out H_g1.out H_g2.out H_g3.out (by rintro (e|e|e|⟨e,e2⟩);exact H_nsINT.out e;exact H_nsLONG.out e;exact H_nsFN.out e;rw [H_gm.out] at e2;cases e2) HR_x.out HQ1.out)
theorem stat_sim1 (g0:¬ hd (tk ts)=sIF) (g1:¬ hd (tk ts)=sWHILE) (g2:¬ hd (tk ts)=sRET) (g3:¬ hd (tk ts)=sPUT) (nsINT:¬ hd (tk ts)=sINT) (nsLONG:¬ hd (tk ts)=sLONG) (nsFN:¬ hd (tk ts)=sFN) (gn:nameB (hd (tk ts))=false) (hB:Nx 33 #[.pointer (some ⟨b,0,none⟩)] .block b g K ts):Gd 54 #[.pointer (some ⟨b,0,none⟩)] .stat b g K ts:=by
 intro w h hF
 have HW:Hid (Wr w w b g K false ts []):=Wr.start h
 have HS:=su ts
 have HF:=ħ hF
 have HE:=ħ (Nx.all (ts:=ts) (expr_any (b:=b) (g:=g) (K:=K)))
 have HR:=ħ (Nx.all (ts:=ts) (round_any (b:=b) (g:=g) (K:=K)))
 have HB:=ħ hB
 clear hB
 have H_g0:=ħ g0
 clear g0
 have H_g1:=ħ g1
 clear g1
 have H_g2:=ħ g2
 clear g2
 have H_g3:=ħ g3
 clear g3
 have H_nsINT:=ħ nsINT
 clear nsINT
 have H_nsLONG:=ħ nsLONG
 clear nsLONG
 have H_nsFN:=ħ nsFN
 clear nsFN
 have H_gn:=ħ gn
 clear gn
 clear h hF
 go_enter Tryz.func54,Tryz.ntmps54
 replace HW:=HW.out.az w.heap.size
 replace HW:=HW.out.az (w.heap.size+1)
 obtain ⟨pp1,pa1,pc1,hx1,hx2,hx3⟩:=HW.out.ps.blk
 have hc1:=cells_at hx2
 clear hx1 hx2 hx3
 go_wp2_with fail
 generalize (w.alloc _).alloc _=w2 at *
 clear hc1
 go_at_call 27
 refine (HW.out.eatN (s:=sIF) (fun e=>H_g0.out e.2)).mono ?_
 rintro e w3 ⟨rfl,hW,-⟩
 replace HW:=hW
 go_wp2_with fail
 go_at_call 27
 refine (HW.out.eatN (s:=sWHILE) (fun e=>H_g1.out e.2)).mono ?_
 rintro e w4 ⟨rfl,hW,-⟩
 replace HW:=hW
 go_wp2_with fail
 go_at_call 31
 refine (HW.out.tx 0 (by omega)).mono ?_
 rintro e w5 ⟨rfl,hW,-⟩
 replace HW:=hW
 rw [List.drop_zero]
 go_wp2_with fail
 go_at_call 27
 refine (HW.out.eatN (s:=sRET) (fun e=>H_g2.out e.2)).mono ?_
 rintro e w6 ⟨rfl,hW,-⟩
 replace HW:=hW
 go_wp2_with fail
 go_at_call 27
 refine (HW.out.eatN (s:=sPUT) (fun e=>H_g3.out e.2)).mono ?_
 rintro e w7 ⟨rfl,hW,-⟩
 replace HW:=hW
 have hq8:((str (hd (tk ts))).toList == [105,110,116])=false:=tx_no H_nsINT.out
 have hq9:((str (hd (tk ts))).toList == [108,111,110,103])=false:=tx_no H_nsLONG.out
 have hq10:((str (hd (tk ts))).toList == [102,110])=false:=tx_no H_nsFN.out
 go_wp2_with fail
 clear hq8 hq9 hq10
 go_at_call 51
 refine (HW.out.isn HS.out HF.out 0 (by omega)).mono ?_
 rintro e w11 ⟨rfl,hW,-⟩
 replace HW:=hW
 rw [List.drop_zero,H_gn.out]
 go_wp2_with fail
 go_at_call 74
 refine (simple_gd w11 HW.out.ps (HF.out.suf HS.out)).mono ?_
 rintro e w12 hp
 obtain ⟨n_x,k_x,t_x,v_x,a_x,l_x,c_x,β12,r12,rfl,HR_x,HN_x,HZ_x,HS_x,HL,hS,hW,-⟩:=HW.out.okN HS.out hp
 replace HW:=hW
 replace HS:=hS
 clear hp
 have hc13:=HW.out.c0
 have hf14:=HW.out.f0
 replace HW:=ħ (HW.out.s0 (.int .i64 k_x) (.string t_x) (.int .i64 v_x) (.slice a_x l_x c_x))
 replace HN_x:=HW.out.ms0.N HN_x
 go_wp2_with fail
 generalize (((w12.setCell _ _).setCell _ _).setCell _ _).setCell _ _=w15 at *
 clear hc13 hf14
 go_at_call 29
 refine (HW.out.mu HS.out (s:=sSEMI) (by decide)).mono ?_
 rintro e w16 ⟨mv16,β16,r16,rfl,HQ1,HL,hS,hW,hG⟩
 replace HN_x:=HW.out.kN HZ_x hG HN_x
 replace HW:=hW
 replace HS:=hS
 clear hG
 have hc17:=HW.out.c0
 have hc18:=HW.out.c1
 have hf19:=HW.out.f1
 replace HW:=ħ (HW.out.s1 (.int .i64 k_x) (.string t_x) (.int .i64 v_x) (.slice a_x l_x c_x))
 replace HN_x:=HW.out.ms1.N HN_x
 go_wp2_with fail
 exact HW.out.e HW.out.b1 HS HZ_x HN_x (md_simple H_g0.out H_g1.out H_g2.out H_g3.out (by rintro (e|e|e|⟨e,e2⟩);exact H_nsINT.out e;exact H_nsLONG.out e;exact H_nsFN.out e;rw [H_gn.out] at e;cases e) HR_x.out HQ1.out)
def KI (T:List Tk) (acc:List Nd) (β:Bool) (r:List Tok):Prop:=(β=true∧R .block T (.no (tk r)))∨(β=false∧∀ q,R (.blockL acc) (tk r) q→R .block T q)
theorem ki_start {β1:Bool} {r1:List Tok} (h:Mu sLB false ts β1 r1):KI (tk ts) [] β1 r1:=by
 rcases h.good with ⟨rfl,e,rfl⟩|⟨rfl,e,rfl⟩
 ·refine Or.inr ⟨rfl,fun q k=>?_⟩
  obtain ⟨m,k⟩:=k
  rw [tk_tail] at k
  exact ⟨m+1,by simp [P,F,must,e,k]⟩
 exact Or.inl ⟨rfl,1,by simp [P,F,must,e]⟩
theorem ki_next {T:List Tk} {acc:List Nd} {x:Nd} {r r1:List Tok} {β1:Bool} (J:∀ q,R (.blockL acc) (tk r) q→R .block T q) (h:¬ Eat false r sRB) (h1:Md (R .stat) x false r β1 r1):KI T (acc++[x]) β1 r1:=by
 have e0:¬ hd (tk r)=sRB:=fun e=>h ⟨rfl,e⟩
 rcases h1.good with ⟨rfl,_,e⟩|⟨rfl,e⟩
 ·refine Or.inr ⟨rfl,fun q k=>J q ?_⟩
  obtain ⟨m,e,k⟩:=both e k
  exact ⟨m+1,by simp only [P,F,if_neg e0,andN,e,k]⟩
 obtain ⟨m,e⟩:=e
 exact Or.inl ⟨rfl,J _ ⟨m+1,by simp only [P,F,if_neg e0,andN,e]⟩⟩
theorem ki_end {acc:List Nd} {r:List Tok} (J:∀ q,R (.blockL acc) (tk r) q→R .block (tk ts) q) (h:Eat false r sRB) (hl:Pg false r ts):Md (R .block) (.mk 13 [] 0 acc) false ts false r.tail:=by
 have e:=h.2
 have q:=(List.tail_suffix r).length_le
 have:=hl rfl
 refine Or.inr (Or.inl ⟨rfl,rfl,by omega,J _ ⟨1,?_⟩⟩)
 simp only [P,F,e,if_true,okN,tk_tail]
theorem li_mu {s:List UInt8} {β1:Bool} {r1:List Tok} (h:Mu s false ts β1 r1) (hs:s≠[]):LI ts 0 β1 r1:=⟨fun e=>by have:=h.prog hs e;omega,Nat.zero_le _⟩
theorem block_bad :Bad 33 #[.pointer (some ⟨b,0,none⟩)] b g K:=by
 intro w ts h hF
 have HW:Hid (Wr w w b g K true ts []):=Wr.start h
 have HS:=su ts
 have HF:=ħ hF
 clear h hF
 go_enter Tryz.func33,Tryz.ntmps33
 replace HW:=HW.out.az w.heap.size
 replace HW:=HW.out.al (w.heap.size+1) #[.int .i64 13,.string ⟨#[]⟩,.int .i64 0,.slice none 0 0]
 go_wp2_with fail
 generalize (w.alloc _).alloc _=w1 at *
 go_at_call 29
 refine (HW.out.mu HS.out (s:=sLB) (by decide)).mono ?_
 rintro e w2 ⟨mv2,β2,r2,rfl,HQ1,HL,hS,hW,-⟩
 replace HW:=hW
 replace HS:=hS
 obtain ⟨rfl,rfl⟩:=HQ1.out.bad
 go_wp2_with fail
 go_loopw [] (fun wr=>Hid (Wr w wr b g K true r2 [((w.heap.size+1),#[.int .i64 13,.string ⟨#[]⟩,.int .i64 0,.slice none 0 0],24),(w.heap.size,#[.int .i64 0,.string ⟨#[]⟩,.int .i64 0,.slice none 0 0],24)])) (fun wr=>leftR b wr)
 case atStart=>exact HW
 case round=>
  have HW:=hrel
  clear hrel
  obtain ⟨pp23,pa23,pc23,hx1,hx2,hx3⟩:=HW.out.ps.blk
  have hc23:=cells_at hx2
  clear hx1 hx2 hx3
  have HN_z:Hid (NdV wr (Av w.heap.size [((w.heap.size+1),#[.int .i64 13,.string ⟨#[]⟩,.int .i64 0,.slice none 0 0],24),(w.heap.size,#[.int .i64 0,.string ⟨#[]⟩,.int .i64 0,.slice none 0 0],24)]) (.mk 13 [] 0 []) (.agg #[.int .i64 13,.string (str []),.int .i64 0,.slice none 0 0])):=NdV.bare 13 [] 0 none 0
  have HZ_z:=zz w
  have hc24:=HW.out.c0
  have hc25:=HW.out.c1
  have hf26:=HW.out.f1
  replace HW:=ħ (HW.out.s1 (.int .i64 13) (.string ⟨#[]⟩) (.int .i64 0) (.slice none 0 0))
  replace HN_z:=HW.out.ms1.N HN_z
  go_wp2_with fail
  exact HW.out.e HW.out.b1 HS HZ_z HN_z (md_bad ⟨rfl,rfl⟩)
theorem block_gd (hS:Nx 54 #[.pointer (some ⟨b,0,none⟩)] .stat b g K ts):Gd 33 #[.pointer (some ⟨b,0,none⟩)] .block b g K ts:=by
 intro w h hF
 have HW:Hid (Wr w w b g K false ts []):=Wr.start h
 have HS:=su ts
 have HF:=ħ hF
 have HSt:=ħ hS
 have HK:Hid (ts.length≤4000):=h.short
 clear hS
 clear h hF
 go_enter Tryz.func33,Tryz.ntmps33
 replace HW:=HW.out.az w.heap.size
 replace HW:=HW.out.al (w.heap.size+1) #[.int .i64 13,.string ⟨#[]⟩,.int .i64 0,.slice none 0 0]
 go_wp2_with fail
 generalize (w.alloc _).alloc _=w1 at *
 go_at_call 29
 refine (HW.out.mu HS.out (s:=sLB) (by decide)).mono ?_
 rintro e w2 ⟨mv2,β2,r2,rfl,HQ1,HL,hS,hW,-⟩
 replace HW:=hW
 replace HS:=hS
 go_wp2_with fail
 go_loopw [] (fun wr=>∃ (r:List Tok) (β:Bool) (l:List Nd) (a0:Option Addr) (n0 c0:Nat),Hid (Wr w wr b g K β r [((w.heap.size+1),#[.int .i64 13,.string ⟨#[]⟩,.int .i64 0,.slice a0 n0 c0],24),(w.heap.size,#[.int .i64 0,.string ⟨#[]⟩,.int .i64 0,.slice none 0 0],24)])∧Hid (RowN wr (Av w.heap.size [((w.heap.size+1),#[.int .i64 13,.string ⟨#[]⟩,.int .i64 0,.slice a0 n0 c0],24),(w.heap.size,#[.int .i64 0,.string ⟨#[]⟩,.int .i64 0,.slice none 0 0],24)]) (.slice a0 n0 c0) l)∧Hid (r <:+ ts)∧Hid (Pg β r ts)∧Hid (LI ts l.length β r)∧Hid (KI (tk ts) l β r)) (fun wr=>leftR b wr)
 case atStart=>exact ⟨_,_,[],_,_,_,HW,RowN.nil _ _,HS,HL,li_mu HQ1.out (by decide),ki_start HQ1.out⟩
 case round=>
  obtain ⟨r,β,l,a0,n0,c0,HW,HM_l,HS,HL,HLi,HI⟩:=hrel
  have HZ_l:=zz w
  have HG_l:Hid (l.length≤4000):=Nat.le_trans HLi.out.2 HK.out
  have hmu:=HW.out.ps.leftR
  have HMu:=ħ hmu
  clear hmu
  rcases HI.out with ⟨rfl,hA⟩|⟨rfl,hJ⟩
  ·have HA:=ħ hA
   clear hA
   obtain ⟨pp23,pa23,pc23,hx1,hx2,hx3⟩:=HW.out.ps.blk
   have hc23:=cells_at hx2
   clear hx1 hx2 hx3
   have HN_z:=ħ (HM_l.out.node 13 [] 0)
   have HZ_z:=HZ_l
   clear HM_l HZ_l
   have hc24:=HW.out.c0
   have hc25:=HW.out.c1
   have hf26:=HW.out.f1
   replace HW:=ħ (HW.out.s1 (.int .i64 13) (.string ⟨#[]⟩) (.int .i64 0) (.slice a0 n0 c0))
   replace HN_z:=HW.out.ms1.N HN_z
   go_wp2_with fail
   exact HW.out.e HW.out.b1 HS HZ_z HN_z (Or.inr (Or.inr ⟨rfl,rfl,HA.out⟩))
  have HJ:=ħ hJ
  have HL0:=HL
  clear hJ HI
  obtain ⟨pp23,pa23,pc23,hx1,hx2,hx3⟩:=HW.out.ps.blk
  have hc23:=cells_at hx2
  clear hx1 hx2 hx3
  go_wp2_with fail
  clear hc23
  by_cases hq:Eat false r sRB
  ·have HEe:=ħ hq
   clear hq
   go_at_call 27
   refine (HW.out.eatY HS.out (s:=sRB) (by decide) HEe.out).mono ?_
   rintro e w24 ⟨rfl,HL,hS,hW,hG⟩
   replace HM_l:=HW.out.kR HZ_l hG HM_l
   replace HW:=hW
   replace HS:=hS
   clear hG
   have HN_z:=ħ (HM_l.out.node 13 [] 0)
   have HZ_z:=HZ_l
   clear HM_l HZ_l
   have hc25:=HW.out.c0
   have hc26:=HW.out.c1
   have hf27:=HW.out.f1
   replace HW:=ħ (HW.out.s1 (.int .i64 13) (.string ⟨#[]⟩) (.int .i64 0) (.slice a0 n0 c0))
   replace HN_z:=HW.out.ms1.N HN_z
   go_wp2_with fail
   exact HW.out.e HW.out.b1 HS HZ_z HN_z (ki_end HJ.out HEe.out HL0.out)
  have HEe:=ħ hq
  clear hq
  go_at_call 27
  refine (HW.out.eatN (s:=sRB) HEe.out).mono ?_
  rintro e w31 ⟨rfl,hW,hG⟩
  replace HM_l:=HW.out.kR HZ_l hG HM_l
  replace HW:=hW
  clear hG
  go_wp2_with fail
  go_at_call 54
  refine (HSt.out w31 false r HS.out HL.out HW.out.ps (HF.out.suf HS.out)).mono ?_
  rintro e w32 hp
  obtain ⟨n_y,k_y,t_y,v_y,a_y,l_y,c_y,β32,r32,rfl,HR_y,HN_y,HZ_y,HS_y,HL,hS,hW,hG⟩:=HW.out.okN HS.out hp
  have HO_l:=ħ HM_l.out.lt
  replace HM_l:=HW.out.kR HZ_l hG HM_l
  replace HW:=hW
  replace HS:=hS
  clear hG hp
  replace HW:=HW.out.am w32.heap.size HN_y
  replace HN_y:=HW.out.nA HN_y
  replace HM_l:=HW.out.rA HM_l
  have hc33:=HW.out.c0
  have hc34:=HW.out.c1
  have hc35:=HW.out.c2
  replace HW:=HW.out.am (w32.heap.size+1) HN_y
  replace HN_y:=HW.out.nA HN_y
  replace HM_l:=HW.out.rA HM_l
  have hc36:=HW.out.c0
  have hc37:=HW.out.c1
  have hc38:=HW.out.c2
  have hc39:=HW.out.c3
  go_wp2_with (at_builtin;refine app_l0 _ _ rfl rfl HW.out HM_l.out HN_y.out HZ_l.out HZ_y.out HO_l.out (by have:=HG_l.out;omega) ⟨rfl,rfl,rfl,rfl⟩ ?e1 ?e2 ?_;(case e1=>rfl);(case e2=>rfl);skip)
  intro g40 c40 w40 hW hM hG
  clear HM_l HN_y HZ_l HZ_y HO_l
  replace HW:=ħ hW
  have HM_l2:=ħ hM
  have HZ_l2:=zz w
  clear hW hM hG
  have hc41:=HW.out.c1
  have hf42:=HW.out.f1
  replace HW:=ħ (HW.out.p13 ((.slice (some ⟨g40,0,none⟩) (l.length+1) c40)))
  replace HM_l2:=HW.out.mp13.R HM_l2
  go_wp2_with fail
  generalize w40.setCell _ _=w43 at *
  clear hc41 hf42
  replace HM_l2:=(Mv.d0 _).R HM_l2
  replace HW:=ħ HW.out.d0
  go_roundw
  case rel=>exact ⟨_,_,_,_,_,_,HW,HM_l2,HS,HL,(by rw [List.length_append,List.length_singleton];exact li_one HLi.out HR_y.out (List.suffix_refl _):LI _ _ _ _),ki_next HJ.out HEe.out HR_y.out⟩
  case measure=>rw [HW.out.ps.leftR,HMu.out];exact less_left HS_y.out.length_le HR_y.out.prog
theorem stat_gd (hB:Nx 33 #[.pointer (some ⟨b,0,none⟩)] .block b g K ts):Gd 54 #[.pointer (some ⟨b,0,none⟩)] .stat b g K ts:=by
 by_cases g0:hd (tk ts)=sIF
 ·exact stat_if g0 hB
 by_cases g1:hd (tk ts)=sWHILE
 ·exact stat_while g0 g1 hB
 by_cases g2:hd (tk ts)=sRET
 ·exact stat_ret g0 g1 g2 hB
 by_cases g3:hd (tk ts)=sPUT
 ·exact stat_put g0 g1 g2 g3 hB
 by_cases n0:hd (tk ts)=sINT
 ·exact stat_var0 g0 g1 g2 g3 n0 hB
 by_cases n1:hd (tk ts)=sLONG
 ·exact stat_var1 g0 g1 g2 g3 n0 n1 hB
 by_cases n2:hd (tk ts)=sFN
 ·exact stat_var2 g0 g1 g2 g3 n0 n1 n2 hB
 cases gn:nameB (hd (tk ts)) with
 | false=>exact stat_sim1 g0 g1 g2 g3 n0 n1 n2 gn hB
 | true=>
  cases gm:nameB (hd (tk ts).tail) with
  | false=>exact stat_sim0 g0 g1 g2 g3 n0 n1 n2 gn gm hB
  | true=>exact stat_var3 g0 g1 g2 g3 n0 n1 n2 gn gm hB
theorem stat_all:∀ (n:Nat) (ts:List Tok),ts.length=n→Mth 33 #[.pointer (some ⟨b,0,none⟩)] .block b g K ts∧Mth 54 #[.pointer (some ⟨b,0,none⟩)] .stat b g K ts:=by
 intro n
 induction n using Nat.strongRecOn with
 | ind n ih=>
  intro ts hn
  have hB:Nx 33 #[.pointer (some ⟨b,0,none⟩)] .block b g K ts:=Nx.mk block_bad fun r h=>(ih r.length (by omega) r rfl).1
  have hS:Nx 54 #[.pointer (some ⟨b,0,none⟩)] .stat b g K ts:=Nx.mk stat_bad fun r h=>(ih r.length (by omega) r rfl).2
  exact ⟨Mth.mk block_bad (block_gd hS),Mth.mk stat_bad (stat_gd hB)⟩
theorem block_any (ts:List Tok):Mth 33 #[.pointer (some ⟨b,0,none⟩)] .block b g K ts:=(stat_all _ ts rfl).1
end Go.Proofs.YthcfianhdkolhaaGreatDoor.Y.Z
