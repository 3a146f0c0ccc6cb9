/- PeQs PeQp -/
import Derived.Test.YthcfianhdkolhaaGreatDoorPeP
namespace Go.Proofs.YthcfianhdkolhaaGreatDoor.Y.Z
open Go.RowKit Go.Proofs.YthcfianhdkolhaaGreatDoor.T Go.Proofs.YthcfianhdkolhaaGreatDoor.S
open Go.Proofs.YthcfianhdkolhaaGreatDoor.X (Tok)
set_option linter.unusedVariables false
set_option linter.unusedSimpArgs false
set_option maxRecDepth 100000
set_option maxHeartbeats 8000000
variable {w w' : World} {b g : Nat} {K ts : List Tok} {β : Bool}
theorem decl_sta (g0:¬ hd (tk ts)=sSTRUCT) (g1:¬ hd (tk ts)=sEXTERN) (gy:hd (tk ts)=sSTATIC):Gd 14 #[.pointer (some ⟨b,0,none⟩)] .decl b g K ts:=by
 intro w h hF
 have HW:Hid (Wr w w b g K false ts []):=Wr.start h
 have HS:=su ts
 have HF:=ħ hF
 have HK:Hid (ts.length≤4000):=h.short
 have H_g0:=ħ g0
 clear g0
 have H_g1:=ħ g1
 clear g1
 have H_gy:=ħ gy
 clear gy
 clear h hF
 go_enter Tryz.func14,Tryz.ntmps14
 replace HW:=HW.out.az w.heap.size
 go_wp2_with fail
 generalize w.alloc _=w1 at *
 go_at_call 27
 refine (HW.out.eatN (s:=sSTRUCT) (fun e=>H_g0.out e.2)).mono ?_
 rintro e w2 ⟨rfl,hW,-⟩
 replace HW:=hW
 go_wp2_with fail
 go_at_call 27
 refine (HW.out.eatN (s:=sEXTERN) (fun e=>H_g1.out e.2)).mono ?_
 rintro e w3 ⟨rfl,hW,-⟩
 replace HW:=hW
 go_wp2_with fail
 go_at_call 27
 refine (HW.out.eatY HS.out (s:=sSTATIC) (by decide) ⟨rfl,H_gy.out⟩).mono ?_
 rintro e w4 ⟨rfl,HL,hS,hW,-⟩
 replace HW:=hW
 replace HS:=hS
 go_wp2_with fail
 go_at_call 30
 refine (typ_any ts.tail w4 false HW.out.ps (HF.out.suf HS.out)).mono ?_
 rintro e w5 hp
 obtain ⟨n_t,k_t,t_t,v_t,a_t,l_t,c_t,β5,r5,rfl,HR_t,HN_t,HZ_t,HS_t,HL,hS,hW,-⟩:=HW.out.okN HS.out hp
 replace HW:=hW
 replace HS:=hS
 clear hp
 replace HW:=HW.out.am w5.heap.size HN_t
 replace HN_t:=HW.out.nA HN_t
 go_wp2_with fail
 generalize w5.alloc _=w6 at *
 go_at_call 28
 refine (HW.out.nm HS.out HF.out).mono ?_
 rintro e w7 ⟨x_s,β7,r7,rfl,HQ_s,HL,hS,hW,hG⟩
 replace HN_t:=HW.out.kN HZ_t hG HN_t
 replace HW:=hW
 replace HS:=hS
 clear hG
 cases β7 with
 | true=>
  replace HW:=HW.out.al w7.heap.size #[.int .i64 0,.string (str x_s),.int .i64 1,.slice none 0 0]
  replace HN_t:=HW.out.nA HN_t
  obtain ⟨pp8,pa8,pc8,hx1,hx2,hx3⟩:=HW.out.ps.blk
  have hc8:=cells_at hx2
  clear hx1 hx2 hx3
  go_wp2_with fail
  generalize w7.alloc _=w9 at *
  clear hc8
  go_at_call 29
  refine (HW.out.mu HS.out (s:=sEQ) (by decide)).mono ?_
  rintro e w10 ⟨mv10,β10,r10,rfl,HQ7,HL,hS,hW,hG⟩
  replace HN_t:=HW.out.kN HZ_t hG HN_t
  replace HW:=hW
  replace HS:=hS
  clear hG
  obtain ⟨rfl,rfl⟩:=HQ7.out.bad
  go_wp2_with fail
  go_at_call 27
  refine (HW.out.eatN (s:=sMINUS) not_eat).mono ?_
  rintro e w11 ⟨rfl,hW,hG⟩
  replace HN_t:=HW.out.kN HZ_t hG HN_t
  replace HW:=hW
  clear hG
  go_wp2_with fail
  go_at_call 34
  refine (num_any (b:=b) (g:=g) (K:=K) w11 true HW.out.ps (HF.out.suf HS.out)).mono ?_
  rintro e w12 hp
  obtain ⟨n_k,k_k,t_k,v_k,a_k,l_k,c_k,β12,r12,rfl,HR_k,HN_k,HZ_k,HS_k,HL,hS,hW,hG⟩:=HW.out.okN HS.out hp
  replace HN_t:=HW.out.kN HZ_t hG HN_t
  replace HW:=hW
  replace HS:=hS
  clear hG hp
  obtain ⟨rfl,rfl⟩:=HR_k.out.bad
  replace HW:=HW.out.am w12.heap.size HN_k
  replace HN_t:=HW.out.nA HN_t
  replace HN_k:=HW.out.nA HN_k
  have hc13:=HW.out.c0
  have hc14:=HW.out.c2
  have hc15:=HW.out.c1
  have hf16:=HW.out.f1
  replace HW:=ħ (HW.out.p10 (.int .i64 6))
  replace HN_t:=HW.out.mp10.N HN_t
  replace HN_k:=HW.out.mp10.N HN_k
  have hc17:=HW.out.c0
  have hc18:=HW.out.c2
  replace HW:=HW.out.al (w12.heap.size+1) #[.int .i64 k_t,.string t_t,.int .i64 v_t,.slice a_t l_t c_t,.int .i64 k_k,.string t_k,.int .i64 v_k,.slice a_k l_k c_k]
  replace HN_t:=HW.out.nA HN_t
  replace HN_k:=HW.out.nA HN_k
  have HM_a:=ħ (Wr.t0 HW.out (HN_t.out.less HZ_t.out) (HN_k.out.less HZ_k.out))
  have HZ_a:=zz w
  clear HN_t HZ_t HN_k HZ_k
  replace HW:=ħ HW.out.d0
  have hc19:=HW.out.c1
  have hf20:=HW.out.f1
  replace HW:=ħ (HW.out.p13 (.slice (some ⟨(w12.heap.size+1),0,none⟩) 2 2))
  replace HM_a:=HW.out.mp13.R HM_a
  go_wp2_with fail
  generalize (((w12.alloc _).setCell _ _).alloc _).setCell _ _=w21 at *
  clear hc13 hc14 hc15 hf16 hc17 hc18 hc19 hf20
  replace HM_a:=(Mv.d0 _).R HM_a
  replace HW:=ħ HW.out.d0
  replace HM_a:=(Mv.d1 _).R HM_a
  replace HW:=ħ HW.out.d1
  go_at_call 29
  refine (HW.out.mu HS.out (s:=sSEMI) (by decide)).mono ?_
  rintro e w22 ⟨mv22,β22,r22,rfl,HQ9,HL,hS,hW,hG⟩
  replace HM_a:=HW.out.kR HZ_a hG HM_a
  replace HW:=hW
  replace HS:=hS
  clear hG
  obtain ⟨rfl,rfl⟩:=HQ9.out.bad
  have HN_z:=ħ (HM_a.out.node 6 x_s 1)
  have HZ_z:=HZ_a
  clear HM_a HZ_a
  have hc23:=HW.out.c0
  have hc24:=HW.out.c1
  have hf25:=HW.out.f1
  replace HW:=ħ (HW.out.s1 (.int .i64 6) (.string (str x_s)) (.int .i64 1) ((.slice (some ⟨(w12.heap.size+1),0,none⟩) 2 2)))
  replace HN_z:=HW.out.ms1.N HN_z
  go_wp2_with fail
  exact HW.out.e HW.out.b1 HS HZ_z HN_z (md_sta_no H_g0.out H_g1.out H_gy.out HR_t.out HQ_s.out rfl)
 | false=>
  replace HW:=HW.out.al w7.heap.size #[.int .i64 0,.string (str x_s),.int .i64 1,.slice none 0 0]
  replace HN_t:=HW.out.nA HN_t
  obtain ⟨pp29,pa29,pc29,hx1,hx2,hx3⟩:=HW.out.ps.blk
  have hc29:=cells_at hx2
  clear hx1 hx2 hx3
  go_wp2_with fail
  generalize w7.alloc _=w30 at *
  clear hc29
  go_at_call 31
  refine (HW.out.tx 0 (by omega)).mono ?_
  rintro e w31 ⟨rfl,hW,hG⟩
  replace HN_t:=(Mv.quiet hG).N HN_t
  replace HW:=hW
  clear hG
  rw [List.drop_zero]
  by_cases hq:hd (tk r7)=sLP
  ·have HQp:=ħ hq
   have hq1:((str (hd (tk r7))).toList == [40])=true:=tx_yes hq
   clear hq
   go_wp2_with fail
   clear hq1
   replace HN_t:Hid (NdV w31 (fun j=>Av w4.heap.size [(w7.heap.size,#[.int .i64 0,.string (str x_s),.int .i64 1,.slice none 0 0],24),(w5.heap.size,#[.int .i64 k_t,.string t_t,.int .i64 v_t,.slice a_t l_t c_t],24),(w.heap.size,#[.int .i64 0,.string ⟨#[]⟩,.int .i64 0,.slice none 0 0],24)] j∧j<w31.heap.size) n_t (.agg #[.int .i64 k_t,.string t_t,.int .i64 v_t,.slice a_t l_t c_t])):=by exact HN_t.out.move (fun j hj hl=>⟨rfl,hj,hl⟩)
   go_at_call 32
   refine (rows1_any r7 w31 false HW.out.ps (HF.out.suf HS.out)).mono ?_
   rintro e w32 hp
   obtain ⟨l_l,v_l,d_l,β32,r32,rfl,HR_l,HG_l,HI_l,HM_l,HZ_l,HS_l,HL,hS,hW,hG⟩:=HW.out.okR HS.out hp
   replace HN_t:=ħ (NdV.bothz HN_t.out (Mv.call (Nat.lt_of_lt_of_le HW.out.bl HZ_t.out) hG _))
   replace HW:=hW
   replace HS:=hS
   clear hG hp
   have hc33:=HW.out.c1
   have hc34:=HW.out.c0
   have hf35:=HW.out.f0
   replace HW:=ħ (HW.out.p00 (.int .i64 4))
   replace HN_t:=ħ (NdV.bothz HN_t.out (HW.out.mp00))
   replace HM_l:=HW.out.mp00.R HM_l
   have hc36:=HW.out.c1
   replace HW:=HW.out.am w32.heap.size HN_t
   replace HN_t:=ħ (NdV.bothz HN_t.out (HW.out.ma (by simp)))
   replace HM_l:=HW.out.rA HM_l
   have hc37:=HW.out.c1
   have hc38:=HW.out.c2
   go_wp2_with (at_builtin;refine app_b0 _ _ rfl rfl HW.out HM_l.out HN_t.out HZ_l.out HZ_t.out (by have:=HG_l.out;omega) ⟨rfl,rfl,rfl,rfl⟩ ?e1 ?e2 ?_;(case e1=>rfl);(case e2=>rfl);skip)
   intro g39 c39 w39 hW hM hG
   clear HM_l HN_t HZ_l HZ_t
   replace HW:=ħ hW
   have HM_k:=ħ hM
   have HGk:Hid ((l_l++[n_t]).length≤4001):=by have:=HG_l.out;show _≤_;rw [List.length_append,List.length_singleton];omega
   clear hM
   generalize hkk:l_l++[n_t]=kk at *
   have HKK:=ħ hkk
   clear hkk
   have HZ_k:=zz w
   clear hW hG
   have hc40:=HW.out.c0
   have hf41:=HW.out.f0
   replace HW:=ħ (HW.out.p03 ((.slice (some ⟨g39,0,none⟩) (l_l.length+1) c39)))
   replace HM_k:=HW.out.mp03.R HM_k
   cases d_l with
   | false=>
    have hc42:=HW.out.c0
    have hf43:=HW.out.f0
    replace HW:=ħ (HW.out.p00 (.int .i64 7))
    replace HM_k:=HW.out.mp00.R HM_k
    go_wp2_with fail
    generalize (w39.setCell _ _).setCell _ _=w44 at *
    clear hc40 hf41 hc42 hf43
    replace HM_k:=(Mv.d1 _).R HM_k
    replace HW:=ħ HW.out.d1
    go_at_call 33
    refine (block_any r32 w44 β32 HW.out.ps (HF.out.suf HS.out)).mono ?_
    rintro e w45 hp
    obtain ⟨n_b,k_b,t_b,v_b,a_b,l_b,c_b,β45,r45,rfl,HR_b,HN_b,HZ_b,HS_b,HL,hS,hW,hG⟩:=HW.out.okN HS.out hp
    have HO_k:=ħ HM_k.out.lt
    replace HM_k:=HW.out.kR HZ_k hG HM_k
    replace HW:=hW
    replace HS:=hS
    clear hG hp
    replace HW:=HW.out.am w45.heap.size HN_b
    replace HN_b:=HW.out.nA HN_b
    replace HM_k:=HW.out.rA HM_k
    have hc46:=HW.out.c0
    have hc47:=HW.out.c1
    have hc48:=HW.out.c2
    replace HW:=HW.out.am (w45.heap.size+1) HN_b
    replace HN_b:=HW.out.nA HN_b
    replace HM_k:=HW.out.rA HM_k
    have hc49:=HW.out.c0
    have hc50:=HW.out.c1
    have hc51:=HW.out.c2
    have hc52:=HW.out.c3
    go_wp2_with (at_builtin;refine app_l0 _ _ rfl rfl HW.out HM_k.out HN_b.out HZ_k.out HZ_b.out HO_k.out (by have:=HGk.out;omega) ⟨rfl,rfl,rfl,rfl⟩ ?e1 ?e2 ?_;(case e1=>rfl);(case e2=>rfl);skip)
    intro g53 c53 w53 hW hM hG
    clear HM_k HN_b HZ_k HZ_b HO_k
    replace HW:=ħ hW
    have HM_m:=ħ hM
    have HZ_m:=zz w
    clear hW hM hG
    have hc54:=HW.out.c1
    have hf55:=HW.out.f1
    replace HW:=ħ (HW.out.p13 ((.slice (some ⟨g53,0,none⟩) (kk.length+1) c53)))
    replace HM_m:=HW.out.mp13.R HM_m
    have HN_z:=ħ (HM_m.out.node 7 x_s 1)
    have HZ_z:=HZ_m
    clear HM_m HZ_m
    have hc56:=HW.out.c0
    have hc57:=HW.out.c1
    have hc58:=HW.out.c2
    have hf59:=HW.out.f2
    replace HW:=ħ (HW.out.s2 (.int .i64 7) (.string (str x_s)) (.int .i64 1) ((.slice (some ⟨g53,0,none⟩) (kk.length+1) c53)))
    replace HN_z:=HW.out.ms2.N HN_z
    go_wp2_with fail
    exact HW.out.e HW.out.b2 HS HZ_z HN_z (by rw [← HKK.out];exact md_sta_fun H_g0.out H_g1.out H_gy.out HR_t.out HQ_s.out HQp.out HR_l.out HR_b.out)
   | true=>
    have hc63:=HW.out.c0
    have hf64:=HW.out.f0
    replace HW:=ħ (HW.out.p02 (.int .i64 3))
    replace HM_k:=HW.out.mp02.R HM_k
    have hc65:=HW.out.c0
    have hf66:=HW.out.f0
    replace HW:=ħ (HW.out.p00 (.int .i64 7))
    replace HM_k:=HW.out.mp00.R HM_k
    go_wp2_with fail
    generalize ((w39.setCell _ _).setCell _ _).setCell _ _=w67 at *
    clear hc40 hf41 hc63 hf64 hc65 hf66
    replace HM_k:=(Mv.d1 _).R HM_k
    replace HW:=ħ HW.out.d1
    go_at_call 33
    refine (block_any r32 w67 β32 HW.out.ps (HF.out.suf HS.out)).mono ?_
    rintro e w68 hp
    obtain ⟨n_b,k_b,t_b,v_b,a_b,l_b,c_b,β68,r68,rfl,HR_b,HN_b,HZ_b,HS_b,HL,hS,hW,hG⟩:=HW.out.okN HS.out hp
    have HO_k:=ħ HM_k.out.lt
    replace HM_k:=HW.out.kR HZ_k hG HM_k
    replace HW:=hW
    replace HS:=hS
    clear hG hp
    replace HW:=HW.out.am w68.heap.size HN_b
    replace HN_b:=HW.out.nA HN_b
    replace HM_k:=HW.out.rA HM_k
    have hc69:=HW.out.c0
    have hc70:=HW.out.c1
    have hc71:=HW.out.c2
    replace HW:=HW.out.am (w68.heap.size+1) HN_b
    replace HN_b:=HW.out.nA HN_b
    replace HM_k:=HW.out.rA HM_k
    have hc72:=HW.out.c0
    have hc73:=HW.out.c1
    have hc74:=HW.out.c2
    have hc75:=HW.out.c3
    go_wp2_with (at_builtin;refine app_l0 _ _ rfl rfl HW.out HM_k.out HN_b.out HZ_k.out HZ_b.out HO_k.out (by have:=HGk.out;omega) ⟨rfl,rfl,rfl,rfl⟩ ?e1 ?e2 ?_;(case e1=>rfl);(case e2=>rfl);skip)
    intro g76 c76 w76 hW hM hG
    clear HM_k HN_b HZ_k HZ_b HO_k
    replace HW:=ħ hW
    have HM_m:=ħ hM
    have HZ_m:=zz w
    clear hW hM hG
    have hc77:=HW.out.c1
    have hf78:=HW.out.f1
    replace HW:=ħ (HW.out.p13 ((.slice (some ⟨g76,0,none⟩) (kk.length+1) c76)))
    replace HM_m:=HW.out.mp13.R HM_m
    have HN_z:=ħ (HM_m.out.node 7 x_s 3)
    have HZ_z:=HZ_m
    clear HM_m HZ_m
    have hc79:=HW.out.c0
    have hc80:=HW.out.c1
    have hc81:=HW.out.c2
    have hf82:=HW.out.f2
    replace HW:=ħ (HW.out.s2 (.int .i64 7) (.string (str x_s)) (.int .i64 3) ((.slice (some ⟨g76,0,none⟩) (kk.length+1) c76)))
    replace HN_z:=HW.out.ms2.N HN_z
    go_wp2_with fail
    exact HW.out.e HW.out.b2 HS HZ_z HN_z (by rw [← HKK.out];exact md_sta_fun H_g0.out H_g1.out H_gy.out HR_t.out HQ_s.out HQp.out HR_l.out HR_b.out)
  have HQp:=ħ hq
  have hq1:((str (hd (tk r7))).toList == [40])=false:=tx_no hq
  clear hq
  go_wp2_with fail
  clear hq1
  go_at_call 29
  refine (HW.out.mu HS.out (s:=sEQ) (by decide)).mono ?_
  rintro e w86 ⟨mv86,β86,r86,rfl,HQ7,HL,hS,hW,hG⟩
  replace HN_t:=HW.out.kN HZ_t hG HN_t
  replace HW:=hW
  replace HS:=hS
  clear hG
  go_wp2_with fail
  by_cases hq:Eat β86 r86 sMINUS
  ·have HEm:=ħ hq
   clear hq
   go_at_call 27
   refine (HW.out.eatY HS.out (s:=sMINUS) (by decide) HEm.out).mono ?_
   rintro e w87 ⟨rfl,HL,hS,hW,hG⟩
   replace HN_t:=HW.out.kN HZ_t hG HN_t
   replace HW:=hW
   replace HS:=hS
   clear hG
   have HS0:=HS
   go_wp2_with fail
   go_at_call 34
   refine (num_any (b:=b) (g:=g) (K:=K) w87 false HW.out.ps (HF.out.suf HS.out)).mono ?_
   rintro e w88 hp
   obtain ⟨n_k,k_k,t_k,v_k,a_k,l_k,c_k,β88,r88,rfl,HR_k,HN_k,HZ_k,HS_k,HL,hS,hW,hG⟩:=HW.out.okN HS.out hp
   replace HN_t:=HW.out.kN HZ_t hG HN_t
   replace HW:=hW
   replace HS:=hS
   clear hG hp
   obtain ⟨kt,kl,rfl,hkn⟩:=nd_form HN_k.out
   have HNeg:Hid (β88=false→IntKind.i64.wrap (-v_k)=-v_k):=num_neg (n:=.mk 0 [] 0 []) (HF.out.suf HS0.out) HR_k.out
   replace HN_k:=ħ (hkn (IntKind.i64.wrap (-v_k)))
   clear hkn
   generalize hkw:IntKind.i64.wrap (-v_k)=kw at *
   replace HW:=HW.out.al w88.heap.size #[.int .i64 k_k,.string t_k,.int .i64 kw,.slice a_k l_k c_k]
   replace HN_t:=HW.out.nA HN_t
   replace HN_k:=HW.out.nA HN_k
   have hc89:=HW.out.c0
   have hc90:=HW.out.c2
   have hc91:=HW.out.c1
   have hf92:=HW.out.f1
   replace HW:=ħ (HW.out.p10 (.int .i64 6))
   replace HN_t:=HW.out.mp10.N HN_t
   replace HN_k:=HW.out.mp10.N HN_k
   have hc93:=HW.out.c0
   have hc94:=HW.out.c2
   replace HW:=HW.out.al (w88.heap.size+1) #[.int .i64 k_t,.string t_t,.int .i64 v_t,.slice a_t l_t c_t,.int .i64 k_k,.string t_k,.int .i64 kw,.slice a_k l_k c_k]
   replace HN_t:=HW.out.nA HN_t
   replace HN_k:=HW.out.nA HN_k
   have HM_a:=ħ (Wr.t0 HW.out (HN_t.out.less HZ_t.out) (HN_k.out.less HZ_k.out))
   have HZ_a:=zz w
   clear HN_t HZ_t HN_k HZ_k
   replace HW:=ħ HW.out.d0
   have hc95:=HW.out.c1
   have hf96:=HW.out.f1
   replace HW:=ħ (HW.out.p13 (.slice (some ⟨(w88.heap.size+1),0,none⟩) 2 2))
   replace HM_a:=HW.out.mp13.R HM_a
   go_wp2_with fail
   generalize (((w88.alloc _).setCell _ _).alloc _).setCell _ _=w97 at *
   clear hkw hc89 hc90 hc91 hf92 hc93 hc94 hc95 hf96
   replace HM_a:=(Mv.d0 _).R HM_a
   replace HW:=ħ HW.out.d0
   replace HM_a:=(Mv.d1 _).R HM_a
   replace HW:=ħ HW.out.d1
   go_at_call 29
   refine (HW.out.mu HS.out (s:=sSEMI) (by decide)).mono ?_
   rintro e w98 ⟨mv98,β98,r98,rfl,HQ9,HL,hS,hW,hG⟩
   replace HM_a:=HW.out.kR HZ_a hG HM_a
   replace HW:=hW
   replace HS:=hS
   clear hG
   have HN_z:=ħ (HM_a.out.node 6 x_s 1)
   have HZ_z:=HZ_a
   clear HM_a HZ_a
   have hc99:=HW.out.c0
   have hc100:=HW.out.c1
   have hf101:=HW.out.f1
   replace HW:=ħ (HW.out.s1 (.int .i64 6) (.string (str x_s)) (.int .i64 1) ((.slice (some ⟨(w88.heap.size+1),0,none⟩) 2 2)))
   replace HN_z:=HW.out.ms1.N HN_z
   go_wp2_with fail
   exact HW.out.e HW.out.b1 HS HZ_z HN_z (md_sta_neg H_g0.out H_g1.out H_gy.out HR_t.out HQ_s.out HQp.out HQ7.out HEm.out HR_k.out HNeg.out HQ9.out)
  have HEm:=ħ hq
  clear hq
  go_at_call 27
  refine (HW.out.eatN (s:=sMINUS) HEm.out).mono ?_
  rintro e w105 ⟨rfl,hW,hG⟩
  replace HN_t:=HW.out.kN HZ_t hG HN_t
  replace HW:=hW
  clear hG
  go_wp2_with fail
  go_at_call 34
  refine (num_any (b:=b) (g:=g) (K:=K) w105 β86 HW.out.ps (HF.out.suf HS.out)).mono ?_
  rintro e w106 hp
  obtain ⟨n_k,k_k,t_k,v_k,a_k,l_k,c_k,β106,r106,rfl,HR_k,HN_k,HZ_k,HS_k,HL,hS,hW,hG⟩:=HW.out.okN HS.out hp
  replace HN_t:=HW.out.kN HZ_t hG HN_t
  replace HW:=hW
  replace HS:=hS
  clear hG hp
  obtain ⟨kt,kl,rfl,hkn⟩:=nd_form HN_k.out
  clear hkn
  replace HW:=HW.out.am w106.heap.size HN_k
  replace HN_t:=HW.out.nA HN_t
  replace HN_k:=HW.out.nA HN_k
  have hc107:=HW.out.c0
  have hc108:=HW.out.c2
  have hc109:=HW.out.c1
  have hf110:=HW.out.f1
  replace HW:=ħ (HW.out.p10 (.int .i64 6))
  replace HN_t:=HW.out.mp10.N HN_t
  replace HN_k:=HW.out.mp10.N HN_k
  have hc111:=HW.out.c0
  have hc112:=HW.out.c2
  replace HW:=HW.out.al (w106.heap.size+1) #[.int .i64 k_t,.string t_t,.int .i64 v_t,.slice a_t l_t c_t,.int .i64 k_k,.string t_k,.int .i64 v_k,.slice a_k l_k c_k]
  replace HN_t:=HW.out.nA HN_t
  replace HN_k:=HW.out.nA HN_k
  have HM_a:=ħ (Wr.t0 HW.out (HN_t.out.less HZ_t.out) (HN_k.out.less HZ_k.out))
  have HZ_a:=zz w
  clear HN_t HZ_t HN_k HZ_k
  replace HW:=ħ HW.out.d0
  have hc113:=HW.out.c1
  have hf114:=HW.out.f1
  replace HW:=ħ (HW.out.p13 (.slice (some ⟨(w106.heap.size+1),0,none⟩) 2 2))
  replace HM_a:=HW.out.mp13.R HM_a
  go_wp2_with fail
  generalize (((w106.alloc _).setCell _ _).alloc _).setCell _ _=w115 at *
  clear hc107 hc108 hc109 hf110 hc111 hc112 hc113 hf114
  replace HM_a:=(Mv.d0 _).R HM_a
  replace HW:=ħ HW.out.d0
  replace HM_a:=(Mv.d1 _).R HM_a
  replace HW:=ħ HW.out.d1
  go_at_call 29
  refine (HW.out.mu HS.out (s:=sSEMI) (by decide)).mono ?_
  rintro e w116 ⟨mv116,β116,r116,rfl,HQ9,HL,hS,hW,hG⟩
  replace HM_a:=HW.out.kR HZ_a hG HM_a
  replace HW:=hW
  replace HS:=hS
  clear hG
  have HN_z:=ħ (HM_a.out.node 6 x_s 1)
  have HZ_z:=HZ_a
  clear HM_a HZ_a
  have hc117:=HW.out.c0
  have hc118:=HW.out.c1
  have hf119:=HW.out.f1
  replace HW:=ħ (HW.out.s1 (.int .i64 6) (.string (str x_s)) (.int .i64 1) ((.slice (some ⟨(w106.heap.size+1),0,none⟩) 2 2)))
  replace HN_z:=HW.out.ms1.N HN_z
  go_wp2_with fail
  exact HW.out.e HW.out.b1 HS HZ_z HN_z (md_sta_num H_g0.out H_g1.out H_gy.out HR_t.out HQ_s.out HQp.out HQ7.out HEm.out HR_k.out HQ9.out)
theorem decl_pla (g0:¬ hd (tk ts)=sSTRUCT) (g1:¬ hd (tk ts)=sEXTERN) (g2:¬ hd (tk ts)=sSTATIC):Gd 14 #[.pointer (some ⟨b,0,none⟩)] .decl b g K ts:=by
 intro w h hF
 have HW:Hid (Wr w w b g K false ts []):=Wr.start h
 have HS:=su ts
 have HF:=ħ hF
 have HK:Hid (ts.length≤4000):=h.short
 have H_g0:=ħ g0
 clear g0
 have H_g1:=ħ g1
 clear g1
 have H_g2:=ħ g2
 clear g2
 clear h hF
 go_enter Tryz.func14,Tryz.ntmps14
 replace HW:=HW.out.az w.heap.size
 go_wp2_with fail
 generalize w.alloc _=w1 at *
 go_at_call 27
 refine (HW.out.eatN (s:=sSTRUCT) (fun e=>H_g0.out e.2)).mono ?_
 rintro e w2 ⟨rfl,hW,-⟩
 replace HW:=hW
 go_wp2_with fail
 go_at_call 27
 refine (HW.out.eatN (s:=sEXTERN) (fun e=>H_g1.out e.2)).mono ?_
 rintro e w3 ⟨rfl,hW,-⟩
 replace HW:=hW
 go_wp2_with fail
 go_at_call 27
 refine (HW.out.eatN (s:=sSTATIC) (fun e=>H_g2.out e.2)).mono ?_
 rintro e w4 ⟨rfl,hW,-⟩
 replace HW:=hW
 go_wp2_with fail
 go_at_call 30
 refine (typ_any ts w4 false HW.out.ps (HF.out.suf HS.out)).mono ?_
 rintro e w5 hp
 obtain ⟨n_t,k_t,t_t,v_t,a_t,l_t,c_t,β5,r5,rfl,HR_t,HN_t,HZ_t,HS_t,HL,hS,hW,-⟩:=HW.out.okN HS.out hp
 replace HW:=hW
 replace HS:=hS
 clear hp
 replace HW:=HW.out.am w5.heap.size HN_t
 replace HN_t:=HW.out.nA HN_t
 go_wp2_with fail
 generalize w5.alloc _=w6 at *
 go_at_call 28
 refine (HW.out.nm HS.out HF.out).mono ?_
 rintro e w7 ⟨x_s,β7,r7,rfl,HQ_s,HL,hS,hW,hG⟩
 replace HN_t:=HW.out.kN HZ_t hG HN_t
 replace HW:=hW
 replace HS:=hS
 clear hG
 cases β7 with
 | true=>
  replace HW:=HW.out.al w7.heap.size #[.int .i64 0,.string (str x_s),.int .i64 0,.slice none 0 0]
  replace HN_t:=HW.out.nA HN_t
  obtain ⟨pp8,pa8,pc8,hx1,hx2,hx3⟩:=HW.out.ps.blk
  have hc8:=cells_at hx2
  clear hx1 hx2 hx3
  go_wp2_with fail
  generalize w7.alloc _=w9 at *
  clear hc8
  go_at_call 29
  refine (HW.out.mu HS.out (s:=sEQ) (by decide)).mono ?_
  rintro e w10 ⟨mv10,β10,r10,rfl,HQ7,HL,hS,hW,hG⟩
  replace HN_t:=HW.out.kN HZ_t hG HN_t
  replace HW:=hW
  replace HS:=hS
  clear hG
  obtain ⟨rfl,rfl⟩:=HQ7.out.bad
  go_wp2_with fail
  go_at_call 27
  refine (HW.out.eatN (s:=sMINUS) not_eat).mono ?_
  rintro e w11 ⟨rfl,hW,hG⟩
  replace HN_t:=HW.out.kN HZ_t hG HN_t
  replace HW:=hW
  clear hG
  go_wp2_with fail
  go_at_call 34
  refine (num_any (b:=b) (g:=g) (K:=K) w11 true HW.out.ps (HF.out.suf HS.out)).mono ?_
  rintro e w12 hp
  obtain ⟨n_k,k_k,t_k,v_k,a_k,l_k,c_k,β12,r12,rfl,HR_k,HN_k,HZ_k,HS_k,HL,hS,hW,hG⟩:=HW.out.okN HS.out hp
  replace HN_t:=HW.out.kN HZ_t hG HN_t
  replace HW:=hW
  replace HS:=hS
  clear hG hp
  obtain ⟨rfl,rfl⟩:=HR_k.out.bad
  replace HW:=HW.out.am w12.heap.size HN_k
  replace HN_t:=HW.out.nA HN_t
  replace HN_k:=HW.out.nA HN_k
  have hc13:=HW.out.c0
  have hc14:=HW.out.c2
  have hc15:=HW.out.c1
  have hf16:=HW.out.f1
  replace HW:=ħ (HW.out.p10 (.int .i64 6))
  replace HN_t:=HW.out.mp10.N HN_t
  replace HN_k:=HW.out.mp10.N HN_k
  have hc17:=HW.out.c0
  have hc18:=HW.out.c2
  replace HW:=HW.out.al (w12.heap.size+1) #[.int .i64 k_t,.string t_t,.int .i64 v_t,.slice a_t l_t c_t,.int .i64 k_k,.string t_k,.int .i64 v_k,.slice a_k l_k c_k]
  replace HN_t:=HW.out.nA HN_t
  replace HN_k:=HW.out.nA HN_k
  have HM_a:=ħ (Wr.t0 HW.out (HN_t.out.less HZ_t.out) (HN_k.out.less HZ_k.out))
  have HZ_a:=zz w
  clear HN_t HZ_t HN_k HZ_k
  replace HW:=ħ HW.out.d0
  have hc19:=HW.out.c1
  have hf20:=HW.out.f1
  replace HW:=ħ (HW.out.p13 (.slice (some ⟨(w12.heap.size+1),0,none⟩) 2 2))
  replace HM_a:=HW.out.mp13.R HM_a
  go_wp2_with fail
  generalize (((w12.alloc _).setCell _ _).alloc _).setCell _ _=w21 at *
  clear hc13 hc14 hc15 hf16 hc17 hc18 hc19 hf20
  replace HM_a:=(Mv.d0 _).R HM_a
  replace HW:=ħ HW.out.d0
  replace HM_a:=(Mv.d1 _).R HM_a
  replace HW:=ħ HW.out.d1
  go_at_call 29
  refine (HW.out.mu HS.out (s:=sSEMI) (by decide)).mono ?_
  rintro e w22 ⟨mv22,β22,r22,rfl,HQ9,HL,hS,hW,hG⟩
  replace HM_a:=HW.out.kR HZ_a hG HM_a
  replace HW:=hW
  replace HS:=hS
  clear hG
  obtain ⟨rfl,rfl⟩:=HQ9.out.bad
  have HN_z:=ħ (HM_a.out.node 6 x_s 0)
  have HZ_z:=HZ_a
  clear HM_a HZ_a
  have hc23:=HW.out.c0
  have hc24:=HW.out.c1
  have hf25:=HW.out.f1
  replace HW:=ħ (HW.out.s1 (.int .i64 6) (.string (str x_s)) (.int .i64 0) ((.slice (some ⟨(w12.heap.size+1),0,none⟩) 2 2)))
  replace HN_z:=HW.out.ms1.N HN_z
  go_wp2_with fail
  exact HW.out.e HW.out.b1 HS HZ_z HN_z (md_pla_no H_g0.out H_g1.out H_g2.out HR_t.out HQ_s.out rfl)
 | false=>
  replace HW:=HW.out.al w7.heap.size #[.int .i64 0,.string (str x_s),.int .i64 0,.slice none 0 0]
  replace HN_t:=HW.out.nA HN_t
  obtain ⟨pp29,pa29,pc29,hx1,hx2,hx3⟩:=HW.out.ps.blk
  have hc29:=cells_at hx2
  clear hx1 hx2 hx3
  go_wp2_with fail
  generalize w7.alloc _=w30 at *
  clear hc29
  go_at_call 31
  refine (HW.out.tx 0 (by omega)).mono ?_
  rintro e w31 ⟨rfl,hW,hG⟩
  replace HN_t:=(Mv.quiet hG).N HN_t
  replace HW:=hW
  clear hG
  rw [List.drop_zero]
  by_cases hq:hd (tk r7)=sLP
  ·have HQp:=ħ hq
   have hq1:((str (hd (tk r7))).toList == [40])=true:=tx_yes hq
   clear hq
   go_wp2_with fail
   clear hq1
   replace HN_t:Hid (NdV w31 (fun j=>Av w4.heap.size [(w7.heap.size,#[.int .i64 0,.string (str x_s),.int .i64 0,.slice none 0 0],24),(w5.heap.size,#[.int .i64 k_t,.string t_t,.int .i64 v_t,.slice a_t l_t c_t],24),(w.heap.size,#[.int .i64 0,.string ⟨#[]⟩,.int .i64 0,.slice none 0 0],24)] j∧j<w31.heap.size) n_t (.agg #[.int .i64 k_t,.string t_t,.int .i64 v_t,.slice a_t l_t c_t])):=by exact HN_t.out.move (fun j hj hl=>⟨rfl,hj,hl⟩)
   go_at_call 32
   refine (rows1_any r7 w31 false HW.out.ps (HF.out.suf HS.out)).mono ?_
   rintro e w32 hp
   obtain ⟨l_l,v_l,d_l,β32,r32,rfl,HR_l,HG_l,HI_l,HM_l,HZ_l,HS_l,HL,hS,hW,hG⟩:=HW.out.okR HS.out hp
   replace HN_t:=ħ (NdV.bothz HN_t.out (Mv.call (Nat.lt_of_lt_of_le HW.out.bl HZ_t.out) hG _))
   replace HW:=hW
   replace HS:=hS
   clear hG hp
   have hc33:=HW.out.c1
   have hc34:=HW.out.c0
   have hf35:=HW.out.f0
   replace HW:=ħ (HW.out.p00 (.int .i64 4))
   replace HN_t:=ħ (NdV.bothz HN_t.out (HW.out.mp00))
   replace HM_l:=HW.out.mp00.R HM_l
   have hc36:=HW.out.c1
   replace HW:=HW.out.am w32.heap.size HN_t
   replace HN_t:=ħ (NdV.bothz HN_t.out (HW.out.ma (by simp)))
   replace HM_l:=HW.out.rA HM_l
   have hc37:=HW.out.c1
   have hc38:=HW.out.c2
   go_wp2_with (at_builtin;refine app_b0 _ _ rfl rfl HW.out HM_l.out HN_t.out HZ_l.out HZ_t.out (by have:=HG_l.out;omega) ⟨rfl,rfl,rfl,rfl⟩ ?e1 ?e2 ?_;(case e1=>rfl);(case e2=>rfl);skip)
   intro g39 c39 w39 hW hM hG
   clear HM_l HN_t HZ_l HZ_t
   replace HW:=ħ hW
   have HM_k:=ħ hM
   have HGk:Hid ((l_l++[n_t]).length≤4001):=by have:=HG_l.out;show _≤_;rw [List.length_append,List.length_singleton];omega
   clear hM
   generalize hkk:l_l++[n_t]=kk at *
   have HKK:=ħ hkk
   clear hkk
   have HZ_k:=zz w
   clear hW hG
   have hc40:=HW.out.c0
   have hf41:=HW.out.f0
   replace HW:=ħ (HW.out.p03 ((.slice (some ⟨g39,0,none⟩) (l_l.length+1) c39)))
   replace HM_k:=HW.out.mp03.R HM_k
   cases d_l with
   | false=>
    have hc42:=HW.out.c0
    have hf43:=HW.out.f0
    replace HW:=ħ (HW.out.p00 (.int .i64 7))
    replace HM_k:=HW.out.mp00.R HM_k
    go_wp2_with fail
    generalize (w39.setCell _ _).setCell _ _=w44 at *
    clear hc40 hf41 hc42 hf43
    replace HM_k:=(Mv.d1 _).R HM_k
    replace HW:=ħ HW.out.d1
    go_at_call 33
    refine (block_any r32 w44 β32 HW.out.ps (HF.out.suf HS.out)).mono ?_
    rintro e w45 hp
    obtain ⟨n_b,k_b,t_b,v_b,a_b,l_b,c_b,β45,r45,rfl,HR_b,HN_b,HZ_b,HS_b,HL,hS,hW,hG⟩:=HW.out.okN HS.out hp
    have HO_k:=ħ HM_k.out.lt
    replace HM_k:=HW.out.kR HZ_k hG HM_k
    replace HW:=hW
    replace HS:=hS
    clear hG hp
    replace HW:=HW.out.am w45.heap.size HN_b
    replace HN_b:=HW.out.nA HN_b
    replace HM_k:=HW.out.rA HM_k
    have hc46:=HW.out.c0
    have hc47:=HW.out.c1
    have hc48:=HW.out.c2
    replace HW:=HW.out.am (w45.heap.size+1) HN_b
    replace HN_b:=HW.out.nA HN_b
    replace HM_k:=HW.out.rA HM_k
    have hc49:=HW.out.c0
    have hc50:=HW.out.c1
    have hc51:=HW.out.c2
    have hc52:=HW.out.c3
    go_wp2_with (at_builtin;refine app_l0 _ _ rfl rfl HW.out HM_k.out HN_b.out HZ_k.out HZ_b.out HO_k.out (by have:=HGk.out;omega) ⟨rfl,rfl,rfl,rfl⟩ ?e1 ?e2 ?_;(case e1=>rfl);(case e2=>rfl);skip)
    intro g53 c53 w53 hW hM hG
    clear HM_k HN_b HZ_k HZ_b HO_k
    replace HW:=ħ hW
    have HM_m:=ħ hM
    have HZ_m:=zz w
    clear hW hM hG
    have hc54:=HW.out.c1
    have hf55:=HW.out.f1
    replace HW:=ħ (HW.out.p13 ((.slice (some ⟨g53,0,none⟩) (kk.length+1) c53)))
    replace HM_m:=HW.out.mp13.R HM_m
    have HN_z:=ħ (HM_m.out.node 7 x_s 0)
    have HZ_z:=HZ_m
    clear HM_m HZ_m
    have hc56:=HW.out.c0
    have hc57:=HW.out.c1
    have hc58:=HW.out.c2
    have hf59:=HW.out.f2
    replace HW:=ħ (HW.out.s2 (.int .i64 7) (.string (str x_s)) (.int .i64 0) ((.slice (some ⟨g53,0,none⟩) (kk.length+1) c53)))
    replace HN_z:=HW.out.ms2.N HN_z
    go_wp2_with fail
    exact HW.out.e HW.out.b2 HS HZ_z HN_z (by rw [← HKK.out];exact md_pla_fun H_g0.out H_g1.out H_g2.out HR_t.out HQ_s.out HQp.out HR_l.out HR_b.out)
   | true=>
    have hc63:=HW.out.c0
    have hf64:=HW.out.f0
    replace HW:=ħ (HW.out.p02 (.int .i64 2))
    replace HM_k:=HW.out.mp02.R HM_k
    have hc65:=HW.out.c0
    have hf66:=HW.out.f0
    replace HW:=ħ (HW.out.p00 (.int .i64 7))
    replace HM_k:=HW.out.mp00.R HM_k
    go_wp2_with fail
    generalize ((w39.setCell _ _).setCell _ _).setCell _ _=w67 at *
    clear hc40 hf41 hc63 hf64 hc65 hf66
    replace HM_k:=(Mv.d1 _).R HM_k
    replace HW:=ħ HW.out.d1
    go_at_call 33
    refine (block_any r32 w67 β32 HW.out.ps (HF.out.suf HS.out)).mono ?_
    rintro e w68 hp
    obtain ⟨n_b,k_b,t_b,v_b,a_b,l_b,c_b,β68,r68,rfl,HR_b,HN_b,HZ_b,HS_b,HL,hS,hW,hG⟩:=HW.out.okN HS.out hp
    have HO_k:=ħ HM_k.out.lt
    replace HM_k:=HW.out.kR HZ_k hG HM_k
    replace HW:=hW
    replace HS:=hS
    clear hG hp
    replace HW:=HW.out.am w68.heap.size HN_b
    replace HN_b:=HW.out.nA HN_b
    replace HM_k:=HW.out.rA HM_k
    have hc69:=HW.out.c0
    have hc70:=HW.out.c1
    have hc71:=HW.out.c2
    replace HW:=HW.out.am (w68.heap.size+1) HN_b
    replace HN_b:=HW.out.nA HN_b
    replace HM_k:=HW.out.rA HM_k
    have hc72:=HW.out.c0
    have hc73:=HW.out.c1
    have hc74:=HW.out.c2
    have hc75:=HW.out.c3
    go_wp2_with (at_builtin;refine app_l0 _ _ rfl rfl HW.out HM_k.out HN_b.out HZ_k.out HZ_b.out HO_k.out (by have:=HGk.out;omega) ⟨rfl,rfl,rfl,rfl⟩ ?e1 ?e2 ?_;(case e1=>rfl);(case e2=>rfl);skip)
    intro g76 c76 w76 hW hM hG
    clear HM_k HN_b HZ_k HZ_b HO_k
    replace HW:=ħ hW
    have HM_m:=ħ hM
    have HZ_m:=zz w
    clear hW hM hG
    have hc77:=HW.out.c1
    have hf78:=HW.out.f1
    replace HW:=ħ (HW.out.p13 ((.slice (some ⟨g76,0,none⟩) (kk.length+1) c76)))
    replace HM_m:=HW.out.mp13.R HM_m
    have HN_z:=ħ (HM_m.out.node 7 x_s 2)
    have HZ_z:=HZ_m
    clear HM_m HZ_m
    have hc79:=HW.out.c0
    have hc80:=HW.out.c1
    have hc81:=HW.out.c2
    have hf82:=HW.out.f2
    replace HW:=ħ (HW.out.s2 (.int .i64 7) (.string (str x_s)) (.int .i64 2) ((.slice (some ⟨g76,0,none⟩) (kk.length+1) c76)))
    replace HN_z:=HW.out.ms2.N HN_z
    go_wp2_with fail
    exact HW.out.e HW.out.b2 HS HZ_z HN_z (by rw [← HKK.out];exact md_pla_fun H_g0.out H_g1.out H_g2.out HR_t.out HQ_s.out HQp.out HR_l.out HR_b.out)
  have HQp:=ħ hq
  have hq1:((str (hd (tk r7))).toList == [40])=false:=tx_no hq
  clear hq
  go_wp2_with fail
  clear hq1
  go_at_call 29
  refine (HW.out.mu HS.out (s:=sEQ) (by decide)).mono ?_
  rintro e w86 ⟨mv86,β86,r86,rfl,HQ7,HL,hS,hW,hG⟩
  replace HN_t:=HW.out.kN HZ_t hG HN_t
  replace HW:=hW
  replace HS:=hS
  clear hG
  go_wp2_with fail
  by_cases hq:Eat β86 r86 sMINUS
  ·have HEm:=ħ hq
   clear hq
   go_at_call 27
   refine (HW.out.eatY HS.out (s:=sMINUS) (by decide) HEm.out).mono ?_
   rintro e w87 ⟨rfl,HL,hS,hW,hG⟩
   replace HN_t:=HW.out.kN HZ_t hG HN_t
   replace HW:=hW
   replace HS:=hS
   clear hG
   have HS0:=HS
   go_wp2_with fail
   go_at_call 34
   refine (num_any (b:=b) (g:=g) (K:=K) w87 false HW.out.ps (HF.out.suf HS.out)).mono ?_
   rintro e w88 hp
   obtain ⟨n_k,k_k,t_k,v_k,a_k,l_k,c_k,β88,r88,rfl,HR_k,HN_k,HZ_k,HS_k,HL,hS,hW,hG⟩:=HW.out.okN HS.out hp
   replace HN_t:=HW.out.kN HZ_t hG HN_t
   replace HW:=hW
   replace HS:=hS
   clear hG hp
   obtain ⟨kt,kl,rfl,hkn⟩:=nd_form HN_k.out
   have HNeg:Hid (β88=false→IntKind.i64.wrap (-v_k)=-v_k):=num_neg (n:=.mk 0 [] 0 []) (HF.out.suf HS0.out) HR_k.out
   replace HN_k:=ħ (hkn (IntKind.i64.wrap (-v_k)))
   clear hkn
   generalize hkw:IntKind.i64.wrap (-v_k)=kw at *
   replace HW:=HW.out.al w88.heap.size #[.int .i64 k_k,.string t_k,.int .i64 kw,.slice a_k l_k c_k]
   replace HN_t:=HW.out.nA HN_t
   replace HN_k:=HW.out.nA HN_k
   have hc89:=HW.out.c0
   have hc90:=HW.out.c2
   have hc91:=HW.out.c1
   have hf92:=HW.out.f1
   replace HW:=ħ (HW.out.p10 (.int .i64 6))
   replace HN_t:=HW.out.mp10.N HN_t
   replace HN_k:=HW.out.mp10.N HN_k
   have hc93:=HW.out.c0
   have hc94:=HW.out.c2
   replace HW:=HW.out.al (w88.heap.size+1) #[.int .i64 k_t,.string t_t,.int .i64 v_t,.slice a_t l_t c_t,.int .i64 k_k,.string t_k,.int .i64 kw,.slice a_k l_k c_k]
   replace HN_t:=HW.out.nA HN_t
   replace HN_k:=HW.out.nA HN_k
   have HM_a:=ħ (Wr.t0 HW.out (HN_t.out.less HZ_t.out) (HN_k.out.less HZ_k.out))
   have HZ_a:=zz w
   clear HN_t HZ_t HN_k HZ_k
   replace HW:=ħ HW.out.d0
   have hc95:=HW.out.c1
   have hf96:=HW.out.f1
   replace HW:=ħ (HW.out.p13 (.slice (some ⟨(w88.heap.size+1),0,none⟩) 2 2))
   replace HM_a:=HW.out.mp13.R HM_a
   go_wp2_with fail
   generalize (((w88.alloc _).setCell _ _).alloc _).setCell _ _=w97 at *
   clear hkw hc89 hc90 hc91 hf92 hc93 hc94 hc95 hf96
   replace HM_a:=(Mv.d0 _).R HM_a
   replace HW:=ħ HW.out.d0
   replace HM_a:=(Mv.d1 _).R HM_a
   replace HW:=ħ HW.out.d1
   go_at_call 29
   refine (HW.out.mu HS.out (s:=sSEMI) (by decide)).mono ?_
   rintro e w98 ⟨mv98,β98,r98,rfl,HQ9,HL,hS,hW,hG⟩
   replace HM_a:=HW.out.kR HZ_a hG HM_a
   replace HW:=hW
   replace HS:=hS
   clear hG
   have HN_z:=ħ (HM_a.out.node 6 x_s 0)
   have HZ_z:=HZ_a
   clear HM_a HZ_a
   have hc99:=HW.out.c0
   have hc100:=HW.out.c1
   have hf101:=HW.out.f1
   replace HW:=ħ (HW.out.s1 (.int .i64 6) (.string (str x_s)) (.int .i64 0) ((.slice (some ⟨(w88.heap.size+1),0,none⟩) 2 2)))
   replace HN_z:=HW.out.ms1.N HN_z
   go_wp2_with fail
   exact HW.out.e HW.out.b1 HS HZ_z HN_z (md_pla_neg H_g0.out H_g1.out H_g2.out HR_t.out HQ_s.out HQp.out HQ7.out HEm.out HR_k.out HNeg.out HQ9.out)
  have HEm:=ħ hq
  clear hq
  go_at_call 27
  refine (HW.out.eatN (s:=sMINUS) HEm.out).mono ?_
  rintro e w105 ⟨rfl,hW,hG⟩
  replace HN_t:=HW.out.kN HZ_t hG HN_t
  replace HW:=hW
  clear hG
  go_wp2_with fail
  go_at_call 34
  refine (num_any (b:=b) (g:=g) (K:=K) w105 β86 HW.out.ps (HF.out.suf HS.out)).mono ?_
  rintro e w106 hp
  obtain ⟨n_k,k_k,t_k,v_k,a_k,l_k,c_k,β106,r106,rfl,HR_k,HN_k,HZ_k,HS_k,HL,hS,hW,hG⟩:=HW.out.okN HS.out hp
  replace HN_t:=HW.out.kN HZ_t hG HN_t
  replace HW:=hW
  replace HS:=hS
  clear hG hp
  obtain ⟨kt,kl,rfl,hkn⟩:=nd_form HN_k.out
  clear hkn
  replace HW:=HW.out.am w106.heap.size HN_k
  replace HN_t:=HW.out.nA HN_t
  replace HN_k:=HW.out.nA HN_k
  have hc107:=HW.out.c0
  have hc108:=HW.out.c2
  have hc109:=HW.out.c1
  have hf110:=HW.out.f1
  replace HW:=ħ (HW.out.p10 (.int .i64 6))
  replace HN_t:=HW.out.mp10.N HN_t
  replace HN_k:=HW.out.mp10.N HN_k
  have hc111:=HW.out.c0
  have hc112:=HW.out.c2
  replace HW:=HW.out.al (w106.heap.size+1) #[.int .i64 k_t,.string t_t,.int .i64 v_t,.slice a_t l_t c_t,.int .i64 k_k,.string t_k,.int .i64 v_k,.slice a_k l_k c_k]
  replace HN_t:=HW.out.nA HN_t
  replace HN_k:=HW.out.nA HN_k
  have HM_a:=ħ (Wr.t0 HW.out (HN_t.out.less HZ_t.out) (HN_k.out.less HZ_k.out))
  have HZ_a:=zz w
  clear HN_t HZ_t HN_k HZ_k
  replace HW:=ħ HW.out.d0
  have hc113:=HW.out.c1
  have hf114:=HW.out.f1
  replace HW:=ħ (HW.out.p13 (.slice (some ⟨(w106.heap.size+1),0,none⟩) 2 2))
  replace HM_a:=HW.out.mp13.R HM_a
  go_wp2_with fail
  generalize (((w106.alloc _).setCell _ _).alloc _).setCell _ _=w115 at *
  clear hc107 hc108 hc109 hf110 hc111 hc112 hc113 hf114
  replace HM_a:=(Mv.d0 _).R HM_a
  replace HW:=ħ HW.out.d0
  replace HM_a:=(Mv.d1 _).R HM_a
  replace HW:=ħ HW.out.d1
  go_at_call 29
  refine (HW.out.mu HS.out (s:=sSEMI) (by decide)).mono ?_
  rintro e w116 ⟨mv116,β116,r116,rfl,HQ9,HL,hS,hW,hG⟩
  replace HM_a:=HW.out.kR HZ_a hG HM_a
  replace HW:=hW
  replace HS:=hS
  clear hG
  have HN_z:=ħ (HM_a.out.node 6 x_s 0)
  have HZ_z:=HZ_a
  clear HM_a HZ_a
  have hc117:=HW.out.c0
  have hc118:=HW.out.c1
  have hf119:=HW.out.f1
  replace HW:=ħ (HW.out.s1 (.int .i64 6) (.string (str x_s)) (.int .i64 0) ((.slice (some ⟨(w106.heap.size+1),0,none⟩) 2 2)))
  replace HN_z:=HW.out.ms1.N HN_z
  go_wp2_with fail
  exact HW.out.e HW.out.b1 HS HZ_z HN_z (md_pla_num H_g0.out H_g1.out H_g2.out HR_t.out HQ_s.out HQp.out HQ7.out HEm.out HR_k.out HQ9.out)
end Go.Proofs.YthcfianhdkolhaaGreatDoor.Y.Z
