/- PrJ PrK -/
import Derived.Test.YthcfianhdkolhaaGreatDoorPrI
namespace Go.Proofs.YthcfianhdkolhaaGreatDoor.T
open Go.RowKit Go.Proofs.YthcfianhdkolhaaGreatDoor.S
set_option maxRecDepth 100000
set_option maxHeartbeats 2000000
set_option linter.unusedVariables false
set_option linter.unusedSimpArgs false

theorem RowO.kid2 {w:World} {g o:Nat} {x y z:Nd} {r:List Nd} (h:RowO w (some ⟨g,o,none⟩) (x::y::z::r)):∃ k0 x0 n0 a0 m0 c0,
 w.cell? ⟨g,o+8,none⟩=some (.int .i64 k0)∧w.cell? ⟨g,o+8+1,none⟩=some (.string x0)∧w.cell? ⟨g,o+8+2,none⟩=some (.int .i64 n0)∧w.cell? ⟨g,o+8+3,none⟩=some (.slice a0 m0 c0)∧NdO w z (.agg #[.int .i64 k0,.string x0,.int .i64 n0,.slice a0 m0 c0]):=by
 have:=h.tail.kid1
 rwa [show o+4+4=o+8 by omega] at this
theorem sh_s16 (t:List UInt8) (v:Int) (c x:Nd):shT (.mk 16 t v [c,x])=[wd sIF,sg sLP]++shT c++[sg sRP]++shT x:=by rw [shT_mk];simp [shK,shI]
theorem sh_s16b (t:List UInt8) (v:Int) (c x y:Nd):shT (.mk 16 t v [c,x,y])=[wd sIF,sg sLP]++shT c++[sg sRP]++shT x++[wd sELSE]++shT y:=by rw [shT_mk];simp [shK,shI]
theorem sh_s17 (t:List UInt8) (v:Int) (c x:Nd):shT (.mk 17 t v [c,x])=[wd sWHILE,sg sLP]++shT c++[sg sRP]++shT x:=by rw [shT_mk];simp [shK,shW]
theorem kn_three {t:List UInt8} {v:Int} {kids:List Nd} (h:knB 16 t v kids.length=true):(∃ x y,kids=[x,y])∨∃ x y z,kids=[x,y,z]:=by
 obtain ⟨_,_,_,_,h5,h6⟩:=kn_iff.1 h
 have h5':(2:Int)≤kids.length:=h5
 have h6':(kids.length:Int)≤3:=h6
 have:kids.length=2∨kids.length=3:=by omega
 rcases this with h|h
 ·exact Or.inl (two_form h)
 ·exact Or.inr (three_form h)
def BlN (w0:World) (n:Nd):Prop:=∀ (b:Nat) (w:World) (T:List (List UInt8)) (v:Value),Pt w0 w b T→NdO w0 n v→T.length+tb n≤1000000000000→Calls Tryz.prog 82 #[.pointer (some ⟨b,0,none⟩),v] w (PostP (IsBl n) w0 w b T (shT n))
theorem end_en {n:Nd} (h:IsSt n) (hk:n.kind≠16∧n.kind≠17):shT n=enT n++[sg sSEMI]:=by
 cases h with
 | var s t x hs ht hx=>rw [en_of (sh_s14 _ _ _ _),sh_s14]
 | set p x hp hx=>rw [en_of (sh_s15 _ _ _ _),sh_s15]
 | if1 c l hc hl=>exact absurd rfl hk.1
 | if2 c l m hc hl hm=>exact absurd rfl hk.1
 | while1 c l hc hl=>exact absurd rfl hk.2
 | ret x hx=>rw [en_of (sh_s18 _ _ _),sh_s18]
 | put x hx=>rw [en_of (sh_s19 _ _ _),sh_s19]
 | do1 x l hx hl=>rw [en_of (sh_s20 _ _ _),sh_s20]
theorem ended_any {w0:World} (hG:Gl w0) (hTb:TabW w0) (kind:Int) (text:List UInt8) (num:Int) (kids:List Nd) (k16:¬ kind=16) (k17:¬ kind=17) {w:World} {b:Nat} {T:List (List UInt8)} (hP:Pt w0 w b T) (ka:Option Addr) (kc:Nat) (hR:RowO w0 ka kids) (hk:knB kind text num kids.length=true) (hc:cntL kids≤700) (hT:T.length+tbL kids+6≤1000000000000):
  Calls Tryz.prog 131 #[.pointer (some ⟨b,0,none⟩),.agg #[.int .i64 kind,.string (str text),.int .i64 num,.slice ka kids.length kc]] w (PostP (IsSt (.mk kind text num kids)) w0 w b T (enT (.mk kind text num kids))):=by
 by_cases k14:kind=14
 ·subst k14
  obtain ⟨x,y,rfl⟩:=kn_two (k:=14) (by rfl) hk
  rw [cntL_cons,cntL_cons,cntL_nil] at hc
  rw [tbL_cons,tbL_cons,tbL_nil] at hT
  exact ended_k14 hG hTb text num x y hP ka kc hR hk (by omega) (by omega)
 by_cases k15:kind=15
 ·subst k15
  obtain ⟨x,y,rfl⟩:=kn_two (k:=15) (by rfl) hk
  rw [cntL_cons,cntL_cons,cntL_nil] at hc
  rw [tbL_cons,tbL_cons,tbL_nil] at hT
  exact ended_k15 hG hTb text num x y hP ka kc hR hk (by omega) (by omega)
 by_cases k18:kind=18
 ·subst k18
  obtain ⟨x,rfl⟩:=kn_one (k:=18) (by rfl) hk
  rw [cntL_cons,cntL_nil] at hc
  rw [tbL_cons,tbL_nil] at hT
  exact ended_k18 hG hTb text num x hP ka kc hR hk (by omega) (by omega)
 by_cases k19:kind=19
 ·subst k19
  obtain ⟨x,rfl⟩:=kn_one (k:=19) (by rfl) hk
  rw [cntL_cons,cntL_nil] at hc
  rw [tbL_cons,tbL_nil] at hT
  exact ended_k19 hG hTb text num x hP ka kc hR hk (by omega) (by omega)
 by_cases k20:kind=20
 ·subst k20
  obtain ⟨x,rfl⟩:=kn_one (k:=20) (by rfl) hk
  rw [cntL_cons,cntL_nil] at hc
  rw [tbL_cons,tbL_nil] at hT
  exact ended_k20 hG hTb text num x hP ka kc hR hk (by omega) (by omega)
 exact ended_rest kind text num kids.length _ (fun h=>by have:=st_kinds h;omega) _ k14 k15 k18 k19 k20 hP ka kc
theorem stat_k17 {w0:World} (hG:Gl w0) (hTb:TabW w0) (text:List UInt8) (num:Int) (kids:List Nd) (hn7:cntL kids≤700) (ih:∀ x,x∈kids→BlN w0 x):StN w0 (.mk 17 text num kids):=by
 intro b w T v hP hv hT
 have hk7:kids.length≤700:=Nat.le_trans (len_cnt kids) hn7
 rw [tb_mk] at hT
 obtain ⟨ka,kc,rfl,t1,n1,n2,l1,l2,hR⟩:=hv.part
 have HR:=hide hR
 have HG:=hide hG
 have HTb:=hide hTb
 have HIh:=hide ih
 have HNk:Hid (knB 17 text num kids.length=false→¬ IsSt (.mk 17 text num kids)):=fun hk h=>by
  have hi:=(st_is h).2
  rw [isN_iff,loc_kn hk7 n2,hk] at hi
  exact absurd hi.1.1 (by decide)
 have HP0:Hid (Pt w0 (w.alloc (.cells #[.int .i64 17,.string (str text),.int .i64 num,.slice ka kids.length kc] 24)) b T):=hP.alloc _
 have HS0:Hid (St w (w.alloc (.cells #[.int .i64 17,.string (str text),.int .i64 num,.slice ka kids.length kc] 24))):=St.alloc _ _
 have HN0:=hide (heap_new w #[.int .i64 17,.string (str text),.int .i64 num,.slice ka kids.length kc] 24)
 have hkn:=know_any 17 text num ka kids.length kc _ ((hG.below hP.base).below ((Below.refl _ _).alloc (Nat.le_refl _) (.cells #[.int .i64 17,.string (str text),.int .i64 num,.slice ka kids.length kc] 24))) t1 (by omega)
 clear hP hv hR hG ih hTb
 go_enter Tryz.func108,Tryz.ntmps108
 go_wp2_with fail
 go_at_call 75
 refine hkn.mono ?_
 rintro e w1 ⟨⟨hk,rfl⟩|⟨hk,rfl⟩,hb1⟩
 rotate_left
 ·exact ⟨rfl,PostP.no (HNk.out hk) (HP0.out.below hb1).base⟩
 have HK:=hide hk
 have HP1:=hide (HP0.out.below hb1)
 have HS1:=hide (HS0.out.trans (St.below hb1))
 have hn1:=(St.below hb1).node HN0.out
 have HN1:=hide (((St.below hb1).nodes _ _ _ HN0.out).trans HN0.out)
 clear hk hb1 hkn HP0 HS0 HN0 HNk
 obtain ⟨x,y,rfl⟩:=kn_two (k:=17) (by rfl) HK.out
 have HI:=hide (st17 (c:=x) (x:=y) HK.out)
 have HEx:=hide (expr_all HG.out HTb.out x (by simp only [cntL_cons] at hn7;omega))
 have HLx:=hide (sh_tb x)
 have HLy:=hide (sh_tb y)
 have HBy:=hide (HIh.out y (by simp))
 have hRo:=HR.out
 have HTx:Hid (T.length+2*tb x+2*tb y+15≤1000000000000):=by simp only [tbL_cons,tbL_nil,List.length_cons,List.length_nil] at hT;show _≤_;omega
 clear hT
 obtain ⟨ga,oa,ka,xa,na,aa,ma,ca,hkaa,hga,qa0,qa1,qa2,qa3,hnda⟩:=hRo.kid0
 have Ha:=hide hnda
 have Ha0:=hide qa0
 have Ha1:=hide qa1
 have Ha2:=hide qa2
 have Ha3:=hide qa3
 clear qa0 qa1 qa2 qa3 hnda hga
 subst hkaa
 obtain ⟨kb,xb,nb,ab,mb,cb,qb0,qb1,qb2,qb3,hndb⟩:=hRo.kid1
 have Hb:=hide hndb
 have Hb0:=hide qb0
 have Hb1:=hide qb1
 have Hb2:=hide qb2
 have Hb3:=hide qb3
 clear qb0 qb1 qb2 qb3 hndb
 go_wp2_with fail
 go_at_call 130
 refine (inside_any x HEx.out HP1.out sWHILE 17 text num [y] _ 2 kc hRo (by omega) (by have:=HTx.out;omega)).mono ?_
 rintro e w2 (⟨hp2,rfl,hP2,hS2⟩|⟨hp2,rfl,hB2⟩)
 rotate_left
 ·exact ⟨rfl,PostP.no (fun h=>hp2 (HI.out.1 h).1) hB2⟩
 have HA2:=hide hp2
 have HP2:=hide hP2
 have HS2:=hide (HS1.out.trans hS2)
 have hn2:=hS2.node HN1.out
 have HN2:=hide ((hS2.nodes _ _ _ HN1.out).trans HN1.out)
 clear hp2 hP2 hS2 hn1
 have hb2:=HP2.out.base
 have eb2_0:=below_cell hb2 Hb0.out
 have eb2_1:=below_cell hb2 Hb1.out
 have eb2_2:=below_cell hb2 Hb2.out
 have eb2_3:=below_cell hb2 Hb3.out
 clear hb2
 go_wp2_with fail
 go_at_call 82
 refine (HBy.out b _ _ _ HP2.out Hb.out (by have:=HLx.out;have:=HLy.out;have:=HTx.out;(try simp only [List.length_append,List.length_cons,List.length_nil,txs_len]);omega)).mono ?_
 rintro e w3 (⟨hp3,rfl,hP3,hS3⟩|⟨hp3,rfl,hB3⟩)
 rotate_left
 ·exact ⟨rfl,PostP.no (fun h=>hp3 (HI.out.1 h).2) hB3⟩
 have HA3:=hide hp3
 have HP3:=hide hP3
 have HS3:=hide (HS2.out.trans hS3)
 have hn3:=hS3.node HN2.out
 have HN3:=hide ((hS3.nodes _ _ _ HN2.out).trans HN2.out)
 clear hp3 hP3 hS3 hn2
 go_wp2_with fail
 go_end0
 exact PostP.ok (HI.out.2 ⟨HA2.out,HA3.out⟩) (HP3.out.app' (by rw [sh_s17];simp [txs_app,txs_cons,raw_wd,raw_sg,txs1,txsg,show txs []=[] from rfl])) HS3.out
theorem stat_k16 {w0:World} (hG:Gl w0) (hTb:TabW w0) (text:List UInt8) (num:Int) (kids:List Nd) (hn7:cntL kids≤700) (ih:∀ x,x∈kids→BlN w0 x):StN w0 (.mk 16 text num kids):=by
 intro b w T v hP hv hT
 have hk7:kids.length≤700:=Nat.le_trans (len_cnt kids) hn7
 rw [tb_mk] at hT
 obtain ⟨ka,kc,rfl,t1,n1,n2,l1,l2,hR⟩:=hv.part
 have HR:=hide hR
 have HG:=hide hG
 have HTb:=hide hTb
 have HIh:=hide ih
 have HNk:Hid (knB 16 text num kids.length=false→¬ IsSt (.mk 16 text num kids)):=fun hk h=>by
  have hi:=(st_is h).2
  rw [isN_iff,loc_kn hk7 n2,hk] at hi
  exact absurd hi.1.1 (by decide)
 have HP0:Hid (Pt w0 (w.alloc (.cells #[.int .i64 16,.string (str text),.int .i64 num,.slice ka kids.length kc] 24)) b T):=hP.alloc _
 have HS0:Hid (St w (w.alloc (.cells #[.int .i64 16,.string (str text),.int .i64 num,.slice ka kids.length kc] 24))):=St.alloc _ _
 have HN0:=hide (heap_new w #[.int .i64 16,.string (str text),.int .i64 num,.slice ka kids.length kc] 24)
 have hkn:=know_any 16 text num ka kids.length kc _ ((hG.below hP.base).below ((Below.refl _ _).alloc (Nat.le_refl _) (.cells #[.int .i64 16,.string (str text),.int .i64 num,.slice ka kids.length kc] 24))) t1 (by omega)
 clear hP hv hR hG ih hTb
 go_enter Tryz.func108,Tryz.ntmps108
 go_wp2_with fail
 go_at_call 75
 refine hkn.mono ?_
 rintro e w1 ⟨⟨hk,rfl⟩|⟨hk,rfl⟩,hb1⟩
 rotate_left
 ·exact ⟨rfl,PostP.no (HNk.out hk) (HP0.out.below hb1).base⟩
 have HK:=hide hk
 have HP1:=hide (HP0.out.below hb1)
 have HS1:=hide (HS0.out.trans (St.below hb1))
 have hn1:=(St.below hb1).node HN0.out
 have HN1:=hide (((St.below hb1).nodes _ _ _ HN0.out).trans HN0.out)
 clear hk hb1 hkn HP0 HS0 HN0 HNk
 rcases kn_three HK.out with ⟨x,y,rfl⟩|⟨x,y,z,rfl⟩
 ·have HI:=hide (st16 (c:=x) (x:=y) HK.out)
  have HEx:=hide (expr_all HG.out HTb.out x (by simp only [cntL_cons] at hn7;omega))
  have HLx:=hide (sh_tb x)
  have HLy:=hide (sh_tb y)
  have HBy:=hide (HIh.out y (by simp))
  have hRo:=HR.out
  have HTx:Hid (T.length+2*tb x+2*tb y+15≤1000000000000):=by simp only [tbL_cons,tbL_nil,List.length_cons,List.length_nil] at hT;show _≤_;omega
  clear hT
  obtain ⟨ga,oa,ka,xa,na,aa,ma,ca,hkaa,hga,qa0,qa1,qa2,qa3,hnda⟩:=hRo.kid0
  have Ha:=hide hnda
  have Ha0:=hide qa0
  have Ha1:=hide qa1
  have Ha2:=hide qa2
  have Ha3:=hide qa3
  clear qa0 qa1 qa2 qa3 hnda hga
  subst hkaa
  obtain ⟨kb,xb,nb,ab,mb,cb,qb0,qb1,qb2,qb3,hndb⟩:=hRo.kid1
  have Hb:=hide hndb
  have Hb0:=hide qb0
  have Hb1:=hide qb1
  have Hb2:=hide qb2
  have Hb3:=hide qb3
  clear qb0 qb1 qb2 qb3 hndb
  go_wp2_with fail
  go_at_call 130
  refine (inside_any x HEx.out HP1.out sIF 16 text num [y] _ 2 kc hRo (by omega) (by have:=HTx.out;omega)).mono ?_
  rintro e w2 (⟨hp2,rfl,hP2,hS2⟩|⟨hp2,rfl,hB2⟩)
  rotate_left
  ·exact ⟨rfl,PostP.no (fun h=>hp2 (HI.out.1 h).1) hB2⟩
  have HA2:=hide hp2
  have HP2:=hide hP2
  have HS2:=hide (HS1.out.trans hS2)
  have hn2:=hS2.node HN1.out
  have HN2:=hide ((hS2.nodes _ _ _ HN1.out).trans HN1.out)
  clear hp2 hP2 hS2 hn1
  have hb2:=HP2.out.base
  have eb2_0:=below_cell hb2 Hb0.out
  have eb2_1:=below_cell hb2 Hb1.out
  have eb2_2:=below_cell hb2 Hb2.out
  have eb2_3:=below_cell hb2 Hb3.out
  clear hb2
  go_wp2_with fail
  go_at_call 82
  refine (HBy.out b _ _ _ HP2.out Hb.out (by have:=HLx.out;have:=HLy.out;have:=HTx.out;(try simp only [List.length_append,List.length_cons,List.length_nil,txs_len]);omega)).mono ?_
  rintro e w3 (⟨hp3,rfl,hP3,hS3⟩|⟨hp3,rfl,hB3⟩)
  rotate_left
  ·exact ⟨rfl,PostP.no (fun h=>hp3 (HI.out.1 h).2) hB3⟩
  have HA3:=hide hp3
  have HP3:=hide hP3
  have HS3:=hide (HS2.out.trans hS3)
  have hn3:=hS3.node HN2.out
  have HN3:=hide ((hS3.nodes _ _ _ HN2.out).trans HN2.out)
  clear hp3 hP3 hS3 hn2
  go_wp2_with fail
  go_end0
  exact PostP.ok (HI.out.2 ⟨HA2.out,HA3.out⟩) (HP3.out.app' (by rw [sh_s16];simp [txs_app,txs_cons,raw_wd,raw_sg,txs1,txsg,show txs []=[] from rfl])) HS3.out
 ·have HI:=hide (st16b (c:=x) (x:=y) (y:=z) HK.out)
  have HEx:=hide (expr_all HG.out HTb.out x (by simp only [cntL_cons] at hn7;omega))
  have HLx:=hide (sh_tb x)
  have HLy:=hide (sh_tb y)
  have HBy:=hide (HIh.out y (by simp))
  have hRo:=HR.out
  have HBz:=hide (HIh.out z (by simp))
  have HTx:Hid (T.length+2*tb x+2*tb y+2*tb z+18≤1000000000000):=by simp only [tbL_cons,tbL_nil,List.length_cons,List.length_nil] at hT;show _≤_;omega
  clear hT
  obtain ⟨ga,oa,ka,xa,na,aa,ma,ca,hkaa,hga,qa0,qa1,qa2,qa3,hnda⟩:=hRo.kid0
  have Ha:=hide hnda
  have Ha0:=hide qa0
  have Ha1:=hide qa1
  have Ha2:=hide qa2
  have Ha3:=hide qa3
  clear qa0 qa1 qa2 qa3 hnda hga
  subst hkaa
  obtain ⟨kb,xb,nb,ab,mb,cb,qb0,qb1,qb2,qb3,hndb⟩:=hRo.kid1
  have Hb:=hide hndb
  have Hb0:=hide qb0
  have Hb1:=hide qb1
  have Hb2:=hide qb2
  have Hb3:=hide qb3
  clear qb0 qb1 qb2 qb3 hndb
  obtain ⟨kd,xd,nd,ad,md,cd,qd0,qd1,qd2,qd3,hndd⟩:=hRo.kid2
  have Hd:=hide hndd
  have Hd0:=hide qd0
  have Hd1:=hide qd1
  have Hd2:=hide qd2
  have Hd3:=hide qd3
  clear qd0 qd1 qd2 qd3 hndd
  go_wp2_with fail
  go_at_call 130
  refine (inside_any x HEx.out HP1.out sIF 16 text num [y,z] _ 3 kc hRo (by omega) (by have:=HTx.out;omega)).mono ?_
  rintro e w2 (⟨hp2,rfl,hP2,hS2⟩|⟨hp2,rfl,hB2⟩)
  rotate_left
  ·exact ⟨rfl,PostP.no (fun h=>hp2 (HI.out.1 h).1) hB2⟩
  have HA2:=hide hp2
  have HP2:=hide hP2
  have HS2:=hide (HS1.out.trans hS2)
  have hn2:=hS2.node HN1.out
  have HN2:=hide ((hS2.nodes _ _ _ HN1.out).trans HN1.out)
  clear hp2 hP2 hS2 hn1
  have hb2:=HP2.out.base
  have eb2_0:=below_cell hb2 Hb0.out
  have eb2_1:=below_cell hb2 Hb1.out
  have eb2_2:=below_cell hb2 Hb2.out
  have eb2_3:=below_cell hb2 Hb3.out
  clear hb2
  go_wp2_with fail
  go_at_call 82
  refine (HBy.out b _ _ _ HP2.out Hb.out (by have:=HLx.out;have:=HLy.out;have:=HTx.out;(try simp only [List.length_append,List.length_cons,List.length_nil,txs_len]);omega)).mono ?_
  rintro e w3 (⟨hp3,rfl,hP3,hS3⟩|⟨hp3,rfl,hB3⟩)
  rotate_left
  ·exact ⟨rfl,PostP.no (fun h=>hp3 (HI.out.1 h).2.1) hB3⟩
  have HA3:=hide hp3
  have HP3:=hide hP3
  have HS3:=hide (HS2.out.trans hS3)
  have hn3:=hS3.node HN2.out
  have HN3:=hide ((hS3.nodes _ _ _ HN2.out).trans HN2.out)
  clear hp3 hP3 hS3 hn2
  go_wp2_with fail
  go_at_call 77
  refine (add_new HP3.out [sELSE] _ rfl 1 rfl (by omega) (by have:=HLx.out;have:=HLy.out;have:=HTx.out;(try simp only [List.length_append,List.length_cons,List.length_nil,txs_len]);omega) _ (by simp)).mono ?_
  rintro e w4 ⟨rfl,hP4,hS4⟩
  have HP4:=hide hP4
  have HS4:=hide (HS3.out.trans hS4)
  have hn4:=hS4.node HN3.out
  have HN4:=hide ((hS4.nodes _ _ _ HN3.out).trans HN3.out)
  clear hP4 hS4 hn3
  have hb4:=HP4.out.base
  have ed4_0:=below_cell hb4 Hd0.out
  have ed4_1:=below_cell hb4 Hd1.out
  have ed4_2:=below_cell hb4 Hd2.out
  have ed4_3:=below_cell hb4 Hd3.out
  clear hb4
  go_wp2_with fail
  go_at_call 82
  refine (HBz.out b _ _ _ HP4.out Hd.out (by have:=HLx.out;have:=HLy.out;have:=HTx.out;(try simp only [List.length_append,List.length_cons,List.length_nil,txs_len]);omega)).mono ?_
  rintro e w5 (⟨hp5,rfl,hP5,hS5⟩|⟨hp5,rfl,hB5⟩)
  rotate_left
  ·exact ⟨rfl,PostP.no (fun h=>hp5 (HI.out.1 h).2.2) hB5⟩
  have HA5:=hide hp5
  have HP5:=hide hP5
  have HS5:=hide (HS4.out.trans hS5)
  have hn5:=hS5.node HN4.out
  have HN5:=hide ((hS5.nodes _ _ _ HN4.out).trans HN4.out)
  clear hp5 hP5 hS5 hn4
  go_wp2_with fail
  go_end0
  exact PostP.ok (HI.out.2 ⟨HA2.out,HA3.out,HA5.out⟩) (HP5.out.app' (by rw [sh_s16b];simp [txs_app,txs_cons,raw_wd,raw_sg,txs1,txsg,show txs []=[] from rfl])) HS5.out
theorem stat_rest {w0:World} (hG:Gl w0) (hTb:TabW w0) (kind:Int) (text:List UInt8) (num:Int) (kids:List Nd) (k16:¬ kind=16) (k17:¬ kind=17) (hn7:cntL kids≤700) (ih:∀ x,x∈kids→BlN w0 x):StN w0 (.mk kind text num kids):=by
 intro b w T v hP hv hT
 have hk7:kids.length≤700:=Nat.le_trans (len_cnt kids) hn7
 rw [tb_mk] at hT
 obtain ⟨ka,kc,rfl,t1,n1,n2,l1,l2,hR⟩:=hv.part
 have HR:=hide hR
 have HG:=hide hG
 have HTb:=hide hTb
 have HIh:=hide ih
 have HNk:Hid (knB kind text num kids.length=false→¬ IsSt (.mk kind text num kids)):=fun hk h=>by
  have hi:=(st_is h).2
  rw [isN_iff,loc_kn hk7 n2,hk] at hi
  exact absurd hi.1.1 (by decide)
 have HP0:Hid (Pt w0 (w.alloc (.cells #[.int .i64 kind,.string (str text),.int .i64 num,.slice ka kids.length kc] 24)) b T):=hP.alloc _
 have HS0:Hid (St w (w.alloc (.cells #[.int .i64 kind,.string (str text),.int .i64 num,.slice ka kids.length kc] 24))):=St.alloc _ _
 have HN0:=hide (heap_new w #[.int .i64 kind,.string (str text),.int .i64 num,.slice ka kids.length kc] 24)
 have hkn:=know_any kind text num ka kids.length kc _ ((hG.below hP.base).below ((Below.refl _ _).alloc (Nat.le_refl _) (.cells #[.int .i64 kind,.string (str text),.int .i64 num,.slice ka kids.length kc] 24))) t1 (by omega)
 clear hP hv hR hG ih hTb
 go_enter Tryz.func108,Tryz.ntmps108
 go_wp2_with fail
 go_at_call 75
 refine hkn.mono ?_
 rintro e w1 ⟨⟨hk,rfl⟩|⟨hk,rfl⟩,hb1⟩
 rotate_left
 ·exact ⟨rfl,PostP.no (HNk.out hk) (HP0.out.below hb1).base⟩
 have HK:=hide hk
 have HP1:=hide (HP0.out.below hb1)
 have HS1:=hide (HS0.out.trans (St.below hb1))
 have hn1:=(St.below hb1).node HN0.out
 have HN1:=hide (((St.below hb1).nodes _ _ _ HN0.out).trans HN0.out)
 clear hk hb1 hkn HP0 HS0 HN0 HNk
 have k16':(kind == 16)=false:=by simpa using k16
 have k17':(kind == 17)=false:=by simpa using k17
 have HK16:=hide k16
 have HK17:=hide k17
 have HEl:Hid ((enT (.mk kind text num kids)).length≤tbL kids*2+3*kids.length+9):=by
  show _≤_
  have h1:=sh_tb (.mk kind text num kids)
  rw [tb_mk] at h1
  unfold enT
  rw [List.length_dropLast]
  omega
 clear k16 k17
 go_wp2_with fail
 go_at_call 131
 refine (ended_any HG.out HTb.out kind text num kids HK16.out HK17.out HP1.out ka kc HR.out HK.out hn7 (by omega)).mono ?_
 rintro e w2 (⟨hp2,rfl,hP2,hS2⟩|⟨hp2,rfl,hB2⟩)
 rotate_left
 ·exact ⟨rfl,PostP.no (hp2) hB2⟩
 have HA2:=hide hp2
 have HP2:=hide hP2
 have HS2:=hide (HS1.out.trans hS2)
 have hn2:=hS2.node HN1.out
 have HN2:=hide ((hS2.nodes _ _ _ HN1.out).trans HN1.out)
 clear hp2 hP2 hS2 hn1
 go_wp2_with fail
 go_at_call 77
 refine (add_new HP2.out [sSEMI] _ rfl 1 rfl (by omega) (by have h1:=sh_tb (.mk kind text num kids);rw [end_en HA2.out ⟨HK16.out,HK17.out⟩,List.length_append,tb_mk] at h1;simp only [List.length_append,List.length_cons,List.length_nil,txs_len] at *;omega) _ (by simp)).mono ?_
 rintro e w3 ⟨rfl,hP3,hS3⟩
 have HP3:=hide hP3
 have HS3:=hide (HS2.out.trans hS3)
 clear hP3 hS3 hn2
 go_wp2_with fail
 go_end0
 exact PostP.ok HA2.out (HP3.out.app' (by rw [end_en HA2.out ⟨HK16.out,HK17.out⟩,txs_app,txsg];simp)) HS3.out
theorem stat_all {w0:World} (hG:Gl w0) (hTb:TabW w0):∀ n,cnt n≤700→(StN w0 n∧∀ y,y∈n.kids→StN w0 y):=by
 refine Nd.ind fun k t v kids ih hc=>?_
 rw [cnt_mk] at hc
 have ihb:∀ x,x∈kids→BlN w0 x:=fun x hx b w T v h1 h2 h3=>block_of hG x (fun y hy=>(ih x hx (by have:=cnt_mem hx;omega)).2 y hy) h1 v h2 (by have:=cnt_mem hx;omega) h3
 refine ⟨?_,fun y hy=>(ih y hy (by have:=cnt_mem (show y∈kids from hy);omega)).1⟩
 by_cases k16:k=16
 ·subst k16;exact stat_k16 hG hTb t v kids (by omega) ihb
 by_cases k17:k=17
 ·subst k17;exact stat_k17 hG hTb t v kids (by omega) ihb
 exact stat_rest hG hTb k t v kids k16 k17 (by omega) ihb
theorem block_all {w0:World} (hG:Gl w0) (hTb:TabW w0) (n:Nd) (hc:cnt n≤700):BlN w0 n:=fun b w T v h1 h2 h3=>block_of hG n (fun y hy=>(stat_all hG hTb n hc).2 y hy) h1 v h2 hc h3
end Go.Proofs.YthcfianhdkolhaaGreatDoor.T
namespace Go.Proofs.YthcfianhdkolhaaGreatDoor.T
open Go.RowKit Go.Proofs.YthcfianhdkolhaaGreatDoor.S
set_option maxRecDepth 100000
set_option maxHeartbeats 2000000
set_option linter.unusedVariables false
set_option linter.unusedSimpArgs false

theorem de2 {t:List UInt8} {v:Int} {kids:List Nd} (h:knB 2 t v kids.length=true):IsDe (.mk 2 t v kids) ↔ ∀ y,y∈kids→IsFi y:=by
 obtain ⟨h1,rfl⟩:=kn_name (k:=2) (by rfl) h
 have h5:=(kn_iff.1 h).2.2.2.2.1
 have h5':(1:Int)≤kids.length:=h5
 constructor
 ·intro h;cases h with|struct1 s l hs hne hl=>exact hl
 ·intro hl;exact IsDe.struct1 t kids h1 (fun e=>by subst e;simp at h5') hl
theorem app_inj {l m:List Nd} {x y:Nd} (h:l++[x]=m++[y]):l=m∧x=y:=by
 have:=List.append_inj' h rfl
 exact ⟨this.1,by simpa using this.2⟩
theorem de4 {t:List UInt8} {v:Int} {l:List Nd} {x:Nd} {n:Nat} (h:knB 4 t v n=true):IsDe (.mk 4 t v (l++[x])) ↔ IsTy x∧∀ y,y∈l→IsPa y:=by
 obtain ⟨_,h2,h3,h4,_⟩:=kn_iff.1 h
 constructor
 ·intro h
  clear h2 h3 h4
  generalize hk:l++[x]=kk at h
  cases h with
  | extern1 s m d u hs hm hu=>
   obtain ⟨rfl,rfl⟩:=app_inj hk
   exact ⟨hu,hm⟩
 ·rintro ⟨hx,hl⟩
  obtain ⟨d,rfl⟩:=b2n_of h3 h4
  exact IsDe.extern1 t l d x (txt_t h2) hl hx
theorem de5 {t:List UInt8} {v:Int} {x:Nd} {n:Nat} (h:knB 5 t v n=true):IsDe (.mk 5 t v [x]) ↔ IsTy x:=by
 obtain ⟨h1,rfl⟩:=kn_name (k:=5) (by rfl) h
 constructor
 ·intro h;cases h with|outside s u hs hu=>exact hu
 ·intro hx;exact IsDe.outside t x h1 hx
theorem de6 {t:List UInt8} {v:Int} {x y:Nd} {n:Nat} (h:knB 6 t v n=true):IsDe (.mk 6 t v [x,y]) ↔ IsTy x∧NumV y:=by
 obtain ⟨_,h2,h3,h4,_⟩:=kn_iff.1 h
 constructor
 ·intro h
  clear h2 h3 h4
  cases h with
  | global s st u v hs hu h1 h2=>exact ⟨hu,v,Or.inl ⟨rfl,h1,h2⟩⟩
  | globalL s st u v hs hu h1 h2=>exact ⟨hu,v,Or.inr ⟨rfl,h1,h2⟩⟩
 ·obtain ⟨d,rfl⟩:=b2n_of h3 h4
  rintro ⟨hx,u,⟨rfl,e1,e2⟩|⟨rfl,e1,e2⟩⟩
  ·exact IsDe.global t d x u (txt_t h2) hx e1 e2
  ·exact IsDe.globalL t d x u (txt_t h2) hx e1 e2
theorem de7 {t:List UInt8} {v:Int} {l:List Nd} {x c:Nd} {n:Nat} (h:knB 7 t v n=true):IsDe (.mk 7 t v (l++[x]++[c])) ↔ (IsTy x∧∀ y,y∈l→IsPa y)∧IsBl c:=by
 obtain ⟨_,h2,h3,h4,_⟩:=kn_iff.1 h
 constructor
 ·intro h
  clear h2 h3 h4
  generalize hk:l++[x]++[c]=kk at h
  cases h with
  | fun1 s st d m u m2 hs hm hu hb=>
   obtain ⟨e1,rfl⟩:=app_inj hk
   obtain ⟨rfl,rfl⟩:=app_inj e1
   exact ⟨⟨hu,hm⟩,m2,rfl,hb⟩
 ·obtain ⟨st,d,rfl⟩:=b2n_of2 h3 h4
  rintro ⟨⟨hx,hl⟩,m2,rfl,hb⟩;exact IsDe.fun1 t st d l x m2 (txt_t h2) hl hx hb
theorem de_kinds {k:Int} {t:List UInt8} {v:Int} {l:List Nd} (h:IsDe (.mk k t v l)):k=2∨k=4∨k=5∨k=6∨k=7:=cls_de.1 (de_is h).1
theorem un_kn {k:Int} {t:List UInt8} {v:Int} {kids:List Nd} (hn:kids.length≤700):IsUn (.mk k t v kids) ↔ (k=1∧knB k t v kids.length=true)∧∀ y,y∈kids→IsDe y:=by
 constructor
 ·intro h
  cases h with
  | unit l hl=>exact ⟨⟨rfl,kn_iff.2 ⟨by decide,rfl,by decide,by decide,(by show (0:Int)≤_;omega),(by show _≤(700:Int);omega)⟩⟩,hl⟩
 ·rintro ⟨⟨rfl,hk⟩,hl⟩
  obtain ⟨rfl,rfl⟩:=kn_bare (k:=1) (by rfl) hk
  exact IsUn.unit kids hl
theorem sh_d2 (t:List UInt8) (v:Int) (l:List Nd):shT (.mk 2 t v l)=[wd sSTRUCT,wd t,sg sLB]++(l.map shT).flatten++[sg sRB]:=by rw [shT_mk];simp [shK]
theorem sh_d4 (t:List UInt8) (v:Int) (l:List Nd) (x:Nd):shT (.mk 4 t v (l++[x]))=[wd sEXTERN]++(shT x++[wd t]++rowT (l.map shT) (decide (v=1)))++[sg sSEMI]:=by rw [shT_mk];simp [shK,lastT]
theorem sh_d5 (t:List UInt8) (v:Int) (x:Nd):shT (.mk 5 t v [x])=[wd sEXTERN]++(shT x++[wd t])++[sg sSEMI]:=by rw [shT_mk];simp [shK]
theorem sh_d6 (t:List UInt8) (v:Int) (x y:Nd) (h0:0≤v) (h1:v≤1):shT (.mk 6 t v [x,y])=(if v=1 then [wd sSTATIC] else [])++(shT x++[wd t])++[sg sEQ]++shT y++[sg sSEMI]:=by
 have:v=0∨v=1:=by omega
 rcases this with rfl|rfl<;>(rw [shT_mk];simp [shK,lastT])
theorem sh_d7 (t:List UInt8) (v:Int) (l:List Nd) (x c:Nd):shT (.mk 7 t v (l++[x]++[c]))=(if v % 2=1 then [wd sSTATIC] else [])++(shT x++[wd t]++rowT (l.map shT) (decide (2≤v)))++shT c:=by
 rw [shT_mk]
 have e1:lastT (l.map shT++[shT x,shT c])=shT c:=by simp [lastT]
 have e2:(l.map shT++[shT x,shT c]).dropLast=l.map shT++[shT x]:=by rw [show [shT x,shT c]=[shT x]++[shT c] from rfl,← List.append_assoc,List.dropLast_concat]
 have e3:lastT (l.map shT++[shT x])=shT x:=by simp [lastT]
 have e4:(l.map shT++[shT x]).dropLast=l.map shT:=List.dropLast_concat
 have e0:(l++[x]++[c]).map shT=l.map shT++[shT x,shT c]:=by simp
 rw [e0]
 unfold shK
 rw [if_neg (by decide),if_neg (by decide),if_neg (by decide),if_neg (by decide),if_neg (by decide),if_neg (by decide),if_pos rfl,e1,e2,e3,e4]
 simp
theorem sh_u (t:List UInt8) (v:Int) (l:List Nd):shT (.mk 1 t v l)=(l.map shT).flatten:=by rw [shT_mk];simp [shK]
def DeN (w0:World) (n:Nd):Prop:=∀ (b:Nat) (w:World) (T:List (List UInt8)) (v:Value),Pt w0 w b T→NdO w0 n v→T.length+tb n≤1000000000000→Calls Tryz.prog 56 #[.pointer (some ⟨b,0,none⟩),v] w (PostP (IsDe n) w0 w b T (shT n))
theorem static_post {w0 w:World} {b:Nat} {T:List (List UInt8)} (hP:Pt w0 w b T) (st:Int) (hT:T.length+1≤1000000000000):Calls Tryz.prog 80 #[.pointer (some ⟨b,0,none⟩),.int .i64 st] w (PostP True w0 w b T (if st=1 then [wd sSTATIC] else [])):=
 (static_any hP st hT).mono fun e w' ⟨h1,h2,h3⟩=>Or.inl ⟨trivial,h1,h2,h3⟩
theorem structure_any {w0:World} (hG:Gl w0) (text:List UInt8) (num:Int) (kids:List Nd) {w:World} {b:Nat} {T:List (List UInt8)} (hP:Pt w0 w b T) (ka:Option Addr) (kc:Nat) (hR:RowO w0 ka kids) (hk:knB 2 text num kids.length=true) (hc:cntL kids≤700) (hT:T.length+tbL kids+6≤1000000000000):
  Calls Tryz.prog 76 #[.pointer (some ⟨b,0,none⟩),.agg #[.int .i64 2,.string (str text),.int .i64 num,.slice ka kids.length kc]] w (PostP (IsDe (.mk 2 text num kids)) w0 w b T (shT (.mk 2 text num kids))):=by
 have hl7:kids.length≤700:=Nat.le_trans (len_cnt kids) hc
 have HI:=hide (de2 hk)
 have HR:=hide hR
 have HG:=hide hG
 have HP0:Hid (Pt w0 (w.alloc (.cells #[.int .i64 2,.string (str text),.int .i64 num,.slice ka kids.length kc] 24)) b T):=hP.alloc _
 have HS0:Hid (St w (w.alloc (.cells #[.int .i64 2,.string (str text),.int .i64 num,.slice ka kids.length kc] 24))):=St.alloc _ _
 have HN0:=hide (heap_new w #[.int .i64 2,.string (str text),.int .i64 num,.slice ka kids.length kc] 24)
 clear hP hR hk hG
 go_enter Tryz.func76,Tryz.ntmps76
 go_wp2_with fail
 go_at_call 77
 refine (add_new HP0.out [sSTRUCT,text,sLB] _ rfl 3 rfl (by omega) (by (try simp only [List.length_append,List.length_cons,List.length_nil,txs_len]);omega) _ (by simp)).mono ?_
 rintro e w1 ⟨rfl,hP1,hS1⟩
 have HP1:=hide hP1
 have HS1:=hide (HS0.out.trans hS1)
 have hn1:=hS1.node HN0.out
 have HN1:=hide ((hS1.nodes _ _ _ HN0.out).trans HN0.out)
 clear hP1 hS1
 go_wp2_with fail
 go_loopw [14] (fun i wr=>∃ j:Nat,j≤kids.length∧i=.int .i64 j∧Hid (Pt w0 wr b ((T++[sSTRUCT,text,sLB])++txs ((kids.take j).map shT).flatten))∧Hid (St w wr)∧Hid (∀ x,x∈kids.take j→IsFi x)) (fun i _=>kids.length - (intOf i).toNat)
 case atStart=>exact ⟨0,Nat.zero_le _,rfl,by simpa [Hid,txs] using HP1.out,HS1.out,fun x hx=>by simp at hx⟩
 case round=>
  obtain ⟨j,hj,rfl,HPj,HSj,HAj⟩:=hrel
  by_cases hlt:j<kids.length
  ·have hlt':(j:Int)<kids.length:=by omega
   have hidx:(0:Int)≤j∧(j:Int)<kids.length:=by omega
   obtain ⟨g,o,rfl,hg,hcs⟩:=HR.out (fun e=>by rw [e] at hlt;simp at hlt)
   obtain ⟨k0,x0,n0,a0,m0,c0,q0,q1,q2,q3,hnd⟩:=hcs j hlt
   have hbz:=HPj.out.base
   have e0:=below_cell hbz q0
   have e1:=below_cell hbz q1
   have e2:=below_cell hbz q2
   have e3:=below_cell hbz q3
   have HN:=hide hnd
   have HTj:Hid ((txs ((kids.take j).map shT).flatten).length+tb kids[j]≤tbL kids):=by
    show _≤_
    have h1:=flatL_tb (kids.take j)
    have h2:=tbL_take hlt
    rw [txs_len]
    omega
   have HNo:Hid (¬ IsFi kids[j]→¬ ∀ x,x∈kids→IsFi x):=fun hn hall=>hn (hall _ (List.getElem_mem hlt))
   clear q0 q1 q2 q3 hcs hnd hbz
   have HPa:Hid (Pt w0 (wr.alloc (.cells #[.int .i64 k0,.string x0,.int .i64 n0,.slice a0 m0 c0] 24)) b ((T++[sSTRUCT,text,sLB])++txs ((kids.take j).map shT).flatten)):=HPj.out.alloc _
   have HSa:Hid (St w (wr.alloc (.cells #[.int .i64 k0,.string x0,.int .i64 n0,.slice a0 m0 c0] 24))):=HSj.out.trans (St.alloc _ _)
   have HNa:=hide (heap_new wr #[.int .i64 k0,.string x0,.int .i64 n0,.slice a0 m0 c0] 24)
   obtain ⟨fk,ft,fv,fkids,hfe⟩:∃ fk ft fv fkids,kids[j]=.mk fk ft fv fkids:=⟨(kids[j]).kind,(kids[j]).text,(kids[j]).num,(kids[j]).kids,by cases kids[j];rfl⟩
   have hnd2:=HN.out
   rw [hfe] at hnd2
   obtain ⟨ka2,kc2,hvv,s1,s2,s3,s4,s5,hR2⟩:=hnd2.part
   obtain ⟨rfl,rfl,rfl,rfl,rfl,rfl⟩:k0=fk∧x0=str ft∧n0=fv∧a0=ka2∧m0=fkids.length∧c0=kc2:=by simpa using hvv
   have hcf:cnt (.mk k0 ft n0 fkids)≤700:=by rw [← hfe];have:=cnt_mem (List.getElem_mem hlt);omega
   rw [cnt_mk] at hcf
   have hfl:fkids.length≤700:=Nat.le_trans (len_cnt fkids) (by omega)
   have HFk:=hide (fi_kn (k:=k0) (t:=ft) (v:=n0) hfl)
   have HFe:=hide hfe
   have HR2:=hide hR2
   have hkn:=knowKind_any k0 ft n0 a0 fkids.length c0 3 _ ((HG.out.below HPj.out.base).below ((Below.refl _ _).alloc (Nat.le_refl _) (.cells #[.int .i64 k0,.string (str ft),.int .i64 n0,.slice a0 fkids.length c0] 24))) s1 (by omega)
   have HTf:Hid (tb (.mk k0 ft n0 fkids)+(txs ((kids.take j).map shT).flatten).length≤tbL kids):=by show _≤_;rw [← hfe];have:=HTj.out;omega
   clear hnd2 hvv hR2 hfe
   go_wp2_with fail
   go_at_call 55
   refine hkn.mono ?_
   rintro e w7 ⟨⟨hk0,hk,rfl⟩|⟨hk,rfl⟩,hb7⟩
   rotate_left
   ·exact ⟨rfl,PostP.no (fun h=>HNo.out (fun hf=>by rw [HFe.out] at hf;exact hk (HFk.out.1 hf).1) (HI.out.1 h)) (HPa.out.below hb7).base⟩
   subst hk0
   have HP7:=hide (HPa.out.below hb7)
   have HS7:=hide (HSa.out.trans (St.below hb7))
   have hn7:=(St.below hb7).node HNa.out
   obtain ⟨fx,rfl⟩:=kn_one (k:=3) (by rfl) hk
   have HI3:Hid (IsFi kids[j] ↔ IsTy fx):=by
    show _ ↔ _
    rw [HFe.out,HFk.out]
    constructor
    ·rintro ⟨_,y,e,hy⟩;rw [List.cons.inj e |>.1];exact hy
    ·intro h;exact ⟨⟨rfl,hk⟩,fx,rfl,h⟩
   have hcx:cnt fx≤700:=by rw [cntL_cons] at hcf;omega
   have HTx:Hid (T.length+3+(txs ((kids.take j).map shT).flatten).length+2*tb fx+12≤1000000000000):=by have:=HTf.out;rw [tb_mk,tbL_cons,tbL_nil] at this;simp only [List.length_cons,List.length_nil] at this;show _≤_;omega
   have HLx:=hide (sh_tb fx)
   clear hk hb7 hkn hcf hfl
   go_wp2_with fail
   go_at_call 79
   refine (typed_any HG.out HP7.out 3 ft n0 fx [] a0 1 c0 HR2.out (by omega) hcx (by have:=HTx.out;simp only [List.length_append,List.length_cons,List.length_nil];omega)).mono ?_
   rintro e w8 (⟨hp,rfl,hP8,hS8⟩|⟨hp,rfl,hB8⟩)
   rotate_left
   ·exact ⟨rfl,PostP.no (fun h=>HNo.out (fun hf=>hp (HI3.out.1 hf)) (HI.out.1 h)) hB8⟩
   have HP8:=hide hP8
   have HS8:=hide (HS7.out.trans hS8)
   have HA8:=hide (HI3.out.2 hp)
   clear hP8 hS8 hp
   go_wp2_with fail
   go_at_call 77
   refine (add_new HP8.out [sSEMI] _ rfl 1 rfl (by omega) (by have:=HTx.out;have:=HLx.out;simp only [List.length_append,List.length_cons,List.length_nil,txs_len] at *;omega) _ (by simp)).mono ?_
   rintro e w9 ⟨rfl,hP9,hS9⟩
   have HP9:Hid (Pt w0 w9 b ((T++[sSTRUCT,text,sLB])++txs ((kids.take (j+1)).map shT).flatten)):=by
    show Pt _ _ _ _
    rw [flat_take kids j hlt,txs_app,HFe.out,sh_field]
    simpa [txs_app,txs_cons,raw_wd,raw_sg,txs1,txsg,show txs []=[] from rfl] using hP9
   have HS9:=hide (HS8.out.trans hS9)
   have HA9:=hide (all_take hlt HAj.out HA8.out)
   clear hP9 hS9
   go_wp2_with fail
   go_roundw
   case rel=>exact ⟨j+1,by omega,by go_num,HP9,HS9,HA9⟩
   case measure=>simp [intOf];omega
  ·obtain rfl:j=kids.length:=by omega
   have hlt':¬ (kids.length:Int)<kids.length:=by omega
   have HPe:Hid (Pt w0 wr b ((T++[sSTRUCT,text,sLB])++txs (kids.map shT).flatten)):=by have:=HPj.out;rw [List.take_length] at this;exact this
   have HAe:Hid (∀ x,x∈kids→IsFi x):=by have:=HAj.out;rw [List.take_length] at this;exact this
   clear HPj HAj
   have HFl:=hide (flatL_tb kids)
   go_wp2_with fail
   go_at_call 77
   refine (add_new HPe.out [sRB] _ rfl 1 rfl (by omega) (by have:=HFl.out;simp only [List.length_append,List.length_cons,List.length_nil,txs_len];omega) _ (by simp)).mono ?_
   rintro e w9 ⟨rfl,hP9,hS9⟩
   have HP9:=hide hP9
   have HS9:=hide (HSj.out.trans hS9)
   clear hP9 hS9
   go_wp2_with fail
   go_end0
   exact PostP.ok (HI.out.2 HAe.out) (HP9.out.app' (by rw [sh_d2];simp [txs_app,txs_cons,raw_wd,raw_sg,txs1,txsg,show txs []=[] from rfl])) HS9.out
end Go.Proofs.YthcfianhdkolhaaGreatDoor.T
