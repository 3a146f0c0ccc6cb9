/- PrL -/
import Derived.Test.YthcfianhdkolhaaGreatDoorShelf
import Derived.Test.YthcfianhdkolhaaGreatDoorPrK
namespace Go.Proofs.YthcfianhdkolhaaGreatDoor.T
open Go.RowKit Go.Proofs.YthcfianhdkolhaaGreatDoor.S
set_option maxRecDepth 100000
set_option maxHeartbeats 2000000
set_option linter.unusedVariables false
set_option linter.unusedSimpArgs false
theorem decl_k2 {w0:World} (hG:Gl w0) (hTb:TabW w0) (text:List UInt8) (num:Int) (kids:List Nd) (hn7:cntL kids≤700):DeN w0 (.mk 2 text num kids):=by
 intro b w T v hP hv hT
 have hk7:kids.length≤700:=Nat.le_trans (len_cnt kids) hn7
 rw [tb_mk] at hT
 obtain ⟨ka,kc,rfl,t1,n1,n2,l1,l2,hR⟩:=hv.part
 have HR:=hide hR
 have HG:=hide hG
 have HTb:=hide hTb
 have HNk:Hid (knB 2 text num kids.length=false→¬ IsDe (.mk 2 text num kids)):=fun hk h=>by
  have hi:=(de_is h).2
  rw [isN_iff,loc_kn hk7 n2,hk] at hi
  exact absurd hi.1.1 (by decide)
 have HP0:Hid (Pt w0 (w.alloc (.cells #[.int .i64 2,.string (str text),.int .i64 num,.slice ka kids.length kc] 24)) b T):=hP.alloc _
 have HS0:Hid (St w (w.alloc (.cells #[.int .i64 2,.string (str text),.int .i64 num,.slice ka kids.length kc] 24))):=St.alloc _ _
 have HN0:=hide (heap_new w #[.int .i64 2,.string (str text),.int .i64 num,.slice ka kids.length kc] 24)
 have hkn:=know_any 2 text num ka kids.length kc _ ((hG.below hP.base).below ((Below.refl _ _).alloc (Nat.le_refl _) (.cells #[.int .i64 2,.string (str text),.int .i64 num,.slice ka kids.length kc] 24))) t1 (by omega)
 clear hP hv hR hG hTb
 go_enter Tryz.func56,Tryz.ntmps56
 go_wp2_with fail
 go_at_call 75
 refine hkn.mono ?_
 rintro e w1 ⟨⟨hk,rfl⟩|⟨hk,rfl⟩,hb1⟩
 rotate_left
 ·exact ⟨rfl,PostP.no (HNk.out hk) (HP0.out.below hb1).base⟩
 have HK:=hide hk
 have HP1:=hide (HP0.out.below hb1)
 have HS1:=hide (HS0.out.trans (St.below hb1))
 have hn1:=(St.below hb1).node HN0.out
 have HN1:=hide (((St.below hb1).nodes _ _ _ HN0.out).trans HN0.out)
 clear hk hb1 hkn HP0 HS0 HN0 HNk
 go_wp2_with fail
 go_at_call 76
 refine (structure_any HG.out text num kids HP1.out ka kc HR.out HK.out hn7 (by omega)).mono ?_
 rintro e w2 (⟨hp2,rfl,hP2,hS2⟩|⟨hp2,rfl,hB2⟩)
 rotate_left
 ·exact ⟨rfl,PostP.no (hp2) hB2⟩
 have HA2:=hide hp2
 have HP2:=hide hP2
 have HS2:=hide (HS1.out.trans hS2)
 have hn2:=hS2.node HN1.out
 have HN2:=hide ((hS2.nodes _ _ _ HN1.out).trans HN1.out)
 clear hp2 hP2 hS2 hn1
 go_wp2_with fail
 go_end0
 exact PostP.ok HA2.out (HP2.out.app' rfl) HS2.out
theorem decl_k4 {w0:World} (hG:Gl w0) (hTb:TabW w0) (text:List UInt8) (num:Int) (kids:List Nd) (hn7:cntL kids≤700):DeN w0 (.mk 4 text num kids):=by
 intro b w T v hP hv hT
 have hk7:kids.length≤700:=Nat.le_trans (len_cnt kids) hn7
 rw [tb_mk] at hT
 obtain ⟨ka,kc,rfl,t1,n1,n2,l1,l2,hR⟩:=hv.part
 have HR:=hide hR
 have HG:=hide hG
 have HTb:=hide hTb
 have HNk:Hid (knB 4 text num kids.length=false→¬ IsDe (.mk 4 text num kids)):=fun hk h=>by
  have hi:=(de_is h).2
  rw [isN_iff,loc_kn hk7 n2,hk] at hi
  exact absurd hi.1.1 (by decide)
 have HP0:Hid (Pt w0 (w.alloc (.cells #[.int .i64 4,.string (str text),.int .i64 num,.slice ka kids.length kc] 24)) b T):=hP.alloc _
 have HS0:Hid (St w (w.alloc (.cells #[.int .i64 4,.string (str text),.int .i64 num,.slice ka kids.length kc] 24))):=St.alloc _ _
 have HN0:=hide (heap_new w #[.int .i64 4,.string (str text),.int .i64 num,.slice ka kids.length kc] 24)
 have hkn:=know_any 4 text num ka kids.length kc _ ((hG.below hP.base).below ((Below.refl _ _).alloc (Nat.le_refl _) (.cells #[.int .i64 4,.string (str text),.int .i64 num,.slice ka kids.length kc] 24))) t1 (by omega)
 clear hP hv hR hG hTb
 go_enter Tryz.func56,Tryz.ntmps56
 go_wp2_with fail
 go_at_call 75
 refine hkn.mono ?_
 rintro e w1 ⟨⟨hk,rfl⟩|⟨hk,rfl⟩,hb1⟩
 rotate_left
 ·exact ⟨rfl,PostP.no (HNk.out hk) (HP0.out.below hb1).base⟩
 have HK:=hide hk
 have HP1:=hide (HP0.out.below hb1)
 have HS1:=hide (HS0.out.trans (St.below hb1))
 have hn1:=(St.below hb1).node HN0.out
 have HN1:=hide (((St.below hb1).nodes _ _ _ HN0.out).trans HN0.out)
 clear hk hb1 hkn HP0 HS0 HN0 HNk
 obtain ⟨l,x,rfl⟩:=last_form (kids:=kids) (by have h5:(1:Int)≤kids.length:=(kn_iff.1 HK.out).2.2.2.2.1;omega)
 have HI:=hide (de4 (l:=l) (x:=x) HK.out)
 have HTx:Hid (T.length+tbL (l++[x])+l.length+12≤1000000000000):=by rw [List.length_append] at hT;simp only [List.length_cons,List.length_nil] at hT;show _≤_;omega
 have HLl:Hid ((shT x++[wd text]++rowT (l.map shT) (decide (num=1))).length≤tbL (l++[x])+l.length+5):=by
  show _≤_
  have h1:=sh_tb x
  have h2:=row_sum (l.map shT) (decide (num=1))
  have h3:=flatL_tb l
  rw [flat_sum] at h3
  rw [tbL_app,tbL_cons,tbL_nil]
  simp only [List.length_append,List.length_cons,List.length_nil,List.length_map] at *
  omega
 have hkc:l.length+1≤kc:=by rw [List.length_append] at l1;simpa using l1
 have HR2:=hide HR.out
 clear hT l1 hk7
 go_wp2_with fail
 go_at_call 77
 refine (add_new HP1.out [sEXTERN] _ rfl 1 rfl (by omega) (by have:=HTx.out;(try simp only [List.length_append,List.length_cons,List.length_nil,txs_len]);omega) _ (by simp)).mono ?_
 rintro e w2 ⟨rfl,hP2,hS2⟩
 have HP2:=hide hP2
 have HS2:=hide (HS1.out.trans hS2)
 have hn2:=hS2.node HN1.out
 have HN2:=hide ((hS2.nodes _ _ _ HN1.out).trans HN1.out)
 clear hP2 hS2 hn1
 go_wp2_with fail
 go_at_call 78
 refine (function_any HG.out HP2.out l x ka kc text num HR2.out hkc (by omega) hn7 (by have:=HTx.out;(try simp only [List.length_append,List.length_cons,List.length_nil,txs_len]);omega)).mono ?_
 rintro e w3 (⟨hp3,rfl,hP3,hS3⟩|⟨hp3,rfl,hB3⟩)
 rotate_left
 ·exact ⟨rfl,PostP.no (fun h=>hp3 (HI.out.1 h)) hB3⟩
 have HA3:=hide hp3
 have HP3:=hide hP3
 have HS3:=hide (HS2.out.trans hS3)
 have hn3:=hS3.node HN2.out
 have HN3:=hide ((hS3.nodes _ _ _ HN2.out).trans HN2.out)
 clear hp3 hP3 hS3 hn2
 go_wp2_with fail
 go_at_call 77
 refine (add_new HP3.out [sSEMI] _ rfl 1 rfl (by omega) (by have:=HTx.out;have:=HLl.out;simp only [List.length_append,List.length_cons,List.length_nil,txs_len] at *;omega) _ (by simp)).mono ?_
 rintro e w4 ⟨rfl,hP4,hS4⟩
 have HP4:=hide hP4
 have HS4:=hide (HS3.out.trans hS4)
 clear hP4 hS4
 go_wp2_with fail
 go_end0
 exact PostP.ok (HI.out.2 HA3.out) (HP4.out.app' (by rw [sh_d4];simp [txs_app,txs_cons,raw_wd,raw_sg,txs1,txsg,show txs []=[] from rfl])) HS4.out
theorem decl_k5 {w0:World} (hG:Gl w0) (hTb:TabW w0) (text:List UInt8) (num:Int) (kids:List Nd) (hn7:cntL kids≤700):DeN w0 (.mk 5 text num kids):=by
 intro b w T v hP hv hT
 have hk7:kids.length≤700:=Nat.le_trans (len_cnt kids) hn7
 rw [tb_mk] at hT
 obtain ⟨ka,kc,rfl,t1,n1,n2,l1,l2,hR⟩:=hv.part
 have HR:=hide hR
 have HG:=hide hG
 have HTb:=hide hTb
 have HNk:Hid (knB 5 text num kids.length=false→¬ IsDe (.mk 5 text num kids)):=fun hk h=>by
  have hi:=(de_is h).2
  rw [isN_iff,loc_kn hk7 n2,hk] at hi
  exact absurd hi.1.1 (by decide)
 have HP0:Hid (Pt w0 (w.alloc (.cells #[.int .i64 5,.string (str text),.int .i64 num,.slice ka kids.length kc] 24)) b T):=hP.alloc _
 have HS0:Hid (St w (w.alloc (.cells #[.int .i64 5,.string (str text),.int .i64 num,.slice ka kids.length kc] 24))):=St.alloc _ _
 have HN0:=hide (heap_new w #[.int .i64 5,.string (str text),.int .i64 num,.slice ka kids.length kc] 24)
 have hkn:=know_any 5 text num ka kids.length kc _ ((hG.below hP.base).below ((Below.refl _ _).alloc (Nat.le_refl _) (.cells #[.int .i64 5,.string (str text),.int .i64 num,.slice ka kids.length kc] 24))) t1 (by omega)
 clear hP hv hR hG hTb
 go_enter Tryz.func56,Tryz.ntmps56
 go_wp2_with fail
 go_at_call 75
 refine hkn.mono ?_
 rintro e w1 ⟨⟨hk,rfl⟩|⟨hk,rfl⟩,hb1⟩
 rotate_left
 ·exact ⟨rfl,PostP.no (HNk.out hk) (HP0.out.below hb1).base⟩
 have HK:=hide hk
 have HP1:=hide (HP0.out.below hb1)
 have HS1:=hide (HS0.out.trans (St.below hb1))
 have hn1:=(St.below hb1).node HN0.out
 have HN1:=hide (((St.below hb1).nodes _ _ _ HN0.out).trans HN0.out)
 clear hk hb1 hkn HP0 HS0 HN0 HNk
 obtain ⟨x,rfl⟩:=kn_one (k:=5) (by rfl) HK.out
 have HI:=hide (de5 (x:=x) HK.out)
 have HLx:=hide (sh_tb x)
 have hcx:cnt x≤700:=by rw [cntL_cons] at hn7;omega
 have HTx:Hid (T.length+2*tb x+12≤1000000000000):=by simp only [tbL_cons,tbL_nil,List.length_cons,List.length_nil] at hT;show _≤_;omega
 have hRo:=HR.out
 clear hT
 go_wp2_with fail
 go_at_call 77
 refine (add_new HP1.out [sEXTERN] _ rfl 1 rfl (by omega) (by have:=HTx.out;have:=HLx.out;(try simp only [List.length_append,List.length_cons,List.length_nil,txs_len]);omega) _ (by simp)).mono ?_
 rintro e w2 ⟨rfl,hP2,hS2⟩
 have HP2:=hide hP2
 have HS2:=hide (HS1.out.trans hS2)
 have hn2:=hS2.node HN1.out
 have HN2:=hide ((hS2.nodes _ _ _ HN1.out).trans HN1.out)
 clear hP2 hS2 hn1
 go_wp2_with fail
 go_at_call 79
 refine (typed_any HG.out HP2.out 5 text num x [] ka 1 kc hRo (by omega) hcx (by have:=HTx.out;have:=HLx.out;(try simp only [List.length_append,List.length_cons,List.length_nil,txs_len]);omega)).mono ?_
 rintro e w3 (⟨hp3,rfl,hP3,hS3⟩|⟨hp3,rfl,hB3⟩)
 rotate_left
 ·exact ⟨rfl,PostP.no (fun h=>hp3 (HI.out.1 h)) hB3⟩
 have HA3:=hide hp3
 have HP3:=hide hP3
 have HS3:=hide (HS2.out.trans hS3)
 have hn3:=hS3.node HN2.out
 have HN3:=hide ((hS3.nodes _ _ _ HN2.out).trans HN2.out)
 clear hp3 hP3 hS3 hn2
 go_wp2_with fail
 go_at_call 77
 refine (add_new HP3.out [sSEMI] _ rfl 1 rfl (by omega) (by have:=HTx.out;have:=HLx.out;(try simp only [List.length_append,List.length_cons,List.length_nil,txs_len]);omega) _ (by simp)).mono ?_
 rintro e w4 ⟨rfl,hP4,hS4⟩
 have HP4:=hide hP4
 have HS4:=hide (HS3.out.trans hS4)
 have hn4:=hS4.node HN3.out
 have HN4:=hide ((hS4.nodes _ _ _ HN3.out).trans HN3.out)
 clear hP4 hS4 hn3
 go_wp2_with fail
 go_end0
 exact PostP.ok (HI.out.2 HA3.out) (HP4.out.app' (by rw [sh_d5];simp [txs_app,txs_cons,raw_wd,raw_sg,txs1,txsg,show txs []=[] from rfl])) HS4.out
theorem decl_k6 {w0:World} (hG:Gl w0) (hTb:TabW w0) (text:List UInt8) (num:Int) (kids:List Nd) (hn7:cntL kids≤700):DeN w0 (.mk 6 text num kids):=by
 intro b w T v hP hv hT
 have hk7:kids.length≤700:=Nat.le_trans (len_cnt kids) hn7
 rw [tb_mk] at hT
 obtain ⟨ka,kc,rfl,t1,n1,n2,l1,l2,hR⟩:=hv.part
 have HR:=hide hR
 have HG:=hide hG
 have HTb:=hide hTb
 have HNk:Hid (knB 6 text num kids.length=false→¬ IsDe (.mk 6 text num kids)):=fun hk h=>by
  have hi:=(de_is h).2
  rw [isN_iff,loc_kn hk7 n2,hk] at hi
  exact absurd hi.1.1 (by decide)
 have HP0:Hid (Pt w0 (w.alloc (.cells #[.int .i64 6,.string (str text),.int .i64 num,.slice ka kids.length kc] 24)) b T):=hP.alloc _
 have HS0:Hid (St w (w.alloc (.cells #[.int .i64 6,.string (str text),.int .i64 num,.slice ka kids.length kc] 24))):=St.alloc _ _
 have HN0:=hide (heap_new w #[.int .i64 6,.string (str text),.int .i64 num,.slice ka kids.length kc] 24)
 have hkn:=know_any 6 text num ka kids.length kc _ ((hG.below hP.base).below ((Below.refl _ _).alloc (Nat.le_refl _) (.cells #[.int .i64 6,.string (str text),.int .i64 num,.slice ka kids.length kc] 24))) t1 (by omega)
 clear hP hv hR hG hTb
 go_enter Tryz.func56,Tryz.ntmps56
 go_wp2_with fail
 go_at_call 75
 refine hkn.mono ?_
 rintro e w1 ⟨⟨hk,rfl⟩|⟨hk,rfl⟩,hb1⟩
 rotate_left
 ·exact ⟨rfl,PostP.no (HNk.out hk) (HP0.out.below hb1).base⟩
 have HK:=hide hk
 have HP1:=hide (HP0.out.below hb1)
 have HS1:=hide (HS0.out.trans (St.below hb1))
 have hn1:=(St.below hb1).node HN0.out
 have HN1:=hide (((St.below hb1).nodes _ _ _ HN0.out).trans HN0.out)
 clear hk hb1 hkn HP0 HS0 HN0 HNk
 obtain ⟨x,y,rfl⟩:=kn_two (k:=6) (by rfl) HK.out
 have HI:=hide (de6 (x:=x) (y:=y) HK.out)
 have HLx:=hide (sh_tb x)
 have HLy:=hide (sh_tb y)
 have hcx:cnt x≤700:=by rw [cntL_cons] at hn7;omega
 have HTx:Hid (T.length+2*tb x+2*tb y+15≤1000000000000):=by simp only [tbL_cons,tbL_nil,List.length_cons,List.length_nil] at hT;show _≤_;omega
 have HSt:Hid ((if num=1 then [wd sSTATIC] else []).length≤1):=by show _≤_;split<;>simp
 have HSh:Hid (shT (.mk 6 text num [x,y])=(if num=1 then [wd sSTATIC] else [])++(shT x++[wd text])++[sg sEQ]++shT y++[sg sSEMI]):=sh_d6 text num x y (kn_iff.1 HK.out).2.2.1 (kn_iff.1 HK.out).2.2.2.1
 generalize hsts:(if num=1 then [wd sSTATIC] else [])=sts at *
 have HSts:=hide hsts
 clear hsts
 have hRo:=HR.out
 have hix:(0:Int)≤1∧(1:Int)<2:=by omega
 clear hT
 obtain ⟨ga,oa,ka,xa,na,aa,ma,ca,hkaa,hga,qa0,qa1,qa2,qa3,hnda⟩:=hRo.kid0
 have Ha:=hide hnda
 have Ha0:=hide qa0
 have Ha1:=hide qa1
 have Ha2:=hide qa2
 have Ha3:=hide qa3
 clear qa0 qa1 qa2 qa3 hnda hga
 subst hkaa
 obtain ⟨kd,xd,nd,ad,md,cd,qd0,qd1,qd2,qd3,hndd⟩:=hRo.kid1
 have Hd:=hide hndd
 have Hd0:=hide qd0
 have Hd1:=hide qd1
 have Hd2:=hide qd2
 have Hd3:=hide qd3
 clear qd0 qd1 qd2 qd3 hndd
 go_wp2_with fail
 have hst:=static_post HP1.out num (by have:=HTx.out;omega)
 rw [HSts.out] at hst
 have HStp:=hide hst
 clear hst
 go_at_call 80
 refine (HStp.out).mono ?_
 rintro e w2 (⟨hp2,rfl,hP2,hS2⟩|⟨hp2,rfl,hB2⟩)
 rotate_left
 ·exact ⟨rfl,PostP.no (fun _=>hp2 trivial) hB2⟩
 have HA2:=hide hp2
 have HP2:=hide hP2
 have HS2:=hide (HS1.out.trans hS2)
 have hn2:=hS2.node HN1.out
 have HN2:=hide ((hS2.nodes _ _ _ HN1.out).trans HN1.out)
 clear hp2 hP2 hS2 hn1
 go_wp2_with fail
 go_at_call 79
 refine (typed_any HG.out HP2.out 6 text num x [y] _ 2 kc hRo (by omega) hcx (by have:=HTx.out;have:=HLx.out;have:=HLy.out;have:=HSt.out;(try simp only [List.length_append,List.length_cons,List.length_nil,txs_len]);omega)).mono ?_
 rintro e w3 (⟨hp3,rfl,hP3,hS3⟩|⟨hp3,rfl,hB3⟩)
 rotate_left
 ·exact ⟨rfl,PostP.no (fun h=>hp3 (HI.out.1 h).1) hB3⟩
 have HA3:=hide hp3
 have HP3:=hide hP3
 have HS3:=hide (HS2.out.trans hS3)
 have hn3:=hS3.node HN2.out
 have HN3:=hide ((hS3.nodes _ _ _ HN2.out).trans HN2.out)
 clear hp3 hP3 hS3 hn2
 go_wp2_with fail
 go_at_call 77
 refine (add_new HP3.out [sEQ] _ rfl 1 rfl (by omega) (by have:=HTx.out;have:=HLx.out;have:=HLy.out;have:=HSt.out;(try simp only [List.length_append,List.length_cons,List.length_nil,txs_len]);omega) _ (by simp)).mono ?_
 rintro e w4 ⟨rfl,hP4,hS4⟩
 have HP4:=hide hP4
 have HS4:=hide (HS3.out.trans hS4)
 have hn4:=hS4.node HN3.out
 have HN4:=hide ((hS4.nodes _ _ _ HN3.out).trans HN3.out)
 clear hP4 hS4 hn3
 have hb4:=HP4.out.base
 have ed4_0:=below_cell hb4 Hd0.out
 have ed4_1:=below_cell hb4 Hd1.out
 have ed4_2:=below_cell hb4 Hd2.out
 have ed4_3:=below_cell hb4 Hd3.out
 clear hb4
 go_wp2_with fail
 go_at_call 81
 refine (value_any HG.out HTb.out HP4.out y _ Hd.out (by have:=HTx.out;have:=HLx.out;have:=HLy.out;have:=HSt.out;(try simp only [List.length_append,List.length_cons,List.length_nil,txs_len]);omega)).mono ?_
 rintro e w5 (⟨hp5,rfl,hP5,hS5⟩|⟨hp5,rfl,hB5⟩)
 rotate_left
 ·exact ⟨rfl,PostP.no (fun h=>hp5 (HI.out.1 h).2) hB5⟩
 have HA5:=hide hp5
 have HP5:=hide hP5
 have HS5:=hide (HS4.out.trans hS5)
 have hn5:=hS5.node HN4.out
 have HN5:=hide ((hS5.nodes _ _ _ HN4.out).trans HN4.out)
 clear hp5 hP5 hS5 hn4
 go_wp2_with fail
 go_at_call 77
 refine (add_new HP5.out [sSEMI] _ rfl 1 rfl (by omega) (by have:=HTx.out;have:=HLx.out;have:=HLy.out;have:=HSt.out;(try simp only [List.length_append,List.length_cons,List.length_nil,txs_len]);omega) _ (by simp)).mono ?_
 rintro e w6 ⟨rfl,hP6,hS6⟩
 have HP6:=hide hP6
 have HS6:=hide (HS5.out.trans hS6)
 have hn6:=hS6.node HN5.out
 have HN6:=hide ((hS6.nodes _ _ _ HN5.out).trans HN5.out)
 clear hP6 hS6 hn5
 go_wp2_with fail
 go_end0
 exact PostP.ok (HI.out.2 ⟨HA3.out,HA5.out⟩) (HP6.out.app' (by rw [HSh.out];simp [txs_app,txs_cons,raw_wd,raw_sg,txs1,txsg,show txs []=[] from rfl])) HS6.out
theorem decl_k7_0 {w0:World} (hG:Gl w0) (hTb:TabW w0) (text:List UInt8) (kids:List Nd) (hn7:cntL kids≤700):DeN w0 (.mk 7 text 0 kids):=by
 intro b w T v hP hv hT
 have hk7:kids.length≤700:=Nat.le_trans (len_cnt kids) hn7
 rw [tb_mk] at hT
 obtain ⟨ka,kc,rfl,t1,n1,n2,l1,l2,hR⟩:=hv.part
 have HR:=hide hR
 have HG:=hide hG
 have HTb:=hide hTb
 have HNk:Hid (knB 7 text 0 kids.length=false→¬ IsDe (.mk 7 text 0 kids)):=fun hk h=>by
  have hi:=(de_is h).2
  rw [isN_iff,loc_kn hk7 n2,hk] at hi
  exact absurd hi.1.1 (by decide)
 have HP0:Hid (Pt w0 (w.alloc (.cells #[.int .i64 7,.string (str text),.int .i64 0,.slice ka kids.length kc] 24)) b T):=hP.alloc _
 have HS0:Hid (St w (w.alloc (.cells #[.int .i64 7,.string (str text),.int .i64 0,.slice ka kids.length kc] 24))):=St.alloc _ _
 have HN0:=hide (heap_new w #[.int .i64 7,.string (str text),.int .i64 0,.slice ka kids.length kc] 24)
 have hkn:=know_any 7 text 0 ka kids.length kc _ ((hG.below hP.base).below ((Below.refl _ _).alloc (Nat.le_refl _) (.cells #[.int .i64 7,.string (str text),.int .i64 0,.slice ka kids.length kc] 24))) t1 (by omega)
 clear hP hv hR hG hTb
 go_enter Tryz.func56,Tryz.ntmps56
 go_wp2_with fail
 go_at_call 75
 refine hkn.mono ?_
 rintro e w1 ⟨⟨hk,rfl⟩|⟨hk,rfl⟩,hb1⟩
 rotate_left
 ·exact ⟨rfl,PostP.no (HNk.out hk) (HP0.out.below hb1).base⟩
 have HK:=hide hk
 have HP1:=hide (HP0.out.below hb1)
 have HS1:=hide (HS0.out.trans (St.below hb1))
 have hn1:=(St.below hb1).node HN0.out
 have HN1:=hide (((St.below hb1).nodes _ _ _ HN0.out).trans HN0.out)
 clear hk hb1 hkn HP0 HS0 HN0 HNk
 have hkl:2≤kids.length:=by
  have h5:(2:Int)≤kids.length:=(kn_iff.1 HK.out).2.2.2.2.1
  omega
 obtain ⟨l,x,c,hkx⟩:=last2_form hkl
 have HX:=hide hkx
 have hll:kids.length=l.length+2:=by rw [hkx];simp
 have htb:tbL kids=tbL (l++[x])+tb c:=by rw [hkx,tbL_app,tbL_cons,tbL_nil];omega
 have hcn:cntL kids=cntL (l++[x])+cnt c:=by rw [hkx,cntL_app,cntL_cons,cntL_nil];omega
 have HI:Hid (IsDe (.mk 7 text 0 kids) ↔ (IsTy x∧∀ y,y∈l→IsPa y)∧IsBl c):=by show _ ↔ _;rw [hkx];exact de7 HK.out
 obtain ⟨g,o,k0,x0,n0,a0,m0,c0,rfl,hg,q0,q1,q2,q3,hnd⟩:=HR.out.kid (l.length+1) (by omega)
 have HN:Hid (NdO w0 c (.agg #[.int .i64 k0,.string x0,.int .i64 n0,.slice a0 m0 c0])):=by
  have e:kids[l.length+1]'(by omega)=c:=by simp [hkx]
  rw [e] at hnd
  exact hnd
 have HQ0:=hide q0
 have HQ1:=hide q1
 have HQ2:=hide q2
 have HQ3:=hide q3
 have HRl:Hid (RowO w0 (some ⟨g,o,none⟩) (l++[x])):=by
  have:=HR.out.take (l++[x]).length
  rw [hkx,List.take_left] at this
  exact this
 have hww:IntKind.i64.wrap ((kids.length:Int) - 1)=(l.length:Int)+1:=by rw [IntKind.wrap_i64];omega
 have hsl:(0:Int)≤(l.length:Int)+1∧(l.length:Int)+1≤kc:=by omega
 have hix:(0:Int)≤(l.length:Int)+1∧(l.length:Int)+1<kids.length:=by omega
 have hnn:((l.length:Int)+1).toNat=l.length+1:=by omega
 have HCl:Hid (cntL (l++[x])≤700):=by show _≤_;omega
 have HBc:=hide (block_all HG.out HTb.out c (by omega))
 have HTx:Hid (T.length+tbL (l++[x])+tb c+l.length+14≤1000000000000):=by show _≤_;omega
 have HLl:Hid ((shT x++[wd text]++rowT (l.map shT) (decide ((0:Int)=1))).length≤tbL (l++[x])+l.length+5):=by
  show _≤_
  have h1:=sh_tb x
  have h2:=row_sum (l.map shT) (decide ((0:Int)=1))
  have h3:=flatL_tb l
  rw [flat_sum] at h3
  rw [tbL_app,tbL_cons,tbL_nil]
  simp only [List.length_append,List.length_cons,List.length_nil,List.length_map] at *
  omega
 have HSh:Hid (shT (.mk 7 text 0 kids)=[]++(shT x++[wd text]++rowT (l.map shT) (decide ((0:Int)=1)))++shT c):=by
  show _=_
  rw [hkx,sh_d7]
  rfl
 have hkc:l.length+1≤kc:=by omega
 have HLn:Hid (kids.length=l.length+2):=hll
 clear hkx q0 q1 q2 q3 hnd hkl hll htb hcn hT l1 hk7 hn7 HR
 have hst:=static_post HP1.out 0 (by have:=HTx.out;omega)
 rw [if_neg (by decide)] at hst
 have HStp:=hide hst
 clear hst
 go_wp2_with fail
 go_at_call 80
 refine (HStp.out).mono ?_
 rintro e w2 (⟨hp2,rfl,hP2,hS2⟩|⟨hp2,rfl,hB2⟩)
 rotate_left
 ·exact ⟨rfl,PostP.no (fun _=>hp2 trivial) hB2⟩
 have HA2:=hide hp2
 have HP2:=hide hP2
 have HS2:=hide (HS1.out.trans hS2)
 have hn2:=hS2.node HN1.out
 have HN2:=hide ((hS2.nodes _ _ _ HN1.out).trans HN1.out)
 clear hp2 hP2 hS2 hn1
 go_wp2_with fail
 have HSd:Hid (∀ w',St w2 w'→(fun w'=>∀ oo,w'.cell? ⟨w.heap.size,oo,none⟩=(#[Value.int .i64 7,.string (str text),.int .i64 0,.slice (some ⟨g,o,none⟩) kids.length kc])[oo]?) w'):=fun w' hw=>hw.node HN2.out
 refine wp_region_held_drew (S:=(fun w'=>∀ oo,w'.cell? ⟨w.heap.size,oo,none⟩=(#[Value.int .i64 7,.string (str text),.int .i64 0,.slice (some ⟨g,o,none⟩) kids.length kc])[oo]?)) (by kernel_rfl) (HSd.out _ (St.drew w2)) (fun hHeld=>?_)
 refine tq 0 ?_
 simp only [qq]
 refine tq 1 ?_
 simp only [qq]
 refine tq 2 ?_
 simp only [qq]
 refine tq 3 ?_
 simp only [qq]
 refine tq 4 ?_
 simp only [qq]
 refine tq 5 ?_
 simp only [qq]
 refine tq 6 ?_
 simp only [qq]
 refine tq 7 ?_
 simp only [qq]
 refine tq 8 ?_
 simp only [qq]
 refine tq 9 ?_
 simp only [qq]
 refine rq 10 fun K hK=>?_
 go_simp
 refine (function_any HG.out (HP2.out.drew) l x _ kc text 0 HRl.out hkc (by omega) HCl.out (by have:=HTx.out;have:=HLl.out;(try simp only [List.length_append,List.length_cons,List.length_nil,txs_len]);omega)).mono ?_
 rintro e w3 (⟨hp,rfl,hP3,hS3⟩|⟨hp,rfl,hB3⟩)
 rotate_left
 ·exact ⟨rfl,PostP.no (fun h=>hp (HI.out.1 h).1) hB3⟩
 have hst:=(St.drew w2).trans hS3
 refine hK.out _ _ (HSd.out _ hst) (fun hHeld1=>?_)
 clear hK K
 refine wpAnyH_done (by kernel_rfl) ?_ _
 have HA3:=hide hp
 have HP3:=hide hP3
 have HS3:=hide (HS2.out.trans hst)
 have hn3:=hst.node HN2.out
 have hb3:=hP3.base
 have e0:=below_cell hb3 HQ0.out
 have e1:=below_cell hb3 HQ1.out
 have e2:=below_cell hb3 HQ2.out
 have e3:=below_cell hb3 HQ3.out
 clear hp hP3 hS3 hst hn2 hHeld hHeld1 hb3 HSd
 go_wp2_with fail
 go_at_call 82
 refine (HBc.out b w3 _ _ HP3.out HN.out (by have:=HTx.out;have:=HLl.out;simp only [List.length_append,List.length_cons,List.length_nil,txs_len] at *;omega)).mono ?_
 rintro e w4 (⟨hp,rfl,hP4,hS4⟩|⟨hp,rfl,hB4⟩)
 rotate_left
 ·exact ⟨rfl,PostP.no (fun h=>hp (HI.out.1 h).2) hB4⟩
 have HA4:=hide (HI.out.2 ⟨HA3.out,hp⟩)
 have HP4:=hide hP4
 have HS4:=hide (HS3.out.trans hS4)
 clear hp hP4 hS4
 go_wp2_with fail
 go_end0
 exact PostP.ok HA4.out (HP4.out.app' (by rw [HSh.out];simp [txs_app,txs_cons,raw_wd,raw_sg,txs1,txsg,show txs []=[] from rfl])) HS4.out
theorem decl_k7_1 {w0:World} (hG:Gl w0) (hTb:TabW w0) (text:List UInt8) (kids:List Nd) (hn7:cntL kids≤700):DeN w0 (.mk 7 text 1 kids):=by
 intro b w T v hP hv hT
 have hk7:kids.length≤700:=Nat.le_trans (len_cnt kids) hn7
 rw [tb_mk] at hT
 obtain ⟨ka,kc,rfl,t1,n1,n2,l1,l2,hR⟩:=hv.part
 have HR:=hide hR
 have HG:=hide hG
 have HTb:=hide hTb
 have HNk:Hid (knB 7 text 1 kids.length=false→¬ IsDe (.mk 7 text 1 kids)):=fun hk h=>by
  have hi:=(de_is h).2
  rw [isN_iff,loc_kn hk7 n2,hk] at hi
  exact absurd hi.1.1 (by decide)
 have HP0:Hid (Pt w0 (w.alloc (.cells #[.int .i64 7,.string (str text),.int .i64 1,.slice ka kids.length kc] 24)) b T):=hP.alloc _
 have HS0:Hid (St w (w.alloc (.cells #[.int .i64 7,.string (str text),.int .i64 1,.slice ka kids.length kc] 24))):=St.alloc _ _
 have HN0:=hide (heap_new w #[.int .i64 7,.string (str text),.int .i64 1,.slice ka kids.length kc] 24)
 have hkn:=know_any 7 text 1 ka kids.length kc _ ((hG.below hP.base).below ((Below.refl _ _).alloc (Nat.le_refl _) (.cells #[.int .i64 7,.string (str text),.int .i64 1,.slice ka kids.length kc] 24))) t1 (by omega)
 clear hP hv hR hG hTb
 go_enter Tryz.func56,Tryz.ntmps56
 go_wp2_with fail
 go_at_call 75
 refine hkn.mono ?_
 rintro e w1 ⟨⟨hk,rfl⟩|⟨hk,rfl⟩,hb1⟩
 rotate_left
 ·exact ⟨rfl,PostP.no (HNk.out hk) (HP0.out.below hb1).base⟩
 have HK:=hide hk
 have HP1:=hide (HP0.out.below hb1)
 have HS1:=hide (HS0.out.trans (St.below hb1))
 have hn1:=(St.below hb1).node HN0.out
 have HN1:=hide (((St.below hb1).nodes _ _ _ HN0.out).trans HN0.out)
 clear hk hb1 hkn HP0 HS0 HN0 HNk
 have hkl:2≤kids.length:=by
  have h5:(2:Int)≤kids.length:=(kn_iff.1 HK.out).2.2.2.2.1
  omega
 obtain ⟨l,x,c,hkx⟩:=last2_form hkl
 have HX:=hide hkx
 have hll:kids.length=l.length+2:=by rw [hkx];simp
 have htb:tbL kids=tbL (l++[x])+tb c:=by rw [hkx,tbL_app,tbL_cons,tbL_nil];omega
 have hcn:cntL kids=cntL (l++[x])+cnt c:=by rw [hkx,cntL_app,cntL_cons,cntL_nil];omega
 have HI:Hid (IsDe (.mk 7 text 1 kids) ↔ (IsTy x∧∀ y,y∈l→IsPa y)∧IsBl c):=by show _ ↔ _;rw [hkx];exact de7 HK.out
 obtain ⟨g,o,k0,x0,n0,a0,m0,c0,rfl,hg,q0,q1,q2,q3,hnd⟩:=HR.out.kid (l.length+1) (by omega)
 have HN:Hid (NdO w0 c (.agg #[.int .i64 k0,.string x0,.int .i64 n0,.slice a0 m0 c0])):=by
  have e:kids[l.length+1]'(by omega)=c:=by simp [hkx]
  rw [e] at hnd
  exact hnd
 have HQ0:=hide q0
 have HQ1:=hide q1
 have HQ2:=hide q2
 have HQ3:=hide q3
 have HRl:Hid (RowO w0 (some ⟨g,o,none⟩) (l++[x])):=by
  have:=HR.out.take (l++[x]).length
  rw [hkx,List.take_left] at this
  exact this
 have hww:IntKind.i64.wrap ((kids.length:Int) - 1)=(l.length:Int)+1:=by rw [IntKind.wrap_i64];omega
 have hsl:(0:Int)≤(l.length:Int)+1∧(l.length:Int)+1≤kc:=by omega
 have hix:(0:Int)≤(l.length:Int)+1∧(l.length:Int)+1<kids.length:=by omega
 have hnn:((l.length:Int)+1).toNat=l.length+1:=by omega
 have HCl:Hid (cntL (l++[x])≤700):=by show _≤_;omega
 have HBc:=hide (block_all HG.out HTb.out c (by omega))
 have HTx:Hid (T.length+tbL (l++[x])+tb c+l.length+14≤1000000000000):=by show _≤_;omega
 have HLl:Hid ((shT x++[wd text]++rowT (l.map shT) (decide ((0:Int)=1))).length≤tbL (l++[x])+l.length+5):=by
  show _≤_
  have h1:=sh_tb x
  have h2:=row_sum (l.map shT) (decide ((0:Int)=1))
  have h3:=flatL_tb l
  rw [flat_sum] at h3
  rw [tbL_app,tbL_cons,tbL_nil]
  simp only [List.length_append,List.length_cons,List.length_nil,List.length_map] at *
  omega
 have HSh:Hid (shT (.mk 7 text 1 kids)=[wd sSTATIC]++(shT x++[wd text]++rowT (l.map shT) (decide ((0:Int)=1)))++shT c):=by
  show _=_
  rw [hkx,sh_d7]
  rfl
 have hkc:l.length+1≤kc:=by omega
 have HLn:Hid (kids.length=l.length+2):=hll
 clear hkx q0 q1 q2 q3 hnd hkl hll htb hcn hT l1 hk7 hn7 HR
 have hst:=static_post HP1.out 1 (by have:=HTx.out;omega)
 rw [if_pos rfl] at hst
 have HStp:=hide hst
 clear hst
 go_wp2_with fail
 go_at_call 80
 refine (HStp.out).mono ?_
 rintro e w2 (⟨hp2,rfl,hP2,hS2⟩|⟨hp2,rfl,hB2⟩)
 rotate_left
 ·exact ⟨rfl,PostP.no (fun _=>hp2 trivial) hB2⟩
 have HA2:=hide hp2
 have HP2:=hide hP2
 have HS2:=hide (HS1.out.trans hS2)
 have hn2:=hS2.node HN1.out
 have HN2:=hide ((hS2.nodes _ _ _ HN1.out).trans HN1.out)
 clear hp2 hP2 hS2 hn1
 go_wp2_with fail
 have HSd:Hid (∀ w',St w2 w'→(fun w'=>∀ oo,w'.cell? ⟨w.heap.size,oo,none⟩=(#[Value.int .i64 7,.string (str text),.int .i64 1,.slice (some ⟨g,o,none⟩) kids.length kc])[oo]?) w'):=fun w' hw=>hw.node HN2.out
 refine wp_region_held_drew (S:=(fun w'=>∀ oo,w'.cell? ⟨w.heap.size,oo,none⟩=(#[Value.int .i64 7,.string (str text),.int .i64 1,.slice (some ⟨g,o,none⟩) kids.length kc])[oo]?)) (by kernel_rfl) (HSd.out _ (St.drew w2)) (fun hHeld=>?_)
 refine tq 0 ?_
 simp only [qq]
 refine tq 1 ?_
 simp only [qq]
 refine tq 2 ?_
 simp only [qq]
 refine tq 3 ?_
 simp only [qq]
 refine tq 4 ?_
 simp only [qq]
 refine tq 5 ?_
 simp only [qq]
 refine tq 6 ?_
 simp only [qq]
 refine tq 7 ?_
 simp only [qq]
 refine tq 8 ?_
 simp only [qq]
 refine tq 9 ?_
 simp only [qq]
 refine rq 10 fun K hK=>?_
 go_simp
 refine (function_any HG.out (HP2.out.drew) l x _ kc text 0 HRl.out hkc (by omega) HCl.out (by have:=HTx.out;have:=HLl.out;(try simp only [List.length_append,List.length_cons,List.length_nil,txs_len]);omega)).mono ?_
 rintro e w3 (⟨hp,rfl,hP3,hS3⟩|⟨hp,rfl,hB3⟩)
 rotate_left
 ·exact ⟨rfl,PostP.no (fun h=>hp (HI.out.1 h).1) hB3⟩
 have hst:=(St.drew w2).trans hS3
 refine hK.out _ _ (HSd.out _ hst) (fun hHeld1=>?_)
 clear hK K
 refine wpAnyH_done (by kernel_rfl) ?_ _
 have HA3:=hide hp
 have HP3:=hide hP3
 have HS3:=hide (HS2.out.trans hst)
 have hn3:=hst.node HN2.out
 have hb3:=hP3.base
 have e0:=below_cell hb3 HQ0.out
 have e1:=below_cell hb3 HQ1.out
 have e2:=below_cell hb3 HQ2.out
 have e3:=below_cell hb3 HQ3.out
 clear hp hP3 hS3 hst hn2 hHeld hHeld1 hb3 HSd
 go_wp2_with fail
 go_at_call 82
 refine (HBc.out b w3 _ _ HP3.out HN.out (by have:=HTx.out;have:=HLl.out;simp only [List.length_append,List.length_cons,List.length_nil,txs_len] at *;omega)).mono ?_
 rintro e w4 (⟨hp,rfl,hP4,hS4⟩|⟨hp,rfl,hB4⟩)
 rotate_left
 ·exact ⟨rfl,PostP.no (fun h=>hp (HI.out.1 h).2) hB4⟩
 have HA4:=hide (HI.out.2 ⟨HA3.out,hp⟩)
 have HP4:=hide hP4
 have HS4:=hide (HS3.out.trans hS4)
 clear hp hP4 hS4
 go_wp2_with fail
 go_end0
 exact PostP.ok HA4.out (HP4.out.app' (by rw [HSh.out];simp [txs_app,txs_cons,raw_wd,raw_sg,txs1,txsg,show txs []=[] from rfl])) HS4.out
theorem decl_k7_2 {w0:World} (hG:Gl w0) (hTb:TabW w0) (text:List UInt8) (kids:List Nd) (hn7:cntL kids≤700):DeN w0 (.mk 7 text 2 kids):=by
 intro b w T v hP hv hT
 have hk7:kids.length≤700:=Nat.le_trans (len_cnt kids) hn7
 rw [tb_mk] at hT
 obtain ⟨ka,kc,rfl,t1,n1,n2,l1,l2,hR⟩:=hv.part
 have HR:=hide hR
 have HG:=hide hG
 have HTb:=hide hTb
 have HNk:Hid (knB 7 text 2 kids.length=false→¬ IsDe (.mk 7 text 2 kids)):=fun hk h=>by
  have hi:=(de_is h).2
  rw [isN_iff,loc_kn hk7 n2,hk] at hi
  exact absurd hi.1.1 (by decide)
 have HP0:Hid (Pt w0 (w.alloc (.cells #[.int .i64 7,.string (str text),.int .i64 2,.slice ka kids.length kc] 24)) b T):=hP.alloc _
 have HS0:Hid (St w (w.alloc (.cells #[.int .i64 7,.string (str text),.int .i64 2,.slice ka kids.length kc] 24))):=St.alloc _ _
 have HN0:=hide (heap_new w #[.int .i64 7,.string (str text),.int .i64 2,.slice ka kids.length kc] 24)
 have hkn:=know_any 7 text 2 ka kids.length kc _ ((hG.below hP.base).below ((Below.refl _ _).alloc (Nat.le_refl _) (.cells #[.int .i64 7,.string (str text),.int .i64 2,.slice ka kids.length kc] 24))) t1 (by omega)
 clear hP hv hR hG hTb
 go_enter Tryz.func56,Tryz.ntmps56
 go_wp2_with fail
 go_at_call 75
 refine hkn.mono ?_
 rintro e w1 ⟨⟨hk,rfl⟩|⟨hk,rfl⟩,hb1⟩
 rotate_left
 ·exact ⟨rfl,PostP.no (HNk.out hk) (HP0.out.below hb1).base⟩
 have HK:=hide hk
 have HP1:=hide (HP0.out.below hb1)
 have HS1:=hide (HS0.out.trans (St.below hb1))
 have hn1:=(St.below hb1).node HN0.out
 have HN1:=hide (((St.below hb1).nodes _ _ _ HN0.out).trans HN0.out)
 clear hk hb1 hkn HP0 HS0 HN0 HNk
 have hkl:2≤kids.length:=by
  have h5:(2:Int)≤kids.length:=(kn_iff.1 HK.out).2.2.2.2.1
  omega
 obtain ⟨l,x,c,hkx⟩:=last2_form hkl
 have HX:=hide hkx
 have hll:kids.length=l.length+2:=by rw [hkx];simp
 have htb:tbL kids=tbL (l++[x])+tb c:=by rw [hkx,tbL_app,tbL_cons,tbL_nil];omega
 have hcn:cntL kids=cntL (l++[x])+cnt c:=by rw [hkx,cntL_app,cntL_cons,cntL_nil];omega
 have HI:Hid (IsDe (.mk 7 text 2 kids) ↔ (IsTy x∧∀ y,y∈l→IsPa y)∧IsBl c):=by show _ ↔ _;rw [hkx];exact de7 HK.out
 obtain ⟨g,o,k0,x0,n0,a0,m0,c0,rfl,hg,q0,q1,q2,q3,hnd⟩:=HR.out.kid (l.length+1) (by omega)
 have HN:Hid (NdO w0 c (.agg #[.int .i64 k0,.string x0,.int .i64 n0,.slice a0 m0 c0])):=by
  have e:kids[l.length+1]'(by omega)=c:=by simp [hkx]
  rw [e] at hnd
  exact hnd
 have HQ0:=hide q0
 have HQ1:=hide q1
 have HQ2:=hide q2
 have HQ3:=hide q3
 have HRl:Hid (RowO w0 (some ⟨g,o,none⟩) (l++[x])):=by
  have:=HR.out.take (l++[x]).length
  rw [hkx,List.take_left] at this
  exact this
 have hww:IntKind.i64.wrap ((kids.length:Int) - 1)=(l.length:Int)+1:=by rw [IntKind.wrap_i64];omega
 have hsl:(0:Int)≤(l.length:Int)+1∧(l.length:Int)+1≤kc:=by omega
 have hix:(0:Int)≤(l.length:Int)+1∧(l.length:Int)+1<kids.length:=by omega
 have hnn:((l.length:Int)+1).toNat=l.length+1:=by omega
 have HCl:Hid (cntL (l++[x])≤700):=by show _≤_;omega
 have HBc:=hide (block_all HG.out HTb.out c (by omega))
 have HTx:Hid (T.length+tbL (l++[x])+tb c+l.length+14≤1000000000000):=by show _≤_;omega
 have HLl:Hid ((shT x++[wd text]++rowT (l.map shT) (decide ((1:Int)=1))).length≤tbL (l++[x])+l.length+5):=by
  show _≤_
  have h1:=sh_tb x
  have h2:=row_sum (l.map shT) (decide ((1:Int)=1))
  have h3:=flatL_tb l
  rw [flat_sum] at h3
  rw [tbL_app,tbL_cons,tbL_nil]
  simp only [List.length_append,List.length_cons,List.length_nil,List.length_map] at *
  omega
 have HSh:Hid (shT (.mk 7 text 2 kids)=[]++(shT x++[wd text]++rowT (l.map shT) (decide ((1:Int)=1)))++shT c):=by
  show _=_
  rw [hkx,sh_d7]
  rfl
 have hkc:l.length+1≤kc:=by omega
 have HLn:Hid (kids.length=l.length+2):=hll
 clear hkx q0 q1 q2 q3 hnd hkl hll htb hcn hT l1 hk7 hn7 HR
 have hst:=static_post HP1.out 0 (by have:=HTx.out;omega)
 rw [if_neg (by decide)] at hst
 have HStp:=hide hst
 clear hst
 go_wp2_with fail
 go_at_call 80
 refine (HStp.out).mono ?_
 rintro e w2 (⟨hp2,rfl,hP2,hS2⟩|⟨hp2,rfl,hB2⟩)
 rotate_left
 ·exact ⟨rfl,PostP.no (fun _=>hp2 trivial) hB2⟩
 have HA2:=hide hp2
 have HP2:=hide hP2
 have HS2:=hide (HS1.out.trans hS2)
 have hn2:=hS2.node HN1.out
 have HN2:=hide ((hS2.nodes _ _ _ HN1.out).trans HN1.out)
 clear hp2 hP2 hS2 hn1
 go_wp2_with fail
 have HSd:Hid (∀ w',St w2 w'→(fun w'=>∀ oo,w'.cell? ⟨w.heap.size,oo,none⟩=(#[Value.int .i64 7,.string (str text),.int .i64 2,.slice (some ⟨g,o,none⟩) kids.length kc])[oo]?) w'):=fun w' hw=>hw.node HN2.out
 refine wp_region_held_drew (S:=(fun w'=>∀ oo,w'.cell? ⟨w.heap.size,oo,none⟩=(#[Value.int .i64 7,.string (str text),.int .i64 2,.slice (some ⟨g,o,none⟩) kids.length kc])[oo]?)) (by kernel_rfl) (HSd.out _ (St.drew w2)) (fun hHeld=>?_)
 refine tq 0 ?_
 simp only [qq]
 refine tq 1 ?_
 simp only [qq]
 refine tq 2 ?_
 simp only [qq]
 refine tq 3 ?_
 simp only [qq]
 refine tq 4 ?_
 simp only [qq]
 refine tq 5 ?_
 simp only [qq]
 refine tq 6 ?_
 simp only [qq]
 refine tq 7 ?_
 simp only [qq]
 refine tq 8 ?_
 simp only [qq]
 refine tq 9 ?_
 simp only [qq]
 refine rq 10 fun K hK=>?_
 go_simp
 refine (function_any HG.out (HP2.out.drew) l x _ kc text 1 HRl.out hkc (by omega) HCl.out (by have:=HTx.out;have:=HLl.out;(try simp only [List.length_append,List.length_cons,List.length_nil,txs_len]);omega)).mono ?_
 rintro e w3 (⟨hp,rfl,hP3,hS3⟩|⟨hp,rfl,hB3⟩)
 rotate_left
 ·exact ⟨rfl,PostP.no (fun h=>hp (HI.out.1 h).1) hB3⟩
 have hst:=(St.drew w2).trans hS3
 refine hK.out _ _ (HSd.out _ hst) (fun hHeld1=>?_)
 clear hK K
 refine wpAnyH_done (by kernel_rfl) ?_ _
 have HA3:=hide hp
 have HP3:=hide hP3
 have HS3:=hide (HS2.out.trans hst)
 have hn3:=hst.node HN2.out
 have hb3:=hP3.base
 have e0:=below_cell hb3 HQ0.out
 have e1:=below_cell hb3 HQ1.out
 have e2:=below_cell hb3 HQ2.out
 have e3:=below_cell hb3 HQ3.out
 clear hp hP3 hS3 hst hn2 hHeld hHeld1 hb3 HSd
 go_wp2_with fail
 go_at_call 82
 refine (HBc.out b w3 _ _ HP3.out HN.out (by have:=HTx.out;have:=HLl.out;simp only [List.length_append,List.length_cons,List.length_nil,txs_len] at *;omega)).mono ?_
 rintro e w4 (⟨hp,rfl,hP4,hS4⟩|⟨hp,rfl,hB4⟩)
 rotate_left
 ·exact ⟨rfl,PostP.no (fun h=>hp (HI.out.1 h).2) hB4⟩
 have HA4:=hide (HI.out.2 ⟨HA3.out,hp⟩)
 have HP4:=hide hP4
 have HS4:=hide (HS3.out.trans hS4)
 clear hp hP4 hS4
 go_wp2_with fail
 go_end0
 exact PostP.ok HA4.out (HP4.out.app' (by rw [HSh.out];simp [txs_app,txs_cons,raw_wd,raw_sg,txs1,txsg,show txs []=[] from rfl])) HS4.out
theorem decl_k7_3 {w0:World} (hG:Gl w0) (hTb:TabW w0) (text:List UInt8) (kids:List Nd) (hn7:cntL kids≤700):DeN w0 (.mk 7 text 3 kids):=by
 intro b w T v hP hv hT
 have hk7:kids.length≤700:=Nat.le_trans (len_cnt kids) hn7
 rw [tb_mk] at hT
 obtain ⟨ka,kc,rfl,t1,n1,n2,l1,l2,hR⟩:=hv.part
 have HR:=hide hR
 have HG:=hide hG
 have HTb:=hide hTb
 have HNk:Hid (knB 7 text 3 kids.length=false→¬ IsDe (.mk 7 text 3 kids)):=fun hk h=>by
  have hi:=(de_is h).2
  rw [isN_iff,loc_kn hk7 n2,hk] at hi
  exact absurd hi.1.1 (by decide)
 have HP0:Hid (Pt w0 (w.alloc (.cells #[.int .i64 7,.string (str text),.int .i64 3,.slice ka kids.length kc] 24)) b T):=hP.alloc _
 have HS0:Hid (St w (w.alloc (.cells #[.int .i64 7,.string (str text),.int .i64 3,.slice ka kids.length kc] 24))):=St.alloc _ _
 have HN0:=hide (heap_new w #[.int .i64 7,.string (str text),.int .i64 3,.slice ka kids.length kc] 24)
 have hkn:=know_any 7 text 3 ka kids.length kc _ ((hG.below hP.base).below ((Below.refl _ _).alloc (Nat.le_refl _) (.cells #[.int .i64 7,.string (str text),.int .i64 3,.slice ka kids.length kc] 24))) t1 (by omega)
 clear hP hv hR hG hTb
 go_enter Tryz.func56,Tryz.ntmps56
 go_wp2_with fail
 go_at_call 75
 refine hkn.mono ?_
 rintro e w1 ⟨⟨hk,rfl⟩|⟨hk,rfl⟩,hb1⟩
 rotate_left
 ·exact ⟨rfl,PostP.no (HNk.out hk) (HP0.out.below hb1).base⟩
 have HK:=hide hk
 have HP1:=hide (HP0.out.below hb1)
 have HS1:=hide (HS0.out.trans (St.below hb1))
 have hn1:=(St.below hb1).node HN0.out
 have HN1:=hide (((St.below hb1).nodes _ _ _ HN0.out).trans HN0.out)
 clear hk hb1 hkn HP0 HS0 HN0 HNk
 have hkl:2≤kids.length:=by
  have h5:(2:Int)≤kids.length:=(kn_iff.1 HK.out).2.2.2.2.1
  omega
 obtain ⟨l,x,c,hkx⟩:=last2_form hkl
 have HX:=hide hkx
 have hll:kids.length=l.length+2:=by rw [hkx];simp
 have htb:tbL kids=tbL (l++[x])+tb c:=by rw [hkx,tbL_app,tbL_cons,tbL_nil];omega
 have hcn:cntL kids=cntL (l++[x])+cnt c:=by rw [hkx,cntL_app,cntL_cons,cntL_nil];omega
 have HI:Hid (IsDe (.mk 7 text 3 kids) ↔ (IsTy x∧∀ y,y∈l→IsPa y)∧IsBl c):=by show _ ↔ _;rw [hkx];exact de7 HK.out
 obtain ⟨g,o,k0,x0,n0,a0,m0,c0,rfl,hg,q0,q1,q2,q3,hnd⟩:=HR.out.kid (l.length+1) (by omega)
 have HN:Hid (NdO w0 c (.agg #[.int .i64 k0,.string x0,.int .i64 n0,.slice a0 m0 c0])):=by
  have e:kids[l.length+1]'(by omega)=c:=by simp [hkx]
  rw [e] at hnd
  exact hnd
 have HQ0:=hide q0
 have HQ1:=hide q1
 have HQ2:=hide q2
 have HQ3:=hide q3
 have HRl:Hid (RowO w0 (some ⟨g,o,none⟩) (l++[x])):=by
  have:=HR.out.take (l++[x]).length
  rw [hkx,List.take_left] at this
  exact this
 have hww:IntKind.i64.wrap ((kids.length:Int) - 1)=(l.length:Int)+1:=by rw [IntKind.wrap_i64];omega
 have hsl:(0:Int)≤(l.length:Int)+1∧(l.length:Int)+1≤kc:=by omega
 have hix:(0:Int)≤(l.length:Int)+1∧(l.length:Int)+1<kids.length:=by omega
 have hnn:((l.length:Int)+1).toNat=l.length+1:=by omega
 have HCl:Hid (cntL (l++[x])≤700):=by show _≤_;omega
 have HBc:=hide (block_all HG.out HTb.out c (by omega))
 have HTx:Hid (T.length+tbL (l++[x])+tb c+l.length+14≤1000000000000):=by show _≤_;omega
 have HLl:Hid ((shT x++[wd text]++rowT (l.map shT) (decide ((1:Int)=1))).length≤tbL (l++[x])+l.length+5):=by
  show _≤_
  have h1:=sh_tb x
  have h2:=row_sum (l.map shT) (decide ((1:Int)=1))
  have h3:=flatL_tb l
  rw [flat_sum] at h3
  rw [tbL_app,tbL_cons,tbL_nil]
  simp only [List.length_append,List.length_cons,List.length_nil,List.length_map] at *
  omega
 have HSh:Hid (shT (.mk 7 text 3 kids)=[wd sSTATIC]++(shT x++[wd text]++rowT (l.map shT) (decide ((1:Int)=1)))++shT c):=by
  show _=_
  rw [hkx,sh_d7]
  rfl
 have hkc:l.length+1≤kc:=by omega
 have HLn:Hid (kids.length=l.length+2):=hll
 clear hkx q0 q1 q2 q3 hnd hkl hll htb hcn hT l1 hk7 hn7 HR
 have hst:=static_post HP1.out 1 (by have:=HTx.out;omega)
 rw [if_pos rfl] at hst
 have HStp:=hide hst
 clear hst
 go_wp2_with fail
 go_at_call 80
 refine (HStp.out).mono ?_
 rintro e w2 (⟨hp2,rfl,hP2,hS2⟩|⟨hp2,rfl,hB2⟩)
 rotate_left
 ·exact ⟨rfl,PostP.no (fun _=>hp2 trivial) hB2⟩
 have HA2:=hide hp2
 have HP2:=hide hP2
 have HS2:=hide (HS1.out.trans hS2)
 have hn2:=hS2.node HN1.out
 have HN2:=hide ((hS2.nodes _ _ _ HN1.out).trans HN1.out)
 clear hp2 hP2 hS2 hn1
 go_wp2_with fail
 have HSd:Hid (∀ w',St w2 w'→(fun w'=>∀ oo,w'.cell? ⟨w.heap.size,oo,none⟩=(#[Value.int .i64 7,.string (str text),.int .i64 3,.slice (some ⟨g,o,none⟩) kids.length kc])[oo]?) w'):=fun w' hw=>hw.node HN2.out
 refine wp_region_held_drew (S:=(fun w'=>∀ oo,w'.cell? ⟨w.heap.size,oo,none⟩=(#[Value.int .i64 7,.string (str text),.int .i64 3,.slice (some ⟨g,o,none⟩) kids.length kc])[oo]?)) (by kernel_rfl) (HSd.out _ (St.drew w2)) (fun hHeld=>?_)
 refine tq 0 ?_
 simp only [qq]
 refine tq 1 ?_
 simp only [qq]
 refine tq 2 ?_
 simp only [qq]
 refine tq 3 ?_
 simp only [qq]
 refine tq 4 ?_
 simp only [qq]
 refine tq 5 ?_
 simp only [qq]
 refine tq 6 ?_
 simp only [qq]
 refine tq 7 ?_
 simp only [qq]
 refine tq 8 ?_
 simp only [qq]
 refine tq 9 ?_
 simp only [qq]
 refine rq 10 fun K hK=>?_
 go_simp
 refine (function_any HG.out (HP2.out.drew) l x _ kc text 1 HRl.out hkc (by omega) HCl.out (by have:=HTx.out;have:=HLl.out;(try simp only [List.length_append,List.length_cons,List.length_nil,txs_len]);omega)).mono ?_
 rintro e w3 (⟨hp,rfl,hP3,hS3⟩|⟨hp,rfl,hB3⟩)
 rotate_left
 ·exact ⟨rfl,PostP.no (fun h=>hp (HI.out.1 h).1) hB3⟩
 have hst:=(St.drew w2).trans hS3
 refine hK.out _ _ (HSd.out _ hst) (fun hHeld1=>?_)
 clear hK K
 refine wpAnyH_done (by kernel_rfl) ?_ _
 have HA3:=hide hp
 have HP3:=hide hP3
 have HS3:=hide (HS2.out.trans hst)
 have hn3:=hst.node HN2.out
 have hb3:=hP3.base
 have e0:=below_cell hb3 HQ0.out
 have e1:=below_cell hb3 HQ1.out
 have e2:=below_cell hb3 HQ2.out
 have e3:=below_cell hb3 HQ3.out
 clear hp hP3 hS3 hst hn2 hHeld hHeld1 hb3 HSd
 go_wp2_with fail
 go_at_call 82
 refine (HBc.out b w3 _ _ HP3.out HN.out (by have:=HTx.out;have:=HLl.out;simp only [List.length_append,List.length_cons,List.length_nil,txs_len] at *;omega)).mono ?_
 rintro e w4 (⟨hp,rfl,hP4,hS4⟩|⟨hp,rfl,hB4⟩)
 rotate_left
 ·exact ⟨rfl,PostP.no (fun h=>hp (HI.out.1 h).2) hB4⟩
 have HA4:=hide (HI.out.2 ⟨HA3.out,hp⟩)
 have HP4:=hide hP4
 have HS4:=hide (HS3.out.trans hS4)
 clear hp hP4 hS4
 go_wp2_with fail
 go_end0
 exact PostP.ok HA4.out (HP4.out.app' (by rw [HSh.out];simp [txs_app,txs_cons,raw_wd,raw_sg,txs1,txsg,show txs []=[] from rfl])) HS4.out
theorem decl_rest {w0:World} (hG:Gl w0) (hTb:TabW w0) (kind:Int) (text:List UInt8) (num:Int) (kids:List Nd) (k2:¬ kind=2) (k4:¬ kind=4) (k5:¬ kind=5) (k6:¬ kind=6) (k7:¬ kind=7) (hn7:cntL kids≤700):DeN w0 (.mk kind text num kids):=by
 intro b w T v hP hv hT
 have hk7:kids.length≤700:=Nat.le_trans (len_cnt kids) hn7
 rw [tb_mk] at hT
 obtain ⟨ka,kc,rfl,t1,n1,n2,l1,l2,hR⟩:=hv.part
 have HR:=hide hR
 have HG:=hide hG
 have HTb:=hide hTb
 have HNk:Hid (knB kind text num kids.length=false→¬ IsDe (.mk kind text num kids)):=fun hk h=>by
  have hi:=(de_is h).2
  rw [isN_iff,loc_kn hk7 n2,hk] at hi
  exact absurd hi.1.1 (by decide)
 have HP0:Hid (Pt w0 (w.alloc (.cells #[.int .i64 kind,.string (str text),.int .i64 num,.slice ka kids.length kc] 24)) b T):=hP.alloc _
 have HS0:Hid (St w (w.alloc (.cells #[.int .i64 kind,.string (str text),.int .i64 num,.slice ka kids.length kc] 24))):=St.alloc _ _
 have HN0:=hide (heap_new w #[.int .i64 kind,.string (str text),.int .i64 num,.slice ka kids.length kc] 24)
 have hkn:=know_any kind text num ka kids.length kc _ ((hG.below hP.base).below ((Below.refl _ _).alloc (Nat.le_refl _) (.cells #[.int .i64 kind,.string (str text),.int .i64 num,.slice ka kids.length kc] 24))) t1 (by omega)
 clear hP hv hR hG hTb
 go_enter Tryz.func56,Tryz.ntmps56
 go_wp2_with fail
 go_at_call 75
 refine hkn.mono ?_
 rintro e w1 ⟨⟨hk,rfl⟩|⟨hk,rfl⟩,hb1⟩
 rotate_left
 ·exact ⟨rfl,PostP.no (HNk.out hk) (HP0.out.below hb1).base⟩
 have HK:=hide hk
 have HP1:=hide (HP0.out.below hb1)
 have HS1:=hide (HS0.out.trans (St.below hb1))
 have hn1:=(St.below hb1).node HN0.out
 have HN1:=hide (((St.below hb1).nodes _ _ _ HN0.out).trans HN0.out)
 clear hk hb1 hkn HP0 HS0 HN0 HNk
 have k2':(kind == 2)=false:=by simpa using k2
 have k4':(kind == 4)=false:=by simpa using k4
 have k5':(kind == 5)=false:=by simpa using k5
 have k6':(kind == 6)=false:=by simpa using k6
 have k7':(kind == 7)=false:=by simpa using k7
 have HNo:Hid (¬ IsDe (.mk kind text num kids)):=fun h=>by have:=de_kinds h;omega
 clear k2 k4 k5 k6 k7
 go_wp2_with fail
 exact ⟨rfl,PostP.no HNo.out HP1.out.base⟩
end Go.Proofs.YthcfianhdkolhaaGreatDoor.T
