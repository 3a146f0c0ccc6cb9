/- PrF -/
import Derived.Test.YthcfianhdkolhaaGreatDoorPrE
namespace Go.Proofs.YthcfianhdkolhaaGreatDoor.T
open Go.RowKit Go.Proofs.YthcfianhdkolhaaGreatDoor.S
set_option maxRecDepth 100000
set_option maxHeartbeats 2000000
set_option linter.unusedVariables false
set_option linter.unusedSimpArgs false

theorem kn_nil {k:Nat} {t:List UInt8} {v:Int} {kids:List Nd} {a:Bool} {m:Int} (hs:shp k=(a,m,0,0)) (h:knB k t v kids.length=true):kids=[]:=by
 obtain ⟨_,_,_,_,h5,h6⟩:=kn_iff.1 h
 rw [Int.toNat_natCast,hs] at h6
 exact nil_of h6
theorem kn_cons {k:Nat} {t:List UInt8} {v:Int} {kids:List Nd} {a:Bool} {m u:Int} (hs:shp k=(a,m,1,u)) (h:knB k t v kids.length=true):∃ x l,kids=x::l:=by
 obtain ⟨_,_,_,_,h5,h6⟩:=kn_iff.1 h
 rw [Int.toNat_natCast,hs] at h5
 cases kids with
 | nil=>simp at h5
 | cons x l=>exact ⟨x,l,rfl⟩
theorem kn_two {k:Nat} {t:List UInt8} {v:Int} {kids:List Nd} {a:Bool} {m:Int} (hs:shp k=(a,m,2,2)) (h:knB k t v kids.length=true):∃ x y,kids=[x,y]:=by
 obtain ⟨_,_,_,_,h5,h6⟩:=kn_iff.1 h
 rw [Int.toNat_natCast,hs] at h5 h6
 exact two_form (by simp only at h5 h6;omega)
theorem sh_e23 (t:List UInt8) (v:Int) (l:List Nd):shT (.mk 23 t v l)=[wd t]:=by rw [shT_mk];simp [shK]
theorem sh_e24 (t:List UInt8) (v:Int) (x:Nd):shT (.mk 24 t v [x])=atT (bindN x) 4 (shT x)++[sg sDOT,wd t]:=by rw [shT_mk];simp [shK,sh1]
theorem sh_e25 (t:List UInt8) (v:Int) (x:Nd) (l:List Nd):shT (.mk 25 t v (x::l))=atT (bindN x) 4 (shT x)++rowT (l.map shT) false:=by rw [shT_mk];simp [shK,shC]
theorem sh_e26 (t:List UInt8) (v:Int) (l:List Nd):shT (.mk 26 t v l)=[sg sAMP,wd t]:=by rw [shT_mk];simp [shK]
theorem sh_e27 (t:List UInt8) (v:Int) (l:List Nd):shT (.mk 27 t v l)=[wd t,sg sLB]++joinT (l.map shT)++[sg sRB]:=by rw [shT_mk];simp [shK]
theorem sh_e28 (t:List UInt8) (v:Int) (x:Nd):shT (.mk 28 t v [x])=sg sMINUS::atT (bindN x) 3 (shT x):=by rw [shT_mk];simp [shK,sh1]
theorem sh_e29 (t:List UInt8) (v:Int) (x:Nd):shT (.mk 29 t v [x])=sg sNOT::atT (bindN x) 3 (shT x):=by rw [shT_mk];simp [shK,sh1]
theorem sh_e30 (t:List UInt8) (v:Int) (x:Nd):shT (.mk 30 t v [x])=[wd sINT,sg sLP]++shT x++[sg sRP]:=by rw [shT_mk];simp [shK]
theorem sh_e31 (t:List UInt8) (v:Int) (x:Nd):shT (.mk 31 t v [x])=[wd sLONG,sg sLP]++shT x++[sg sRP]:=by rw [shT_mk];simp [shK]
theorem sh_e33 (t:List UInt8) (v:Int) (l:List Nd):shT (.mk 33 t v l)=[wd sCOUNT]:=by rw [shT_mk];simp [shK]
theorem sh_e34 (t:List UInt8) (v:Int) (x:Nd):shT (.mk 34 t v [x])=[wd sEXTRA,sg sLP]++shT x++[sg sRP]:=by rw [shT_mk];simp [shK]
theorem expr_k23 {w0:World} (hG:Gl w0) (hTb:TabW w0) (text:List UInt8) (num:Int) (kids:List Nd) (hn7:cntL kids≤700) (ih:∀ x,x∈kids→ExN w0 x):ExN w0 (.mk 23 text num kids):=by
 intro b w T v hP hv hT
 have hL:=hv.lg
 have hk7:kids.length≤700:=Nat.le_trans (len_cnt kids) hn7
 have HIff:=hide (ex_kn hL hk7)
 rw [tb_mk] at hT
 obtain ⟨ka,kc,rfl,t1,n1,n2,l1,l2,hR⟩:=hv.part
 have HR:=hide hR
 have HG:=hide hG
 have HTb:=hide hTb
 have HIh:=hide ih
 have HP0:Hid (Pt w0 (w.alloc (.cells #[.int .i64 23,.string (str text),.int .i64 num,.slice ka kids.length kc] 24)) b T):=hP.alloc _
 have HS0:Hid (St w (w.alloc (.cells #[.int .i64 23,.string (str text),.int .i64 num,.slice ka kids.length kc] 24))):=St.alloc _ _
 have HN0:=hide (heap_new w #[.int .i64 23,.string (str text),.int .i64 num,.slice ka kids.length kc] 24)
 have hkn:=know_any 23 text num ka kids.length kc _ ((hG.below hP.base).below ((Below.refl _ _).alloc (Nat.le_refl _) (.cells #[.int .i64 23,.string (str text),.int .i64 num,.slice ka kids.length kc] 24))) t1 (by omega)
 clear hP hv hR hG ih hL hTb
 go_enter Tryz.func146,Tryz.ntmps146
 go_wp2_with fail
 go_at_call 75
 refine hkn.mono ?_
 rintro e w1 ⟨⟨hk,rfl⟩|⟨hk,rfl⟩,hb1⟩
 rotate_left
 ·exact ⟨rfl,PostP.no (fun h=>by have:=(HIff.out.1 h).1;rw [hk] at this;cases this) (HP0.out.below hb1).base⟩
 have HK:=hide hk
 have HP1:=hide (HP0.out.below hb1)
 have HS1:=hide (HS0.out.trans (St.below hb1))
 have hn1:=(St.below hb1).node HN0.out
 have HN1:=hide (((St.below hb1).nodes _ _ _ HN0.out).trans HN0.out)
 clear hk hb1 hkn HP0 HS0 HN0
 obtain rfl:=kn_nil (k:=23) (by rfl) HK.out
 have HI:Hid (IsEx (.mk 23 text num [])):=HIff.out.2 ⟨HK.out,by omega,fun e=>absurd e (by decide),fun x hx=>by simp at hx⟩
 clear HR
 go_wp2_with fail
 go_at_call 77
 refine (add_new HP1.out [text] _ rfl 1 rfl (by omega) (by (try simp only [List.length_append,List.length_cons,List.length_nil,txs_len]);omega) _ (by simp)).mono ?_
 rintro e w2 ⟨rfl,hP2,hS2⟩
 have HP2:=hide hP2
 have HS2:=hide (HS1.out.trans hS2)
 have hn2:=hS2.node HN1.out
 have HN2:=hide ((hS2.nodes _ _ _ HN1.out).trans HN1.out)
 clear hP2 hS2 hn1
 go_wp2_with fail
 go_end0
 exact PostP.ok HI.out (HP2.out.app' (by rw [sh_e23];rfl)) HS2.out
theorem expr_k24 {w0:World} (hG:Gl w0) (hTb:TabW w0) (text:List UInt8) (num:Int) (kids:List Nd) (hn7:cntL kids≤700) (ih:∀ x,x∈kids→ExN w0 x):ExN w0 (.mk 24 text num kids):=by
 intro b w T v hP hv hT
 have hL:=hv.lg
 have hk7:kids.length≤700:=Nat.le_trans (len_cnt kids) hn7
 have HIff:=hide (ex_kn hL hk7)
 rw [tb_mk] at hT
 obtain ⟨ka,kc,rfl,t1,n1,n2,l1,l2,hR⟩:=hv.part
 have HR:=hide hR
 have HG:=hide hG
 have HTb:=hide hTb
 have HIh:=hide ih
 have HP0:Hid (Pt w0 (w.alloc (.cells #[.int .i64 24,.string (str text),.int .i64 num,.slice ka kids.length kc] 24)) b T):=hP.alloc _
 have HS0:Hid (St w (w.alloc (.cells #[.int .i64 24,.string (str text),.int .i64 num,.slice ka kids.length kc] 24))):=St.alloc _ _
 have HN0:=hide (heap_new w #[.int .i64 24,.string (str text),.int .i64 num,.slice ka kids.length kc] 24)
 have hkn:=know_any 24 text num ka kids.length kc _ ((hG.below hP.base).below ((Below.refl _ _).alloc (Nat.le_refl _) (.cells #[.int .i64 24,.string (str text),.int .i64 num,.slice ka kids.length kc] 24))) t1 (by omega)
 clear hP hv hR hG ih hL hTb
 go_enter Tryz.func146,Tryz.ntmps146
 go_wp2_with fail
 go_at_call 75
 refine hkn.mono ?_
 rintro e w1 ⟨⟨hk,rfl⟩|⟨hk,rfl⟩,hb1⟩
 rotate_left
 ·exact ⟨rfl,PostP.no (fun h=>by have:=(HIff.out.1 h).1;rw [hk] at this;cases this) (HP0.out.below hb1).base⟩
 have HK:=hide hk
 have HP1:=hide (HP0.out.below hb1)
 have HS1:=hide (HS0.out.trans (St.below hb1))
 have hn1:=(St.below hb1).node HN0.out
 have HN1:=hide (((St.below hb1).nodes _ _ _ HN0.out).trans HN0.out)
 clear hk hb1 hkn HP0 HS0 HN0
 obtain ⟨x,rfl⟩:=kn_one (k:=24) (by rfl) HK.out
 have HI:Hid (IsEx (.mk 24 text num [x]) ↔ IsEx x):=⟨fun h=>(HIff.out.1 h).2.2.2 x (by simp),fun h=>HIff.out.2 ⟨HK.out,by omega,fun e=>absurd e (by decide),fun y hy=>by rw [List.mem_singleton.1 hy];exact h⟩⟩
 have HEx:=hide (HIh.out x (by simp))
 have HLx:=hide (sh_tb x)
 have HTx:Hid (T.length+2*tb x+12≤1000000000000):=by rw [tbL_cons,tbL_nil] at hT;simp only [List.length_cons,List.length_nil] at hT;show _≤_;omega
 have hRo:=HR.out
 clear hT
 obtain ⟨ga,oa,ka,xa,na,aa,ma,ca,hkaa,hga,qa0,qa1,qa2,qa3,hnda⟩:=hRo.kid0
 have Ha:=hide hnda
 have Ha0:=hide qa0
 have Ha1:=hide qa1
 have Ha2:=hide qa2
 have Ha3:=hide qa3
 clear qa0 qa1 qa2 qa3 hnda hga
 subst hkaa
 have hb1:=HP1.out.base
 have ea1_0:=below_cell hb1 Ha0.out
 have ea1_1:=below_cell hb1 Ha1.out
 have ea1_2:=below_cell hb1 Ha2.out
 have ea1_3:=below_cell hb1 Ha3.out
 clear hb1
 go_wp2_with fail
 go_at_call 161
 refine (part_any HG.out x HEx.out HP1.out _ Ha.out 4 (by have:=HTx.out;omega)).mono ?_
 rintro e w2 (⟨hp2,rfl,hP2,hS2⟩|⟨hp2,rfl,hB2⟩)
 rotate_left
 ·exact ⟨rfl,PostP.no (fun h=>hp2 (HI.out.1 h)) hB2⟩
 have HA2:=hide hp2
 have HP2:=hide hP2
 have HS2:=hide (HS1.out.trans hS2)
 have hn2:=hS2.node HN1.out
 have HN2:=hide ((hS2.nodes _ _ _ HN1.out).trans HN1.out)
 clear hp2 hP2 hS2 hn1
 go_wp2_with fail
 go_at_call 77
 refine (add_new HP2.out [sDOT,text] _ rfl 2 rfl (by omega) (by have:=HLx.out;have:=HTx.out;have:=at_len (bindN x) 4 (shT x);(try simp only [List.length_append,List.length_cons,List.length_nil,txs_len]);omega) _ (by simp)).mono ?_
 rintro e w3 ⟨rfl,hP3,hS3⟩
 have HP3:=hide hP3
 have HS3:=hide (HS2.out.trans hS3)
 have hn3:=hS3.node HN2.out
 have HN3:=hide ((hS3.nodes _ _ _ HN2.out).trans HN2.out)
 clear hP3 hS3 hn2
 go_wp2_with fail
 go_end0
 exact PostP.ok (HI.out.2 HA2.out) (HP3.out.app' (by rw [sh_e24,txs_app];simp [txs,raw_sg,raw_wd])) HS3.out
theorem expr_k26 {w0:World} (hG:Gl w0) (hTb:TabW w0) (text:List UInt8) (num:Int) (kids:List Nd) (hn7:cntL kids≤700) (ih:∀ x,x∈kids→ExN w0 x):ExN w0 (.mk 26 text num kids):=by
 intro b w T v hP hv hT
 have hL:=hv.lg
 have hk7:kids.length≤700:=Nat.le_trans (len_cnt kids) hn7
 have HIff:=hide (ex_kn hL hk7)
 rw [tb_mk] at hT
 obtain ⟨ka,kc,rfl,t1,n1,n2,l1,l2,hR⟩:=hv.part
 have HR:=hide hR
 have HG:=hide hG
 have HTb:=hide hTb
 have HIh:=hide ih
 have HP0:Hid (Pt w0 (w.alloc (.cells #[.int .i64 26,.string (str text),.int .i64 num,.slice ka kids.length kc] 24)) b T):=hP.alloc _
 have HS0:Hid (St w (w.alloc (.cells #[.int .i64 26,.string (str text),.int .i64 num,.slice ka kids.length kc] 24))):=St.alloc _ _
 have HN0:=hide (heap_new w #[.int .i64 26,.string (str text),.int .i64 num,.slice ka kids.length kc] 24)
 have hkn:=know_any 26 text num ka kids.length kc _ ((hG.below hP.base).below ((Below.refl _ _).alloc (Nat.le_refl _) (.cells #[.int .i64 26,.string (str text),.int .i64 num,.slice ka kids.length kc] 24))) t1 (by omega)
 clear hP hv hR hG ih hL hTb
 go_enter Tryz.func146,Tryz.ntmps146
 go_wp2_with fail
 go_at_call 75
 refine hkn.mono ?_
 rintro e w1 ⟨⟨hk,rfl⟩|⟨hk,rfl⟩,hb1⟩
 rotate_left
 ·exact ⟨rfl,PostP.no (fun h=>by have:=(HIff.out.1 h).1;rw [hk] at this;cases this) (HP0.out.below hb1).base⟩
 have HK:=hide hk
 have HP1:=hide (HP0.out.below hb1)
 have HS1:=hide (HS0.out.trans (St.below hb1))
 have hn1:=(St.below hb1).node HN0.out
 have HN1:=hide (((St.below hb1).nodes _ _ _ HN0.out).trans HN0.out)
 clear hk hb1 hkn HP0 HS0 HN0
 obtain rfl:=kn_nil (k:=26) (by rfl) HK.out
 have HI:Hid (IsEx (.mk 26 text num [])):=HIff.out.2 ⟨HK.out,by omega,fun e=>absurd e (by decide),fun x hx=>by simp at hx⟩
 clear HR
 go_wp2_with fail
 go_at_call 77
 refine (add_new HP1.out [sAMP,text] _ rfl 2 rfl (by omega) (by (try simp only [List.length_append,List.length_cons,List.length_nil,txs_len]);omega) _ (by simp)).mono ?_
 rintro e w2 ⟨rfl,hP2,hS2⟩
 have HP2:=hide hP2
 have HS2:=hide (HS1.out.trans hS2)
 have hn2:=hS2.node HN1.out
 have HN2:=hide ((hS2.nodes _ _ _ HN1.out).trans HN1.out)
 clear hP2 hS2 hn1
 go_wp2_with fail
 go_end0
 exact PostP.ok HI.out (HP2.out.app' (by rw [sh_e26];rfl)) HS2.out
theorem expr_k27 {w0:World} (hG:Gl w0) (hTb:TabW w0) (text:List UInt8) (num:Int) (kids:List Nd) (hn7:cntL kids≤700) (ih:∀ x,x∈kids→ExN w0 x):ExN w0 (.mk 27 text num kids):=by
 intro b w T v hP hv hT
 have hL:=hv.lg
 have hk7:kids.length≤700:=Nat.le_trans (len_cnt kids) hn7
 have HIff:=hide (ex_kn hL hk7)
 rw [tb_mk] at hT
 obtain ⟨ka,kc,rfl,t1,n1,n2,l1,l2,hR⟩:=hv.part
 have HR:=hide hR
 have HG:=hide hG
 have HTb:=hide hTb
 have HIh:=hide ih
 have HP0:Hid (Pt w0 (w.alloc (.cells #[.int .i64 27,.string (str text),.int .i64 num,.slice ka kids.length kc] 24)) b T):=hP.alloc _
 have HS0:Hid (St w (w.alloc (.cells #[.int .i64 27,.string (str text),.int .i64 num,.slice ka kids.length kc] 24))):=St.alloc _ _
 have HN0:=hide (heap_new w #[.int .i64 27,.string (str text),.int .i64 num,.slice ka kids.length kc] 24)
 have hkn:=know_any 27 text num ka kids.length kc _ ((hG.below hP.base).below ((Below.refl _ _).alloc (Nat.le_refl _) (.cells #[.int .i64 27,.string (str text),.int .i64 num,.slice ka kids.length kc] 24))) t1 (by omega)
 clear hP hv hR hG ih hL hTb
 go_enter Tryz.func146,Tryz.ntmps146
 go_wp2_with fail
 go_at_call 75
 refine hkn.mono ?_
 rintro e w1 ⟨⟨hk,rfl⟩|⟨hk,rfl⟩,hb1⟩
 rotate_left
 ·exact ⟨rfl,PostP.no (fun h=>by have:=(HIff.out.1 h).1;rw [hk] at this;cases this) (HP0.out.below hb1).base⟩
 have HK:=hide hk
 have HP1:=hide (HP0.out.below hb1)
 have HS1:=hide (HS0.out.trans (St.below hb1))
 have hn1:=(St.below hb1).node HN0.out
 have HN1:=hide (((St.below hb1).nodes _ _ _ HN0.out).trans HN0.out)
 clear hk hb1 hkn HP0 HS0 HN0
 have HI:Hid (IsEx (.mk 27 text num kids) ↔ ∀ y,y∈kids→IsEx y):=⟨fun h=>(HIff.out.1 h).2.2.2,fun h=>HIff.out.2 ⟨HK.out,by omega,fun e=>absurd e (by decide),h⟩⟩
 have HEach:Hid (Each67 w0 b kids):=fun j hj w' T' v' h1 h2 h3=>HIh.out kids[j] (List.getElem_mem hj) b w' T' v' h1 h2 h3
 have HJl:=hide (joinL_tb kids)
 go_wp2_with fail
 go_at_call 77
 refine (add_new HP1.out [text,sLB] _ rfl 2 rfl (by omega) (by have:=HJl.out;(try simp only [List.length_append,List.length_cons,List.length_nil,txs_len]);omega) _ (by simp)).mono ?_
 rintro e w2 ⟨rfl,hP2,hS2⟩
 have HP2:=hide hP2
 have HS2:=hide (HS1.out.trans hS2)
 have hn2:=hS2.node HN1.out
 have HN2:=hide ((hS2.nodes _ _ _ HN1.out).trans HN1.out)
 clear hP2 hS2 hn1
 go_wp2_with fail
 go_at_call 128
 refine (parts_67 HP2.out kids _ kc HR.out (by omega) HEach.out (by have:=HJl.out;(try simp only [List.length_append,List.length_cons,List.length_nil,txs_len]);omega)).mono ?_
 rintro e w3 (⟨hp3,rfl,hP3,hS3⟩|⟨hp3,rfl,hB3⟩)
 rotate_left
 ·exact ⟨rfl,PostP.no (fun h=>hp3 (HI.out.1 h)) hB3⟩
 have HA3:=hide hp3
 have HP3:=hide hP3
 have HS3:=hide (HS2.out.trans hS3)
 have hn3:=hS3.node HN2.out
 have HN3:=hide ((hS3.nodes _ _ _ HN2.out).trans HN2.out)
 clear hp3 hP3 hS3 hn2
 go_wp2_with fail
 go_at_call 77
 refine (add_new HP3.out [sRB] _ rfl 1 rfl (by omega) (by have:=HJl.out;(try simp only [List.length_append,List.length_cons,List.length_nil,txs_len]);omega) _ (by simp)).mono ?_
 rintro e w4 ⟨rfl,hP4,hS4⟩
 have HP4:=hide hP4
 have HS4:=hide (HS3.out.trans hS4)
 have hn4:=hS4.node HN3.out
 have HN4:=hide ((hS4.nodes _ _ _ HN3.out).trans HN3.out)
 clear hP4 hS4 hn3
 go_wp2_with fail
 go_end0
 exact PostP.ok (HI.out.2 HA3.out) (HP4.out.app' (by rw [sh_e27,txs_app,txs_app];simp [txs,raw_sg,raw_wd])) HS4.out
theorem expr_k28 {w0:World} (hG:Gl w0) (hTb:TabW w0) (text:List UInt8) (num:Int) (kids:List Nd) (hn7:cntL kids≤700) (ih:∀ x,x∈kids→ExN w0 x):ExN w0 (.mk 28 text num kids):=by
 intro b w T v hP hv hT
 have hL:=hv.lg
 have hk7:kids.length≤700:=Nat.le_trans (len_cnt kids) hn7
 have HIff:=hide (ex_kn hL hk7)
 rw [tb_mk] at hT
 obtain ⟨ka,kc,rfl,t1,n1,n2,l1,l2,hR⟩:=hv.part
 have HR:=hide hR
 have HG:=hide hG
 have HTb:=hide hTb
 have HIh:=hide ih
 have HP0:Hid (Pt w0 (w.alloc (.cells #[.int .i64 28,.string (str text),.int .i64 num,.slice ka kids.length kc] 24)) b T):=hP.alloc _
 have HS0:Hid (St w (w.alloc (.cells #[.int .i64 28,.string (str text),.int .i64 num,.slice ka kids.length kc] 24))):=St.alloc _ _
 have HN0:=hide (heap_new w #[.int .i64 28,.string (str text),.int .i64 num,.slice ka kids.length kc] 24)
 have hkn:=know_any 28 text num ka kids.length kc _ ((hG.below hP.base).below ((Below.refl _ _).alloc (Nat.le_refl _) (.cells #[.int .i64 28,.string (str text),.int .i64 num,.slice ka kids.length kc] 24))) t1 (by omega)
 clear hP hv hR hG ih hL hTb
 go_enter Tryz.func146,Tryz.ntmps146
 go_wp2_with fail
 go_at_call 75
 refine hkn.mono ?_
 rintro e w1 ⟨⟨hk,rfl⟩|⟨hk,rfl⟩,hb1⟩
 rotate_left
 ·exact ⟨rfl,PostP.no (fun h=>by have:=(HIff.out.1 h).1;rw [hk] at this;cases this) (HP0.out.below hb1).base⟩
 have HK:=hide hk
 have HP1:=hide (HP0.out.below hb1)
 have HS1:=hide (HS0.out.trans (St.below hb1))
 have hn1:=(St.below hb1).node HN0.out
 have HN1:=hide (((St.below hb1).nodes _ _ _ HN0.out).trans HN0.out)
 clear hk hb1 hkn HP0 HS0 HN0
 obtain ⟨x,rfl⟩:=kn_one (k:=28) (by rfl) HK.out
 have HI:Hid (IsEx (.mk 28 text num [x]) ↔ IsEx x):=⟨fun h=>(HIff.out.1 h).2.2.2 x (by simp),fun h=>HIff.out.2 ⟨HK.out,by omega,fun e=>absurd e (by decide),fun y hy=>by rw [List.mem_singleton.1 hy];exact h⟩⟩
 have HEx:=hide (HIh.out x (by simp))
 have HLx:=hide (sh_tb x)
 have HTx:Hid (T.length+2*tb x+12≤1000000000000):=by rw [tbL_cons,tbL_nil] at hT;simp only [List.length_cons,List.length_nil] at hT;show _≤_;omega
 have hRo:=HR.out
 clear hT
 obtain ⟨ga,oa,ka,xa,na,aa,ma,ca,hkaa,hga,qa0,qa1,qa2,qa3,hnda⟩:=hRo.kid0
 have Ha:=hide hnda
 have Ha0:=hide qa0
 have Ha1:=hide qa1
 have Ha2:=hide qa2
 have Ha3:=hide qa3
 clear qa0 qa1 qa2 qa3 hnda hga
 subst hkaa
 go_wp2_with fail
 go_at_call 77
 refine (add_new HP1.out [sMINUS] _ rfl 1 rfl (by omega) (by have:=HLx.out;have:=HTx.out;(try simp only [List.length_append,List.length_cons,List.length_nil,txs_len]);omega) _ (by simp)).mono ?_
 rintro e w2 ⟨rfl,hP2,hS2⟩
 have HP2:=hide hP2
 have HS2:=hide (HS1.out.trans hS2)
 have hn2:=hS2.node HN1.out
 have HN2:=hide ((hS2.nodes _ _ _ HN1.out).trans HN1.out)
 clear hP2 hS2 hn1
 have hb2:=HP2.out.base
 have ea2_0:=below_cell hb2 Ha0.out
 have ea2_1:=below_cell hb2 Ha1.out
 have ea2_2:=below_cell hb2 Ha2.out
 have ea2_3:=below_cell hb2 Ha3.out
 clear hb2
 go_wp2_with fail
 go_at_call 161
 refine (part_any HG.out x HEx.out HP2.out _ Ha.out 3 (by have:=HLx.out;have:=HTx.out;(try simp only [List.length_append,List.length_cons,List.length_nil,txs_len]);omega)).mono ?_
 rintro e w3 (⟨hp3,rfl,hP3,hS3⟩|⟨hp3,rfl,hB3⟩)
 rotate_left
 ·exact ⟨rfl,PostP.no (fun h=>hp3 (HI.out.1 h)) hB3⟩
 have HA3:=hide hp3
 have HP3:=hide hP3
 have HS3:=hide (HS2.out.trans hS3)
 have hn3:=hS3.node HN2.out
 have HN3:=hide ((hS3.nodes _ _ _ HN2.out).trans HN2.out)
 clear hp3 hP3 hS3 hn2
 go_wp2_with fail
 go_end0
 exact PostP.ok (HI.out.2 HA3.out) (HP3.out.app' (by rw [sh_e28,txs_cons,raw_sg];simp)) HS3.out
theorem expr_k29 {w0:World} (hG:Gl w0) (hTb:TabW w0) (text:List UInt8) (num:Int) (kids:List Nd) (hn7:cntL kids≤700) (ih:∀ x,x∈kids→ExN w0 x):ExN w0 (.mk 29 text num kids):=by
 intro b w T v hP hv hT
 have hL:=hv.lg
 have hk7:kids.length≤700:=Nat.le_trans (len_cnt kids) hn7
 have HIff:=hide (ex_kn hL hk7)
 rw [tb_mk] at hT
 obtain ⟨ka,kc,rfl,t1,n1,n2,l1,l2,hR⟩:=hv.part
 have HR:=hide hR
 have HG:=hide hG
 have HTb:=hide hTb
 have HIh:=hide ih
 have HP0:Hid (Pt w0 (w.alloc (.cells #[.int .i64 29,.string (str text),.int .i64 num,.slice ka kids.length kc] 24)) b T):=hP.alloc _
 have HS0:Hid (St w (w.alloc (.cells #[.int .i64 29,.string (str text),.int .i64 num,.slice ka kids.length kc] 24))):=St.alloc _ _
 have HN0:=hide (heap_new w #[.int .i64 29,.string (str text),.int .i64 num,.slice ka kids.length kc] 24)
 have hkn:=know_any 29 text num ka kids.length kc _ ((hG.below hP.base).below ((Below.refl _ _).alloc (Nat.le_refl _) (.cells #[.int .i64 29,.string (str text),.int .i64 num,.slice ka kids.length kc] 24))) t1 (by omega)
 clear hP hv hR hG ih hL hTb
 go_enter Tryz.func146,Tryz.ntmps146
 go_wp2_with fail
 go_at_call 75
 refine hkn.mono ?_
 rintro e w1 ⟨⟨hk,rfl⟩|⟨hk,rfl⟩,hb1⟩
 rotate_left
 ·exact ⟨rfl,PostP.no (fun h=>by have:=(HIff.out.1 h).1;rw [hk] at this;cases this) (HP0.out.below hb1).base⟩
 have HK:=hide hk
 have HP1:=hide (HP0.out.below hb1)
 have HS1:=hide (HS0.out.trans (St.below hb1))
 have hn1:=(St.below hb1).node HN0.out
 have HN1:=hide (((St.below hb1).nodes _ _ _ HN0.out).trans HN0.out)
 clear hk hb1 hkn HP0 HS0 HN0
 obtain ⟨x,rfl⟩:=kn_one (k:=29) (by rfl) HK.out
 have HI:Hid (IsEx (.mk 29 text num [x]) ↔ IsEx x):=⟨fun h=>(HIff.out.1 h).2.2.2 x (by simp),fun h=>HIff.out.2 ⟨HK.out,by omega,fun e=>absurd e (by decide),fun y hy=>by rw [List.mem_singleton.1 hy];exact h⟩⟩
 have HEx:=hide (HIh.out x (by simp))
 have HLx:=hide (sh_tb x)
 have HTx:Hid (T.length+2*tb x+12≤1000000000000):=by rw [tbL_cons,tbL_nil] at hT;simp only [List.length_cons,List.length_nil] at hT;show _≤_;omega
 have hRo:=HR.out
 clear hT
 obtain ⟨ga,oa,ka,xa,na,aa,ma,ca,hkaa,hga,qa0,qa1,qa2,qa3,hnda⟩:=hRo.kid0
 have Ha:=hide hnda
 have Ha0:=hide qa0
 have Ha1:=hide qa1
 have Ha2:=hide qa2
 have Ha3:=hide qa3
 clear qa0 qa1 qa2 qa3 hnda hga
 subst hkaa
 go_wp2_with fail
 go_at_call 77
 refine (add_new HP1.out [sNOT] _ rfl 1 rfl (by omega) (by have:=HLx.out;have:=HTx.out;(try simp only [List.length_append,List.length_cons,List.length_nil,txs_len]);omega) _ (by simp)).mono ?_
 rintro e w2 ⟨rfl,hP2,hS2⟩
 have HP2:=hide hP2
 have HS2:=hide (HS1.out.trans hS2)
 have hn2:=hS2.node HN1.out
 have HN2:=hide ((hS2.nodes _ _ _ HN1.out).trans HN1.out)
 clear hP2 hS2 hn1
 have hb2:=HP2.out.base
 have ea2_0:=below_cell hb2 Ha0.out
 have ea2_1:=below_cell hb2 Ha1.out
 have ea2_2:=below_cell hb2 Ha2.out
 have ea2_3:=below_cell hb2 Ha3.out
 clear hb2
 go_wp2_with fail
 go_at_call 161
 refine (part_any HG.out x HEx.out HP2.out _ Ha.out 3 (by have:=HLx.out;have:=HTx.out;(try simp only [List.length_append,List.length_cons,List.length_nil,txs_len]);omega)).mono ?_
 rintro e w3 (⟨hp3,rfl,hP3,hS3⟩|⟨hp3,rfl,hB3⟩)
 rotate_left
 ·exact ⟨rfl,PostP.no (fun h=>hp3 (HI.out.1 h)) hB3⟩
 have HA3:=hide hp3
 have HP3:=hide hP3
 have HS3:=hide (HS2.out.trans hS3)
 have hn3:=hS3.node HN2.out
 have HN3:=hide ((hS3.nodes _ _ _ HN2.out).trans HN2.out)
 clear hp3 hP3 hS3 hn2
 go_wp2_with fail
 go_end0
 exact PostP.ok (HI.out.2 HA3.out) (HP3.out.app' (by rw [sh_e29,txs_cons,raw_sg];simp)) HS3.out
theorem expr_k30 {w0:World} (hG:Gl w0) (hTb:TabW w0) (text:List UInt8) (num:Int) (kids:List Nd) (hn7:cntL kids≤700) (ih:∀ x,x∈kids→ExN w0 x):ExN w0 (.mk 30 text num kids):=by
 intro b w T v hP hv hT
 have hL:=hv.lg
 have hk7:kids.length≤700:=Nat.le_trans (len_cnt kids) hn7
 have HIff:=hide (ex_kn hL hk7)
 rw [tb_mk] at hT
 obtain ⟨ka,kc,rfl,t1,n1,n2,l1,l2,hR⟩:=hv.part
 have HR:=hide hR
 have HG:=hide hG
 have HTb:=hide hTb
 have HIh:=hide ih
 have HP0:Hid (Pt w0 (w.alloc (.cells #[.int .i64 30,.string (str text),.int .i64 num,.slice ka kids.length kc] 24)) b T):=hP.alloc _
 have HS0:Hid (St w (w.alloc (.cells #[.int .i64 30,.string (str text),.int .i64 num,.slice ka kids.length kc] 24))):=St.alloc _ _
 have HN0:=hide (heap_new w #[.int .i64 30,.string (str text),.int .i64 num,.slice ka kids.length kc] 24)
 have hkn:=know_any 30 text num ka kids.length kc _ ((hG.below hP.base).below ((Below.refl _ _).alloc (Nat.le_refl _) (.cells #[.int .i64 30,.string (str text),.int .i64 num,.slice ka kids.length kc] 24))) t1 (by omega)
 clear hP hv hR hG ih hL hTb
 go_enter Tryz.func146,Tryz.ntmps146
 go_wp2_with fail
 go_at_call 75
 refine hkn.mono ?_
 rintro e w1 ⟨⟨hk,rfl⟩|⟨hk,rfl⟩,hb1⟩
 rotate_left
 ·exact ⟨rfl,PostP.no (fun h=>by have:=(HIff.out.1 h).1;rw [hk] at this;cases this) (HP0.out.below hb1).base⟩
 have HK:=hide hk
 have HP1:=hide (HP0.out.below hb1)
 have HS1:=hide (HS0.out.trans (St.below hb1))
 have hn1:=(St.below hb1).node HN0.out
 have HN1:=hide (((St.below hb1).nodes _ _ _ HN0.out).trans HN0.out)
 clear hk hb1 hkn HP0 HS0 HN0
 obtain ⟨x,rfl⟩:=kn_one (k:=30) (by rfl) HK.out
 have HI:Hid (IsEx (.mk 30 text num [x]) ↔ IsEx x):=⟨fun h=>(HIff.out.1 h).2.2.2 x (by simp),fun h=>HIff.out.2 ⟨HK.out,by omega,fun e=>absurd e (by decide),fun y hy=>by rw [List.mem_singleton.1 hy];exact h⟩⟩
 have HEx:=hide (HIh.out x (by simp))
 have HLx:=hide (sh_tb x)
 have HTx:Hid (T.length+2*tb x+12≤1000000000000):=by rw [tbL_cons,tbL_nil] at hT;simp only [List.length_cons,List.length_nil] at hT;show _≤_;omega
 have hRo:=HR.out
 clear hT
 go_wp2_with fail
 go_at_call 130
 refine (inside_any x HEx.out HP1.out sINT 30 text num [] ka 1 kc hRo (by omega) (by have:=HTx.out;omega)).mono ?_
 rintro e w2 (⟨hp2,rfl,hP2,hS2⟩|⟨hp2,rfl,hB2⟩)
 rotate_left
 ·exact ⟨rfl,PostP.no (fun h=>hp2 (HI.out.1 h)) hB2⟩
 have HA2:=hide hp2
 have HP2:=hide hP2
 have HS2:=hide (HS1.out.trans hS2)
 have hn2:=hS2.node HN1.out
 have HN2:=hide ((hS2.nodes _ _ _ HN1.out).trans HN1.out)
 clear hp2 hP2 hS2 hn1
 go_wp2_with fail
 go_end0
 exact PostP.ok (HI.out.2 HA2.out) (HP2.out.app' (by rw [sh_e30])) HS2.out
theorem expr_k31 {w0:World} (hG:Gl w0) (hTb:TabW w0) (text:List UInt8) (num:Int) (kids:List Nd) (hn7:cntL kids≤700) (ih:∀ x,x∈kids→ExN w0 x):ExN w0 (.mk 31 text num kids):=by
 intro b w T v hP hv hT
 have hL:=hv.lg
 have hk7:kids.length≤700:=Nat.le_trans (len_cnt kids) hn7
 have HIff:=hide (ex_kn hL hk7)
 rw [tb_mk] at hT
 obtain ⟨ka,kc,rfl,t1,n1,n2,l1,l2,hR⟩:=hv.part
 have HR:=hide hR
 have HG:=hide hG
 have HTb:=hide hTb
 have HIh:=hide ih
 have HP0:Hid (Pt w0 (w.alloc (.cells #[.int .i64 31,.string (str text),.int .i64 num,.slice ka kids.length kc] 24)) b T):=hP.alloc _
 have HS0:Hid (St w (w.alloc (.cells #[.int .i64 31,.string (str text),.int .i64 num,.slice ka kids.length kc] 24))):=St.alloc _ _
 have HN0:=hide (heap_new w #[.int .i64 31,.string (str text),.int .i64 num,.slice ka kids.length kc] 24)
 have hkn:=know_any 31 text num ka kids.length kc _ ((hG.below hP.base).below ((Below.refl _ _).alloc (Nat.le_refl _) (.cells #[.int .i64 31,.string (str text),.int .i64 num,.slice ka kids.length kc] 24))) t1 (by omega)
 clear hP hv hR hG ih hL hTb
 go_enter Tryz.func146,Tryz.ntmps146
 go_wp2_with fail
 go_at_call 75
 refine hkn.mono ?_
 rintro e w1 ⟨⟨hk,rfl⟩|⟨hk,rfl⟩,hb1⟩
 rotate_left
 ·exact ⟨rfl,PostP.no (fun h=>by have:=(HIff.out.1 h).1;rw [hk] at this;cases this) (HP0.out.below hb1).base⟩
 have HK:=hide hk
 have HP1:=hide (HP0.out.below hb1)
 have HS1:=hide (HS0.out.trans (St.below hb1))
 have hn1:=(St.below hb1).node HN0.out
 have HN1:=hide (((St.below hb1).nodes _ _ _ HN0.out).trans HN0.out)
 clear hk hb1 hkn HP0 HS0 HN0
 obtain ⟨x,rfl⟩:=kn_one (k:=31) (by rfl) HK.out
 have HI:Hid (IsEx (.mk 31 text num [x]) ↔ IsEx x):=⟨fun h=>(HIff.out.1 h).2.2.2 x (by simp),fun h=>HIff.out.2 ⟨HK.out,by omega,fun e=>absurd e (by decide),fun y hy=>by rw [List.mem_singleton.1 hy];exact h⟩⟩
 have HEx:=hide (HIh.out x (by simp))
 have HLx:=hide (sh_tb x)
 have HTx:Hid (T.length+2*tb x+12≤1000000000000):=by rw [tbL_cons,tbL_nil] at hT;simp only [List.length_cons,List.length_nil] at hT;show _≤_;omega
 have hRo:=HR.out
 clear hT
 go_wp2_with fail
 go_at_call 130
 refine (inside_any x HEx.out HP1.out sLONG 31 text num [] ka 1 kc hRo (by omega) (by have:=HTx.out;omega)).mono ?_
 rintro e w2 (⟨hp2,rfl,hP2,hS2⟩|⟨hp2,rfl,hB2⟩)
 rotate_left
 ·exact ⟨rfl,PostP.no (fun h=>hp2 (HI.out.1 h)) hB2⟩
 have HA2:=hide hp2
 have HP2:=hide hP2
 have HS2:=hide (HS1.out.trans hS2)
 have hn2:=hS2.node HN1.out
 have HN2:=hide ((hS2.nodes _ _ _ HN1.out).trans HN1.out)
 clear hp2 hP2 hS2 hn1
 go_wp2_with fail
 go_end0
 exact PostP.ok (HI.out.2 HA2.out) (HP2.out.app' (by rw [sh_e31])) HS2.out
theorem expr_k32 {w0:World} (hG:Gl w0) (hTb:TabW w0) (text:List UInt8) (num:Int) (kids:List Nd) (hn7:cntL kids≤700) (ih:∀ x,x∈kids→ExN w0 x):ExN w0 (.mk 32 text num kids):=by
 intro b w T v hP hv hT
 have hL:=hv.lg
 have hk7:kids.length≤700:=Nat.le_trans (len_cnt kids) hn7
 have HIff:=hide (ex_kn hL hk7)
 rw [tb_mk] at hT
 obtain ⟨ka,kc,rfl,t1,n1,n2,l1,l2,hR⟩:=hv.part
 have HR:=hide hR
 have HG:=hide hG
 have HTb:=hide hTb
 have HIh:=hide ih
 have HP0:Hid (Pt w0 (w.alloc (.cells #[.int .i64 32,.string (str text),.int .i64 num,.slice ka kids.length kc] 24)) b T):=hP.alloc _
 have HS0:Hid (St w (w.alloc (.cells #[.int .i64 32,.string (str text),.int .i64 num,.slice ka kids.length kc] 24))):=St.alloc _ _
 have HN0:=hide (heap_new w #[.int .i64 32,.string (str text),.int .i64 num,.slice ka kids.length kc] 24)
 have hkn:=know_any 32 text num ka kids.length kc _ ((hG.below hP.base).below ((Below.refl _ _).alloc (Nat.le_refl _) (.cells #[.int .i64 32,.string (str text),.int .i64 num,.slice ka kids.length kc] 24))) t1 (by omega)
 clear hP hv hR hG ih hL hTb
 go_enter Tryz.func146,Tryz.ntmps146
 go_wp2_with fail
 go_at_call 75
 refine hkn.mono ?_
 rintro e w1 ⟨⟨hk,rfl⟩|⟨hk,rfl⟩,hb1⟩
 rotate_left
 ·exact ⟨rfl,PostP.no (fun h=>by have:=(HIff.out.1 h).1;rw [hk] at this;cases this) (HP0.out.below hb1).base⟩
 have HK:=hide hk
 have HP1:=hide (HP0.out.below hb1)
 have HS1:=hide (HS0.out.trans (St.below hb1))
 have hn1:=(St.below hb1).node HN0.out
 have HN1:=hide (((St.below hb1).nodes _ _ _ HN0.out).trans HN0.out)
 clear hk hb1 hkn HP0 HS0 HN0
 obtain ⟨x,y,rfl⟩:=kn_two (k:=32) (by rfl) HK.out
 have HI:Hid (IsEx (.mk 32 text num [x,y]) ↔ isOp num∧IsEx x∧IsEx y):=⟨fun h=>⟨by have:=(HIff.out.1 h).2.2.1;simpa using this,(HIff.out.1 h).2.2.2 x (by simp),(HIff.out.1 h).2.2.2 y (by simp)⟩,fun h=>HIff.out.2 ⟨HK.out,by omega,fun _=>h.1,fun z hz=>by
  rcases List.mem_cons.1 hz with rfl|hz
  ·exact h.2.1
  ·rw [List.mem_singleton.1 hz];exact h.2.2⟩⟩
 have HEx:=hide (HIh.out x (by simp))
 have HEy:=hide (HIh.out y (by simp))
 have HTx:Hid (T.length+tb x+tb y+5≤1000000000000):=by rw [tbL_cons,tbL_cons,tbL_nil] at hT;simp only [List.length_cons,List.length_nil] at hT;show _≤_;omega
 have hRo:=HR.out
 clear hT
 go_wp2_with fail
 go_at_call 162
 refine (operation_any HG.out x y HEx.out HEy.out HP1.out text num ka kc hRo HTx.out).mono ?_
 rintro e w2 (⟨hp2,rfl,hP2,hS2⟩|⟨hp2,rfl,hB2⟩)
 rotate_left
 ·exact ⟨rfl,PostP.no (fun h=>hp2 (HI.out.1 h)) hB2⟩
 have HA2:=hide hp2
 have HP2:=hide hP2
 have HS2:=hide (HS1.out.trans hS2)
 have hn2:=hS2.node HN1.out
 have HN2:=hide ((hS2.nodes _ _ _ HN1.out).trans HN1.out)
 clear hp2 hP2 hS2 hn1
 go_wp2_with fail
 go_end0
 exact PostP.ok (HI.out.2 HA2.out) (HP2.out.app' rfl) HS2.out
theorem expr_k33 {w0:World} (hG:Gl w0) (hTb:TabW w0) (text:List UInt8) (num:Int) (kids:List Nd) (hn7:cntL kids≤700) (ih:∀ x,x∈kids→ExN w0 x):ExN w0 (.mk 33 text num kids):=by
 intro b w T v hP hv hT
 have hL:=hv.lg
 have hk7:kids.length≤700:=Nat.le_trans (len_cnt kids) hn7
 have HIff:=hide (ex_kn hL hk7)
 rw [tb_mk] at hT
 obtain ⟨ka,kc,rfl,t1,n1,n2,l1,l2,hR⟩:=hv.part
 have HR:=hide hR
 have HG:=hide hG
 have HTb:=hide hTb
 have HIh:=hide ih
 have HP0:Hid (Pt w0 (w.alloc (.cells #[.int .i64 33,.string (str text),.int .i64 num,.slice ka kids.length kc] 24)) b T):=hP.alloc _
 have HS0:Hid (St w (w.alloc (.cells #[.int .i64 33,.string (str text),.int .i64 num,.slice ka kids.length kc] 24))):=St.alloc _ _
 have HN0:=hide (heap_new w #[.int .i64 33,.string (str text),.int .i64 num,.slice ka kids.length kc] 24)
 have hkn:=know_any 33 text num ka kids.length kc _ ((hG.below hP.base).below ((Below.refl _ _).alloc (Nat.le_refl _) (.cells #[.int .i64 33,.string (str text),.int .i64 num,.slice ka kids.length kc] 24))) t1 (by omega)
 clear hP hv hR hG ih hL hTb
 go_enter Tryz.func146,Tryz.ntmps146
 go_wp2_with fail
 go_at_call 75
 refine hkn.mono ?_
 rintro e w1 ⟨⟨hk,rfl⟩|⟨hk,rfl⟩,hb1⟩
 rotate_left
 ·exact ⟨rfl,PostP.no (fun h=>by have:=(HIff.out.1 h).1;rw [hk] at this;cases this) (HP0.out.below hb1).base⟩
 have HK:=hide hk
 have HP1:=hide (HP0.out.below hb1)
 have HS1:=hide (HS0.out.trans (St.below hb1))
 have hn1:=(St.below hb1).node HN0.out
 have HN1:=hide (((St.below hb1).nodes _ _ _ HN0.out).trans HN0.out)
 clear hk hb1 hkn HP0 HS0 HN0
 obtain rfl:=kn_nil (k:=33) (by rfl) HK.out
 have HI:Hid (IsEx (.mk 33 text num [])):=HIff.out.2 ⟨HK.out,by omega,fun e=>absurd e (by decide),fun x hx=>by simp at hx⟩
 clear HR
 go_wp2_with fail
 go_at_call 77
 refine (add_new HP1.out [sCOUNT] _ rfl 1 rfl (by omega) (by (try simp only [List.length_append,List.length_cons,List.length_nil,txs_len]);omega) _ (by simp)).mono ?_
 rintro e w2 ⟨rfl,hP2,hS2⟩
 have HP2:=hide hP2
 have HS2:=hide (HS1.out.trans hS2)
 have hn2:=hS2.node HN1.out
 have HN2:=hide ((hS2.nodes _ _ _ HN1.out).trans HN1.out)
 clear hP2 hS2 hn1
 go_wp2_with fail
 go_end0
 exact PostP.ok HI.out (HP2.out.app' (by rw [sh_e33];rfl)) HS2.out
theorem expr_k34 {w0:World} (hG:Gl w0) (hTb:TabW w0) (text:List UInt8) (num:Int) (kids:List Nd) (hn7:cntL kids≤700) (ih:∀ x,x∈kids→ExN w0 x):ExN w0 (.mk 34 text num kids):=by
 intro b w T v hP hv hT
 have hL:=hv.lg
 have hk7:kids.length≤700:=Nat.le_trans (len_cnt kids) hn7
 have HIff:=hide (ex_kn hL hk7)
 rw [tb_mk] at hT
 obtain ⟨ka,kc,rfl,t1,n1,n2,l1,l2,hR⟩:=hv.part
 have HR:=hide hR
 have HG:=hide hG
 have HTb:=hide hTb
 have HIh:=hide ih
 have HP0:Hid (Pt w0 (w.alloc (.cells #[.int .i64 34,.string (str text),.int .i64 num,.slice ka kids.length kc] 24)) b T):=hP.alloc _
 have HS0:Hid (St w (w.alloc (.cells #[.int .i64 34,.string (str text),.int .i64 num,.slice ka kids.length kc] 24))):=St.alloc _ _
 have HN0:=hide (heap_new w #[.int .i64 34,.string (str text),.int .i64 num,.slice ka kids.length kc] 24)
 have hkn:=know_any 34 text num ka kids.length kc _ ((hG.below hP.base).below ((Below.refl _ _).alloc (Nat.le_refl _) (.cells #[.int .i64 34,.string (str text),.int .i64 num,.slice ka kids.length kc] 24))) t1 (by omega)
 clear hP hv hR hG ih hL hTb
 go_enter Tryz.func146,Tryz.ntmps146
 go_wp2_with fail
 go_at_call 75
 refine hkn.mono ?_
 rintro e w1 ⟨⟨hk,rfl⟩|⟨hk,rfl⟩,hb1⟩
 rotate_left
 ·exact ⟨rfl,PostP.no (fun h=>by have:=(HIff.out.1 h).1;rw [hk] at this;cases this) (HP0.out.below hb1).base⟩
 have HK:=hide hk
 have HP1:=hide (HP0.out.below hb1)
 have HS1:=hide (HS0.out.trans (St.below hb1))
 have hn1:=(St.below hb1).node HN0.out
 have HN1:=hide (((St.below hb1).nodes _ _ _ HN0.out).trans HN0.out)
 clear hk hb1 hkn HP0 HS0 HN0
 obtain ⟨x,rfl⟩:=kn_one (k:=34) (by rfl) HK.out
 have HI:Hid (IsEx (.mk 34 text num [x]) ↔ IsEx x):=⟨fun h=>(HIff.out.1 h).2.2.2 x (by simp),fun h=>HIff.out.2 ⟨HK.out,by omega,fun e=>absurd e (by decide),fun y hy=>by rw [List.mem_singleton.1 hy];exact h⟩⟩
 have HEx:=hide (HIh.out x (by simp))
 have HLx:=hide (sh_tb x)
 have HTx:Hid (T.length+2*tb x+12≤1000000000000):=by rw [tbL_cons,tbL_nil] at hT;simp only [List.length_cons,List.length_nil] at hT;show _≤_;omega
 have hRo:=HR.out
 clear hT
 go_wp2_with fail
 go_at_call 130
 refine (inside_any x HEx.out HP1.out sEXTRA 34 text num [] ka 1 kc hRo (by omega) (by have:=HTx.out;omega)).mono ?_
 rintro e w2 (⟨hp2,rfl,hP2,hS2⟩|⟨hp2,rfl,hB2⟩)
 rotate_left
 ·exact ⟨rfl,PostP.no (fun h=>hp2 (HI.out.1 h)) hB2⟩
 have HA2:=hide hp2
 have HP2:=hide hP2
 have HS2:=hide (HS1.out.trans hS2)
 have hn2:=hS2.node HN1.out
 have HN2:=hide ((hS2.nodes _ _ _ HN1.out).trans HN1.out)
 clear hp2 hP2 hS2 hn1
 go_wp2_with fail
 go_end0
 exact PostP.ok (HI.out.2 HA2.out) (HP2.out.app' (by rw [sh_e34])) HS2.out
theorem expr_rest {w0:World} (hG:Gl w0) (hTb:TabW w0) (kind:Int) (text:List UInt8) (num:Int) (kids:List Nd) (k23:¬ kind=23) (k24:¬ kind=24) (k25:¬ kind=25) (k26:¬ kind=26) (k27:¬ kind=27) (k28:¬ kind=28) (k29:¬ kind=29) (k30:¬ kind=30) (k31:¬ kind=31) (k32:¬ kind=32) (k33:¬ kind=33) (k34:¬ kind=34) (hn7:cntL kids≤700) (ih:∀ x,x∈kids→ExN w0 x):ExN w0 (.mk kind text num kids):=by
 intro b w T v hP hv hT
 have hL:=hv.lg
 have hk7:kids.length≤700:=Nat.le_trans (len_cnt kids) hn7
 have HIff:=hide (ex_kn hL hk7)
 rw [tb_mk] at hT
 obtain ⟨ka,kc,rfl,t1,n1,n2,l1,l2,hR⟩:=hv.part
 have HR:=hide hR
 have HG:=hide hG
 have HTb:=hide hTb
 have HIh:=hide ih
 have HP0:Hid (Pt w0 (w.alloc (.cells #[.int .i64 kind,.string (str text),.int .i64 num,.slice ka kids.length kc] 24)) b T):=hP.alloc _
 have HS0:Hid (St w (w.alloc (.cells #[.int .i64 kind,.string (str text),.int .i64 num,.slice ka kids.length kc] 24))):=St.alloc _ _
 have HN0:=hide (heap_new w #[.int .i64 kind,.string (str text),.int .i64 num,.slice ka kids.length kc] 24)
 have hkn:=know_any kind text num ka kids.length kc _ ((hG.below hP.base).below ((Below.refl _ _).alloc (Nat.le_refl _) (.cells #[.int .i64 kind,.string (str text),.int .i64 num,.slice ka kids.length kc] 24))) t1 (by omega)
 clear hP hv hR hG ih hL hTb
 go_enter Tryz.func146,Tryz.ntmps146
 go_wp2_with fail
 go_at_call 75
 refine hkn.mono ?_
 rintro e w1 ⟨⟨hk,rfl⟩|⟨hk,rfl⟩,hb1⟩
 rotate_left
 ·exact ⟨rfl,PostP.no (fun h=>by have:=(HIff.out.1 h).1;rw [hk] at this;cases this) (HP0.out.below hb1).base⟩
 have HK:=hide hk
 have HP1:=hide (HP0.out.below hb1)
 have HS1:=hide (HS0.out.trans (St.below hb1))
 have hn1:=(St.below hb1).node HN0.out
 have HN1:=hide (((St.below hb1).nodes _ _ _ HN0.out).trans HN0.out)
 clear hk hb1 hkn HP0 HS0 HN0
 have k23':(kind == 23)=false:=by simpa using k23
 have k24':(kind == 24)=false:=by simpa using k24
 have k25':(kind == 25)=false:=by simpa using k25
 have k26':(kind == 26)=false:=by simpa using k26
 have k27':(kind == 27)=false:=by simpa using k27
 have k28':(kind == 28)=false:=by simpa using k28
 have k29':(kind == 29)=false:=by simpa using k29
 have k30':(kind == 30)=false:=by simpa using k30
 have k31':(kind == 31)=false:=by simpa using k31
 have k32':(kind == 32)=false:=by simpa using k32
 have k33':(kind == 33)=false:=by simpa using k33
 have k34':(kind == 34)=false:=by simpa using k34
 have HI:Hid (IsEx (.mk kind text num kids) ↔ NumP kind text num kids.length):=by
  show _ ↔ _
  have h34:=(kn_iff.1 HK.out).1
  constructor
  ·intro h
   have:=(HIff.out.1 h).2.1
   exact ⟨HK.out,by omega⟩
  ·rintro ⟨h1,h2⟩
   refine HIff.out.2 ⟨HK.out,by omega,fun e=>absurd e k32,fun x hx=>?_⟩
   have h6:=(kn_iff.1 h1).2.2.2.2.2
   have h6':(kids.length:Int)≤0:=by rcases h2 with h2|h2<;>(rw [h2] at h6;exact h6)
   rw [nil_of h6'] at hx
   simp at hx
 clear k23 k24 k25 k26 k27 k28 k29 k30 k31 k32 k33 k34
 go_wp2_with fail
 go_at_call 107
 refine (number_any HG.out HTb.out HP1.out kind text num kids ka kc t1 n1 n2 (by omega) (by omega)).mono ?_
 rintro e w2 (⟨hp2,rfl,hP2,hS2⟩|⟨hp2,rfl,hB2⟩)
 rotate_left
 ·exact ⟨rfl,PostP.no (fun h=>hp2 (HI.out.1 h)) hB2⟩
 have HA2:=hide hp2
 have HP2:=hide hP2
 have HS2:=hide (HS1.out.trans hS2)
 have hn2:=hS2.node HN1.out
 have HN2:=hide ((hS2.nodes _ _ _ HN1.out).trans HN1.out)
 clear hp2 hP2 hS2 hn1
 go_wp2_with fail
 go_end0
 exact PostP.ok (HI.out.2 HA2.out) (HP2.out.app' rfl) HS2.out
end Go.Proofs.YthcfianhdkolhaaGreatDoor.T
