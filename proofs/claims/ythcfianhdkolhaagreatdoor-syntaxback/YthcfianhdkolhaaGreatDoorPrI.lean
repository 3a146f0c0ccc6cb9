/- PrG PrH PrI -/
import Derived.Test.YthcfianhdkolhaaGreatDoorPrF
namespace Go.Proofs.YthcfianhdkolhaaGreatDoor.T
open Go.RowKit Go.Proofs.YthcfianhdkolhaaGreatDoor.S
set_option maxRecDepth 100000
set_option maxHeartbeats 2000000
set_option linter.unusedVariables false
set_option linter.unusedSimpArgs false

theorem expr_k25 {w0:World} (hG:Gl w0) (hTb:TabW w0) (text:List UInt8) (num:Int) (kids:List Nd) (hn7:cntL kids≤700) (ih:∀ x,x∈kids→ExN w0 x):ExN w0 (.mk 25 text num kids):=by
 intro b w T v hP hv hT
 have hL:=hv.lg
 have hk7:kids.length≤700:=Nat.le_trans (len_cnt kids) hn7
 have HIff:=hide (ex_kn hL hk7)
 rw [tb_mk] at hT
 obtain ⟨ka,kc,rfl,t1,n1,n2,l1,l2,hR⟩:=hv.part
 have HR:=hide hR
 have HG:=hide hG
 have HTb:=hide hTb
 have HIh:=hide ih
 have HP0:Hid (Pt w0 (w.alloc (.cells #[.int .i64 25,.string (str text),.int .i64 num,.slice ka kids.length kc] 24)) b T):=hP.alloc _
 have HS0:Hid (St w (w.alloc (.cells #[.int .i64 25,.string (str text),.int .i64 num,.slice ka kids.length kc] 24))):=St.alloc _ _
 have HN0:=hide (heap_new w #[.int .i64 25,.string (str text),.int .i64 num,.slice ka kids.length kc] 24)
 have hkn:=know_any 25 text num ka kids.length kc _ ((hG.below hP.base).below ((Below.refl _ _).alloc (Nat.le_refl _) (.cells #[.int .i64 25,.string (str text),.int .i64 num,.slice ka kids.length kc] 24))) t1 (by omega)
 clear hP hv hR hG ih hL hTb
 go_enter Tryz.func146,Tryz.ntmps146
 go_wp2_with fail
 go_at_call 75
 refine hkn.mono ?_
 rintro e w1 ⟨⟨hk,rfl⟩|⟨hk,rfl⟩,hb1⟩
 rotate_left
 ·exact ⟨rfl,PostP.no (fun h=>by have:=(HIff.out.1 h).1;rw [hk] at this;cases this) (HP0.out.below hb1).base⟩
 have HK:=hide hk
 have HP1:=hide (HP0.out.below hb1)
 have HS1:=hide (HS0.out.trans (St.below hb1))
 have hn1:=(St.below hb1).node HN0.out
 have HN1:=hide (((St.below hb1).nodes _ _ _ HN0.out).trans HN0.out)
 clear hk hb1 hkn HP0 HS0 HN0
 obtain ⟨x,l,rfl⟩:=kn_cons (k:=25) (by rfl) HK.out
 have HI:Hid (IsEx (.mk 25 text num (x::l)) ↔ IsEx x∧∀ y,y∈l→IsEx y):=⟨fun h=>⟨(HIff.out.1 h).2.2.2 x (by simp),fun y hy=>(HIff.out.1 h).2.2.2 y (by simp [hy])⟩,fun h=>HIff.out.2 ⟨HK.out,by omega,fun e=>absurd e (by decide),fun y hy=>by
  rcases List.mem_cons.1 hy with rfl|hy
  ·exact h.1
  ·exact h.2 y hy⟩⟩
 have HEx:=hide (HIh.out x (by simp))
 have HLx:=hide (sh_tb x)
 have HTx:Hid (T.length+2*tb x+2*tbL l+3*l.length+12≤1000000000000):=by rw [tbL_cons] at hT;simp only [List.length_cons] at hT;show _≤_;omega
 have HEach:Hid (Each67 w0 b l):=fun j hj w' T' v' h1 h2 h3=>HIh.out l[j] (by simp [List.getElem_mem hj]) b w' T' v' h1 h2 h3
 have hRo:=HR.out
 have hll:l.length≤700:=by simp at hk7;omega
 have hkc:l.length+1≤kc:=by simpa using l1
 clear hT hk7 l1
 obtain ⟨ga,oa,ka,xa,na,aa,ma,ca,hkaa,hga,qa0,qa1,qa2,qa3,hnda⟩:=hRo.kid0
 have Ha:=hide hnda
 have Ha0:=hide qa0
 have Ha1:=hide qa1
 have Ha2:=hide qa2
 have Ha3:=hide qa3
 clear qa0 qa1 qa2 qa3 hnda hga
 subst hkaa
 have HRt:=hide hRo.tail
 have hsl:(1:Int)≤l.length+1∧(l.length:Int)+1≤kc:=by omega
 have hsl2:(0:Int)≤1∧(1:Int)≤l.length+1:=by omega
 have hcs:kc - 1+1=kc:=by omega
 by_cases hk1:kc=1
 ·subst hk1
  obtain rfl:l=[]:=List.eq_nil_of_length_eq_zero (by omega)
  clear hsl hsl2 hcs
  simp only [List.length_nil] at hkc
  have hb1:=HP1.out.base
  have ea1_0:=below_cell hb1 Ha0.out
  have ea1_1:=below_cell hb1 Ha1.out
  have ea1_2:=below_cell hb1 Ha2.out
  have ea1_3:=below_cell hb1 Ha3.out
  clear hb1
  go_wp2_with fail
  go_at_call 161
  refine (part_any HG.out x HEx.out HP1.out _ Ha.out 4 (by have:=HTx.out;omega)).mono ?_
  rintro e w2 (⟨hp2,rfl,hP2,hS2⟩|⟨hp2,rfl,hB2⟩)
  rotate_left
  ·exact ⟨rfl,PostP.no (fun h=>hp2 (HI.out.1 h).1) hB2⟩
  have HA2:=hide hp2
  have HP2:=hide hP2
  have HS2:=hide (HS1.out.trans hS2)
  have hn2:=hS2.node HN1.out
  have HN2:=hide ((hS2.nodes _ _ _ HN1.out).trans HN1.out)
  clear hp2 hP2 hS2 hn1
  go_wp2_with fail
  go_at_call 105
  refine (open_67 HP2.out [] _ _ 0 false (by decide) (fun h=>absurd rfl h) (by simp) HEach.out (by have:=HLx.out;have:=HTx.out;have:=at_len (bindN x) 4 (shT x);(try simp only [List.length_append,List.length_cons,List.length_nil,txs_len]);omega)).mono ?_
  rintro e w3 (⟨hp3,rfl,hP3,hS3⟩|⟨hp3,rfl,hB3⟩)
  rotate_left
  ·exact ⟨rfl,PostP.no (fun h=>hp3 (HI.out.1 h).2) hB3⟩
  have HA3:=hide hp3
  have HP3:=hide hP3
  have HS3:=hide (HS2.out.trans hS3)
  have hn3:=hS3.node HN2.out
  have HN3:=hide ((hS3.nodes _ _ _ HN2.out).trans HN2.out)
  clear hp3 hP3 hS3 hn2
  go_wp2_with fail
  go_end0
  exact PostP.ok (HI.out.2 ⟨HA2.out,HA3.out⟩) (HP3.out.app' (by rw [sh_e25,txs_app];simp)) HS3.out
 have hk1':¬ kc=1:=hk1
 have hk2:(kc:Int)≠1:=by omega
 have hb1:=HP1.out.base
 have ea1_0:=below_cell hb1 Ha0.out
 have ea1_1:=below_cell hb1 Ha1.out
 have ea1_2:=below_cell hb1 Ha2.out
 have ea1_3:=below_cell hb1 Ha3.out
 clear hb1
 go_wp2_with fail
 go_at_call 161
 refine (part_any HG.out x HEx.out HP1.out _ Ha.out 4 (by have:=HTx.out;omega)).mono ?_
 rintro e w2 (⟨hp2,rfl,hP2,hS2⟩|⟨hp2,rfl,hB2⟩)
 rotate_left
 ·exact ⟨rfl,PostP.no (fun h=>hp2 (HI.out.1 h).1) hB2⟩
 have HA2:=hide hp2
 have HP2:=hide hP2
 have HS2:=hide (HS1.out.trans hS2)
 have hn2:=hS2.node HN1.out
 have HN2:=hide ((hS2.nodes _ _ _ HN1.out).trans HN1.out)
 clear hp2 hP2 hS2 hn1
 go_wp2_with fail
 go_at_call 105
 refine (open_67 HP2.out l _ _ 0 false (by decide) HRt.out (by omega) HEach.out (by have:=HLx.out;have:=HTx.out;have:=at_len (bindN x) 4 (shT x);(try simp only [List.length_append,List.length_cons,List.length_nil,txs_len]);omega)).mono ?_
 rintro e w3 (⟨hp3,rfl,hP3,hS3⟩|⟨hp3,rfl,hB3⟩)
 rotate_left
 ·exact ⟨rfl,PostP.no (fun h=>hp3 (HI.out.1 h).2) hB3⟩
 have HA3:=hide hp3
 have HP3:=hide hP3
 have HS3:=hide (HS2.out.trans hS3)
 have hn3:=hS3.node HN2.out
 have HN3:=hide ((hS3.nodes _ _ _ HN2.out).trans HN2.out)
 clear hp3 hP3 hS3 hn2
 go_wp2_with fail
 go_end0
 exact PostP.ok (HI.out.2 ⟨HA2.out,HA3.out⟩) (HP3.out.app' (by rw [sh_e25,txs_app];simp)) HS3.out
theorem expr_step {w0:World} (hG:Gl w0) (hTb:TabW w0) (kind:Int) (text:List UInt8) (num:Int) (kids:List Nd) (hn7:cntL kids≤700) (ih:∀ x,x∈kids→ExN w0 x):ExN w0 (.mk kind text num kids):=by
 by_cases k23:kind=23
 ·subst k23;exact expr_k23 hG hTb text num kids hn7 ih
 by_cases k24:kind=24
 ·subst k24;exact expr_k24 hG hTb text num kids hn7 ih
 by_cases k25:kind=25
 ·subst k25;exact expr_k25 hG hTb text num kids hn7 ih
 by_cases k26:kind=26
 ·subst k26;exact expr_k26 hG hTb text num kids hn7 ih
 by_cases k27:kind=27
 ·subst k27;exact expr_k27 hG hTb text num kids hn7 ih
 by_cases k28:kind=28
 ·subst k28;exact expr_k28 hG hTb text num kids hn7 ih
 by_cases k29:kind=29
 ·subst k29;exact expr_k29 hG hTb text num kids hn7 ih
 by_cases k30:kind=30
 ·subst k30;exact expr_k30 hG hTb text num kids hn7 ih
 by_cases k31:kind=31
 ·subst k31;exact expr_k31 hG hTb text num kids hn7 ih
 by_cases k32:kind=32
 ·subst k32;exact expr_k32 hG hTb text num kids hn7 ih
 by_cases k33:kind=33
 ·subst k33;exact expr_k33 hG hTb text num kids hn7 ih
 by_cases k34:kind=34
 ·subst k34;exact expr_k34 hG hTb text num kids hn7 ih
 exact expr_rest hG hTb kind text num kids k23 k24 k25 k26 k27 k28 k29 k30 k31 k32 k33 k34 hn7 ih
theorem expr_all {w0:World} (hG:Gl w0) (hTb:TabW w0):∀ n,cnt n≤700→ExN w0 n:=by
 refine Nd.ind fun k t v kids ih hc=>?_
 rw [cnt_mk] at hc
 exact expr_step hG hTb k t v kids (by omega) (fun x hx=>ih x hx (by have:=cnt_mem hx;omega))
end Go.Proofs.YthcfianhdkolhaaGreatDoor.T
namespace Go.Proofs.YthcfianhdkolhaaGreatDoor.T
open Go.RowKit Go.Proofs.YthcfianhdkolhaaGreatDoor.S
set_option maxRecDepth 100000
set_option maxHeartbeats 2000000
set_option linter.unusedVariables false
set_option linter.unusedSimpArgs false
theorem begin_69 {w0:World} (x:Nd) (hx:ExN w0 x) {w:World} {b:Nat} {T:List (List UInt8)} (hP:Pt w0 w b T) (v:Value) (hv:NdO w0 x v) (hT:T.length+tb x≤1000000000000):
  Calls Tryz.prog 147 #[.pointer (some ⟨b,0,none⟩),v,.func (.func 148) #[] #[]] w (PostP (IsEx x∧baseN false x=23) w0 w b T (shT x)):=by
 have HEx:=hide hx
 have HV:=hide hv
 have HTx:=hide hT
 have hform:=hv.form
 obtain ⟨kind,text,num,ka,kn,kc,rfl⟩:=hform
 have HP0:Hid (Pt w0 (w.alloc (.cells #[.int .i64 kind,.string text,.int .i64 num,.slice ka kn kc] 24)) b T):=hP.alloc _
 have HS0:Hid (St w (w.alloc (.cells #[.int .i64 kind,.string text,.int .i64 num,.slice ka kn kc] 24))):=St.alloc _ _
 have HN0:=hide (heap_new w #[.int .i64 kind,.string text,.int .i64 num,.slice ka kn kc] 24)
 clear hP hv hx hT
 go_enter Tryz.func147,Tryz.ntmps147
 go_wp2_with fail
 go_at_call 146
 refine (HEx.out b _ _ _ HP0.out HV.out HTx.out).mono ?_
 rintro e w1 (⟨hp1,rfl,hP1,hS1⟩|⟨hp1,rfl,hB1⟩)
 rotate_left
 ·exact ⟨rfl,PostP.no (fun h=>hp1 h.1) hB1⟩
 have HA1:=hide hp1
 have HP1:=hide hP1
 have HS1:=hide (HS0.out.trans hS1)
 have hn1:=hS1.node HN0.out
 have HN1:=hide ((hS1.nodes _ _ _ HN0.out).trans HN0.out)
 clear hp1 hP1 hS1
 go_wp2_with fail
 go_at_call 148
 refine (base_69 HP1.out.base x _ HV.out HA1.out).mono ?_
 rintro e w2 ⟨rfl,hb2⟩
 have HP2:=hide (HP1.out.below hb2)
 have HS2:=hide (HS1.out.trans (St.below hb2))
 clear hb2 hn1
 by_cases hc:baseN false x=23
 ·rw [decide_eq_true hc]
  have HC:=hide hc
  clear hc
  go_wp2_with fail
  go_end0
  exact PostP.ok ⟨HA1.out,HC.out⟩ HP2.out HS2.out
 ·rw [decide_eq_false hc]
  have HC:=hide hc
  clear hc
  go_wp2_with fail
  exact ⟨rfl,PostP.no (fun h=>HC.out h.2) HP2.out.base⟩
theorem begin_70 {w0:World} (x:Nd) (hx:ExN w0 x) {w:World} {b:Nat} {T:List (List UInt8)} (hP:Pt w0 w b T) (v:Value) (hv:NdO w0 x v) (hT:T.length+tb x≤1000000000000):
  Calls Tryz.prog 147 #[.pointer (some ⟨b,0,none⟩),v,.func (.func 149) #[] #[]] w (PostP (IsEx x∧(x.kind=25∧baseN true x=23)) w0 w b T (shT x)):=by
 have HEx:=hide hx
 have HV:=hide hv
 have HTx:=hide hT
 have hform:=hv.form
 obtain ⟨kind,text,num,ka,kn,kc,rfl⟩:=hform
 have HP0:Hid (Pt w0 (w.alloc (.cells #[.int .i64 kind,.string text,.int .i64 num,.slice ka kn kc] 24)) b T):=hP.alloc _
 have HS0:Hid (St w (w.alloc (.cells #[.int .i64 kind,.string text,.int .i64 num,.slice ka kn kc] 24))):=St.alloc _ _
 have HN0:=hide (heap_new w #[.int .i64 kind,.string text,.int .i64 num,.slice ka kn kc] 24)
 clear hP hv hx hT
 go_enter Tryz.func147,Tryz.ntmps147
 go_wp2_with fail
 go_at_call 146
 refine (HEx.out b _ _ _ HP0.out HV.out HTx.out).mono ?_
 rintro e w1 (⟨hp1,rfl,hP1,hS1⟩|⟨hp1,rfl,hB1⟩)
 rotate_left
 ·exact ⟨rfl,PostP.no (fun h=>hp1 h.1) hB1⟩
 have HA1:=hide hp1
 have HP1:=hide hP1
 have HS1:=hide (HS0.out.trans hS1)
 have hn1:=hS1.node HN0.out
 have HN1:=hide ((hS1.nodes _ _ _ HN0.out).trans HN0.out)
 clear hp1 hP1 hS1
 go_wp2_with fail
 go_at_call 149
 refine (base_70 HP1.out.base x _ HV.out HA1.out).mono ?_
 rintro e w2 ⟨rfl,hb2⟩
 have HP2:=hide (HP1.out.below hb2)
 have HS2:=hide (HS1.out.trans (St.below hb2))
 clear hb2 hn1
 by_cases hc:(x.kind=25∧baseN true x=23)
 ·rw [decide_eq_true hc]
  have HC:=hide hc
  clear hc
  go_wp2_with fail
  go_end0
  exact PostP.ok ⟨HA1.out,HC.out⟩ HP2.out HS2.out
 ·rw [decide_eq_false hc]
  have HC:=hide hc
  clear hc
  go_wp2_with fail
  exact ⟨rfl,PostP.no (fun h=>HC.out h.2) HP2.out.base⟩
theorem kn_name {k:Nat} {t:List UInt8} {v:Int} {n:Nat} {m:Int} {u:Int} (hs:shp k=(true,0,m,u)) (h:knB k t v n=true):nameB t=true∧v=0:=by
 obtain ⟨_,h2,h3,h4,_⟩:=kn_iff.1 h
 rw [Int.toNat_natCast,hs] at h2 h4
 exact ⟨txt_t h2,by simp only at h4;omega⟩
theorem kn_bare {k:Nat} {t:List UInt8} {v:Int} {n:Nat} {m:Int} {u:Int} (hs:shp k=(false,0,m,u)) (h:knB k t v n=true):t=[]∧v=0:=by
 obtain ⟨_,h2,h3,h4,_⟩:=kn_iff.1 h
 rw [Int.toNat_natCast,hs] at h2 h4
 exact ⟨txt_f h2,by simp only at h4;omega⟩
theorem st14 {t:List UInt8} {v:Int} {a b:Nd} {n:Nat} (h:knB 14 t v n=true):IsSt (.mk 14 t v [a,b]) ↔ IsTy a∧IsEx b:=by
 obtain ⟨h1,rfl⟩:=kn_name (k:=14) (by rfl) h
 constructor
 ·intro h;cases h with|var s t x hs ht hx=>exact ⟨ht,hx⟩
 ·rintro ⟨ha,hb⟩;exact IsSt.var t a b h1 ha hb
theorem st15 {t:List UInt8} {v:Int} {a b:Nd} {n:Nat} (h:knB 15 t v n=true):IsSt (.mk 15 t v [a,b]) ↔ (IsEx a∧baseN false a=23)∧IsEx b:=by
 obtain ⟨rfl,rfl⟩:=kn_bare (k:=15) (by rfl) h
 constructor
 ·intro h;cases h with|set p x hp hx=>exact ⟨pl_ex hp,hx⟩
 ·rintro ⟨⟨ha,hc⟩,hb⟩;exact IsSt.set a b (ex_pl ha hc) hb
theorem st16 {t:List UInt8} {v:Int} {c x:Nd} {n:Nat} (h:knB 16 t v n=true):IsSt (.mk 16 t v [c,x]) ↔ IsEx c∧IsBl x:=by
 obtain ⟨rfl,rfl⟩:=kn_bare (k:=16) (by rfl) h
 constructor
 ·intro h;cases h with|if1 c l hc hl=>exact ⟨hc,l,rfl,hl⟩
 ·rintro ⟨hc,l,rfl,hl⟩;exact IsSt.if1 c l hc hl
theorem st16b {t:List UInt8} {v:Int} {c x y:Nd} {n:Nat} (h:knB 16 t v n=true):IsSt (.mk 16 t v [c,x,y]) ↔ IsEx c∧IsBl x∧IsBl y:=by
 obtain ⟨rfl,rfl⟩:=kn_bare (k:=16) (by rfl) h
 constructor
 ·intro h;cases h with|if2 c l m hc hl hm=>exact ⟨hc,⟨l,rfl,hl⟩,m,rfl,hm⟩
 ·rintro ⟨hc,⟨l,rfl,hl⟩,m,rfl,hm⟩;exact IsSt.if2 c l m hc hl hm
theorem st17 {t:List UInt8} {v:Int} {c x:Nd} {n:Nat} (h:knB 17 t v n=true):IsSt (.mk 17 t v [c,x]) ↔ IsEx c∧IsBl x:=by
 obtain ⟨rfl,rfl⟩:=kn_bare (k:=17) (by rfl) h
 constructor
 ·intro h;cases h with|while1 c l hc hl=>exact ⟨hc,l,rfl,hl⟩
 ·rintro ⟨hc,l,rfl,hl⟩;exact IsSt.while1 c l hc hl
theorem st18 {t:List UInt8} {v:Int} {x:Nd} {n:Nat} (h:knB 18 t v n=true):IsSt (.mk 18 t v [x]) ↔ IsEx x:=by
 obtain ⟨rfl,rfl⟩:=kn_bare (k:=18) (by rfl) h
 constructor
 ·intro h;cases h with|ret x hx=>exact hx
 ·exact fun h=>IsSt.ret x h
theorem st19 {t:List UInt8} {v:Int} {x:Nd} {n:Nat} (h:knB 19 t v n=true):IsSt (.mk 19 t v [x]) ↔ IsEx x:=by
 obtain ⟨rfl,rfl⟩:=kn_bare (k:=19) (by rfl) h
 constructor
 ·intro h;cases h with|put x hx=>exact hx
 ·exact fun h=>IsSt.put x h
theorem st20 {t:List UInt8} {v:Int} {x:Nd} {n:Nat} (h:knB 20 t v n=true):IsSt (.mk 20 t v [x]) ↔ IsEx x∧(x.kind=25∧baseN true x=23):=by
 obtain ⟨rfl,rfl⟩:=kn_bare (k:=20) (by rfl) h
 constructor
 ·intro h
  cases h with
  | do1 x l hx hl=>
   have hc:=ca_ex (IsCa.call x l hx hl)
   exact ⟨hc.1,rfl,hc.2⟩
 ·rintro ⟨hx,hk,hb⟩
  have hca:=ex_ca hx hb
  cases hca with
  | name s hs=>exact absurd (show (23:Int)=25 from hk) (by decide)
  | dot s x hs hx=>exact absurd (show (24:Int)=25 from hk) (by decide)
  | call x l hy hl=>exact IsSt.do1 x l hy hl
theorem st_kinds {k:Int} {t:List UInt8} {v:Int} {l:List Nd} (h:IsSt (.mk k t v l)):k=14∨k=15∨k=16∨k=17∨k=18∨k=19∨k=20:=cls_st.1 (st_is h).1
def enT (n:Nd):List Tk:=(shT n).dropLast
theorem sh_s14 (t:List UInt8) (v:Int) (a b:Nd):shT (.mk 14 t v [a,b])=(shT a++[wd t]++[sg sEQ]++shT b)++[sg sSEMI]:=by rw [shT_mk];simp [shK,lastT]
theorem sh_s15 (t:List UInt8) (v:Int) (a b:Nd):shT (.mk 15 t v [a,b])=(shT a++[sg sEQ]++shT b)++[sg sSEMI]:=by rw [shT_mk];simp [shK,lastT]
theorem sh_s18 (t:List UInt8) (v:Int) (a:Nd):shT (.mk 18 t v [a])=([wd sRET]++shT a)++[sg sSEMI]:=by rw [shT_mk];simp [shK]
theorem sh_s19 (t:List UInt8) (v:Int) (a:Nd):shT (.mk 19 t v [a])=([wd sPUT,sg sLP]++shT a++[sg sRP])++[sg sSEMI]:=by rw [shT_mk];simp [shK]
theorem sh_s20 (t:List UInt8) (v:Int) (a:Nd):shT (.mk 20 t v [a])=shT a++[sg sSEMI]:=by rw [shT_mk];simp [shK]
theorem en_of {n:Nd} {a:List Tk} (h:shT n=a++[sg sSEMI]):enT n=a:=by unfold enT;rw [h,List.dropLast_concat]
theorem ended_k14 {w0:World} (hG:Gl w0) (hTb:TabW w0) (text:List UInt8) (num:Int) (x y:Nd) {w:World} {b:Nat} {T:List (List UInt8)} (hP:Pt w0 w b T) (ka:Option Addr) (kc:Nat) (hR:RowO w0 ka [x,y]) (hk:knB 14 text num 2=true) (hc:cnt x+cnt y≤700) (hT:T.length+tb x+tb y+6≤1000000000000):
  Calls Tryz.prog 131 #[.pointer (some ⟨b,0,none⟩),.agg #[.int .i64 14,.string (str text),.int .i64 num,.slice ka 2 kc]] w (PostP (IsSt (.mk 14 text num [x,y])) w0 w b T (enT (.mk 14 text num [x,y]))):=by
 have HI:=hide (st14 (a:=x) (b:=y) hk)
 have HLx:=hide (sh_tb x)
 have HLy:=hide (sh_tb y)
 have HEx:=hide (expr_all hG hTb x (by omega))
 have HEy:=hide (expr_all hG hTb y (by omega))
 have HG:=hide hG
 have hRo:=hR
 obtain ⟨ga,oa,ka,xa,na,aa,ma,ca,hkaa,hga,qa0,qa1,qa2,qa3,hnda⟩:=hR.kid0
 have Ha:=hide hnda
 have Ha0:=hide qa0
 have Ha1:=hide qa1
 have Ha2:=hide qa2
 have Ha3:=hide qa3
 clear qa0 qa1 qa2 qa3 hnda hga
 subst hkaa
 obtain ⟨kb,xb,nb,ab,mb,cb,qb0,qb1,qb2,qb3,hndb⟩:=hR.kid1
 have Hb:=hide hndb
 have Hb0:=hide qb0
 have Hb1:=hide qb1
 have Hb2:=hide qb2
 have Hb3:=hide qb3
 clear qb0 qb1 qb2 qb3 hndb
 have HP0:Hid (Pt w0 (w.alloc (.cells #[.int .i64 14,.string (str text),.int .i64 num,.slice (some ⟨ga,oa,none⟩) 2 kc] 24)) b T):=hP.alloc _
 have HS0:Hid (St w (w.alloc (.cells #[.int .i64 14,.string (str text),.int .i64 num,.slice (some ⟨ga,oa,none⟩) 2 kc] 24))):=St.alloc _ _
 have HN0:=hide (heap_new w #[.int .i64 14,.string (str text),.int .i64 num,.slice (some ⟨ga,oa,none⟩) 2 kc] 24)
 clear hP hk hG hTb hR
 go_enter Tryz.func131,Tryz.ntmps131
 go_wp2_with fail
 go_at_call 79
 refine (typed_any HG.out HP0.out 14 text num x [y] _ 2 kc hRo (by omega) (by omega) (by omega)).mono ?_
 rintro e w1 (⟨hp1,rfl,hP1,hS1⟩|⟨hp1,rfl,hB1⟩)
 rotate_left
 ·exact ⟨rfl,PostP.no (fun h=>hp1 (HI.out.1 h).1) hB1⟩
 have HA1:=hide hp1
 have HP1:=hide hP1
 have HS1:=hide (HS0.out.trans hS1)
 have hn1:=hS1.node HN0.out
 have HN1:=hide ((hS1.nodes _ _ _ HN0.out).trans HN0.out)
 clear hp1 hP1 hS1
 go_wp2_with fail
 go_at_call 77
 refine (add_new HP1.out [sEQ] _ rfl 1 rfl (by omega) (by have:=HLx.out;(try simp only [List.length_append,List.length_cons,List.length_nil,txs_len]);omega) _ (by simp)).mono ?_
 rintro e w2 ⟨rfl,hP2,hS2⟩
 have HP2:=hide hP2
 have HS2:=hide (HS1.out.trans hS2)
 have hn2:=hS2.node HN1.out
 have HN2:=hide ((hS2.nodes _ _ _ HN1.out).trans HN1.out)
 clear hP2 hS2 hn1
 have hb2:=HP2.out.base
 have eb2_0:=below_cell hb2 Hb0.out
 have eb2_1:=below_cell hb2 Hb1.out
 have eb2_2:=below_cell hb2 Hb2.out
 have eb2_3:=below_cell hb2 Hb3.out
 clear hb2
 go_wp2_with fail
 go_at_call 146
 refine (HEy.out b _ _ _ HP2.out Hb.out (by have:=HLx.out;(try simp only [List.length_append,List.length_cons,List.length_nil,txs_len]);omega)).mono ?_
 rintro e w3 (⟨hp3,rfl,hP3,hS3⟩|⟨hp3,rfl,hB3⟩)
 rotate_left
 ·exact ⟨rfl,PostP.no (fun h=>hp3 (HI.out.1 h).2) hB3⟩
 have HA3:=hide hp3
 have HP3:=hide hP3
 have HS3:=hide (HS2.out.trans hS3)
 have hn3:=hS3.node HN2.out
 have HN3:=hide ((hS3.nodes _ _ _ HN2.out).trans HN2.out)
 clear hp3 hP3 hS3 hn2
 go_wp2_with fail
 go_end0
 exact PostP.ok (HI.out.2 ⟨HA1.out,HA3.out⟩) (HP3.out.app' (by rw [en_of (sh_s14 _ _ _ _)];simp [txs_app,txs_cons,raw_wd,raw_sg,txs1,txsg,show txs []=[] from rfl])) HS3.out
theorem ended_k15 {w0:World} (hG:Gl w0) (hTb:TabW w0) (text:List UInt8) (num:Int) (x y:Nd) {w:World} {b:Nat} {T:List (List UInt8)} (hP:Pt w0 w b T) (ka:Option Addr) (kc:Nat) (hR:RowO w0 ka [x,y]) (hk:knB 15 text num 2=true) (hc:cnt x+cnt y≤700) (hT:T.length+tb x+tb y+6≤1000000000000):
  Calls Tryz.prog 131 #[.pointer (some ⟨b,0,none⟩),.agg #[.int .i64 15,.string (str text),.int .i64 num,.slice ka 2 kc]] w (PostP (IsSt (.mk 15 text num [x,y])) w0 w b T (enT (.mk 15 text num [x,y]))):=by
 have HI:=hide (st15 (a:=x) (b:=y) hk)
 have HLx:=hide (sh_tb x)
 have HLy:=hide (sh_tb y)
 have HEx:=hide (expr_all hG hTb x (by omega))
 have HEy:=hide (expr_all hG hTb y (by omega))
 have HG:=hide hG
 have hRo:=hR
 obtain ⟨ga,oa,ka,xa,na,aa,ma,ca,hkaa,hga,qa0,qa1,qa2,qa3,hnda⟩:=hR.kid0
 have Ha:=hide hnda
 have Ha0:=hide qa0
 have Ha1:=hide qa1
 have Ha2:=hide qa2
 have Ha3:=hide qa3
 clear qa0 qa1 qa2 qa3 hnda hga
 subst hkaa
 obtain ⟨kb,xb,nb,ab,mb,cb,qb0,qb1,qb2,qb3,hndb⟩:=hR.kid1
 have Hb:=hide hndb
 have Hb0:=hide qb0
 have Hb1:=hide qb1
 have Hb2:=hide qb2
 have Hb3:=hide qb3
 clear qb0 qb1 qb2 qb3 hndb
 have HP0:Hid (Pt w0 (w.alloc (.cells #[.int .i64 15,.string (str text),.int .i64 num,.slice (some ⟨ga,oa,none⟩) 2 kc] 24)) b T):=hP.alloc _
 have HS0:Hid (St w (w.alloc (.cells #[.int .i64 15,.string (str text),.int .i64 num,.slice (some ⟨ga,oa,none⟩) 2 kc] 24))):=St.alloc _ _
 have HN0:=hide (heap_new w #[.int .i64 15,.string (str text),.int .i64 num,.slice (some ⟨ga,oa,none⟩) 2 kc] 24)
 clear hP hk hG hTb hR
 have hb0:=HP0.out.base
 have ea0_0:=below_cell hb0 Ha0.out
 have ea0_1:=below_cell hb0 Ha1.out
 have ea0_2:=below_cell hb0 Ha2.out
 have ea0_3:=below_cell hb0 Ha3.out
 clear hb0
 go_enter Tryz.func131,Tryz.ntmps131
 go_wp2_with fail
 go_at_call 147
 refine (begin_69 x HEx.out HP0.out _ Ha.out (by omega)).mono ?_
 rintro e w1 (⟨hp1,rfl,hP1,hS1⟩|⟨hp1,rfl,hB1⟩)
 rotate_left
 ·exact ⟨rfl,PostP.no (fun h=>hp1 (HI.out.1 h).1) hB1⟩
 have HA1:=hide hp1
 have HP1:=hide hP1
 have HS1:=hide (HS0.out.trans hS1)
 have hn1:=hS1.node HN0.out
 have HN1:=hide ((hS1.nodes _ _ _ HN0.out).trans HN0.out)
 clear hp1 hP1 hS1
 go_wp2_with fail
 go_at_call 77
 refine (add_new HP1.out [sEQ] _ rfl 1 rfl (by omega) (by have:=HLx.out;(try simp only [List.length_append,List.length_cons,List.length_nil,txs_len]);omega) _ (by simp)).mono ?_
 rintro e w2 ⟨rfl,hP2,hS2⟩
 have HP2:=hide hP2
 have HS2:=hide (HS1.out.trans hS2)
 have hn2:=hS2.node HN1.out
 have HN2:=hide ((hS2.nodes _ _ _ HN1.out).trans HN1.out)
 clear hP2 hS2 hn1
 have hb2:=HP2.out.base
 have eb2_0:=below_cell hb2 Hb0.out
 have eb2_1:=below_cell hb2 Hb1.out
 have eb2_2:=below_cell hb2 Hb2.out
 have eb2_3:=below_cell hb2 Hb3.out
 clear hb2
 go_wp2_with fail
 go_at_call 146
 refine (HEy.out b _ _ _ HP2.out Hb.out (by have:=HLx.out;(try simp only [List.length_append,List.length_cons,List.length_nil,txs_len]);omega)).mono ?_
 rintro e w3 (⟨hp3,rfl,hP3,hS3⟩|⟨hp3,rfl,hB3⟩)
 rotate_left
 ·exact ⟨rfl,PostP.no (fun h=>hp3 (HI.out.1 h).2) hB3⟩
 have HA3:=hide hp3
 have HP3:=hide hP3
 have HS3:=hide (HS2.out.trans hS3)
 have hn3:=hS3.node HN2.out
 have HN3:=hide ((hS3.nodes _ _ _ HN2.out).trans HN2.out)
 clear hp3 hP3 hS3 hn2
 go_wp2_with fail
 go_end0
 exact PostP.ok (HI.out.2 ⟨HA1.out,HA3.out⟩) (HP3.out.app' (by rw [en_of (sh_s15 _ _ _ _)];simp [txs_app,txs_cons,raw_wd,raw_sg,txs1,txsg,show txs []=[] from rfl])) HS3.out
theorem ended_k18 {w0:World} (hG:Gl w0) (hTb:TabW w0) (text:List UInt8) (num:Int) (x:Nd) {w:World} {b:Nat} {T:List (List UInt8)} (hP:Pt w0 w b T) (ka:Option Addr) (kc:Nat) (hR:RowO w0 ka [x]) (hk:knB 18 text num 1=true) (hc:cnt x≤700) (hT:T.length+tb x+5≤1000000000000):
  Calls Tryz.prog 131 #[.pointer (some ⟨b,0,none⟩),.agg #[.int .i64 18,.string (str text),.int .i64 num,.slice ka 1 kc]] w (PostP (IsSt (.mk 18 text num [x])) w0 w b T (enT (.mk 18 text num [x]))):=by
 have HI:=hide (st18 (x:=x) hk)
 have HLx:=hide (sh_tb x)
 have HEx:=hide (expr_all hG hTb x hc)
 have hRo:=hR
 obtain ⟨ga,oa,ka,xa,na,aa,ma,ca,hkaa,hga,qa0,qa1,qa2,qa3,hnda⟩:=hR.kid0
 have Ha:=hide hnda
 have Ha0:=hide qa0
 have Ha1:=hide qa1
 have Ha2:=hide qa2
 have Ha3:=hide qa3
 clear qa0 qa1 qa2 qa3 hnda hga
 subst hkaa
 have HP0:Hid (Pt w0 (w.alloc (.cells #[.int .i64 18,.string (str text),.int .i64 num,.slice (some ⟨ga,oa,none⟩) 1 kc] 24)) b T):=hP.alloc _
 have HS0:Hid (St w (w.alloc (.cells #[.int .i64 18,.string (str text),.int .i64 num,.slice (some ⟨ga,oa,none⟩) 1 kc] 24))):=St.alloc _ _
 have HN0:=hide (heap_new w #[.int .i64 18,.string (str text),.int .i64 num,.slice (some ⟨ga,oa,none⟩) 1 kc] 24)
 clear hP hk hG hTb hR
 go_enter Tryz.func131,Tryz.ntmps131
 go_wp2_with fail
 go_at_call 77
 refine (add_new HP0.out [sRET] _ rfl 1 rfl (by omega) (by have:=HLx.out;(try simp only [List.length_append,List.length_cons,List.length_nil,txs_len]);omega) _ (by simp)).mono ?_
 rintro e w1 ⟨rfl,hP1,hS1⟩
 have HP1:=hide hP1
 have HS1:=hide (HS0.out.trans hS1)
 have hn1:=hS1.node HN0.out
 have HN1:=hide ((hS1.nodes _ _ _ HN0.out).trans HN0.out)
 clear hP1 hS1
 have hb1:=HP1.out.base
 have ea1_0:=below_cell hb1 Ha0.out
 have ea1_1:=below_cell hb1 Ha1.out
 have ea1_2:=below_cell hb1 Ha2.out
 have ea1_3:=below_cell hb1 Ha3.out
 clear hb1
 go_wp2_with fail
 go_at_call 146
 refine (HEx.out b _ _ _ HP1.out Ha.out (by have:=HLx.out;(try simp only [List.length_append,List.length_cons,List.length_nil,txs_len]);omega)).mono ?_
 rintro e w2 (⟨hp2,rfl,hP2,hS2⟩|⟨hp2,rfl,hB2⟩)
 rotate_left
 ·exact ⟨rfl,PostP.no (fun h=>hp2 (HI.out.1 h)) hB2⟩
 have HA2:=hide hp2
 have HP2:=hide hP2
 have HS2:=hide (HS1.out.trans hS2)
 have hn2:=hS2.node HN1.out
 have HN2:=hide ((hS2.nodes _ _ _ HN1.out).trans HN1.out)
 clear hp2 hP2 hS2 hn1
 go_wp2_with fail
 go_end0
 exact PostP.ok (HI.out.2 HA2.out) (HP2.out.app' (by rw [en_of (sh_s18 _ _ _)];simp [txs_app,txs_cons,raw_wd,raw_sg,txs1,txsg,show txs []=[] from rfl])) HS2.out
theorem ended_k19 {w0:World} (hG:Gl w0) (hTb:TabW w0) (text:List UInt8) (num:Int) (x:Nd) {w:World} {b:Nat} {T:List (List UInt8)} (hP:Pt w0 w b T) (ka:Option Addr) (kc:Nat) (hR:RowO w0 ka [x]) (hk:knB 19 text num 1=true) (hc:cnt x≤700) (hT:T.length+tb x+5≤1000000000000):
  Calls Tryz.prog 131 #[.pointer (some ⟨b,0,none⟩),.agg #[.int .i64 19,.string (str text),.int .i64 num,.slice ka 1 kc]] w (PostP (IsSt (.mk 19 text num [x])) w0 w b T (enT (.mk 19 text num [x]))):=by
 have HI:=hide (st19 (x:=x) hk)
 have HLx:=hide (sh_tb x)
 have HEx:=hide (expr_all hG hTb x hc)
 have hRo:=hR
 obtain ⟨ga,oa,ka,xa,na,aa,ma,ca,hkaa,hga,qa0,qa1,qa2,qa3,hnda⟩:=hR.kid0
 have Ha:=hide hnda
 have Ha0:=hide qa0
 have Ha1:=hide qa1
 have Ha2:=hide qa2
 have Ha3:=hide qa3
 clear qa0 qa1 qa2 qa3 hnda hga
 subst hkaa
 have HP0:Hid (Pt w0 (w.alloc (.cells #[.int .i64 19,.string (str text),.int .i64 num,.slice (some ⟨ga,oa,none⟩) 1 kc] 24)) b T):=hP.alloc _
 have HS0:Hid (St w (w.alloc (.cells #[.int .i64 19,.string (str text),.int .i64 num,.slice (some ⟨ga,oa,none⟩) 1 kc] 24))):=St.alloc _ _
 have HN0:=hide (heap_new w #[.int .i64 19,.string (str text),.int .i64 num,.slice (some ⟨ga,oa,none⟩) 1 kc] 24)
 clear hP hk hG hTb hR
 go_enter Tryz.func131,Tryz.ntmps131
 go_wp2_with fail
 go_at_call 130
 refine (inside_any x HEx.out HP0.out sPUT 19 text num [] _ 1 kc hRo (by omega) (by omega)).mono ?_
 rintro e w1 (⟨hp1,rfl,hP1,hS1⟩|⟨hp1,rfl,hB1⟩)
 rotate_left
 ·exact ⟨rfl,PostP.no (fun h=>hp1 (HI.out.1 h)) hB1⟩
 have HA1:=hide hp1
 have HP1:=hide hP1
 have HS1:=hide (HS0.out.trans hS1)
 have hn1:=hS1.node HN0.out
 have HN1:=hide ((hS1.nodes _ _ _ HN0.out).trans HN0.out)
 clear hp1 hP1 hS1
 go_wp2_with fail
 go_end0
 exact PostP.ok (HI.out.2 HA1.out) (HP1.out.app' (by rw [en_of (sh_s19 _ _ _)])) HS1.out
theorem ended_k20 {w0:World} (hG:Gl w0) (hTb:TabW w0) (text:List UInt8) (num:Int) (x:Nd) {w:World} {b:Nat} {T:List (List UInt8)} (hP:Pt w0 w b T) (ka:Option Addr) (kc:Nat) (hR:RowO w0 ka [x]) (hk:knB 20 text num 1=true) (hc:cnt x≤700) (hT:T.length+tb x+5≤1000000000000):
  Calls Tryz.prog 131 #[.pointer (some ⟨b,0,none⟩),.agg #[.int .i64 20,.string (str text),.int .i64 num,.slice ka 1 kc]] w (PostP (IsSt (.mk 20 text num [x])) w0 w b T (enT (.mk 20 text num [x]))):=by
 have HI:=hide (st20 (x:=x) hk)
 have HLx:=hide (sh_tb x)
 have HEx:=hide (expr_all hG hTb x hc)
 have hRo:=hR
 obtain ⟨ga,oa,ka,xa,na,aa,ma,ca,hkaa,hga,qa0,qa1,qa2,qa3,hnda⟩:=hR.kid0
 have Ha:=hide hnda
 have Ha0:=hide qa0
 have Ha1:=hide qa1
 have Ha2:=hide qa2
 have Ha3:=hide qa3
 clear qa0 qa1 qa2 qa3 hnda hga
 subst hkaa
 have HP0:Hid (Pt w0 (w.alloc (.cells #[.int .i64 20,.string (str text),.int .i64 num,.slice (some ⟨ga,oa,none⟩) 1 kc] 24)) b T):=hP.alloc _
 have HS0:Hid (St w (w.alloc (.cells #[.int .i64 20,.string (str text),.int .i64 num,.slice (some ⟨ga,oa,none⟩) 1 kc] 24))):=St.alloc _ _
 have HN0:=hide (heap_new w #[.int .i64 20,.string (str text),.int .i64 num,.slice (some ⟨ga,oa,none⟩) 1 kc] 24)
 clear hP hk hG hTb hR
 have hb0:=HP0.out.base
 have ea0_0:=below_cell hb0 Ha0.out
 have ea0_1:=below_cell hb0 Ha1.out
 have ea0_2:=below_cell hb0 Ha2.out
 have ea0_3:=below_cell hb0 Ha3.out
 clear hb0
 go_enter Tryz.func131,Tryz.ntmps131
 go_wp2_with fail
 go_at_call 147
 refine (begin_70 x HEx.out HP0.out _ Ha.out (by omega)).mono ?_
 rintro e w1 (⟨hp1,rfl,hP1,hS1⟩|⟨hp1,rfl,hB1⟩)
 rotate_left
 ·exact ⟨rfl,PostP.no (fun h=>hp1 (HI.out.1 h)) hB1⟩
 have HA1:=hide hp1
 have HP1:=hide hP1
 have HS1:=hide (HS0.out.trans hS1)
 have hn1:=hS1.node HN0.out
 have HN1:=hide ((hS1.nodes _ _ _ HN0.out).trans HN0.out)
 clear hp1 hP1 hS1
 go_wp2_with fail
 go_end0
 exact PostP.ok (HI.out.2 HA1.out) (HP1.out.app' (by rw [en_of (sh_s20 _ _ _)])) HS1.out
theorem ended_rest {w0:World} (kind:Int) (text:List UInt8) (num:Int) (n:Nat) (P:Prop) (hp:¬ P) (ts:List Tk) (k14:¬ kind=14) (k15:¬ kind=15) (k18:¬ kind=18) (k19:¬ kind=19) (k20:¬ kind=20) {w:World} {b:Nat} {T:List (List UInt8)} (hP:Pt w0 w b T) (ka:Option Addr) (kc:Nat):
  Calls Tryz.prog 131 #[.pointer (some ⟨b,0,none⟩),.agg #[.int .i64 kind,.string (str text),.int .i64 num,.slice ka n kc]] w (PostP P w0 w b T ts):=by
 have HP0:Hid (Pt w0 (w.alloc (.cells #[.int .i64 kind,.string (str text),.int .i64 num,.slice ka n kc] 24)) b T):=hP.alloc _
 have HS0:Hid (St w (w.alloc (.cells #[.int .i64 kind,.string (str text),.int .i64 num,.slice ka n kc] 24))):=St.alloc _ _
 have HN0:=hide (heap_new w #[.int .i64 kind,.string (str text),.int .i64 num,.slice ka n kc] 24)
 have k14':(kind == 14)=false:=by simpa using k14
 have k15':(kind == 15)=false:=by simpa using k15
 have k18':(kind == 18)=false:=by simpa using k18
 have k19':(kind == 19)=false:=by simpa using k19
 have k20':(kind == 20)=false:=by simpa using k20
 have HPn:=hide hp
 clear hP hp k14 k15 k18 k19 k20
 go_enter Tryz.func131,Tryz.ntmps131
 go_wp2_with fail
 exact ⟨rfl,PostP.no HPn.out HP0.out.base⟩
end Go.Proofs.YthcfianhdkolhaaGreatDoor.T
namespace Go.Proofs.YthcfianhdkolhaaGreatDoor.T
open Go.RowKit Go.Proofs.YthcfianhdkolhaaGreatDoor.S
set_option maxRecDepth 100000
set_option maxHeartbeats 2000000
set_option linter.unusedVariables false
set_option linter.unusedSimpArgs false

def StN (w0:World) (n:Nd):Prop:=∀ (b:Nat) (w:World) (T:List (List UInt8)) (v:Value),Pt w0 w b T→NdO w0 n v→T.length+tb n≤1000000000000→Calls Tryz.prog 108 #[.pointer (some ⟨b,0,none⟩),v] w (PostP (IsSt n) w0 w b T (shT n))
theorem bl_kn {k:Int} {t:List UInt8} {v:Int} {kids:List Nd} (hn:kids.length≤700):IsBl (.mk k t v kids) ↔ (k=13∧knB k t v kids.length=true)∧∀ y,y∈kids→IsSt y:=by
 constructor
 ·rintro ⟨l,e,hl⟩
  injection e with e1 e2 e3 e4
  subst e1 e2 e3 e4
  exact ⟨⟨rfl,kn_iff.2 ⟨by decide,rfl,by decide,by decide,(by show (0:Int)≤_;omega),(by show _≤(700:Int);omega)⟩⟩,hl⟩
 ·rintro ⟨⟨rfl,hk⟩,hl⟩
  obtain ⟨rfl,rfl⟩:=kn_bare (k:=13) (by rfl) hk
  exact ⟨kids,rfl,hl⟩
theorem sh_block (t:List UInt8) (v:Int) (l:List Nd):shT (.mk 13 t v l)=[sg sLB]++(l.map shT).flatten++[sg sRB]:=by rw [shT_mk];simp [shK]
theorem flat_take (l:List Nd) (j:Nat) (hj:j<l.length):((l.take (j+1)).map shT).flatten=((l.take j).map shT).flatten++shT l[j]:=by rw [take_succ_map l j hj];simp
theorem block_of {w0:World} (hG:Gl w0) (n:Nd) (ih:∀ x,x∈n.kids→StN w0 x) {w:World} {b:Nat} {T:List (List UInt8)} (hP:Pt w0 w b T) (v:Value) (hv:NdO w0 n v) (hc:cnt n≤700) (hT:T.length+tb n≤1000000000000):
  Calls Tryz.prog 82 #[.pointer (some ⟨b,0,none⟩),v] w (PostP (IsBl n) w0 w b T (shT n)):=by
 obtain ⟨kind,text,num,kids⟩:=n
 obtain ⟨ka,kc,rfl,t1,n1,n2,l1,l2,hR⟩:=hv.part
 rw [cnt_mk] at hc
 rw [tb_mk] at hT
 have hl7:kids.length≤700:=Nat.le_trans (len_cnt kids) (by omega)
 have HIff:=hide (bl_kn (k:=kind) (t:=text) (v:=num) hl7)
 have HIh:Hid (∀ x,x∈kids→StN w0 x):=ih
 have HP0:Hid (Pt w0 (w.alloc (.cells #[.int .i64 kind,.string (str text),.int .i64 num,.slice ka kids.length kc] 24)) b T):=hP.alloc _
 have HS0:Hid (St w (w.alloc (.cells #[.int .i64 kind,.string (str text),.int .i64 num,.slice ka kids.length kc] 24))):=St.alloc _ _
 have HN0:=hide (heap_new w #[.int .i64 kind,.string (str text),.int .i64 num,.slice ka kids.length kc] 24)
 have hkn:=knowKind_any kind text num ka kids.length kc 13 _ ((hG.below hP.base).below ((Below.refl _ _).alloc (Nat.le_refl _) (.cells #[.int .i64 kind,.string (str text),.int .i64 num,.slice ka kids.length kc] 24))) t1 (by omega)
 have HR:=hide hR
 clear hP hv hR hG ih
 go_enter Tryz.func82,Tryz.ntmps82
 go_wp2_with fail
 go_at_call 55
 refine hkn.mono ?_
 rintro e w1 ⟨⟨hk0,hk,rfl⟩|⟨hk,rfl⟩,hb1⟩
 rotate_left
 ·exact ⟨rfl,PostP.no (fun h=>hk (HIff.out.1 h).1) (HP0.out.below hb1).base⟩
 subst hk0
 have HP1:=hide (HP0.out.below hb1)
 have HS1:=hide (HS0.out.trans (St.below hb1))
 have hn1:=(St.below hb1).node HN0.out
 have HN1:=hide (((St.below hb1).nodes _ _ _ HN0.out).trans HN0.out)
 have HI:Hid (IsBl (.mk 13 text num kids) ↔ ∀ y,y∈kids→IsSt y):=⟨fun h=>(HIff.out.1 h).2,fun h=>HIff.out.2 ⟨⟨rfl,hk⟩,h⟩⟩
 clear hk hb1 hkn HP0 HS0 HN0
 go_wp2_with fail
 go_at_call 77
 refine (add_new HP1.out [sLB] _ rfl 1 rfl (by omega) (by (try simp only [List.length_append,List.length_cons,List.length_nil,txs_len]);omega) _ (by simp)).mono ?_
 rintro e w2 ⟨rfl,hP2,hS2⟩
 have HP2:=hide hP2
 have HS2:=hide (HS1.out.trans hS2)
 have hn2:=hS2.node HN1.out
 have HN2:=hide ((hS2.nodes _ _ _ HN1.out).trans HN1.out)
 clear hP2 hS2 hn1
 go_wp2_with fail
 go_loopw [14] (fun i wr=>∃ j:Nat,j≤kids.length∧i=.int .i64 j∧Hid (Pt w0 wr b ((T++[sLB])++txs ((kids.take j).map shT).flatten))∧Hid (St w wr)∧Hid (∀ x,x∈kids.take j→IsSt x)) (fun i _=>kids.length - (intOf i).toNat)
 case atStart=>exact ⟨0,Nat.zero_le _,rfl,by simpa [Hid,txs] using HP2.out,HS2.out,fun x hx=>by simp at hx⟩
 case round=>
  obtain ⟨j,hj,rfl,HPj,HSj,HAj⟩:=hrel
  by_cases hlt:j<kids.length
  ·have hlt':(j:Int)<kids.length:=by omega
   have hidx:(0:Int)≤j∧(j:Int)<kids.length:=by omega
   obtain ⟨g,o,rfl,hg,hcs⟩:=HR.out (fun e=>by rw [e] at hlt;simp at hlt)
   obtain ⟨k0,x0,n0,a0,m0,c0,q0,q1,q2,q3,hnd⟩:=hcs j hlt
   have hbz:=HPj.out.base
   have e0:=below_cell hbz q0
   have e1:=below_cell hbz q1
   have e2:=below_cell hbz q2
   have e3:=below_cell hbz q3
   have HN:=hide hnd
   have HTj:Hid ((txs ((kids.take j).map shT).flatten).length+tb kids[j]≤tbL kids):=by
    show _≤_
    have h1:=flatL_tb (kids.take j)
    have h2:=tbL_take hlt
    rw [txs_len]
    omega
   have HNo:Hid (¬ IsSt kids[j]→¬ ∀ x,x∈kids→IsSt x):=fun hn hall=>hn (hall _ (List.getElem_mem hlt))
   clear q0 q1 q2 q3 hcs hnd hbz
   have HPa:Hid (Pt w0 (wr.alloc (.cells #[.int .i64 k0,.string x0,.int .i64 n0,.slice a0 m0 c0] 24)) b ((T++[sLB])++txs ((kids.take j).map shT).flatten)):=HPj.out.alloc _
   have HSa:Hid (St w (wr.alloc (.cells #[.int .i64 k0,.string x0,.int .i64 n0,.slice a0 m0 c0] 24))):=HSj.out.trans (St.alloc _ _)
   have HNa:=hide (heap_new wr #[.int .i64 k0,.string x0,.int .i64 n0,.slice a0 m0 c0] 24)
   go_wp2_with fail
   go_at_call 108
   refine (HIh.out kids[j] (List.getElem_mem hlt) b _ _ _ HPa.out HN.out (by have:=HTj.out;simp only [List.length_append,List.length_cons,List.length_nil];omega)).mono ?_
   rintro e w9 (⟨hp,rfl,hP9,hS9⟩|⟨hp,rfl,hB9⟩)
   ·have HP9:Hid (Pt w0 w9 b ((T++[sLB])++txs ((kids.take (j+1)).map shT).flatten)):=by
     show Pt _ _ _ _
     rw [flat_take kids j hlt,txs_app]
     simpa using hP9
    have HS9:=hide (HSa.out.trans hS9)
    have HA9:=hide (all_take hlt HAj.out hp)
    clear hP9 hS9 hp HPa HSa HNa
    go_wp2_with fail
    go_roundw
    case rel=>exact ⟨j+1,by omega,by go_num,HP9,HS9,HA9⟩
    case measure=>simp [intOf];omega
   ·exact ⟨rfl,PostP.no (fun h=>HNo.out hp (HI.out.1 h)) hB9⟩
  ·obtain rfl:j=kids.length:=by omega
   have hlt':¬ (kids.length:Int)<kids.length:=by omega
   have HPe:Hid (Pt w0 wr b ((T++[sLB])++txs (kids.map shT).flatten)):=by have:=HPj.out;rw [List.take_length] at this;exact this
   have HAe:Hid (∀ x,x∈kids→IsSt x):=by have:=HAj.out;rw [List.take_length] at this;exact this
   clear HPj HAj
   have HFl:=hide (flatL_tb kids)
   go_wp2_with fail
   go_at_call 77
   refine (add_new HPe.out [sRB] _ rfl 1 rfl (by omega) (by have:=HFl.out;simp only [List.length_append,List.length_cons,List.length_nil,txs_len];omega) _ (by simp)).mono ?_
   rintro e w9 ⟨rfl,hP9,hS9⟩
   have HP9:=hide hP9
   have HS9:=hide (HSj.out.trans hS9)
   clear hP9 hS9
   go_wp2_with fail
   go_end0
   exact PostP.ok (HI.out.2 HAe.out) (HP9.out.app' (by rw [sh_block,txs_app,txs_app];simp [txsg])) HS9.out
end Go.Proofs.YthcfianhdkolhaaGreatDoor.T
