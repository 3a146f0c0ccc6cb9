/- PrE -/
import Derived.Test.YthcfianhdkolhaaGreatDoorShelf
import Derived.Test.YthcfianhdkolhaaGreatDoorPrD
namespace Go.Proofs.YthcfianhdkolhaaGreatDoor.T
open Go.RowKit Go.Proofs.YthcfianhdkolhaaGreatDoor.S
set_option maxRecDepth 100000
set_option maxHeartbeats 2000000
set_option linter.unusedVariables false
set_option linter.unusedSimpArgs false

def ExN (w0:World) (n:Nd):Prop:=∀ (b:Nat) (w:World) (T:List (List UInt8)) (v:Value),Pt w0 w b T→NdO w0 n v→T.length+tb n≤1000000000000→Calls Tryz.prog 146 #[.pointer (some ⟨b,0,none⟩),v] w (PostP (IsEx n) w0 w b T (shT n))
theorem ex_op {k:Int} {t:List UInt8} {v:Int} {l:List Nd} (h:IsEx (.mk k t v l)) (e:k=32):isOp v:=by
 cases h with
 | op v a b hv ha hb=>exact hv
 | _=>exact absurd e (by decide)
theorem part_any {w0:World} (hG:Gl w0) (x:Nd) (hx:ExN w0 x) {w:World} {b:Nat} {T:List (List UInt8)} (hP:Pt w0 w b T) (v:Value) (hv:NdO w0 x v) (firm:Int) (hT:T.length+tb x+2≤1000000000000):
  Calls Tryz.prog 161 #[.pointer (some ⟨b,0,none⟩),v,.int .i64 firm] w (PostP (IsEx x) w0 w b T (atT (bindN x) firm (shT x))):=by
 have HLx:=hide (sh_tb x)
 have HEx:=hide hx
 have HV:=hide hv
 obtain ⟨kind,text,num,kids⟩:=x
 obtain ⟨ka,kc,rfl,t1,n1,n2,l1,l2,hR⟩:=hv.part
 have HP0:Hid (Pt w0 (w.alloc (.cells #[.int .i64 kind,.string (str text),.int .i64 num,.slice ka kids.length kc] 24)) b T):=hP.alloc _
 have HS0:Hid (St w (w.alloc (.cells #[.int .i64 kind,.string (str text),.int .i64 num,.slice ka kids.length kc] 24))):=St.alloc _ _
 have HN0:=hide (heap_new w #[.int .i64 kind,.string (str text),.int .i64 num,.slice ka kids.length kc] 24)
 have hfm:=firm_any kind text num ka kids.length kc kids _ ((hG.below hP.base).below ((Below.refl _ _).alloc (Nat.le_refl _) (.cells #[.int .i64 kind,.string (str text),.int .i64 num,.slice ka kids.length kc] 24)))
 clear hP hG hR hv hx
 obtain ⟨tb0,htb⟩:∃ tb0,tb0=tb (.mk kind text num kids):=⟨_,rfl⟩
 rw [← htb] at hT
 have HTb:=hide htb
 clear htb
 go_enter Tryz.func161,Tryz.ntmps161
 go_wp2_with fail
 go_at_call 171
 refine hfm.mono ?_
 rintro e w1 ⟨⟨hk,rfl⟩|⟨hk,rfl⟩,hb1⟩
 rotate_left
 ·exact ⟨rfl,PostP.no (fun h=>hk (fun e=>ex_op h e)) (HP0.out.below hb1).base⟩
 have HP1:=hide (HP0.out.below hb1)
 have HS1:=hide (HS0.out.trans (St.below hb1))
 have hn1:=(St.below hb1).node HN0.out
 have HN1:=hide (((St.below hb1).nodes _ _ _ HN0.out).trans HN0.out)
 clear hk hb1 hfm HP0 HS0 HN0
 generalize hbd:bindN (.mk kind text num kids)=bd at *
 have HBd:=hide hbd
 clear hbd
 by_cases hf:firm≤bd
 ·have HF:=hide hf
  go_wp2_with fail
  go_at_call 146
  refine (HEx.out b _ _ _ HP1.out HV.out (by have:=HLx.out;have:=HTb.out;(try simp only [List.length_append,List.length_cons,List.length_nil,txs_len]);omega)).mono ?_
  rintro e w2 (⟨hp2,rfl,hP2,hS2⟩|⟨hp2,rfl,hB2⟩)
  rotate_left
  ·exact ⟨rfl,PostP.no (hp2) hB2⟩
  have HA2:=hide hp2
  have HP2:=hide hP2
  have HS2:=hide (HS1.out.trans hS2)
  have hn2:=hS2.node HN1.out
  have HN2:=hide ((hS2.nodes _ _ _ HN1.out).trans HN1.out)
  clear hp2 hP2 hS2 hn1
  go_wp2_with fail
  go_end0
  exact PostP.ok HA2.out (HP2.out.app (by unfold atT;rw [if_neg (by have:=HF.out;omega)])) HS2.out
 ·have HF:=hide hf
  go_wp2_with fail
  go_at_call 77
  refine (add_new HP1.out [sLP] _ rfl 1 rfl (by omega) (by have:=HLx.out;have:=HTb.out;(try simp only [List.length_append,List.length_cons,List.length_nil,txs_len]);omega) _ (by simp)).mono ?_
  rintro e w2 ⟨rfl,hP2,hS2⟩
  have HP2:=hide hP2
  have HS2:=hide (HS1.out.trans hS2)
  have hn2:=hS2.node HN1.out
  have HN2:=hide ((hS2.nodes _ _ _ HN1.out).trans HN1.out)
  clear hP2 hS2 hn1
  go_wp2_with fail
  go_at_call 146
  refine (HEx.out b _ _ _ HP2.out HV.out (by have:=HLx.out;have:=HTb.out;(try simp only [List.length_append,List.length_cons,List.length_nil,txs_len]);omega)).mono ?_
  rintro e w3 (⟨hp3,rfl,hP3,hS3⟩|⟨hp3,rfl,hB3⟩)
  rotate_left
  ·exact ⟨rfl,PostP.no (hp3) hB3⟩
  have HA3:=hide hp3
  have HP3:=hide hP3
  have HS3:=hide (HS2.out.trans hS3)
  have hn3:=hS3.node HN2.out
  have HN3:=hide ((hS3.nodes _ _ _ HN2.out).trans HN2.out)
  clear hp3 hP3 hS3 hn2
  go_wp2_with fail
  go_at_call 77
  refine (add_new HP3.out [sRP] _ rfl 1 rfl (by omega) (by have:=HLx.out;have:=HTb.out;(try simp only [List.length_append,List.length_cons,List.length_nil,txs_len]);omega) _ (by simp)).mono ?_
  rintro e w4 ⟨rfl,hP4,hS4⟩
  have HP4:=hide hP4
  have HS4:=hide (HS3.out.trans hS4)
  have hn4:=hS4.node HN3.out
  have HN4:=hide ((hS4.nodes _ _ _ HN3.out).trans HN3.out)
  clear hP4 hS4 hn3
  go_wp2_with fail
  go_end0
  exact PostP.ok HA3.out (HP4.out.app' (by unfold atT;rw [if_pos (by have:=HF.out;omega),txs_cons,txs_app,txsg,raw_sg];simp)) HS4.out
theorem inside_any {w0:World} (x:Nd) (hx:ExN w0 x) {w:World} {b:Nat} {T:List (List UInt8)} (hP:Pt w0 w b T) (s:List UInt8) (kind:Int) (text:List UInt8) (num:Int) (r:List Nd) (ka:Option Addr) (n kc:Nat) (hR:RowO w0 ka (x::r)) (hn:0<n) (hT:T.length+tb x+3≤1000000000000):
  Calls Tryz.prog 130 #[.pointer (some ⟨b,0,none⟩),.string (str s),.agg #[.int .i64 kind,.string (str text),.int .i64 num,.slice ka n kc]] w (PostP (IsEx x) w0 w b T ([wd s,sg sLP]++shT x++[sg sRP])):=by
 have hn':(0:Int)<n:=by omega
 have HLx:=hide (sh_tb x)
 have HEx:=hide hx
 obtain ⟨ga,oa,ka,xa,na,aa,ma,ca,hkaa,hga,qa0,qa1,qa2,qa3,hnda⟩:=hR.kid0
 have Ha:=hide hnda
 have Ha0:=hide qa0
 have Ha1:=hide qa1
 have Ha2:=hide qa2
 have Ha3:=hide qa3
 clear qa0 qa1 qa2 qa3 hnda hga
 subst hkaa
 have HP0:Hid (Pt w0 (w.alloc (.cells #[.int .i64 kind,.string (str text),.int .i64 num,.slice (some ⟨ga,oa,none⟩) n kc] 24)) b T):=hP.alloc _
 have HS0:Hid (St w (w.alloc (.cells #[.int .i64 kind,.string (str text),.int .i64 num,.slice (some ⟨ga,oa,none⟩) n kc] 24))):=St.alloc _ _
 have HN0:=hide (heap_new w #[.int .i64 kind,.string (str text),.int .i64 num,.slice (some ⟨ga,oa,none⟩) n kc] 24)
 clear hP hR hx
 go_enter Tryz.func130,Tryz.ntmps130
 go_wp2_with fail
 go_at_call 77
 refine (add_new HP0.out [s,sLP] _ rfl 2 rfl (by omega) (by have:=HLx.out;(try simp only [List.length_append,List.length_cons,List.length_nil,txs_len]);omega) _ (by simp)).mono ?_
 rintro e w1 ⟨rfl,hP1,hS1⟩
 have HP1:=hide hP1
 have HS1:=hide (HS0.out.trans hS1)
 have hn1:=hS1.node HN0.out
 have HN1:=hide ((hS1.nodes _ _ _ HN0.out).trans HN0.out)
 clear hP1 hS1
 have hb1:=HP1.out.base
 have ea1_0:=below_cell hb1 Ha0.out
 have ea1_1:=below_cell hb1 Ha1.out
 have ea1_2:=below_cell hb1 Ha2.out
 have ea1_3:=below_cell hb1 Ha3.out
 clear hb1
 go_wp2_with fail
 go_at_call 146
 refine (HEx.out b _ _ _ HP1.out Ha.out (by have:=HLx.out;(try simp only [List.length_append,List.length_cons,List.length_nil,txs_len]);omega)).mono ?_
 rintro e w2 (⟨hp2,rfl,hP2,hS2⟩|⟨hp2,rfl,hB2⟩)
 rotate_left
 ·exact ⟨rfl,PostP.no (hp2) hB2⟩
 have HA2:=hide hp2
 have HP2:=hide hP2
 have HS2:=hide (HS1.out.trans hS2)
 have hn2:=hS2.node HN1.out
 have HN2:=hide ((hS2.nodes _ _ _ HN1.out).trans HN1.out)
 clear hp2 hP2 hS2 hn1
 go_wp2_with fail
 go_at_call 77
 refine (add_new HP2.out [sRP] _ rfl 1 rfl (by omega) (by have:=HLx.out;(try simp only [List.length_append,List.length_cons,List.length_nil,txs_len]);omega) _ (by simp)).mono ?_
 rintro e w3 ⟨rfl,hP3,hS3⟩
 have HP3:=hide hP3
 have HS3:=hide (HS2.out.trans hS3)
 have hn3:=hS3.node HN2.out
 have HN3:=hide ((hS3.nodes _ _ _ HN2.out).trans HN2.out)
 clear hP3 hS3 hn2
 go_wp2_with fail
 go_end0
 exact PostP.ok HA2.out (HP3.out.app' (by simp [txs_app,txs_cons,raw_wd,raw_sg,txs])) HS3.out
theorem sh_op (t:List UInt8) (v:Int) (a b:Nd):shT (.mk 32 t v [a,b])=atT (bindN a) (max (opBind v) 1) (shT a)++(sg (opSign v)::atT (bindN b) (opBind v+1) (shT b)):=by rw [shT_mk];simp [shK,sh2]
theorem op_bind {v:Int} (h:isOp v):0≤opBind v∧opBind v≤2:=by
 unfold isOp at h
 rcases h with rfl|rfl|rfl|rfl|rfl|rfl|rfl|rfl|rfl|rfl<;>decide
theorem RowO.kid1 {w:World} {g o:Nat} {x y:Nd} {r:List Nd} (h:RowO w (some ⟨g,o,none⟩) (x::y::r)):∃ k0 x0 n0 a0 m0 c0,
 w.cell? ⟨g,o+4,none⟩=some (.int .i64 k0)∧w.cell? ⟨g,o+4+1,none⟩=some (.string x0)∧w.cell? ⟨g,o+4+2,none⟩=some (.int .i64 n0)∧w.cell? ⟨g,o+4+3,none⟩=some (.slice a0 m0 c0)∧NdO w y (.agg #[.int .i64 k0,.string x0,.int .i64 n0,.slice a0 m0 c0]):=by
 obtain ⟨g',o',k0,x0,n0,a0,m0,c0,e,hg,r⟩:=h.tail.kid0
 obtain ⟨rfl,rfl⟩:g=g'∧o+4=o':=by simpa using e
 exact ⟨k0,x0,n0,a0,m0,c0,r⟩
theorem operation_any {w0:World} (hG:Gl w0) (x y:Nd) (hx:ExN w0 x) (hy:ExN w0 y) {w:World} {b:Nat} {T:List (List UInt8)} (hP:Pt w0 w b T) (text:List UInt8) (num:Int) (ka:Option Addr) (kc:Nat) (hR:RowO w0 ka [x,y]) (hT:T.length+tb x+tb y+5≤1000000000000):
  Calls Tryz.prog 162 #[.pointer (some ⟨b,0,none⟩),.agg #[.int .i64 32,.string (str text),.int .i64 num,.slice ka 2 kc]] w (PostP (isOp num∧IsEx x∧IsEx y) w0 w b T (shT (.mk 32 text num [x,y]))):=by
 have HLx:=hide (sh_tb x)
 have HEx:=hide hx
 have HEy:=hide hy
 have HG:=hide hG
 obtain ⟨ga,oa,ka,xa,na,aa,ma,ca,hkaa,hga,qa0,qa1,qa2,qa3,hnda⟩:=hR.kid0
 have Ha:=hide hnda
 have Ha0:=hide qa0
 have Ha1:=hide qa1
 have Ha2:=hide qa2
 have Ha3:=hide qa3
 clear qa0 qa1 qa2 qa3 hnda hga
 subst hkaa
 obtain ⟨kb,xb,nb,ab,mb,cb,qb0,qb1,qb2,qb3,hndb⟩:=hR.kid1
 have Hb:=hide hndb
 have Hb0:=hide qb0
 have Hb1:=hide qb1
 have Hb2:=hide qb2
 have Hb3:=hide qb3
 clear qb0 qb1 qb2 qb3 hndb
 have HP0:Hid (Pt w0 (w.alloc (.cells #[.int .i64 32,.string (str text),.int .i64 num,.slice (some ⟨ga,oa,none⟩) 2 kc] 24)) b T):=hP.alloc _
 have HS0:Hid (St w (w.alloc (.cells #[.int .i64 32,.string (str text),.int .i64 num,.slice (some ⟨ga,oa,none⟩) 2 kc] 24))):=St.alloc _ _
 have HN0:=hide (heap_new w #[.int .i64 32,.string (str text),.int .i64 num,.slice (some ⟨ga,oa,none⟩) 2 kc] 24)
 have hop:=opOf_any 32 text num (some ⟨ga,oa,none⟩) 2 kc _ ((hG.below hP.base).below ((Below.refl _ _).alloc (Nat.le_refl _) (.cells #[.int .i64 32,.string (str text),.int .i64 num,.slice (some ⟨ga,oa,none⟩) 2 kc] 24)))
 clear hP hR hx hy hG
 go_enter Tryz.func162,Tryz.ntmps162
 go_wp2_with fail
 go_at_call 172
 refine hop.mono ?_
 rintro e w1 ⟨⟨hk,rfl⟩|⟨hk,rfl⟩,hb1⟩
 rotate_left
 ·exact ⟨rfl,PostP.no (fun h=>hk h.1) (HP0.out.below hb1).base⟩
 have HI:=hide hk
 have hbd:=op_bind hk
 have HP1:Hid (Pt w0 (w1.alloc (.cells #[.string (str (opSign num)),.int .i64 num,.int .i64 (opBind num)] 158)) b T):=(HP0.out.below hb1).alloc _
 have HS1:Hid (St w (w1.alloc (.cells #[.string (str (opSign num)),.int .i64 num,.int .i64 (opBind num)] 158))):=(HS0.out.trans (St.below hb1)).trans (St.alloc _ _)
 have HN1:Hid ((w1.alloc (.cells #[.string (str (opSign num)),.int .i64 num,.int .i64 (opBind num)] 158)).heap[w.heap.size]?=some (.cells #[.int .i64 32,.string (str text),.int .i64 num,.slice (some ⟨ga,oa,none⟩) 2 kc] 24 (0,0))):=(((St.below hb1).trans (St.alloc _ _)).nodes _ _ _ HN0.out).trans HN0.out
 have hn1:=cells_at HN1.out
 have HO1:Hid ((w1.alloc (.cells #[.string (str (opSign num)),.int .i64 num,.int .i64 (opBind num)] 158)).heap[w1.heap.size]?=some (.cells #[.string (str (opSign num)),.int .i64 num,.int .i64 (opBind num)] 158 (0,0))):=heap_new _ _ _
 have hO1:=cells_at HO1.out
 clear hk hb1 hop HP0 HS0 HN0
 generalize hob:opBind num=ob at *
 generalize hos:opSign num=os at *
 have HOb:=hide hob
 have HOs:=hide hos
 clear hob hos
 have hwr:IntKind.i64.wrap (ob+1)=ob+1:=by rw [IntKind.wrap_i64];omega
 have HAx:Hid (∀ k,(atT (bindN x) k (shT x)).length≤(shT x).length+2):=fun k=>at_len _ _ _
 by_cases h0:ob=0
 ·subst h0
  have hb1:=HP1.out.base
  have ea1_0:=below_cell hb1 Ha0.out
  have ea1_1:=below_cell hb1 Ha1.out
  have ea1_2:=below_cell hb1 Ha2.out
  have ea1_3:=below_cell hb1 Ha3.out
  clear hb1
  go_wp2_with fail
  go_at_call 161
  refine (part_any HG.out x HEx.out HP1.out _ Ha.out (1) (by omega)).mono ?_
  rintro e w2 (⟨hp2,rfl,hP2,hS2⟩|⟨hp2,rfl,hB2⟩)
  rotate_left
  ·exact ⟨rfl,PostP.no (fun h=>hp2 h.2.1) hB2⟩
  have HA2:=hide hp2
  have HP2:=hide hP2
  have HS2:=hide (HS1.out.trans hS2)
  have hn2:=hS2.node HN1.out
  have HN2:=hide ((hS2.nodes _ _ _ HN1.out).trans HN1.out)
  have HO2:=hide ((hS2.keeps _ _ _ _ (by decide) (by decide) HO1.out).trans HO1.out)
  have hO2:=cells_at HO2.out
  clear hp2 hP2 hS2 hn1 hO1
  go_wp2_with fail
  go_at_call 77
  refine (add_new HP2.out [os] _ rfl 1 rfl (by omega) (by have:=HLx.out;have:=HAx.out (1);(try simp only [List.length_append,List.length_cons,List.length_nil,txs_len]);omega) _ (by simp)).mono ?_
  rintro e w3 ⟨rfl,hP3,hS3⟩
  have HP3:=hide hP3
  have HS3:=hide (HS2.out.trans hS3)
  have hn3:=hS3.node HN2.out
  have HN3:=hide ((hS3.nodes _ _ _ HN2.out).trans HN2.out)
  have HO3:=hide ((hS3.keeps _ _ _ _ (by decide) (by decide) HO2.out).trans HO2.out)
  have hO3:=cells_at HO3.out
  clear hP3 hS3 hn2 hO2
  go_wp2_with fail
  have HSd:Hid (∀ w',St w3 w'→Below w0.heap.size w0 w'→(fun w'=>(∀ oo,w'.cell? ⟨w.heap.size,oo,none⟩=(#[Value.int .i64 32,.string (str text),.int .i64 num,.slice (some ⟨ga,oa,none⟩) 2 kc])[oo]?)∧(∀ oo,w'.cell? ⟨w1.heap.size,oo,none⟩=(#[Value.string (str os),.int .i64 num,.int .i64 0])[oo]?)∧w'.cell? ⟨ga,oa+4,none⟩=some (.int .i64 kb)∧w'.cell? ⟨ga,oa+4+1,none⟩=some (.string xb)∧w'.cell? ⟨ga,oa+4+2,none⟩=some (.int .i64 nb)∧w'.cell? ⟨ga,oa+4+3,none⟩=some (.slice ab mb cb)) w'):=fun w' hw hb=>⟨hw.node HN3.out,cells_at ((hw.keeps _ _ _ _ (by decide) (by decide) HO3.out).trans HO3.out),below_cell hb Hb0.out,below_cell hb Hb1.out,below_cell hb Hb2.out,below_cell hb Hb3.out⟩
  refine wp_region_held_drew (S:=(fun w'=>(∀ oo,w'.cell? ⟨w.heap.size,oo,none⟩=(#[Value.int .i64 32,.string (str text),.int .i64 num,.slice (some ⟨ga,oa,none⟩) 2 kc])[oo]?)∧(∀ oo,w'.cell? ⟨w1.heap.size,oo,none⟩=(#[Value.string (str os),.int .i64 num,.int .i64 0])[oo]?)∧w'.cell? ⟨ga,oa+4,none⟩=some (.int .i64 kb)∧w'.cell? ⟨ga,oa+4+1,none⟩=some (.string xb)∧w'.cell? ⟨ga,oa+4+2,none⟩=some (.int .i64 nb)∧w'.cell? ⟨ga,oa+4+3,none⟩=some (.slice ab mb cb))) (by kernel_rfl) (HSd.out _ (St.drew w3) HP3.out.drew.base) (fun hHeld=>?_)
  refine tq 0 ?_
  simp only [qq]
  refine tq 1 ?_
  simp only [qq]
  refine tq 2 ?_
  simp only [qq]
  refine tq 3 ?_
  simp only [qq]
  refine tq 4 ?_
  simp only [qq]
  refine tq 5 ?_
  simp only [qq]
  refine tq 6 ?_
  simp only [qq]
  refine tq 7 ?_
  simp only [qq]
  refine rq 8 fun K hK=>?_
  go_simp
  refine (part_any HG.out y HEy.out (HP3.out.drew) _ Hb.out (1) (by have:=HLx.out;have:=HAx.out (1);(try simp only [List.length_append,List.length_cons,List.length_nil,txs_len]);omega)).mono ?_
  rintro e w4 (⟨hp,rfl,hP4,hS4⟩|⟨hp,rfl,hB4⟩)
  rotate_left
  ·exact ⟨rfl,PostP.no (fun h=>hp h.2.2) hB4⟩
  have hst:=(St.drew w3).trans hS4
  refine hK.out _ _ (HSd.out _ hst hP4.base) (fun hHeld1=>?_)
  clear hK K
  refine wpAnyH_done (by kernel_rfl) ?_ _
  have HA4:=hide hp
  have HP4:=hide hP4
  have HS4:=hide (HS3.out.trans hst)
  clear hp hP4 hS4 hst hHeld hHeld1 HSd hn3 hO3
  go_wp2_with fail
  go_end0
  refine PostP.ok ⟨HI.out,HA2.out,HA4.out⟩ (HP4.out.app' ?_) HS4.out
  rw [sh_op,HOb.out,HOs.out,txs_app,txs_cons,raw_sg,show max (0:Int) 1=1 from rfl,show (0:Int)+1=1 from rfl]
  simp
 ·have h0':(ob == 0)=false:=by simpa using h0
  have HM:Hid (max ob 1=ob):=by show _=_;omega
  clear h0
  have hb1:=HP1.out.base
  have ea1_0:=below_cell hb1 Ha0.out
  have ea1_1:=below_cell hb1 Ha1.out
  have ea1_2:=below_cell hb1 Ha2.out
  have ea1_3:=below_cell hb1 Ha3.out
  clear hb1
  go_wp2_with fail
  go_at_call 161
  refine (part_any HG.out x HEx.out HP1.out _ Ha.out (ob) (by omega)).mono ?_
  rintro e w2 (⟨hp2,rfl,hP2,hS2⟩|⟨hp2,rfl,hB2⟩)
  rotate_left
  ·exact ⟨rfl,PostP.no (fun h=>hp2 h.2.1) hB2⟩
  have HA2:=hide hp2
  have HP2:=hide hP2
  have HS2:=hide (HS1.out.trans hS2)
  have hn2:=hS2.node HN1.out
  have HN2:=hide ((hS2.nodes _ _ _ HN1.out).trans HN1.out)
  have HO2:=hide ((hS2.keeps _ _ _ _ (by decide) (by decide) HO1.out).trans HO1.out)
  have hO2:=cells_at HO2.out
  clear hp2 hP2 hS2 hn1 hO1
  go_wp2_with fail
  go_at_call 77
  refine (add_new HP2.out [os] _ rfl 1 rfl (by omega) (by have:=HLx.out;have:=HAx.out (ob);(try simp only [List.length_append,List.length_cons,List.length_nil,txs_len]);omega) _ (by simp)).mono ?_
  rintro e w3 ⟨rfl,hP3,hS3⟩
  have HP3:=hide hP3
  have HS3:=hide (HS2.out.trans hS3)
  have hn3:=hS3.node HN2.out
  have HN3:=hide ((hS3.nodes _ _ _ HN2.out).trans HN2.out)
  have HO3:=hide ((hS3.keeps _ _ _ _ (by decide) (by decide) HO2.out).trans HO2.out)
  have hO3:=cells_at HO3.out
  clear hP3 hS3 hn2 hO2
  go_wp2_with fail
  have HSd:Hid (∀ w',St w3 w'→Below w0.heap.size w0 w'→(fun w'=>(∀ oo,w'.cell? ⟨w.heap.size,oo,none⟩=(#[Value.int .i64 32,.string (str text),.int .i64 num,.slice (some ⟨ga,oa,none⟩) 2 kc])[oo]?)∧(∀ oo,w'.cell? ⟨w1.heap.size,oo,none⟩=(#[Value.string (str os),.int .i64 num,.int .i64 ob])[oo]?)∧w'.cell? ⟨ga,oa+4,none⟩=some (.int .i64 kb)∧w'.cell? ⟨ga,oa+4+1,none⟩=some (.string xb)∧w'.cell? ⟨ga,oa+4+2,none⟩=some (.int .i64 nb)∧w'.cell? ⟨ga,oa+4+3,none⟩=some (.slice ab mb cb)) w'):=fun w' hw hb=>⟨hw.node HN3.out,cells_at ((hw.keeps _ _ _ _ (by decide) (by decide) HO3.out).trans HO3.out),below_cell hb Hb0.out,below_cell hb Hb1.out,below_cell hb Hb2.out,below_cell hb Hb3.out⟩
  refine wp_region_held_drew (S:=(fun w'=>(∀ oo,w'.cell? ⟨w.heap.size,oo,none⟩=(#[Value.int .i64 32,.string (str text),.int .i64 num,.slice (some ⟨ga,oa,none⟩) 2 kc])[oo]?)∧(∀ oo,w'.cell? ⟨w1.heap.size,oo,none⟩=(#[Value.string (str os),.int .i64 num,.int .i64 ob])[oo]?)∧w'.cell? ⟨ga,oa+4,none⟩=some (.int .i64 kb)∧w'.cell? ⟨ga,oa+4+1,none⟩=some (.string xb)∧w'.cell? ⟨ga,oa+4+2,none⟩=some (.int .i64 nb)∧w'.cell? ⟨ga,oa+4+3,none⟩=some (.slice ab mb cb))) (by kernel_rfl) (HSd.out _ (St.drew w3) HP3.out.drew.base) (fun hHeld=>?_)
  refine tq 0 ?_
  simp only [qq]
  refine tq 1 ?_
  simp only [qq]
  refine tq 2 ?_
  simp only [qq]
  refine tq 3 ?_
  simp only [qq]
  refine tq 4 ?_
  simp only [qq]
  refine tq 5 ?_
  simp only [qq]
  refine tq 6 ?_
  simp only [qq]
  refine tq 7 ?_
  simp only [qq]
  refine rq 8 fun K hK=>?_
  go_simp
  refine (part_any HG.out y HEy.out (HP3.out.drew) _ Hb.out (ob+1) (by have:=HLx.out;have:=HAx.out (ob);(try simp only [List.length_append,List.length_cons,List.length_nil,txs_len]);omega)).mono ?_
  rintro e w4 (⟨hp,rfl,hP4,hS4⟩|⟨hp,rfl,hB4⟩)
  rotate_left
  ·exact ⟨rfl,PostP.no (fun h=>hp h.2.2) hB4⟩
  have hst:=(St.drew w3).trans hS4
  refine hK.out _ _ (HSd.out _ hst hP4.base) (fun hHeld1=>?_)
  clear hK K
  refine wpAnyH_done (by kernel_rfl) ?_ _
  have HA4:=hide hp
  have HP4:=hide hP4
  have HS4:=hide (HS3.out.trans hst)
  clear hp hP4 hS4 hst hHeld hHeld1 HSd hn3 hO3
  go_wp2_with fail
  go_end0
  refine PostP.ok ⟨HI.out,HA2.out,HA4.out⟩ (HP4.out.app' ?_) HS4.out
  rw [sh_op,HOb.out,HOs.out,txs_app,txs_cons,raw_sg,HM.out]
  simp
end Go.Proofs.YthcfianhdkolhaaGreatDoor.T
