/- PrA PrB -/
import Derived.Test.YthcfianhdkolhaaGreatDoorPTyp
import Derived.Deep.MidRow
namespace Go.Proofs.YthcfianhdkolhaaGreatDoor.T
open Go.RowKit Go.Proofs.YthcfianhdkolhaaGreatDoor.S
set_option maxRecDepth 100000
set_option maxHeartbeats 2000000
set_option linter.unusedVariables false
set_option linter.unusedSimpArgs false

theorem Pt.app' {w0 w:World} {b:Nat} {T U:List (List UInt8)} {ts:List Tk} (h:Pt w0 w b U) (e:U=T++txs ts):Pt w0 w b (T++txs ts):=e ▸ h
theorem RowO.kid0 {w:World} {ka:Option Addr} {x:Nd} {r:List Nd} (h:RowO w ka (x::r)):∃ g o k0 x0 n0 a0 m0 c0,ka=some ⟨g,o,none⟩∧g<w.heap.size ∧
 w.cell? ⟨g,o,none⟩=some (.int .i64 k0)∧w.cell? ⟨g,o+1,none⟩=some (.string x0)∧w.cell? ⟨g,o+2,none⟩=some (.int .i64 n0)∧w.cell? ⟨g,o+3,none⟩=some (.slice a0 m0 c0)∧NdO w x (.agg #[.int .i64 k0,.string x0,.int .i64 n0,.slice a0 m0 c0]):=by
 obtain ⟨g,o,k0,x0,n0,a0,m0,c0,e,hg,r⟩:=h.kid 0 (by simp)
 simp only [Nat.zero_mul,Nat.add_zero,List.getElem_cons_zero] at r
 exact ⟨g,o,k0,x0,n0,a0,m0,c0,e,hg,r⟩
theorem txs1 (s:List UInt8):txs [wd s]=[s]:=rfl
theorem txsg (s:List UInt8):txs [sg s]=[s]:=rfl
theorem typed_any {w0:World} (hG:Gl w0) {w:World} {b:Nat} {T:List (List UInt8)} (hP:Pt w0 w b T) (kind:Int) (text:List UInt8) (num:Int) (x:Nd) (r:List Nd) (ka:Option Addr) (n kc:Nat) (hR:RowO w0 ka (x::r)) (hn:0<n) (hc:cnt x≤700) (hT:T.length+tb x+1≤1000000000000):
  Calls Tryz.prog 79 #[.pointer (some ⟨b,0,none⟩),.agg #[.int .i64 kind,.string (str text),.int .i64 num,.slice ka n kc]] w (PostP (IsTy x) w0 w b T (shT x++[wd text])):=by
 have hn':(0:Int)<n:=by omega
 have HLx:=hide (sh_tb x)
 obtain ⟨ga,oa,ka,xa,na,aa,ma,ca,hkaa,hga,qa0,qa1,qa2,qa3,hnda⟩:=hR.kid0
 have Ha:=hide hnda
 have Ha0:=hide qa0
 have Ha1:=hide qa1
 have Ha2:=hide qa2
 have Ha3:=hide qa3
 clear qa0 qa1 qa2 qa3 hnda hga
 subst hkaa
 have HP0:Hid (Pt w0 (w.alloc (.cells #[.int .i64 kind,.string (str text),.int .i64 num,.slice (some ⟨ga,oa,none⟩) n kc] 24)) b T):=hP.alloc _
 have HS0:Hid (St w (w.alloc (.cells #[.int .i64 kind,.string (str text),.int .i64 num,.slice (some ⟨ga,oa,none⟩) n kc] 24))):=St.alloc _ _
 have HN0:=hide (heap_new w #[.int .i64 kind,.string (str text),.int .i64 num,.slice (some ⟨ga,oa,none⟩) n kc] 24)
 have HTy:=hide (typ_all hG x hc)
 clear hP hR hG
 have hb0:=HP0.out.base
 have ea0_0:=below_cell hb0 Ha0.out
 have ea0_1:=below_cell hb0 Ha1.out
 have ea0_2:=below_cell hb0 Ha2.out
 have ea0_3:=below_cell hb0 Ha3.out
 clear hb0
 go_enter Tryz.func79,Tryz.ntmps79
 go_wp2_with fail
 go_at_call 104
 refine (HTy.out b _ T _ HP0.out Ha.out (by have:=HLx.out;(try simp only [List.length_append,List.length_cons,List.length_nil,txs_len]);omega)).mono ?_
 rintro e w1 (⟨hp1,rfl,hP1,hS1⟩|⟨hp1,rfl,hB1⟩)
 rotate_left
 ·exact ⟨rfl,PostP.no (hp1) hB1⟩
 have HA1:=hide hp1
 have HP1:=hide hP1
 have HS1:=hide (HS0.out.trans hS1)
 have hn1:=hS1.node HN0.out
 have HN1:=hide ((hS1.nodes _ _ _ HN0.out).trans HN0.out)
 clear hp1 hP1 hS1
 go_wp2_with fail
 go_at_call 77
 refine (add_new HP1.out [text] _ rfl 1 rfl (by omega) (by have:=HLx.out;(try simp only [List.length_append,List.length_cons,List.length_nil,txs_len]);omega) _ (by simp)).mono ?_
 rintro e w2 ⟨rfl,hP2,hS2⟩
 have HP2:=hide hP2
 have HS2:=hide (HS1.out.trans hS2)
 have hn2:=hS2.node HN1.out
 have HN2:=hide ((hS2.nodes _ _ _ HN1.out).trans HN1.out)
 clear hP2 hS2 hn1
 go_wp2_with fail
 go_end0
 exact PostP.ok HA1.out (HP2.out.app' (by rw [txs_app,txs1];simp)) HS2.out
theorem pa_kn {k:Int} {t:List UInt8} {v:Int} {kids:List Nd} (hn:kids.length≤700):IsPa (.mk k t v kids) ↔ (k=8∧knB k t v kids.length=true)∧∃ x,kids=[x]∧IsTy x:=by
 constructor
 ·intro h
  cases h with
  | param s x hs hx=>exact ⟨⟨rfl,kn_iff.2 ⟨by decide,txt_ok hs,by decide,by decide,(by show (1:Int)≤1;decide),(by show (1:Int)≤1;decide)⟩⟩,x,rfl,hx⟩
 ·rintro ⟨⟨rfl,hk⟩,x,rfl,hx⟩
  obtain ⟨_,h2,h3,h4,_⟩:=kn_iff.1 hk
  have h4':v≤0:=h4
  obtain rfl:v=0:=by omega
  exact IsPa.param t x (txt_t h2) hx
theorem fi_kn {k:Int} {t:List UInt8} {v:Int} {kids:List Nd} (hn:kids.length≤700):IsFi (.mk k t v kids) ↔ (k=3∧knB k t v kids.length=true)∧∃ x,kids=[x]∧IsTy x:=by
 constructor
 ·intro h
  cases h with
  | field s x hs hx=>exact ⟨⟨rfl,kn_iff.2 ⟨by decide,txt_ok hs,by decide,by decide,(by show (1:Int)≤1;decide),(by show (1:Int)≤1;decide)⟩⟩,x,rfl,hx⟩
 ·rintro ⟨⟨rfl,hk⟩,x,rfl,hx⟩
  obtain ⟨_,h2,h3,h4,_⟩:=kn_iff.1 hk
  have h4':v≤0:=h4
  obtain rfl:v=0:=by omega
  exact IsFi.field t x (txt_t h2) hx
theorem kn_one {k:Nat} {t:List UInt8} {v:Int} {kids:List Nd} {a:Bool} {m:Int} (hs:shp k=(a,m,1,1)) (h:knB k t v kids.length=true):∃ x,kids=[x]:=by
 obtain ⟨_,_,_,_,h5,h6⟩:=kn_iff.1 h
 rw [Int.toNat_natCast,hs] at h5 h6
 exact one_form (by simp only at h5 h6;omega)
theorem sh_param (t:List UInt8) (v:Int) (x:Nd):shT (.mk 8 t v [x])=shT x++[wd t]:=by rw [shT_mk];simp [shK]
theorem sh_field (t:List UInt8) (v:Int) (x:Nd):shT (.mk 3 t v [x])=shT x++[wd t,sg sSEMI]:=by rw [shT_mk];simp [shK]
theorem param_any {w0:World} (hG:Gl w0) {w:World} {b:Nat} {T:List (List UInt8)} (hP:Pt w0 w b T) (n:Nd) (v:Value) (hv:NdO w0 n v) (hc:cnt n≤700) (hT:T.length+tb n≤1000000000000):
  Calls Tryz.prog 106 #[.pointer (some ⟨b,0,none⟩),v] w (PostP (IsPa n) w0 w b T (shT n)):=by
 obtain ⟨kind,text,num,kids⟩:=n
 obtain ⟨ka,kc,rfl,t1,n1,n2,l1,l2,hR⟩:=hv.part
 rw [cnt_mk] at hc
 rw [tb_mk] at hT
 have hl7:kids.length≤700:=Nat.le_trans (len_cnt kids) (by omega)
 have HIff:=hide (pa_kn (k:=kind) (t:=text) (v:=num) hl7)
 have HP0:Hid (Pt w0 (w.alloc (.cells #[.int .i64 kind,.string (str text),.int .i64 num,.slice ka kids.length kc] 24)) b T):=hP.alloc _
 have HS0:Hid (St w (w.alloc (.cells #[.int .i64 kind,.string (str text),.int .i64 num,.slice ka kids.length kc] 24))):=St.alloc _ _
 have HN0:=hide (heap_new w #[.int .i64 kind,.string (str text),.int .i64 num,.slice ka kids.length kc] 24)
 have hkn:=knowKind_any kind text num ka kids.length kc 8 _ ((hG.below hP.base).below ((Below.refl _ _).alloc (Nat.le_refl _) (.cells #[.int .i64 kind,.string (str text),.int .i64 num,.slice ka kids.length kc] 24))) t1 (by omega)
 have HR:=hide hR
 have HG:=hide hG
 clear hP hv hR hG
 go_enter Tryz.func106,Tryz.ntmps106
 go_wp2_with fail
 go_at_call 55
 refine hkn.mono ?_
 rintro e w1 ⟨⟨hk0,hk,rfl⟩|⟨hk,rfl⟩,hb1⟩
 rotate_left
 ·exact ⟨rfl,PostP.no (fun h=>hk (HIff.out.1 h).1) (HP0.out.below hb1).base⟩
 subst hk0
 have HP1:=hide (HP0.out.below hb1)
 have HS1:=hide (HS0.out.trans (St.below hb1))
 have hn1':=(St.below hb1).node HN0.out
 have HK:=hide hk
 obtain ⟨x,rfl⟩:=kn_one (k:=8) (by rfl) hk
 have HI:Hid (IsPa (.mk 8 text num [x]) ↔ IsTy x):=by
  show _ ↔ _
  rw [HIff.out]
  constructor
  ·rintro ⟨_,y,e,hy⟩;rw [List.cons.inj e |>.1];exact hy
  ·intro h;exact ⟨⟨rfl,HK.out⟩,x,rfl,h⟩
 have hcx:cnt x≤700:=by rw [cntL_cons] at hc;omega
 have hTx:T.length+tb x+1≤1000000000000:=by rw [tbL_cons] at hT;omega
 clear hk hb1 hkn HP0 HS0 HN0 hc hT
 go_wp2_with fail
 go_at_call 79
 refine (typed_any HG.out HP1.out 8 text num x [] ka 1 kc HR.out (by omega) hcx hTx).mono ?_
 rintro e w2 (⟨hp,rfl,hP2,hS2⟩|⟨hp,rfl,hB2⟩)
 rotate_left
 ·exact ⟨rfl,PostP.no (fun h=>hp (HI.out.1 h)) hB2⟩
 have HA:=hide (HI.out.2 hp)
 have HP2:=hide hP2
 have HS2:=hide (HS1.out.trans hS2)
 clear hp hP2 hS2
 go_wp2_with fail
 go_end0
 exact PostP.ok HA.out (HP2.out.app (by rw [sh_param])) HS2.out
theorem static_any {w0 w:World} {b:Nat} {T:List (List UInt8)} (hP:Pt w0 w b T) (st:Int) (hT:T.length+1≤1000000000000):
  Calls Tryz.prog 80 #[.pointer (some ⟨b,0,none⟩),.int .i64 st] w fun e w'=>e=.returned (.tuple #[])∧Pt w0 w' b (T++txs (if st=1 then [wd sSTATIC] else []))∧St w w':=by
 have HP0:=hide hP
 have HS0:=hide (St.refl w)
 clear hP
 by_cases h:st=1
 ·subst h
  go_enter Tryz.func80,Tryz.ntmps80
  go_wp2_with fail
  go_at_call 77
  refine (add_new HP0.out [sSTATIC] _ rfl 1 rfl (by omega) (by (try simp only [List.length_append,List.length_cons,List.length_nil,txs_len]);omega) _ (by simp)).mono ?_
  rintro e w1 ⟨rfl,hP1,hS1⟩
  have HP1:=hide hP1
  have HS1:=hide (HS0.out.trans hS1)
  clear hP1 hS1
  go_wp2_with fail
  go_end0
  exact ⟨rfl,HP1.out,HS1.out⟩
 ·have h':(st == 1)=false:=by simpa using h
  go_enter Tryz.func80,Tryz.ntmps80
  go_wp2_with fail
  go_end0
  exact ⟨rfl,by simpa [txs,h] using HP0.out,HS0.out⟩
theorem function_any {w0:World} (hG:Gl w0) {w:World} {b:Nat} {T:List (List UInt8)} (hP:Pt w0 w b T) (l:List Nd) (x:Nd) (ka:Option Addr) (kc:Nat) (name:List UInt8) (many:Int) (hR:RowO w0 ka (l++[x])) (hkc:l.length+1≤kc) (hkm:kc≤9223372036854775807) (hc:cntL (l++[x])≤700) (hT:T.length+tbL (l++[x])+l.length+9≤1000000000000):
  Calls Tryz.prog 78 #[.pointer (some ⟨b,0,none⟩),.slice ka (l.length+1) kc,.string (str name),.int .i64 many] w (PostP (IsTy x∧∀ y,y∈l→IsPa y) w0 w b T (shT x++[wd name]++rowT (l.map shT) (decide (many=1)))):=by
 rw [cntL_app,cntL_cons,cntL_nil] at hc
 rw [tbL_app,tbL_cons,tbL_nil] at hT
 have hl7:l.length≤700:=Nat.le_trans (len_cnt l) (by omega)
 have HLx:=hide (sh_tb x)
 have HTy:=hide (typ_all hG x (by omega))
 have HEach:Hid (Each53 w0 b l):=fun j hj w' T' v' h1 h2 h3=>param_any hG h1 l[j] v' h2 (by have:=cnt_mem (List.getElem_mem hj);omega) h3
 have HRl:Hid (RowO w0 ka l):=by have:=hR.take l.length;simpa [Hid] using this
 obtain ⟨ga,oa,ka0,xa,na,aa,ma,ca,hka,hga,qa0,qa1,qa2,qa3,hnda⟩:=hR.kid l.length (by simp)
 have Ha:Hid (NdO w0 x (.agg #[.int .i64 ka0,.string xa,.int .i64 na,.slice aa ma ca])):=by simpa [Hid] using hnda
 have Ha0:=hide qa0
 have Ha1:=hide qa1
 have Ha2:=hide qa2
 have Ha3:=hide qa3
 clear qa0 qa1 qa2 qa3 hnda hga hR hG
 subst hka
 have HP0:=hide hP
 have HS0:=hide (St.refl w)
 clear hP
 have hww:IntKind.i64.wrap (((l.length+1:Nat):Int) - 1)=(l.length:Int):=by rw [IntKind.wrap_i64];omega
 have hww2:IntKind.i64.wrap ((l.length:Int)+1 - 1)=(l.length:Int):=by rw [IntKind.wrap_i64];omega
 have hsl:(0:Int)≤l.length∧(l.length:Int)≤kc:=by omega
 have hix:(0:Int)≤l.length∧(l.length:Int)<l.length+1:=by omega
 have hb0:=HP0.out.base
 have ea0_0:=below_cell hb0 Ha0.out
 have ea0_1:=below_cell hb0 Ha1.out
 have ea0_2:=below_cell hb0 Ha2.out
 have ea0_3:=below_cell hb0 Ha3.out
 clear hb0
 go_enter Tryz.func78,Tryz.ntmps78
 go_wp2_with fail
 go_at_call 104
 refine (HTy.out b _ T _ HP0.out Ha.out (by have:=HLx.out;(try simp only [List.length_append,List.length_cons,List.length_nil,txs_len]);omega)).mono ?_
 rintro e w1 (⟨hp1,rfl,hP1,hS1⟩|⟨hp1,rfl,hB1⟩)
 rotate_left
 ·exact ⟨rfl,PostP.no (fun h=>hp1 h.1) hB1⟩
 have HA1:=hide hp1
 have HP1:=hide hP1
 have HS1:=hide (HS0.out.trans hS1)
 clear hp1 hP1 hS1
 go_wp2_with fail
 go_at_call 77
 refine (add_new HP1.out [name] _ rfl 1 rfl (by omega) (by have:=HLx.out;(try simp only [List.length_append,List.length_cons,List.length_nil,txs_len]);omega) _ (by simp)).mono ?_
 rintro e w2 ⟨rfl,hP2,hS2⟩
 have HP2:=hide hP2
 have HS2:=hide (HS1.out.trans hS2)
 clear hP2 hS2
 go_wp2_with fail
 go_at_call 105
 refine (open_53 HP2.out l _ kc many (decide (many=1)) rfl HRl.out (by omega) HEach.out (by have:=HLx.out;(try simp only [List.length_append,List.length_cons,List.length_nil,txs_len]);omega)).mono ?_
 rintro e w3 (⟨hp3,rfl,hP3,hS3⟩|⟨hp3,rfl,hB3⟩)
 rotate_left
 ·exact ⟨rfl,PostP.no (fun h=>hp3 h.2) hB3⟩
 have HA3:=hide hp3
 have HP3:=hide hP3
 have HS3:=hide (HS2.out.trans hS3)
 clear hp3 hP3 hS3
 go_wp2_with fail
 go_end0
 exact PostP.ok ⟨HA1.out,HA3.out⟩ (HP3.out.app' (by rw [txs_app,txs_app,txs1];simp)) HS3.out
end Go.Proofs.YthcfianhdkolhaaGreatDoor.T
namespace Go.Proofs.YthcfianhdkolhaaGreatDoor.T
open Go.RowKit Go.Proofs.YthcfianhdkolhaaGreatDoor.S
set_option maxRecDepth 100000
set_option maxHeartbeats 2000000
set_option linter.unusedVariables false
set_option linter.unusedSimpArgs false

def opCells:List Value:=[.string ⟨#[61,61]⟩,.int .i64 12,.int .i64 0,.string ⟨#[60]⟩,.int .i64 10,.int .i64 0,.string ⟨#[43]⟩,.int .i64 1,.int .i64 1,.string ⟨#[45]⟩,.int .i64 2,.int .i64 1,.string ⟨#[124]⟩,.int .i64 8,.int .i64 1,.string ⟨#[94]⟩,.int .i64 9,.int .i64 1,.string ⟨#[42]⟩,.int .i64 3,.int .i64 2,.string ⟨#[47]⟩,.int .i64 5,.int .i64 2,.string ⟨#[37]⟩,.int .i64 6,.int .i64 2,.string ⟨#[38]⟩,.int .i64 7,.int .i64 2]
theorem op_index0 (w:World):(Instr.index 159 (.agg opCells.toArray) (.int .i64 ((0:Nat):Int))).run Tryz.prog w=.ok (.agg #[.string (str (opr 0).1),.int .i64 (opr 0).2.1,.int .i64 (opr 0).2.2]) w:=by kernel_rfl
theorem op_index1 (w:World):(Instr.index 159 (.agg opCells.toArray) (.int .i64 ((1:Nat):Int))).run Tryz.prog w=.ok (.agg #[.string (str (opr 1).1),.int .i64 (opr 1).2.1,.int .i64 (opr 1).2.2]) w:=by kernel_rfl
theorem op_index2 (w:World):(Instr.index 159 (.agg opCells.toArray) (.int .i64 ((2:Nat):Int))).run Tryz.prog w=.ok (.agg #[.string (str (opr 2).1),.int .i64 (opr 2).2.1,.int .i64 (opr 2).2.2]) w:=by kernel_rfl
theorem op_index3 (w:World):(Instr.index 159 (.agg opCells.toArray) (.int .i64 ((3:Nat):Int))).run Tryz.prog w=.ok (.agg #[.string (str (opr 3).1),.int .i64 (opr 3).2.1,.int .i64 (opr 3).2.2]) w:=by kernel_rfl
theorem op_index4 (w:World):(Instr.index 159 (.agg opCells.toArray) (.int .i64 ((4:Nat):Int))).run Tryz.prog w=.ok (.agg #[.string (str (opr 4).1),.int .i64 (opr 4).2.1,.int .i64 (opr 4).2.2]) w:=by kernel_rfl
theorem op_index5 (w:World):(Instr.index 159 (.agg opCells.toArray) (.int .i64 ((5:Nat):Int))).run Tryz.prog w=.ok (.agg #[.string (str (opr 5).1),.int .i64 (opr 5).2.1,.int .i64 (opr 5).2.2]) w:=by kernel_rfl
theorem op_index6 (w:World):(Instr.index 159 (.agg opCells.toArray) (.int .i64 ((6:Nat):Int))).run Tryz.prog w=.ok (.agg #[.string (str (opr 6).1),.int .i64 (opr 6).2.1,.int .i64 (opr 6).2.2]) w:=by kernel_rfl
theorem op_index7 (w:World):(Instr.index 159 (.agg opCells.toArray) (.int .i64 ((7:Nat):Int))).run Tryz.prog w=.ok (.agg #[.string (str (opr 7).1),.int .i64 (opr 7).2.1,.int .i64 (opr 7).2.2]) w:=by kernel_rfl
theorem op_index8 (w:World):(Instr.index 159 (.agg opCells.toArray) (.int .i64 ((8:Nat):Int))).run Tryz.prog w=.ok (.agg #[.string (str (opr 8).1),.int .i64 (opr 8).2.1,.int .i64 (opr 8).2.2]) w:=by kernel_rfl
theorem op_index9 (w:World):(Instr.index 159 (.agg opCells.toArray) (.int .i64 ((9:Nat):Int))).run Tryz.prog w=.ok (.agg #[.string (str (opr 9).1),.int .i64 (opr 9).2.1,.int .i64 (opr 9).2.2]) w:=by kernel_rfl
theorem op_index (j:Nat) (hj:j<10) (w:World):(Instr.index 159 (.agg opCells.toArray) (.int .i64 (j:Int))).run Tryz.prog w=.ok (.agg #[.string (str (opr j).1),.int .i64 (opr j).2.1,.int .i64 (opr j).2.2]) w:=by
 match j,hj with
 | 0,_=>exact op_index0 w
 | 1,_=>exact op_index1 w
 | 2,_=>exact op_index2 w
 | 3,_=>exact op_index3 w
 | 4,_=>exact op_index4 w
 | 5,_=>exact op_index5 w
 | 6,_=>exact op_index6 w
 | 7,_=>exact op_index7 w
 | 8,_=>exact op_index8 w
 | 9,_=>exact op_index9 w
theorem op_range {w:World} (h:Gl w):w.rangeAt 4 0 opCells:=by
 intro i u hu
 have hi:i<30:=by have:=(List.getElem?_eq_some_iff.1 hu).1;simpa [opCells] using this
 obtain ⟨k,r,rfl,hr⟩:∃ k r,i=k*3+r∧r<3:=⟨i / 3,i % 3,by omega,by omega⟩
 have hk:k<10:=by omega
 obtain ⟨g0,g1,g2⟩:=h.opr k hk
 have hk':k=0∨k=1∨k=2∨k=3∨k=4∨k=5∨k=6∨k=7∨k=8∨k=9:=by omega
 have hr':r=0∨r=1∨r=2:=by omega
 rcases hr' with rfl|rfl|rfl
 ·rcases hk' with rfl|rfl|rfl|rfl|rfl|rfl|rfl|rfl|rfl|rfl<;>(rw [Nat.zero_add,Nat.add_zero,g0];exact hu)
 ·rcases hk' with rfl|rfl|rfl|rfl|rfl|rfl|rfl|rfl|rfl|rfl<;>(rw [Nat.zero_add,g1];exact hu)
 ·rcases hk' with rfl|rfl|rfl|rfl|rfl|rfl|rfl|rfl|rfl|rfl<;>(rw [Nat.zero_add,g2];exact hu)
theorem op_hit {j:Nat} (hj:j<10):isOp (opr j).2.1∧opSign (opr j).2.1=(opr j).1∧opBind (opr j).2.1=(opr j).2.2:=by
 have:j=0∨j=1∨j=2∨j=3∨j=4∨j=5∨j=6∨j=7∨j=8∨j=9:=by omega
 rcases this with rfl|rfl|rfl|rfl|rfl|rfl|rfl|rfl|rfl|rfl<;>exact ⟨by unfold isOp;decide,by decide,by decide⟩
theorem op_miss {v:Int} (h:∀ j,j<10→(opr j).2.1≠v):¬ isOp v:=by
 have h0:(12:Int)≠v:=h 0 (by omega)
 have h1:(10:Int)≠v:=h 1 (by omega)
 have h2:(1:Int)≠v:=h 2 (by omega)
 have h3:(2:Int)≠v:=h 3 (by omega)
 have h4:(8:Int)≠v:=h 4 (by omega)
 have h5:(9:Int)≠v:=h 5 (by omega)
 have h6:(3:Int)≠v:=h 6 (by omega)
 have h7:(5:Int)≠v:=h 7 (by omega)
 have h8:(6:Int)≠v:=h 8 (by omega)
 have h9:(7:Int)≠v:=h 9 (by omega)
 unfold isOp
 omega
theorem info158:(Tryz.prog.info? 158).map (·.size)=some 3:=by kernel_rfl
theorem results_cell {P:Program} {fn:Func} {t:Tmp} {ty:TypeId} {q:Addr} {v:Value} (h:fn.results=#[.cell t ty]) (tmps:Array Value) (ht:tmps.getD t undef=.pointer (some q)) (w:World) (hr:(loadVar ty q).run P w=.ok v w):(results fn tmps).run P w=.ok v w:=by
 have ht':tmps[t]?.getD undef=.pointer (some q):=by simpa using ht
 simp [results,h,asAddr,ht',hr]
theorem info159:(Tryz.prog.info? 159).map (·.size)=some opCells.length:=by kernel_rfl
theorem opOf_any (kind:Int) (text:List UInt8) (num:Int) (ka:Option Addr) (n kc:Nat) (w:World) (hG:Gl w):
  Calls Tryz.prog 172 #[.agg #[.int .i64 kind,.string (str text),.int .i64 num,.slice ka n kc]] w fun e w'=>((isOp num∧e=.returned (.agg #[.string (str (opSign num)),.int .i64 num,.int .i64 (opBind num)]))∨(¬ isOp num∧e=strange))∧Below w.heap.size w w':=by
 have hB0:Below w.heap.size w ((w.alloc (.cells #[.int .i64 kind,.string (str text),.int .i64 num,.slice ka n kc] 24)).alloc (.cells #[.string ⟨#[]⟩,.int .i64 0,.int .i64 0] 158)):=((Below.refl _ _).alloc (Nat.le_refl _) _).alloc (by simp) _
 have HR:=hide (op_range (hG.below hB0))
 have HX:Hid (∀ (j:Nat),j<10→∀ w,(Instr.index 159 (.agg opCells.toArray) (.int .i64 (j:Int))).run Tryz.prog w=.ok (.agg #[.string (str (opr j).1),.int .i64 (opr j).2.1,.int .i64 (opr j).2.2]) w):=fun j hj w=>op_index j hj w
 clear hG
 go_enter Tryz.func172,Tryz.ntmps172
 go_wp2_with (refine wpList_load_mid rfl 159 (.global 4) rfl 4 0 rfl opCells _ HR.out Tryz.underlying159 rfl info159 ?_)
 have hx0:∀ o,((w.alloc (.cells #[.int .i64 kind,.string (str text),.int .i64 num,.slice ka n kc] 24)).alloc (.cells #[.string ⟨#[]⟩,.int .i64 0,.int .i64 0] 158)).cell? ⟨w.heap.size,o,none⟩=(#[Value.int .i64 kind,.string (str text),.int .i64 num,.slice ka n kc])[o]?:=fun o=>(World.cell?_alloc_past _ _ _ (by simp)).trans (World.cell?_alloc_at _ _ _ _ rfl)
 have hy0:((w.alloc (.cells #[.int .i64 kind,.string (str text),.int .i64 num,.slice ka n kc] 24)).alloc (.cells #[.string ⟨#[]⟩,.int .i64 0,.int .i64 0] 158)).heap[w.heap.size+1]?=some (.cells #[.string ⟨#[]⟩,.int .i64 0,.int .i64 0] 158 (0,0)):=by
  have:=heap_new (w.alloc (.cells #[.int .i64 kind,.string (str text),.int .i64 num,.slice ka n kc] 24)) #[.string ⟨#[]⟩,.int .i64 0,.int .i64 0] 158
  simpa using this
 have hz0:((w.alloc (.cells #[.int .i64 kind,.string (str text),.int .i64 num,.slice ka n kc] 24)).alloc (.cells #[.string ⟨#[]⟩,.int .i64 0,.int .i64 0] 158)).heap.size=w.heap.size+2:=by simp
 generalize (w.alloc (.cells #[.int .i64 kind,.string (str text),.int .i64 num,.slice ka n kc] 24)).alloc (.cells #[.string ⟨#[]⟩,.int .i64 0,.int .i64 0] 158)=W at *
 have HW:Hid (∀ w',Below W.heap.size W w'→Below w.heap.size w w'):=fun w' hw=>hB0.trans (hw.mono (by omega))
 have HXc:Hid (∀ w',Below W.heap.size W w'→∀ o,w'.cell? ⟨w.heap.size,o,none⟩=(#[Value.int .i64 kind,.string (str text),.int .i64 num,.slice ka n kc])[o]?):=fun w' hw o=>(hw.cell (p:=⟨w.heap.size,o,none⟩) (by show w.heap.size<_;omega)).trans (hx0 o)
 have HYc:Hid (∀ w',Below W.heap.size W w'→w'.heap[w.heap.size+1]?=some (.cells #[.string ⟨#[]⟩,.int .i64 0,.int .i64 0] 158 (0,0))):=fun w' hw=>(hw.block (w.heap.size+1) (by omega)).trans hy0
 have HZ:=hide hz0
 clear hx0 hy0 hz0 hB0 HR
 go_loopw [6] (fun i wr=>∃ j:Nat,j≤10∧i=.int .i64 j∧Hid (Below W.heap.size W wr)∧Hid (∀ k,k<j→(opr k).2.1≠num)) (fun i _=>10 - (intOf i).toNat)
 case atStart=>exact ⟨0,by omega,rfl,Below.refl _ _,fun k hk=>by omega⟩
 case round=>
  obtain ⟨j,hj,rfl,HB,HM⟩:=hrel
  have hx1:=HXc.out wr HB.out
  have hy1:=HYc.out wr HB.out
  have hyc:=cells_at hy1
  have hyf:=frozen_at hy1
  by_cases hlt:j<10
  ·have hlt':(j:Int)<10:=by omega
   have hxj:=HX.out j hlt
   have hhit:=op_hit hlt
   have hsz:w.heap.size+1<wr.heap.size:=(Array.getElem?_eq_some_iff.1 hy1).1
   have hsz0:w.heap.size<wr.heap.size:=by omega
   have HMk:Hid ((opr j).2.1≠num→∀ k,k<j+1→(opr k).2.1≠num):=fun hne k hk=>by
    by_cases e:k=j
    ·rw [e];exact hne
    ·exact HM.out k (by omega)
   generalize opr j=oo at *
   obtain ⟨sg0,op0,fm0⟩:=oo
   simp only at hxj hhit
   by_cases he:op0=num
   ·subst he
    have HH:=hide hhit
    have hv1:(wr.setCell ⟨w.heap.size+1,0,none⟩ (.string (str sg0))).heap[w.heap.size+1]?=some (.cells #[.string (str sg0),.int .i64 0,.int .i64 0] 158 (0,0)):=(heap_setCell_same wr _ 0 _ 158 _ hy1).trans rfl
    have hv2:((wr.setCell ⟨w.heap.size+1,0,none⟩ (.string (str sg0))).setCell ⟨w.heap.size+1,1,none⟩ (.int .i64 op0)).heap[w.heap.size+1]?=some (.cells #[.string (str sg0),.int .i64 op0,.int .i64 0] 158 (0,0)):=(heap_setCell_same _ _ 1 _ 158 _ hv1).trans rfl
    have hv3:(((wr.setCell ⟨w.heap.size+1,0,none⟩ (.string (str sg0))).setCell ⟨w.heap.size+1,1,none⟩ (.int .i64 op0)).setCell ⟨w.heap.size+1,2,none⟩ (.int .i64 fm0)).heap[w.heap.size+1]?=some (.cells #[.string (str sg0),.int .i64 op0,.int .i64 fm0] 158 (0,0)):=(heap_setCell_same _ _ 2 _ 158 _ hv2).trans rfl
    have HBa:Hid (Below w.heap.size w (((wr.setCell ⟨w.heap.size+1,0,none⟩ (.string (str sg0))).setCell ⟨w.heap.size+1,1,none⟩ (.int .i64 op0)).setCell ⟨w.heap.size+1,2,none⟩ (.int .i64 fm0))):=by
     have hb:=HW.out _ HB.out
     exact ((hb.setCell (show w.heap.size≤w.heap.size+1 by omega) _).setCell (show w.heap.size≤w.heap.size+1 by omega) _).setCell (show w.heap.size≤w.heap.size+1 by omega) _
    have HV:=hide hv3
    clear hhit hy1 hv1 hv2 hv3
    go_wp2_with fail
    have hb2:=HBa.out.alloc HBa.out.size (.cells #[.string (str sg0),.int .i64 op0,.int .i64 fm0] 158)
    have hv4:=(Below.heap_alloc _ (.cells #[.string (str sg0),.int .i64 op0,.int .i64 fm0] 158) _ (Array.getElem?_eq_some_iff.1 HV.out).1).trans HV.out
    refine bodyPost_ret (results_cell rfl _ rfl _ (run_loadVar_mid _ (w.heap.size+1) 0 158 [.string (str sg0),.int .i64 op0,.int .i64 fm0] _ (fun i u hu=>?_) Tryz.underlying158 rfl info158)) rfl ?_
    ·rw [Nat.zero_add,cells_at hv4]
     simpa using hu
    ·rw [HH.out.2.1,HH.out.2.2]
     exact ⟨Or.inl ⟨HH.out.1,rfl⟩,hb2⟩
   ·have he':(op0 == num)=false:=by simpa using he
    have HB1:Hid (Below W.heap.size W (wr.alloc (.cells #[.string (str sg0),.int .i64 op0,.int .i64 fm0] 158))):=HB.out.alloc HB.out.size _
    have HM1:Hid (∀ k,k<j+1→(opr k).2.1≠num):=HMk.out he
    clear hhit hy1 he
    go_wp2_with fail
    go_roundw
    case rel=>exact ⟨j+1,by omega,by go_num,HB1,HM1⟩
    case measure=>simp [intOf];omega
  ·obtain rfl:j=10:=by omega
   have HNo:=hide (op_miss HM.out)
   clear hx1 hy1 hyc hyf
   go_wp2_with fail
   exact ⟨rfl,Or.inr ⟨HNo.out,rfl⟩,HW.out _ HB.out⟩
end Go.Proofs.YthcfianhdkolhaaGreatDoor.T
