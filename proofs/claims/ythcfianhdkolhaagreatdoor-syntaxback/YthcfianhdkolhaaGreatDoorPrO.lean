/- PrM PrN PrO -/
import Derived.Test.YthcfianhdkolhaaGreatDoorPrL
import Derived.Test.YthcfianhdkolhaaGreatDoorSynRule
import Derived.Defers
import Derived.Recover
namespace Go.Proofs.YthcfianhdkolhaaGreatDoor.T
open Go.RowKit Go.Proofs.YthcfianhdkolhaaGreatDoor.S
set_option maxRecDepth 100000
set_option maxHeartbeats 2000000
set_option linter.unusedVariables false
set_option linter.unusedSimpArgs false
theorem decl_bad {w0:World} (hG:Gl w0) (kind:Int) (text:List UInt8) (num:Int) (kids:List Nd) (hn7:cntL kids≤700) (hkb:knB kind text num kids.length=false):DeN w0 (.mk kind text num kids):=by
 intro b w T v hP hv hT
 have hk7:kids.length≤700:=Nat.le_trans (len_cnt kids) hn7
 obtain ⟨ka,kc,rfl,t1,n1,n2,l1,l2,hR⟩:=hv.part
 have HNk:Hid (¬ IsDe (.mk kind text num kids)):=fun h=>by
  have hi:=(de_is h).2
  rw [isN_iff,loc_kn hk7 n2,hkb] at hi
  exact absurd hi.1.1 (by decide)
 have HP0:Hid (Pt w0 (w.alloc (.cells #[.int .i64 kind,.string (str text),.int .i64 num,.slice ka kids.length kc] 24)) b T):=hP.alloc _
 have HS0:Hid (St w (w.alloc (.cells #[.int .i64 kind,.string (str text),.int .i64 num,.slice ka kids.length kc] 24))):=St.alloc _ _
 have HN0:=hide (heap_new w #[.int .i64 kind,.string (str text),.int .i64 num,.slice ka kids.length kc] 24)
 have hkn:=know_any kind text num ka kids.length kc _ ((hG.below hP.base).below ((Below.refl _ _).alloc (Nat.le_refl _) (.cells #[.int .i64 kind,.string (str text),.int .i64 num,.slice ka kids.length kc] 24))) t1 (by omega)
 clear hP hv hR hG
 go_enter Tryz.func56,Tryz.ntmps56
 go_wp2_with fail
 go_at_call 75
 refine hkn.mono ?_
 rintro e w1 ⟨⟨hk,rfl⟩|⟨hk,rfl⟩,hb1⟩
 ·rw [hkb] at hk;cases hk
 ·exact ⟨rfl,PostP.no HNk.out (HP0.out.below hb1).base⟩
theorem decl_all {w0:World} (hG:Gl w0) (hTb:TabW w0) (n:Nd) (hc:cnt n≤700):DeN w0 n:=by
 obtain ⟨k,t,v,kids⟩:=n
 rw [cnt_mk] at hc
 have hn7:cntL kids≤700:=by omega
 by_cases k2:k=2
 ·subst k2;exact decl_k2 hG hTb t v kids hn7
 by_cases k4:k=4
 ·subst k4;exact decl_k4 hG hTb t v kids hn7
 by_cases k5:k=5
 ·subst k5;exact decl_k5 hG hTb t v kids hn7
 by_cases k6:k=6
 ·subst k6;exact decl_k6 hG hTb t v kids hn7
 by_cases k7:k=7
 ·subst k7
  by_cases v0:v=0
  ·subst v0;exact decl_k7_0 hG hTb t kids hn7
  by_cases v1:v=1
  ·subst v1;exact decl_k7_1 hG hTb t kids hn7
  by_cases v2:v=2
  ·subst v2;exact decl_k7_2 hG hTb t kids hn7
  by_cases v3:v=3
  ·subst v3;exact decl_k7_3 hG hTb t kids hn7
  refine decl_bad hG 7 t v kids hn7 ?_
  cases hb:knB 7 t v kids.length with
  | false=>rfl
  | true=>
   obtain ⟨_,_,h3,h4,_⟩:=kn_iff.1 hb
   have h4':v≤3:=h4
   omega
 exact decl_rest hG hTb k t v kids k2 k4 k5 k6 k7 hn7
theorem unit_any {w0:World} (hG:Gl w0) (hTb:TabW w0) (n:Nd) {w:World} {b:Nat} {T:List (List UInt8)} (hP:Pt w0 w b T) (v:Value) (hv:NdO w0 n v) (hc:cnt n≤700) (hT:T.length+tb n≤1000000000000):
  Calls Tryz.prog 38 #[.pointer (some ⟨b,0,none⟩),v] w (PostP (IsUn n) w0 w b T (shT n)):=by
 obtain ⟨kind,text,num,kids⟩:=n
 obtain ⟨ka,kc,rfl,t1,n1,n2,l1,l2,hR⟩:=hv.part
 rw [cnt_mk] at hc
 rw [tb_mk] at hT
 have hl7:kids.length≤700:=Nat.le_trans (len_cnt kids) (by omega)
 have HIff:=hide (un_kn (k:=kind) (t:=text) (v:=num) hl7)
 have HIh:Hid (∀ x,x∈kids→DeN w0 x):=fun x hx=>decl_all hG hTb x (by have:=cnt_mem hx;omega)
 have HP0:Hid (Pt w0 (w.alloc (.cells #[.int .i64 kind,.string (str text),.int .i64 num,.slice ka kids.length kc] 24)) b T):=hP.alloc _
 have HS0:Hid (St w (w.alloc (.cells #[.int .i64 kind,.string (str text),.int .i64 num,.slice ka kids.length kc] 24))):=St.alloc _ _
 have HN0:=hide (heap_new w #[.int .i64 kind,.string (str text),.int .i64 num,.slice ka kids.length kc] 24)
 have hkn:=knowKind_any kind text num ka kids.length kc 1 _ ((hG.below hP.base).below ((Below.refl _ _).alloc (Nat.le_refl _) (.cells #[.int .i64 kind,.string (str text),.int .i64 num,.slice ka kids.length kc] 24))) t1 (by omega)
 have HR:=hide hR
 clear hP hv hR hG hTb
 go_enter Tryz.func38,Tryz.ntmps38
 go_wp2_with fail
 go_at_call 55
 refine hkn.mono ?_
 rintro e w1 ⟨⟨hk0,hk,rfl⟩|⟨hk,rfl⟩,hb1⟩
 rotate_left
 ·exact ⟨rfl,PostP.no (fun h=>hk (HIff.out.1 h).1) (HP0.out.below hb1).base⟩
 subst hk0
 have HP1:=hide (HP0.out.below hb1)
 have HS1:=hide (HS0.out.trans (St.below hb1))
 have hn1:=(St.below hb1).node HN0.out
 have HI:Hid (IsUn (.mk 1 text num kids) ↔ ∀ y,y∈kids→IsDe y):=⟨fun h=>(HIff.out.1 h).2,fun h=>HIff.out.2 ⟨⟨rfl,hk⟩,h⟩⟩
 clear hk hb1 hkn HP0 HS0 HN0
 go_wp2_with fail
 go_loopw [11] (fun i wr=>∃ j:Nat,j≤kids.length∧i=.int .i64 j∧Hid (Pt w0 wr b (T++txs ((kids.take j).map shT).flatten))∧Hid (St w wr)∧Hid (∀ x,x∈kids.take j→IsDe x)) (fun i _=>kids.length - (intOf i).toNat)
 case atStart=>exact ⟨0,Nat.zero_le _,rfl,by simpa [Hid,txs] using HP1.out,HS1.out,fun x hx=>by simp at hx⟩
 case round=>
  obtain ⟨j,hj,rfl,HPj,HSj,HAj⟩:=hrel
  by_cases hlt:j<kids.length
  ·have hlt':(j:Int)<kids.length:=by omega
   have hidx:(0:Int)≤j∧(j:Int)<kids.length:=by omega
   obtain ⟨g,o,rfl,hg,hcs⟩:=HR.out (fun e=>by rw [e] at hlt;simp at hlt)
   obtain ⟨k0,x0,n0,a0,m0,c0,q0,q1,q2,q3,hnd⟩:=hcs j hlt
   have hbz:=HPj.out.base
   have e0:=below_cell hbz q0
   have e1:=below_cell hbz q1
   have e2:=below_cell hbz q2
   have e3:=below_cell hbz q3
   have HN:=hide hnd
   have HTj:Hid ((txs ((kids.take j).map shT).flatten).length+tb kids[j]≤tbL kids):=by
    show _≤_
    have h1:=flatL_tb (kids.take j)
    have h2:=tbL_take hlt
    rw [txs_len]
    omega
   have HNo:Hid (¬ IsDe kids[j]→¬ ∀ x,x∈kids→IsDe x):=fun hn hall=>hn (hall _ (List.getElem_mem hlt))
   clear q0 q1 q2 q3 hcs hnd hbz
   have HPa:Hid (Pt w0 (wr.alloc (.cells #[.int .i64 k0,.string x0,.int .i64 n0,.slice a0 m0 c0] 24)) b (T++txs ((kids.take j).map shT).flatten)):=HPj.out.alloc _
   have HSa:Hid (St w (wr.alloc (.cells #[.int .i64 k0,.string x0,.int .i64 n0,.slice a0 m0 c0] 24))):=HSj.out.trans (St.alloc _ _)
   have HNa:=hide (heap_new wr #[.int .i64 k0,.string x0,.int .i64 n0,.slice a0 m0 c0] 24)
   go_wp2_with fail
   go_at_call 56
   refine (HIh.out kids[j] (List.getElem_mem hlt) b _ _ _ HPa.out HN.out (by have:=HTj.out;simp only [List.length_append];omega)).mono ?_
   rintro e w9 (⟨hp,rfl,hP9,hS9⟩|⟨hp,rfl,hB9⟩)
   ·have HP9:Hid (Pt w0 w9 b (T++txs ((kids.take (j+1)).map shT).flatten)):=by
     show Pt _ _ _ _
     rw [flat_take kids j hlt,txs_app]
     simpa using hP9
    have HS9:=hide (HSa.out.trans hS9)
    have HA9:=hide (all_take hlt HAj.out hp)
    clear hP9 hS9 hp HPa HSa HNa
    go_wp2_with fail
    go_roundw
    case rel=>exact ⟨j+1,by omega,by go_num,HP9,HS9,HA9⟩
    case measure=>simp [intOf];omega
   ·exact ⟨rfl,PostP.no (fun h=>HNo.out hp (HI.out.1 h)) hB9⟩
  ·obtain rfl:j=kids.length:=by omega
   have hlt':¬ (kids.length:Int)<kids.length:=by omega
   have HPe:Hid (Pt w0 wr b (T++txs (kids.map shT).flatten)):=by have:=HPj.out;rw [List.take_length] at this;exact this
   have HAe:Hid (∀ x,x∈kids→IsDe x):=by have:=HAj.out;rw [List.take_length] at this;exact this
   clear HPj HAj
   have HFl:=hide (flatL_tb kids)
   go_wp2_with fail
   go_end0
   exact PostP.ok (HI.out.2 HAe.out) (HPe.out.app' (by rw [sh_u])) HSj.out
def rm (n:Nd) (nodes deep:Int):Int:=if (cnt n:Int)≤nodes∧(dpt n:Int)≤deep then nodes - cnt n else -1
theorem rm_le (n:Nd) (nodes deep:Int) (h:nodes≤700):-1≤rm n nodes deep∧rm n nodes deep≤700:=by
 unfold rm
 split<;>omega
theorem dpt_all {l:List Nd} {d:Nat}:dptL l≤d ↔ ∀ x,x∈l→dpt x≤d:=by
 induction l with
 | nil=>simp [dptL_nil]
 | cons y r ih=>rw [dptL_cons];simp only [List.mem_cons,forall_eq_or_imp];rw [← ih];omega
theorem cntL_take {l:List Nd} {j:Nat} (hj:j<l.length):cntL (l.take (j+1))=cntL (l.take j)+cnt l[j]∧cntL (l.take j)+cnt l[j]≤cntL l:=by
 have e1:l.take (j+1)=l.take j++[l[j]]:=List.take_succ_eq_append_getElem hj
 have e2:l=l.take j++l[j]::l.drop (j+1):=by rw [← List.drop_eq_getElem_cons hj,List.take_append_drop]
 refine ⟨by rw [e1,cntL_app,cntL_cons,cntL_nil];omega,?_⟩
 have:cntL l=cntL (l.take j)+(cnt l[j]+cntL (l.drop (j+1))):=by
  conv=>lhs;rw [e2]
  rw [cntL_app,cntL_cons]
 omega
theorem room_step {w0:World} (kind:Int) (text:List UInt8) (num:Int) (kids:List Nd)
  (ih:∀ x,x∈kids→∀ (w:World) (v:Value) (nodes deep:Int),Below w0.heap.size w0 w→NdO w0 x v→-10≤nodes→nodes≤700→-10≤deep→deep≤20→Calls Tryz.prog 21 #[v,.int .i64 nodes,.int .i64 deep] w fun e w'=>e=.returned (.int .i64 (rm x nodes deep))∧Below w.heap.size w w')
  (w:World) (v:Value) (nodes deep:Int) (hb:Below w0.heap.size w0 w) (hv:NdO w0 (.mk kind text num kids) v) (a1:-10≤nodes) (a2:nodes≤700) (a3:-10≤deep) (a4:deep≤20):
  Calls Tryz.prog 21 #[v,.int .i64 nodes,.int .i64 deep] w fun e w'=>e=.returned (.int .i64 (rm (.mk kind text num kids) nodes deep))∧Below w.heap.size w w':=by
 obtain ⟨ka,kc,rfl,t1,n1,n2,l1,l2,hR⟩:=hv.part
 have hB0:Below w.heap.size w (w.alloc (.cells #[.int .i64 kind,.string (str text),.int .i64 num,.slice ka kids.length kc] 24)):=(Below.refl _ _).alloc (Nat.le_refl _) _
 have hrm:rm (.mk kind text num kids) nodes deep=if (cntL kids:Int)+1≤nodes∧(dptL kids:Int)+1≤deep then nodes - (cntL kids+1) else -1:=by
  unfold rm
  rw [cnt_mk,dpt_mk]
  simp
 by_cases c1:nodes<1
 ·have HR1:Hid (rm (.mk kind text num kids) nodes deep=-1):=by show _=_;rw [hrm,if_neg (by omega)]
  have HB:=hide hB0
  clear hrm hB0 hR hv ih
  go_enter Tryz.func21,Tryz.ntmps21
  go_wp2_with fail
  go_ret
  exact ⟨by rw [HR1.out];rfl,HB.out⟩
 by_cases c2:deep<1
 ·have HR1:Hid (rm (.mk kind text num kids) nodes deep=-1):=by show _=_;rw [hrm,if_neg (by omega)]
  have HB:=hide hB0
  clear hrm hB0 hR hv ih
  go_enter Tryz.func21,Tryz.ntmps21
  go_wp2_with fail
  go_ret
  exact ⟨by rw [HR1.out];rfl,HB.out⟩
 have hw1:IntKind.i64.wrap (nodes - 1)=nodes - 1:=by rw [IntKind.wrap_i64];omega
 have hw2:IntKind.i64.wrap (deep - 1)=deep - 1:=by rw [IntKind.wrap_i64];omega
 have HR:=hide hR
 have HIh:=hide ih
 have HRm:=hide hrm
 have hlen:(kids.length:Int)≤9223372036854775807:=by omega
 have HBa:=hide (hb.trans (hB0.mono hb.size))
 have HB0:=hide hB0
 have hx0:∀ o,(w.alloc (.cells #[.int .i64 kind,.string (str text),.int .i64 num,.slice ka kids.length kc] 24)).cell? ⟨w.heap.size,o,none⟩=(#[Value.int .i64 kind,.string (str text),.int .i64 num,.slice ka kids.length kc])[o]?:=fun o=>World.cell?_alloc_at _ _ _ _ rfl
 clear hv hR ih hrm hB0
 generalize hres:rm (.mk kind text num kids) nodes deep=res at *
 clear hres
 go_enter Tryz.func21,Tryz.ntmps21
 go_wp2_with fail
 have hz0:(w.alloc (.cells #[.int .i64 kind,.string (str text),.int .i64 num,.slice ka kids.length kc] 24)).heap.size=w.heap.size+1:=by simp
 clear hx0
 generalize w.alloc (.cells #[.int .i64 kind,.string (str text),.int .i64 num,.slice ka kids.length kc] 24)=W at *
 have HW:Hid (∀ w',Below W.heap.size W w'→Below w.heap.size w w'∧Below w0.heap.size w0 w'):=fun w' hw=>⟨HB0.out.trans (hw.mono (by omega)),HBa.out.trans (hw.mono HBa.out.size)⟩
 clear hz0
 go_loopw [1,20] (fun nd i wr=>∃ (j:Nat) (m:Int),j≤kids.length∧nd=.int .i64 m∧i=.int .i64 j∧0≤m∧m≤700∧Hid (m=nodes - 1 - cntL (kids.take j))∧Hid (∀ x,x∈kids.take j→(dpt x:Int)≤deep - 1)∧Hid (Below W.heap.size W wr)) (fun _ i _=>kids.length - (intOf i).toNat)
 case atStart=>exact ⟨0,nodes - 1,Nat.zero_le _,rfl,rfl,by omega,by omega,by show _=_;simp [cntL_nil],fun x hx=>by simp at hx,Below.refl _ _⟩
 case round=>
  obtain ⟨j,m,hj,rfl,rfl,m0,m1,HM,HD,HB⟩:=hrel
  by_cases hlt:j<kids.length
  ·have hlt':(j:Int)<kids.length:=by omega
   have hidx:(0:Int)≤j∧(j:Int)<kids.length:=by omega
   obtain ⟨g,o,rfl,hg,hcs⟩:=HR.out (fun e=>by rw [e] at hlt;simp at hlt)
   obtain ⟨k0,x0,n0,a0,m9,c0,q0,q1,q2,q3,hnd⟩:=hcs j hlt
   have hbz:=(HW.out _ HB.out).2
   have e0:=below_cell hbz q0
   have e1:=below_cell hbz q1
   have e2:=below_cell hbz q2
   have e3:=below_cell hbz q3
   have HBk:Hid (Below W.heap.size W (wr.alloc (.cells #[.int .i64 k0,.string x0,.int .i64 n0,.slice a0 m9 c0] 24))):=HB.out.alloc HB.out.size _
   have hcal:=HIh.out kids[j] (List.getElem_mem hlt) _ _ m (deep - 1) (HW.out _ HBk.out).2 hnd (by omega) (by omega) (by omega) (by omega)
   have hct:=cntL_take hlt
   have hrl:=rm_le kids[j] m (deep - 1) m1
   have HR9:Hid (rm kids[j] m (deep - 1)=if (cnt kids[j]:Int)≤m∧(dpt kids[j]:Int)≤deep - 1 then m - cnt kids[j] else -1):=rfl
   have HCt:=hide hct
   clear q0 q1 q2 q3 hcs hnd hbz hct
   generalize hrr:rm kids[j] m (deep - 1)=rr at *
   clear hrr
   go_wp2_with fail
   go_at_call 21
   refine hcal.mono ?_
   rintro e w9 ⟨rfl,hb9⟩
   have HB9:Hid (Below W.heap.size W w9):=HBk.out.trans (hb9.mono HBk.out.size)
   clear hb9 hcal
   by_cases hr0:rr<0
   ·have HRe:Hid (res=rr):=by
     show _=_
     have h9:=HR9.out
     split at h9
     ·omega
     ·rename_i hn
      rw [HRm.out,if_neg,h9]
      rintro ⟨u1,u2⟩
      apply hn
      have:=HM.out
      have:=HCt.out
      have h3:=dpt_all (l:=kids) (d:=dptL kids) |>.1 (Nat.le_refl _) _ (List.getElem_mem hlt)
      exact ⟨by omega,by omega⟩
    clear HR9
    go_wp2_with fail
    go_ret
    exact ⟨by rw [HRe.out];rfl,(HW.out _ HB9.out).1⟩
   ·have HM9:Hid (rr=nodes - 1 - cntL (kids.take (j+1))):=by
     show _=_
     have h9:=HR9.out
     have:=HM.out
     have:=HCt.out
     split at h9<;>omega
    have HD9:Hid (∀ x,x∈kids.take (j+1)→(dpt x:Int)≤deep - 1):=by
     have h9:=HR9.out
     split at h9
     ·rename_i hn
      exact all_take hlt HD.out hn.2
     ·omega
    have hr1:¬ rr<0:=hr0
    clear HR9
    go_wp2_with fail
    go_roundw
    case rel=>exact ⟨j+1,rr,by omega,rfl,by go_num,by omega,by omega,HM9,HD9,HB9⟩
    case measure=>simp [intOf];omega
  ·obtain rfl:j=kids.length:=by omega
   have hlt':¬ (kids.length:Int)<kids.length:=by omega
   have HRe:Hid (res=m):=by
    show _=_
    have h1:=HM.out
    have h2:=HD.out
    rw [List.take_length] at h1 h2
    rw [HRm.out,if_pos]
    ·omega
    ·refine ⟨by omega,?_⟩
     have h3:dptL kids≤(deep - 1).toNat:=dpt_all.2 fun x hx=>by have:=h2 x hx;omega
     omega
   go_wp2_with fail
   go_ret
   exact ⟨by rw [HRe.out];rfl,(HW.out _ HB.out).1⟩
theorem room_any {w0:World}:∀ (x:Nd) (w:World) (v:Value) (nodes deep:Int),Below w0.heap.size w0 w→NdO w0 x v→-10≤nodes→nodes≤700→-10≤deep→deep≤20→Calls Tryz.prog 21 #[v,.int .i64 nodes,.int .i64 deep] w fun e w'=>e=.returned (.int .i64 (rm x nodes deep))∧Below w.heap.size w w':=by
 refine Nd.ind fun k t v kids ih=>?_
 exact room_step k t v kids ih
def fitB (n:Nd):Bool:=decide (cnt n≤700∧dpt n≤16)
theorem fits_any {w0 w:World} (hb:Below w0.heap.size w0 w) (n:Nd) (v:Value) (hv:NdO w0 n v):Calls Tryz.prog 12 #[v] w fun e w'=>e=.returned (.bool (fitB n))∧Below w.heap.size w w':=by
 have HV:=hide hv
 obtain ⟨kind,text,num,ka,kn,kc,rfl⟩:=hv.form
 have hB0:Below w.heap.size w (w.alloc (.cells #[.int .i64 kind,.string text,.int .i64 num,.slice ka kn kc] 24)):=(Below.refl _ _).alloc (Nat.le_refl _) _
 have hrm:=room_any n _ _ 700 16 (hb.trans (hB0.mono hb.size)) hv (by decide) (by decide) (by decide) (by decide)
 have hF:fitB n=decide (0≤rm n 700 16):=by
  unfold fitB rm
  by_cases h:cnt n≤700∧dpt n≤16
  ·rw [if_pos (by omega),decide_eq_true h,decide_eq_true (by omega)]
  ·rw [if_neg (by omega),decide_eq_false h,decide_eq_false (by omega)]
 rw [hF]
 have HB0:=hide hB0
 clear hv hB0 hF hb
 generalize rm n 700 16=rr at *
 go_enter Tryz.func12,Tryz.ntmps12
 go_wp2_with fail
 go_at_call 21
 refine hrm.mono ?_
 rintro e w1 ⟨rfl,hb1⟩
 have HB1:=hide (HB0.out.trans (hb1.mono (by simp)))
 clear hb1 hrm HB0
 go_wp2_with fail
 go_ret
 exact ⟨rfl,HB1.out⟩
end Go.Proofs.YthcfianhdkolhaaGreatDoor.T
namespace Go.Proofs.YthcfianhdkolhaaGreatDoor.T
open Go.RowKit Go.Proofs.YthcfianhdkolhaaGreatDoor.S
set_option maxRecDepth 100000
set_option maxHeartbeats 2000000
set_option linter.unusedVariables false
set_option linter.unusedSimpArgs false

theorem catch_idle (q:Nat) (w:World):
  CallsD Tryz.prog 37 #[.pointer (some ⟨q,0,none⟩)] .returning w fun e u' w'=>e=.returned (.tuple #[])∧u'=.returning∧w'=w:=by
 have hta:∀ (w:World),(Instr.typeAssert .nilIface 20 67 true).run Tryz.prog w=.ok (.tuple #[.agg #[],.bool false]) w:=fun _=>by kernel_rfl
 refine callsD_of_wpS Tryz.func37 rfl fun c₀ cs hu=>?_
 apply wpS_seq
 apply wpS_region
 simp [wpOpsS,go_sem,recoverD,hu,Tryz.ntmps37,Exit.thenS]
 refine wpS_of_wp ?_
 change Code.wp _ _ _ ⟨#[.pointer (some ⟨q,0,none⟩),.nilIface,undef,undef,undef],[]⟩ _
 go_wp2
 cases c₀
 simp_all [bodyPostS,results,Tryz.results37]
theorem catch_strange (q:Nat) (y:Value) (older:List PanicEntry) (w:World) (hc:w.cell? ⟨q,0,none⟩=some y) (hz:w.frozen? ⟨q,0,none⟩=false):
  CallsD Tryz.prog 37 #[.pointer (some ⟨q,0,none⟩)] (.panicking ({ v:=.iface 67 (.agg #[]),recovered:=false }::older)) w fun e u' w'=>
   e=.returned (.tuple #[])∧u'=.panicking ({ v:=.iface 67 (.agg #[]),recovered:=true }::older)∧w'=w.setCell ⟨q,0,none⟩ (.int .i64 2):=by
 have hta:∀ (w:World),(Instr.typeAssert (.iface 67 (.agg #[])) 20 67 true).run Tryz.prog w=.ok (.tuple #[.agg #[],.bool true]) w:=fun _=>by kernel_rfl
 refine callsD_of_wpS Tryz.func37 rfl fun c₀ cs hu=>?_
 apply wpS_seq
 apply wpS_region
 simp [wpOpsS,go_sem,recoverD,hu,Tryz.ntmps37,Exit.thenS]
 refine wpS_of_wp ?_
 change Code.wp _ _ _ ⟨#[.pointer (some ⟨q,0,none⟩),.iface 67 (.agg #[]),undef,undef,undef],[]⟩ _
 go_wp2
 simp [bodyPostS,results,Tryz.results37]
theorem NdO.under {w w':World} {n:Nd} {v:Value} (h:NdO w n v) (hb:Below w.heap.size w w'):NdO w' n v:=by
 induction h with
 | mk kind text num kids ka kc c h1 h2 h3 h4 h5 h6 h7 ih=>
  refine NdO.mk kind text num kids ka kc c h1 h2 h3 h4 h5 (fun hne=>?_) ih
  obtain ⟨g,o,e,hc⟩:=h6 hne
  exact ⟨g,o,e,fun j i hj hi=>below_cell hb (hc j i hj hi)⟩
theorem results_tmp_cell {P:Program} {fn:Func} {t u:Tmp} {ty:TypeId} {q:Addr} {v:Value} (h:fn.results=#[.tmp u,.cell t ty]) (tmps:Array Value) (ht:tmps.getD t undef=.pointer (some q)) (w:World) (hr:(loadVar ty q).run P w=.ok v w):(results fn tmps).run P w=.ok (.tuple #[tmps.getD u undef,v]) w:=by
 have ht':tmps[t]?.getD undef=.pointer (some q):=by simpa using ht
 simp [results,h,asAddr,ht',hr]
theorem join_row (xs:List (List UInt8)) (ob:Nat) (v:Value) (w:World) (h:w.ownsRow ob 9 1 v xs.length (strs xs)) (hn:xs.length≤1000000000000) (hl:(Lib.join xs [32]).length≤140737488355328):
  Calls Tryz.prog 39 #[v,.string ⟨#[32]⟩] w fun e w'=>e=.returned (.string (str (Lib.join xs [32])))∧Below w.heap.size w w':=by
 rcases h with ⟨h1,⟨rfl,h3⟩|⟨g,cap,cur,rfl,h4,h5,h6,h7,h8,h9⟩⟩
 ·obtain rfl:xs=[]:=List.length_eq_zero_iff.1 h3
  exact (Tryz.strings_Join_none none 0 ⟨#[32]⟩ w).mono fun e w' ⟨h1,h2⟩=>⟨h1,h2 ▸ Below.refl _ _⟩
 ·have e:(xs.map str).map (·.data.toList)=xs:=by rw [List.map_map];exact List.map_id'' (fun x=>by simp [str]) xs
  have hj:=Tryz.strings_Join g 0 cap (xs.map str) ⟨#[32]⟩ w (fun j x hx=>?_) (Array.getElem?_eq_some_iff.1 h5).1 (by rw [List.length_map];omega) (by rw [List.length_map];exact h6) (by rw [e];exact hl)
  ·rw [e,List.length_map] at hj
   exact hj
  ·have hx2:(strs xs)[j]?=some (.string x):=by
    unfold strs
    rw [List.getElem?_map] at hx ⊢
    cases hq:xs[j]? with
    | none=>rw [hq] at hx;cases hx
    | some y=>rw [hq] at hx;simp at hx;subst hx;rfl
   have hjl:j<xs.length:=by have:=(List.getElem?_eq_some_iff.1 hx).1;simpa using this
   rw [← h9,List.getElem?_take_of_lt (by omega),Array.getElem?_toList] at hx2
   rw [cells_at h5,Nat.zero_add]
   exact hx2
theorem load_int {w:World} {b:Nat} {x:Int} (h:w.heap[b]?=some (.cells #[.int .i64 x] 25 (0,0))):(loadVar 25 ⟨b,0,none⟩).run Tryz.prog w=.ok (.int .i64 x) w:=by
 have hc:w.cell? ⟨b,0,none⟩=some (.int .i64 x):=cells_at h 0
 simp [loadVar,go_sem,hc,Tryz.underlying25]
theorem leaves_tc {tmps:Array Value} {R:Ending→World→Prop} {w:World} {q:Addr} {v:Value} (ht:tmps.getD 3 undef=.pointer (some q)) (hr:(loadVar 25 q).run Tryz.prog w=.ok v w) (h:R (.returned (.tuple #[tmps.getD 2 undef,v])) w):Leaves Tryz.prog Tryz.f16 tmps R [] .returning w:=
 ⟨_,results_tmp_cell Tryz.results16 tmps ht w hr,h⟩
theorem printed_any {w:World} (hG:Gl w) (hTb:TabW w) (n:Nd) (v:Value) (hv:NdO w n v) (hc:cnt n≤700) (hd:dpt n≤16):
  Calls Tryz.prog 16 #[v] w fun e w'=>((IsUn n∧e=.returned (.tuple #[.string (str (shownT n)),.int .i64 0]))∨(¬ IsUn n∧e=.returned (.tuple #[.string ⟨#[]⟩,.int .i64 2])))∧Below w.heap.size w w':=by
 have hmf:∀ (fn:Fn) (first cap:Array Value) (w:World),(Instr.makeFunc fn first cap).run Tryz.prog w=.ok (.func fn first cap) w:=fun _ _ _ _=>rfl
 have HTn:=hide (tb_fits hc hd)
 have HLs:Hid (IsUn n→(Lib.join (txs (shT n)) [32]).length≤140737488355328):=fun h=>by have:=shown_len h hc hd;unfold shownT at this;omega
 have hform:=hv.form
 obtain ⟨kind,text,num,ka,kn,kc,rfl⟩:=hform
 have hB0:Below w.heap.size w ((w.alloc (.cells #[.int .i64 kind,.string text,.int .i64 num,.slice ka kn kc] 24)).alloc (.cells #[.int .i64 0] 25)):=((Below.refl _ _).alloc (Nat.le_refl _) _).alloc (by simp) _
 have hsz:((w.alloc (.cells #[.int .i64 kind,.string text,.int .i64 num,.slice ka kn kc] 24)).alloc (.cells #[.int .i64 0] 25)).heap.size=w.heap.size+2:=by simp
 have HPt:Hid (Pt ((w.alloc (.cells #[.int .i64 kind,.string text,.int .i64 num,.slice ka kn kc] 24)).alloc (.cells #[.int .i64 0] 25)) (((w.alloc (.cells #[.int .i64 kind,.string text,.int .i64 num,.slice ka kn kc] 24)).alloc (.cells #[.int .i64 0] 25)).alloc (.cells #[.slice none 0 0] 70)) (w.heap.size+2) []):=by
  refine ⟨by omega,(Below.refl _ _).alloc (Nat.le_refl _) _,.slice none 0 0,?_,World.ownsRow_nil _ _ _ _⟩
  have:=heap_new ((w.alloc (.cells #[.int .i64 kind,.string text,.int .i64 num,.slice ka kn kc] 24)).alloc (.cells #[.int .i64 0] 25)) #[.slice none 0 0] 70
  rw [hsz] at this
  exact this
 have HE0:Hid (((w.alloc (.cells #[.int .i64 kind,.string text,.int .i64 num,.slice ka kn kc] 24)).alloc (.cells #[.int .i64 0] 25)).heap[w.heap.size+1]?=some (.cells #[.int .i64 0] 25 (0,0))):=by
  have:=heap_new (w.alloc (.cells #[.int .i64 kind,.string text,.int .i64 num,.slice ka kn kc] 24)) #[.int .i64 0] 25
  have e:(w.alloc (.cells #[.int .i64 kind,.string text,.int .i64 num,.slice ka kn kc] 24)).heap.size=w.heap.size+1:=by simp
  rw [e] at this
  exact this
 have HU:=hide (unit_any (hG.below hB0) (tab_below hTb hB0) n HPt.out _ (hv.under hB0) hc (by have:=HTn.out;simp only [List.length_nil];omega))
 have HB0:=hide hB0
 have HSz:=hide hsz
 clear hG hTb hv hB0 hsz
 go_enter_defers Tryz.func16,Tryz.ntmps16
 go_wp2_with fail
 go_at_call 38
 refine HU.out.mono ?_
 have hW1:((w.alloc (.cells #[.int .i64 kind,.string text,.int .i64 num,.slice ka kn kc] 24)).alloc (.cells #[.int .i64 0] 25)).heap[w.heap.size+1]?=some (.cells #[.int .i64 0] 25 (0,0)):=HE0.out
 rintro e w2 (⟨hp,rfl,hP2,hS2⟩|⟨hp,rfl,hB2⟩)
 rotate_left
 ·have hcell:w2.heap[w.heap.size+1]?=some (.cells #[.int .i64 0] 25 (0,0)):=(hB2.block _ (by have:=HSz.out;omega)).trans hW1
  have hb9:Below w.heap.size w (w2.setCell ⟨w.heap.size+1,0,none⟩ (.int .i64 2)):=(HB0.out.trans (hB2.mono (by have:=HSz.out;omega))).setCell (show w.heap.size≤w.heap.size+1 by omega) _
  have hcell2:(w2.setCell ⟨w.heap.size+1,0,none⟩ (.int .i64 2)).heap[w.heap.size+1]?=some (.cells #[.int .i64 2] 25 (0,0)):=(heap_setCell_same w2 _ 0 _ 25 _ hcell).trans rfl
  refine leaves_cons (f:=37) (args:=#[.pointer (some ⟨w.heap.size+1,0,none⟩)]) (by simp) (by simp [go_sem]) ?_
  refine (catch_strange (w.heap.size+1) _ [] w2 (cells_at hcell 0) (frozen_at hcell 0)).mono ?_
  rintro e u' w4 ⟨rfl,rfl,rfl⟩
  refine leaves_tc (q:=⟨w.heap.size+1,0,none⟩) (v:=.int .i64 2) rfl ?_ ⟨Or.inr ⟨hp,rfl⟩,hb9⟩
  exact load_int hcell2
 ·obtain ⟨tv,hblk,hown⟩:=hP2.blk
  have hcb:=cells_at hblk
  rw [List.nil_append] at hown
  have hlen:=HTn.out
  have hjl:=sh_tb n
  have HJ:=hide (join_row (txs (shT n)) _ tv w2 hown (by rw [txs_len];omega) (HLs.out hp))
  have HI:=hide hp
  have hcell:w2.heap[w.heap.size+1]?=some (.cells #[.int .i64 0] 25 (0,0)):=by
   have h1:=(Below.heap_alloc ((w.alloc (.cells #[.int .i64 kind,.string text,.int .i64 num,.slice ka kn kc] 24)).alloc (.cells #[.int .i64 0] 25)) (.cells #[.slice none 0 0] 70) (w.heap.size+1) (by have:=HSz.out;omega)).trans hW1
   exact (hS2.keeps _ _ _ _ (by decide) (by decide) h1).trans h1
  have HCe:=hide hcell
  have HB2:Hid (Below w.heap.size w w2):=HB0.out.trans (hP2.base.mono (by have:=HSz.out;omega))
  have hwl:w.heap.size+1<w2.heap.size:=(Array.getElem?_eq_some_iff.1 hcell).1
  clear hP2 hS2 hp hblk hown hcell hW1 hlen hjl
  go_wp2_with fail
  go_at_call 39
  refine HJ.out.mono ?_
  rintro e w3 ⟨rfl,hb3⟩
  have hcell3:w3.heap[w.heap.size+1]?=some (.cells #[.int .i64 0] 25 (0,0)):=(hb3.block _ hwl).trans HCe.out
  have hc3:=cells_at hcell3
  have hf3:=frozen_at hcell3
  have HC4:Hid ((w3.setCell ⟨w.heap.size+1,0,none⟩ (.int .i64 0)).heap[w.heap.size+1]?=some (.cells #[.int .i64 0] 25 (0,0))):=(heap_setCell_same w3 _ 0 _ 25 _ hcell3).trans rfl
  have HB4:Hid (Below w.heap.size w (w3.setCell ⟨w.heap.size+1,0,none⟩ (.int .i64 0))):=(HB2.out.trans (hb3.mono HB2.out.size)).setCell (show w.heap.size≤w.heap.size+1 by omega) _
  clear hb3 hcell3 hcb HJ
  go_wp2_with fail
  refine leaves_cons (f:=37) (args:=#[.pointer (some ⟨w.heap.size+1,0,none⟩)]) (by simp) (by simp [go_sem]) ?_
  refine (catch_idle (w.heap.size+1) _).mono ?_
  rintro e u' w5 ⟨rfl,rfl,rfl⟩
  refine leaves_tc (q:=⟨w.heap.size+1,0,none⟩) (v:=.int .i64 0) rfl ?_ ⟨Or.inl ⟨HI.out,rfl⟩,HB4.out⟩
  exact load_int HC4.out
end Go.Proofs.YthcfianhdkolhaaGreatDoor.T
namespace Go.Proofs.YthcfianhdkolhaaGreatDoor.T
open Go.RowKit Go.Proofs.YthcfianhdkolhaaGreatDoor.S
set_option maxRecDepth 100000
set_option maxHeartbeats 2000000
set_option linter.unusedVariables false
set_option linter.unusedSimpArgs false

def PrR (n:Nd) (s:List UInt8) (c:Int):Prop:=
 (fitB n=false∧s=[]∧c=1)∨(fitB n=true∧¬ IsUn n∧s=[]∧c=2)∨(fitB n=true∧IsUn n∧4000<(shownT n).length∧s=[]∧c=1)∨(fitB n=true∧IsUn n∧(shownT n).length≤4000∧s=shownT n∧c=0)
theorem PrR.one {n:Nd} {s s':List UInt8} {c c':Int} (h:PrR n s c) (h':PrR n s' c'):s=s'∧c=c':=by
 rcases h with ⟨a1,rfl,rfl⟩|⟨a1,a2,rfl,rfl⟩|⟨a1,a2,a3,rfl,rfl⟩|⟨a1,a2,a3,rfl,rfl⟩<;>rcases h' with ⟨b1,rfl,rfl⟩|⟨b1,b2,rfl,rfl⟩|⟨b1,b2,b3,rfl,rfl⟩|⟨b1,b2,b3,rfl,rfl⟩<;>first|exact ⟨rfl,rfl⟩|exact absurd b2 a2|exact absurd a2 b2|omega|(exfalso;rw [a1] at b1;cases b1)
theorem print_any {w:World} (hG:Gl w) (hTb:TabW w) (n:Nd) (v:Value) (hv:NdO w n v):
  Calls Tryz.prog 9 #[v] w fun e w'=>∃ s c,PrR n s c∧e=.returned (.tuple #[.string (str s),.int .i64 c])∧Below w.heap.size w w':=by
 have HV:=hide hv
 obtain ⟨kind,text,num,ka,kn,kc,rfl⟩:=hv.form
 have hB0:Below w.heap.size w (w.alloc (.cells #[.int .i64 kind,.string text,.int .i64 num,.slice ka kn kc] 24)):=(Below.refl _ _).alloc (Nat.le_refl _) _
 have HN0:=hide (heap_new w #[.int .i64 kind,.string text,.int .i64 num,.slice ka kn kc] 24)
 have hft:=fits_any (w:=w.alloc (.cells #[.int .i64 kind,.string text,.int .i64 num,.slice ka kn kc] 24)) (Below.refl _ _) n _ (hv.under hB0)
 have HB0:=hide hB0
 have HG:=hide hG
 have HTb:=hide hTb
 clear hv hB0 hG hTb
 cases hf:fitB n with
 | false=>
  rw [hf] at hft
  have HF:=hide hf
  clear hf
  go_enter Tryz.func9,Tryz.ntmps9
  go_wp2_with fail
  go_at_call 12
  refine hft.mono ?_
  rintro e w1 ⟨rfl,hb1⟩
  have HB1:=hide (HB0.out.trans (hb1.mono (by simp)))
  have hn1:=cells_at ((hb1.block w.heap.size (by simp)).trans HN0.out)
  clear hft
  go_wp2_with fail
  go_ret2
  exact ⟨[],1,Or.inl ⟨HF.out,rfl,rfl⟩,rfl,HB1.out⟩
 | true=>
  rw [hf] at hft
  have HF:=hide hf
  have hfit:cnt n≤700∧dpt n≤16:=of_decide_eq_true hf
  clear hf
  go_enter Tryz.func9,Tryz.ntmps9
  go_wp2_with fail
  go_at_call 12
  refine hft.mono ?_
  rintro e w1 ⟨rfl,hb1⟩
  have HB1:=hide (HB0.out.trans (hb1.mono (by simp)))
  have hn1:=cells_at ((hb1.block w.heap.size (by simp)).trans HN0.out)
  clear hft
  have HPd:=hide (printed_any (HG.out.below HB1.out) (tab_below HTb.out HB1.out) n _ (HV.out.under HB1.out) hfit.1 hfit.2)
  have HLn:Hid (IsUn n→(shownT n).length≤9200000000000):=fun h=>shown_len h hfit.1 hfit.2
  clear hfit hb1
  go_wp2_with fail
  go_at_call 16
  refine HPd.out.mono ?_
  rintro e w2 ⟨⟨hu,rfl⟩|⟨hu,rfl⟩,hb2⟩
  rotate_left
  ·have HU:=hide hu
   have HB2:=hide (HB1.out.trans (hb2.mono HB1.out.size))
   clear hu hb2 hn1 HPd
   go_wp2_with fail
   go_ret2
   exact ⟨[],2,Or.inr (Or.inl ⟨HF.out,HU.out,rfl,rfl⟩),rfl,HB2.out⟩
  ·have HU:=hide hu
   have HB2:=hide (HB1.out.trans (hb2.mono HB1.out.size))
   have hl9:=HLn.out hu
   obtain ⟨ss,hss⟩:∃ ss,ss=shownT n:=⟨_,rfl⟩
   rw [← hss] at hl9 ⊢
   have HSs:=hide hss
   have hsz:(str ss).size=ss.length:=rfl
   clear hu hb2 hn1 HPd hss
   generalize hbs:str ss=bs at *
   have HBs:=hide hbs
   clear hbs
   by_cases h4:4000<ss.length
   ·have h4':(4000:Int)<bs.size:=by omega
    go_wp2_with fail
    go_ret2
    exact ⟨[],1,Or.inr (Or.inr (Or.inl ⟨HF.out,HU.out,by rw [← HSs.out];exact h4,rfl,rfl⟩)),rfl,HB2.out⟩
   ·have h4':¬ (4000:Int)<bs.size:=by omega
    go_wp2_with fail
    go_ret2
    exact ⟨ss,0,Or.inr (Or.inr (Or.inr ⟨HF.out,HU.out,by rw [← HSs.out];omega,HSs.out,rfl⟩)),by rw [HBs.out];rfl,HB2.out⟩
end Go.Proofs.YthcfianhdkolhaaGreatDoor.T
