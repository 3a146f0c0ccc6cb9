/- PeF2 PeG PeG0 PeG1 PeG2 -/
import Derived.Test.YthcfianhdkolhaaGreatDoorPeF1
import Derived.Test.YthcfianhdkolhaaGreatDoorSign
namespace Go.Proofs.YthcfianhdkolhaaGreatDoor.Y.Z
open Go.RowKit Go.Proofs.YthcfianhdkolhaaGreatDoor.T Go.Proofs.YthcfianhdkolhaaGreatDoor.S
open Go.Proofs.YthcfianhdkolhaaGreatDoor.X (Tok)
set_option linter.unusedVariables false
set_option linter.unusedSimpArgs false
set_option maxRecDepth 100000
set_option maxHeartbeats 2000000
variable {w w' : World} {b g : Nat} {K ts : List Tok} {β : Bool}
theorem rows2_gd (hT:Nx 53 #[.pointer (some ⟨b,0,none⟩)] .expr b g K ts):GdR 32 #[.pointer (some ⟨b,0,none⟩),.int .i64 2] (.rows 2) b g K ts:=by
 intro w h hF
 have HW:Hid (Wr w w b g K false ts []):=Wr.start h
 have HS:=su ts
 have HF:=ħ hF
 have HT:=ħ hT
 have HK:Hid (ts.length≤4000):=h.short
 clear hT
 clear h hF
 go_enter Tryz.func32,Tryz.ntmps32
 go_wp2_with fail
 go_at_call 29
 refine (HW.out.mu HS.out (s:=sLP) (by decide)).mono ?_
 rintro e w1 ⟨mv1,β1,r1,rfl,HQ1,HL,hS,hW,-⟩
 replace HW:=hW
 replace HS:=hS
 go_wp2_with fail
 by_cases hq:Eat β1 r1 sRP
 ·have HQ2:=ħ hq
  clear hq
  go_at_call 27
  refine (HW.out.eatY HS.out (s:=sRP) (by decide) HQ2.out).mono ?_
  rintro e w2 ⟨rfl,HL,hS,hW,-⟩
  replace HW:=hW
  replace HS:=hS
  go_wp2_with fail
  refine bodyPost_ret (v:=.tuple #[.slice none 0 0,.bool false]) (by simp [results,Tryz.results32,go_sem]) rfl ?_
  exact HW.out.postR HS.out (Nat.le_refl _) (RowN.nil _ _) (by simp) (fun _=>rfl) (mw_empty HQ1.out HQ2.out)
 have HQ2:=ħ hq
 clear hq
 go_at_call 27
 refine (HW.out.eatN (s:=sRP) HQ2.out).mono ?_
 rintro e w3 ⟨rfl,hW,-⟩
 replace HW:=hW
 go_wp2_with fail
 go_loopw [6,7,8] (fun v6 v7 v8 wr=>∃ (r:List Tok) (β:Bool) (l:List Nd) (d m:Bool),v7=.bool d∧v8=.bool m∧Hid (Wr w wr b g K β r [])∧Hid (RowN wr (Av w.heap.size []) v6 l)∧Hid (r <:+ ts)∧Hid (Pg β r ts)∧Hid (l=[]→v6=.slice none 0 0)∧Hid (LI ts l.length β r)∧Hid (RI 2 (tk ts) l d m β r)) (fun _ _ _ wr=>leftR b wr)
 case atStart=>exact ⟨_,_,[],_,_,rfl,rfl,HW,RowN.nil _ _,HS,HL,(fun _=>rfl),li_start HQ1.out,ri_start HQ1.out HQ2.out⟩
 case round=>
  obtain ⟨r,β,l,d,m,rfl,rfl,HW,HM_l,HS,HL,HNi,HLi,HI⟩:=hrel
  have HZ_l:=zz w
  have HG_l:Hid (l.length≤4000):=Nat.le_trans HLi.out.2 HK.out
  have hmu:=HW.out.ps.leftR
  have HMu:=ħ hmu
  clear hmu
  rcases HI.out with ⟨rfl,hA⟩|⟨rfl,rfl,rfl,hJ⟩|⟨rfl,rfl,hC⟩
  ·clear hA
   cases m with
   | false=>
    obtain ⟨pp21,pa21,pc21,hx1,hx2,hx3⟩:=HW.out.ps.blk
    have hc21:=cells_at hx2
    clear hx1 hx2 hx3
    go_wp2_with fail
    clear hc21
    go_at_call 29
    refine (HW.out.mu HS.out (s:=sRP) (by decide)).mono ?_
    rintro e w22 ⟨mv22,β22,r22,rfl,HQ3,HL,hS,hW,hG⟩
    replace HM_l:=HW.out.kR HZ_l hG HM_l
    replace HW:=hW
    replace HS:=hS
    clear hG
    go_wp2_with fail
    refine bodyPost_ret (v:=.tuple #[u6,.bool d]) (by simp [results,Tryz.results32,go_sem]) rfl ?_
    exact HW.out.postR HS.out HZ_l.out HM_l.out HG_l.out HNi.out (ri_end HI.out (fun _=>rfl) HLi.out HQ3.out)
   | true=>
    obtain ⟨pp21,pa21,pc21,hx1,hx2,hx3⟩:=HW.out.ps.blk
    have hc21:=cells_at hx2
    clear hx1 hx2 hx3
    go_wp2_with fail
    clear hc21
    go_at_call 29
    refine (HW.out.mu HS.out (s:=sRP) (by decide)).mono ?_
    rintro e w22 ⟨mv22,β22,r22,rfl,HQ3,HL,hS,hW,hG⟩
    replace HM_l:=HW.out.kR HZ_l hG HM_l
    replace HW:=hW
    replace HS:=hS
    clear hG
    go_wp2_with fail
    refine bodyPost_ret (v:=.tuple #[u6,.bool d]) (by simp [results,Tryz.results32,go_sem]) rfl ?_
    exact HW.out.postR HS.out HZ_l.out HM_l.out HG_l.out HNi.out (ri_end HI.out (fun _=>rfl) HLi.out HQ3.out)
  ·have HJ:=ħ hJ
   clear hJ HI
   obtain ⟨pp21,pa21,pc21,hx1,hx2,hx3⟩:=HW.out.ps.blk
   have hc21:=cells_at hx2
   clear hx1 hx2 hx3
   go_wp2_with fail
   clear hc21
   replace HW:=HW.out.az wr.heap.size
   replace HM_l:=HW.out.rA HM_l
   go_wp2_with fail
   generalize wr.alloc _=w22 at *
   go_at_call 53
   refine (HT.out w22 false r HS.out HL.out HW.out.ps (HF.out.suf HS.out)).mono ?_
   rintro e w23 hp
   obtain ⟨n_y,k_y,t_y,v_y,a_y,l_y,c_y,β23,r23,rfl,HR_y,HN_y,HZ_y,HS_y,HL,hS,hW,hG⟩:=HW.out.okN HS.out hp
   have HO_l:=ħ HM_l.out.lt
   replace HM_l:=HW.out.kR HZ_l hG HM_l
   replace HW:=hW
   replace HS:=hS
   clear hG hp
   have hc24:=HW.out.c0
   have hf25:=HW.out.f0
   replace HW:=ħ (HW.out.s0 (.int .i64 k_y) (.string t_y) (.int .i64 v_y) (.slice a_y l_y c_y))
   replace HN_y:=HW.out.ms0.N HN_y
   replace HM_l:=HW.out.ms0.R HM_l
   have HIt:=ħ (item2 HR_y.out)
   have HSt:Hid (r23 <:+ r):=HS_y.out
   replace HW:=HW.out.am w23.heap.size HN_y
   replace HN_y:=HW.out.nA HN_y
   replace HM_l:=HW.out.rA HM_l
   have hc26:=HW.out.c0
   have hc27:=HW.out.c1
   go_wp2_with (at_builtin;refine app_l0 _ _ rfl rfl HW.out HM_l.out HN_y.out HZ_l.out HZ_y.out HO_l.out (by have:=HG_l.out;omega) ⟨rfl,rfl,rfl,rfl⟩ ?e1 ?e2 ?_;(case e1=>rfl);(case e2=>rfl);skip)
   intro g28 c28 w28 hW hM hG
   clear HM_l HN_y HZ_l HZ_y HO_l
   replace HW:=ħ hW
   have HM_l2:=ħ hM
   have HZ_l2:=zz w
   clear hW hM hG
   go_wp2_with fail
   by_cases hq:Eat β23 r23 sCOMMA
   ·have HEc:=ħ hq
    clear hq
    go_at_call 27
    refine (HW.out.eatY HS.out (s:=sCOMMA) (by decide) HEc.out).mono ?_
    rintro e w29 ⟨rfl,HL,hS,hW,hG⟩
    replace HM_l2:=HW.out.kR HZ_l2 hG HM_l2
    replace HW:=hW
    replace HS:=hS
    clear hG
    go_wp2_with fail
    replace HM_l2:=(Mv.d0 _).R HM_l2
    replace HW:=ħ HW.out.d0
    go_roundw
    case rel=>exact ⟨_,_,_,_,_,rfl,rfl,HW,HM_l2,HS,HL,(fun e=>absurd e (by simp)),li_nextc HLi.out HIt.out HEc.out,ri_yes (fun h=>absurd h.1 (by decide)) HJ.out HIt.out HEc.out⟩
    case measure=>rw [HW.out.ps.leftR,HMu.out];exact less_left (Nat.le_trans (List.tail_suffix _).length_le HSt.out.length_le) (fun _=>Nat.lt_of_le_of_lt (List.tail_suffix _).length_le (HIt.out.prog HEc.out.1))
   have HEc:=ħ hq
   clear hq
   go_at_call 27
   refine (HW.out.eatN (s:=sCOMMA) HEc.out).mono ?_
   rintro e w30 ⟨rfl,hW,hG⟩
   replace HM_l2:=HW.out.kR HZ_l2 hG HM_l2
   replace HW:=hW
   clear hG
   go_wp2_with fail
   replace HM_l2:=(Mv.d0 _).R HM_l2
   replace HW:=ħ HW.out.d0
   go_roundw
   case rel=>exact ⟨_,_,_,_,_,rfl,rfl,HW,HM_l2,HS,HL,(fun e=>absurd e (by simp)),li_next HLi.out HIt.out (List.suffix_refl _),ri_no (fun h=>absurd h.1 (by decide)) HJ.out HIt.out HEc.out⟩
   case measure=>rw [HW.out.ps.leftR,HMu.out];exact less_left HSt.out.length_le HIt.out.prog
  clear hC
  obtain ⟨pp21,pa21,pc21,hx1,hx2,hx3⟩:=HW.out.ps.blk
  have hc21:=cells_at hx2
  clear hx1 hx2 hx3
  go_wp2_with fail
  clear hc21
  go_at_call 29
  refine (HW.out.mu HS.out (s:=sRP) (by decide)).mono ?_
  rintro e w22 ⟨mv22,β22,r22,rfl,HQ3,HL,hS,hW,hG⟩
  replace HM_l:=HW.out.kR HZ_l hG HM_l
  replace HW:=hW
  replace HS:=hS
  clear hG
  go_wp2_with fail
  refine bodyPost_ret (v:=.tuple #[u6,.bool d]) (by simp [results,Tryz.results32,go_sem]) rfl ?_
  exact HW.out.postR HS.out HZ_l.out HM_l.out HG_l.out HNi.out (ri_end HI.out (fun h=>by cases h) HLi.out HQ3.out)
end Go.Proofs.YthcfianhdkolhaaGreatDoor.Y.Z
namespace Go.Proofs.YthcfianhdkolhaaGreatDoor.Y.Z
open Go.RowKit Go.Proofs.YthcfianhdkolhaaGreatDoor.T Go.Proofs.YthcfianhdkolhaaGreatDoor.S
open Go.Proofs.YthcfianhdkolhaaGreatDoor.X (Tok)
set_option linter.unusedVariables false
set_option linter.unusedSimpArgs false
set_option maxRecDepth 100000
set_option maxHeartbeats 2000000
variable {w w' : World} {b g : Nat} {K ts : List Tok} {β : Bool}
variable {w0 : World} {L : List Bk}
theorem Wr.inc {ts0:List Tok} (HW:Wr w0 w b g K false ts L) (HS:ts <:+ ts0) (hne:hd (tk ts)≠[]):∃ (p:Nat) (pa:Option Addr) (pc:Nat),(∀ o,w.cell? ⟨b,o,none⟩=#[.slice pa K.length pc,.int .i64 p,.bool false][o]?)∧(∀ o,w.frozen? ⟨b,o,none⟩=false)∧IntKind.i64.wrap ((p:Int)+1)=(p:Int)+1∧Hid (Pg false ts.tail ts0)∧Hid (ts.tail <:+ ts0)∧Hid (Wr w0 (w.setCell ⟨b,1,none⟩ (.int .i64 ((p:Int)+1))) b g K false ts.tail L)∧w.grownBy (w.setCell ⟨b,1,none⟩ (.int .i64 ((p:Int)+1))) (some b):=by
 obtain ⟨t,r,rfl⟩:=hd_ne (ts:=ts) (s:=hd (tk ts)) hne rfl
 obtain ⟨p,a,c,h1,h2,h3⟩:=HW.ps.blk
 have r1:=HW.ps.step h1 h2 h3
 have hlen:=HW.ps.len
 have hp:p.length+1≤K.length:=by rw [h1];simp
 have hg:=grown_own w b 1 (.int .i64 ((p.length:Int)+1))
 exact ⟨p.length,a,c,cells_at h2,frozen_at h2,by rw [IntKind.wrap_i64];omega,fun _=>Nat.lt_of_lt_of_le (by simp) HS.length_le,(List.tail_suffix _).trans HS,HW.call hg r1,hg⟩
def BI (k:Nat) (T:List Tk) (n:Nd) (β:Bool) (r:List Tok):Prop:=(β=true∧R (.bound k) T (.no (tk r)))∨(β=false∧∀ q,R (.boundL k n) (tk r) q→R (.bound k) T q)
theorem bi_start {k:Nat} (hk:k≤2) {n:Nd} {β1:Bool} {r1:List Tok} (h:Md (R (.bound (k+1))) n false ts β1 r1):BI k (tk ts) n β1 r1:=by
 have hk':¬ 2<k:=by omega
 rcases h.good with ⟨rfl,_,e⟩|⟨rfl,e⟩
 ·refine Or.inr ⟨rfl,fun q k2=>?_⟩
  obtain ⟨m,e,k2⟩:=both e k2
  exact ⟨m+1,by simp only [P,F,if_neg hk',e,andN,k2]⟩
 obtain ⟨m,e⟩:=e
 exact Or.inl ⟨rfl,m+1,by simp only [P,F,if_neg hk',e,andN]⟩
theorem bi_stop {k:Nat} {n:Nd} {r:List Tok} {sg so:Int} (J:∀ q,R (.boundL k n) (tk r) q→R (.bound k) (tk ts) q) (hs:sign (hd (tk r))=(sg,so)) (h:¬ sg=k) (hl:Pg false r ts):Md (R (.bound k)) n false ts false r:=
 Or.inr (Or.inl ⟨rfl,rfl,hl rfl,J _ ⟨1,by simp only [P,F,hs,if_neg h,okN]⟩⟩)
theorem bi_next {k:Nat} {n y:Nd} {T:List Tk} {r r1:List Tok} {β1:Bool} {so:Int} (hk0:¬ k=0) (J:∀ q,R (.boundL k n) (tk r) q→R (.bound k) T q) (hs:sign (hd (tk r))=((k:Int),so)) (h:Md (R (.bound (k+1))) y false r.tail β1 r1):BI k T (.mk 32 [] so [n,y]) β1 r1:=by
 rcases h.good with ⟨rfl,_,e⟩|⟨rfl,e⟩
 ·refine Or.inr ⟨rfl,fun q k2=>J q ?_⟩
  obtain ⟨m,e,k2⟩:=both e k2
  rw [tk_tail] at e
  exact ⟨m+1,by simp only [P,F,hs,if_true,e,andN,if_neg hk0,k2]⟩
 obtain ⟨m,e⟩:=e
 rw [tk_tail] at e
 exact Or.inl ⟨rfl,J _ ⟨m+1,by simp only [P,F,hs,if_true,e,andN]⟩⟩
theorem bi_one {n y:Nd} {r r1:List Tok} {β1:Bool} {so:Int} (J:∀ q,R (.boundL 0 n) (tk r) q→R (.bound 0) (tk ts) q) (hs:sign (hd (tk r))=(0,so)) (h:Md (R (.bound (0+1))) y false r.tail β1 r1) (hl:Pg β1 r1 ts):Md (R (.bound 0)) (.mk 32 [] so [n,y]) false ts β1 r1:=by
 rcases h.good with ⟨rfl,_,e⟩|⟨rfl,e⟩
 ·obtain ⟨m,e⟩:=e
  rw [tk_tail] at e
  exact Or.inr (Or.inl ⟨rfl,rfl,hl rfl,J _ ⟨m+1,by simp [P,F,hs,e,andN,okN]⟩⟩)
 obtain ⟨m,e⟩:=e
 rw [tk_tail] at e
 exact Or.inr (Or.inr ⟨rfl,rfl,J _ ⟨m+1,by simp [P,F,hs,e,andN]⟩⟩)
theorem sign_ne {s:List UInt8} {sg so:Int} (h:sign s=(sg,so)) (h0:0≤sg):s≠[]:=fun e=>by
 subst e
 have:sign []=(-1,0):=by decide
 rw [this] at h
 injection h with h1 h2
 omega
theorem md_b3 {n:Nd} {β β':Bool} {r r':List Tok} (h:Md (R .unary) n β r β' r'):Md (R (.bound 3)) n β r β' r':=by
 rcases h with h|⟨h1,h2,h3,n,e⟩|⟨h1,h2,n,e⟩
 ·exact Or.inl h
 ·exact Or.inr (Or.inl ⟨h1,h2,h3,n+1,by simp [P,F,e]⟩)
 exact Or.inr (Or.inr ⟨h1,h2,n+1,by simp [P,F,e]⟩)
theorem md_ex {n:Nd} {β β':Bool} {r r':List Tok} (h:Md (R (.bound 0)) n β r β' r'):Md (R .expr) n β r β' r':=by
 rcases h with h|⟨h1,h2,h3,n,e⟩|⟨h1,h2,n,e⟩
 ·exact Or.inl h
 ·exact Or.inr (Or.inl ⟨h1,h2,h3,n+1,by simp [P,F,e]⟩)
 exact Or.inr (Or.inr ⟨h1,h2,n+1,by simp [P,F,e]⟩)
theorem first_bad :Bad 126 #[.pointer (some ⟨b,0,none⟩)] b g K:=by
 intro w ts h hF
 have HW:Hid (Wr w w b g K true ts []):=Wr.start h
 have HS:=su ts
 have HF:=ħ hF
 clear h hF
 go_enter Tryz.func126,Tryz.ntmps126
 replace HW:=HW.out.az w.heap.size
 obtain ⟨pp1,pa1,pc1,hx1,hx2,hx3⟩:=HW.out.ps.blk
 have hc1:=cells_at hx2
 clear hx1 hx2 hx3
 have HN_z:Hid (NdV (w.alloc (.cells #[.int .i64 0,.string ⟨#[]⟩,.int .i64 0,.slice none 0 0] 24)) (Av w.heap.size [(w.heap.size,#[.int .i64 0,.string ⟨#[]⟩,.int .i64 0,.slice none 0 0],24)]) (.mk 0 [] 0 []) (.agg #[.int .i64 0,.string (str []),.int .i64 0,.slice none 0 0])):=NdV.bare 0 [] 0 none 0
 have HZ_z:=zz w
 go_wp2_with fail
 exact HW.out.e HW.out.b0 HS HZ_z HN_z (md_bad ⟨rfl,rfl⟩)
theorem unary_bad :Bad 101 #[.pointer (some ⟨b,0,none⟩)] b g K:=by
 intro w ts h hF
 have HW:Hid (Wr w w b g K true ts []):=Wr.start h
 have HS:=su ts
 have HF:=ħ hF
 clear h hF
 go_enter Tryz.func101,Tryz.ntmps101
 replace HW:=HW.out.az w.heap.size
 go_wp2_with fail
 generalize w.alloc _=w1 at *
 go_at_call 27
 refine (HW.out.eatN (s:=sMINUS) not_eat).mono ?_
 rintro e w2 ⟨rfl,hW,-⟩
 replace HW:=hW
 go_wp2_with fail
 go_at_call 27
 refine (HW.out.eatN (s:=sNOT) not_eat).mono ?_
 rintro e w3 ⟨rfl,hW,-⟩
 replace HW:=hW
 go_wp2_with fail
 have HB:=ħ (first_bad (b:=b) (g:=g) (K:=K))
 go_at_call 126
 refine (HB.out w3 ts HW.out.ps (HF.out.suf HS.out)).mono ?_
 rintro e w4 hp
 obtain ⟨n_x,k_x,t_x,v_x,a_x,l_x,c_x,β4,r4,rfl,HR_x,HN_x,HZ_x,HS_x,HL,hS,hW,-⟩:=HW.out.okN HS.out hp
 replace HW:=hW
 replace HS:=hS
 clear hp
 obtain ⟨rfl,rfl⟩:=HR_x.out.bad
 replace HW:=HW.out.am w4.heap.size HN_x
 replace HN_x:=HW.out.nA HN_x
 go_wp2_with fail
 generalize w4.alloc _=w5 at *
 go_loopw [] (fun wr=>∃ (n:Nd) (k0:Int) (t0:ByteArray) (v0:Int) (a0:Option Addr) (l0 c0:Nat),Hid (Wr w wr b g K true r4 [(w4.heap.size,#[.int .i64 k0,.string t0,.int .i64 v0,.slice a0 l0 c0],24),(w.heap.size,#[.int .i64 0,.string ⟨#[]⟩,.int .i64 0,.slice none 0 0],24)])∧Hid (NdV wr (Av w.heap.size [(w4.heap.size,#[.int .i64 k0,.string t0,.int .i64 v0,.slice a0 l0 c0],24),(w.heap.size,#[.int .i64 0,.string ⟨#[]⟩,.int .i64 0,.slice none 0 0],24)]) n (.agg #[.int .i64 k0,.string t0,.int .i64 v0,.slice a0 l0 c0]))) (fun wr=>leftR b wr)
 case atStart=>exact ⟨_,_,_,_,_,_,_,HW,HN_x.out.less HZ_x.out⟩
 case round=>
  obtain ⟨n,k0,t0,v0,a0,l0,c0,HW,HN_n⟩:=hrel
  have HZ_n:=zz w
  obtain ⟨pp21,pa21,pc21,hx1,hx2,hx3⟩:=HW.out.ps.blk
  have hc21:=cells_at hx2
  clear hx1 hx2 hx3
  have hc22:=HW.out.c0
  have hc23:=HW.out.c1
  have hf24:=HW.out.f1
  replace HW:=ħ (HW.out.s1 (.int .i64 k0) (.string t0) (.int .i64 v0) (.slice a0 l0 c0))
  replace HN_n:=HW.out.ms1.N HN_n
  go_wp2_with fail
  exact HW.out.e HW.out.b1 HS HZ_n HN_n (md_bad ⟨rfl,rfl⟩)
theorem bound3_bad :Bad 72 #[.pointer (some ⟨b,0,none⟩),.int .i64 3] b g K:=by
 intro w ts h hF
 have HW:Hid (Wr w w b g K true ts []):=Wr.start h
 have HS:=su ts
 have HF:=ħ hF
 clear h hF
 go_enter Tryz.func72,Tryz.ntmps72
 replace HW:=HW.out.az w.heap.size
 go_wp2_with fail
 generalize w.alloc _=w1 at *
 have HB:=ħ (unary_bad (b:=b) (g:=g) (K:=K))
 go_at_call 101
 refine (HB.out w1 ts HW.out.ps (HF.out.suf HS.out)).mono ?_
 rintro e w2 hp
 obtain ⟨n_x,k_x,t_x,v_x,a_x,l_x,c_x,β2,r2,rfl,HR_x,HN_x,HZ_x,HS_x,HL,hS,hW,-⟩:=HW.out.okN HS.out hp
 replace HW:=hW
 replace HS:=hS
 clear hp
 have hc3:=HW.out.c0
 have hf4:=HW.out.f0
 replace HW:=ħ (HW.out.s0 (.int .i64 k_x) (.string t_x) (.int .i64 v_x) (.slice a_x l_x c_x))
 replace HN_x:=HW.out.ms0.N HN_x
 go_wp2_with fail
 exact HW.out.e HW.out.b0 HS HZ_x HN_x (md_bad HR_x.out.bad)
theorem bound2_bad :Bad 72 #[.pointer (some ⟨b,0,none⟩),.int .i64 2] b g K:=by
 intro w ts h hF
 have HW:Hid (Wr w w b g K true ts []):=Wr.start h
 have HS:=su ts
 have HF:=ħ hF
 clear h hF
 go_enter Tryz.func72,Tryz.ntmps72
 replace HW:=HW.out.az w.heap.size
 go_wp2_with fail
 generalize w.alloc _=w1 at *
 have HB:=ħ (bound3_bad (b:=b) (g:=g) (K:=K))
 go_at_call 72
 refine (HB.out w1 ts HW.out.ps (HF.out.suf HS.out)).mono ?_
 rintro e w2 hp
 obtain ⟨n_x,k_x,t_x,v_x,a_x,l_x,c_x,β2,r2,rfl,HR_x,HN_x,HZ_x,HS_x,HL,hS,hW,-⟩:=HW.out.okN HS.out hp
 replace HW:=hW
 replace HS:=hS
 clear hp
 obtain ⟨rfl,rfl⟩:=HR_x.out.bad
 replace HW:=HW.out.am w2.heap.size HN_x
 replace HN_x:=HW.out.nA HN_x
 go_wp2_with fail
 generalize w2.alloc _=w3 at *
 go_loopw [] (fun wr=>∃ (n:Nd) (k0:Int) (t0:ByteArray) (v0:Int) (a0:Option Addr) (l0 c0:Nat),Hid (Wr w wr b g K true r2 [(w2.heap.size,#[.int .i64 k0,.string t0,.int .i64 v0,.slice a0 l0 c0],24),(w.heap.size,#[.int .i64 0,.string ⟨#[]⟩,.int .i64 0,.slice none 0 0],24)])∧Hid (NdV wr (Av w.heap.size [(w2.heap.size,#[.int .i64 k0,.string t0,.int .i64 v0,.slice a0 l0 c0],24),(w.heap.size,#[.int .i64 0,.string ⟨#[]⟩,.int .i64 0,.slice none 0 0],24)]) n (.agg #[.int .i64 k0,.string t0,.int .i64 v0,.slice a0 l0 c0]))) (fun wr=>leftR b wr)
 case atStart=>exact ⟨_,_,_,_,_,_,_,HW,HN_x.out.less HZ_x.out⟩
 case round=>
  obtain ⟨n,k0,t0,v0,a0,l0,c0,HW,HN_n⟩:=hrel
  have HZ_n:=zz w
  obtain ⟨pp21,pa21,pc21,hx1,hx2,hx3⟩:=HW.out.ps.blk
  have hc21:=cells_at hx2
  clear hx1 hx2 hx3
  have hc22:=HW.out.c0
  have hc23:=HW.out.c1
  have hf24:=HW.out.f1
  replace HW:=ħ (HW.out.s1 (.int .i64 k0) (.string t0) (.int .i64 v0) (.slice a0 l0 c0))
  replace HN_n:=HW.out.ms1.N HN_n
  go_wp2_with fail
  exact HW.out.e HW.out.b1 HS HZ_n HN_n (md_bad ⟨rfl,rfl⟩)
theorem bound1_bad :Bad 72 #[.pointer (some ⟨b,0,none⟩),.int .i64 1] b g K:=by
 intro w ts h hF
 have HW:Hid (Wr w w b g K true ts []):=Wr.start h
 have HS:=su ts
 have HF:=ħ hF
 clear h hF
 go_enter Tryz.func72,Tryz.ntmps72
 replace HW:=HW.out.az w.heap.size
 go_wp2_with fail
 generalize w.alloc _=w1 at *
 have HB:=ħ (bound2_bad (b:=b) (g:=g) (K:=K))
 go_at_call 72
 refine (HB.out w1 ts HW.out.ps (HF.out.suf HS.out)).mono ?_
 rintro e w2 hp
 obtain ⟨n_x,k_x,t_x,v_x,a_x,l_x,c_x,β2,r2,rfl,HR_x,HN_x,HZ_x,HS_x,HL,hS,hW,-⟩:=HW.out.okN HS.out hp
 replace HW:=hW
 replace HS:=hS
 clear hp
 obtain ⟨rfl,rfl⟩:=HR_x.out.bad
 replace HW:=HW.out.am w2.heap.size HN_x
 replace HN_x:=HW.out.nA HN_x
 go_wp2_with fail
 generalize w2.alloc _=w3 at *
 go_loopw [] (fun wr=>∃ (n:Nd) (k0:Int) (t0:ByteArray) (v0:Int) (a0:Option Addr) (l0 c0:Nat),Hid (Wr w wr b g K true r2 [(w2.heap.size,#[.int .i64 k0,.string t0,.int .i64 v0,.slice a0 l0 c0],24),(w.heap.size,#[.int .i64 0,.string ⟨#[]⟩,.int .i64 0,.slice none 0 0],24)])∧Hid (NdV wr (Av w.heap.size [(w2.heap.size,#[.int .i64 k0,.string t0,.int .i64 v0,.slice a0 l0 c0],24),(w.heap.size,#[.int .i64 0,.string ⟨#[]⟩,.int .i64 0,.slice none 0 0],24)]) n (.agg #[.int .i64 k0,.string t0,.int .i64 v0,.slice a0 l0 c0]))) (fun wr=>leftR b wr)
 case atStart=>exact ⟨_,_,_,_,_,_,_,HW,HN_x.out.less HZ_x.out⟩
 case round=>
  obtain ⟨n,k0,t0,v0,a0,l0,c0,HW,HN_n⟩:=hrel
  have HZ_n:=zz w
  obtain ⟨pp21,pa21,pc21,hx1,hx2,hx3⟩:=HW.out.ps.blk
  have hc21:=cells_at hx2
  clear hx1 hx2 hx3
  have hc22:=HW.out.c0
  have hc23:=HW.out.c1
  have hf24:=HW.out.f1
  replace HW:=ħ (HW.out.s1 (.int .i64 k0) (.string t0) (.int .i64 v0) (.slice a0 l0 c0))
  replace HN_n:=HW.out.ms1.N HN_n
  go_wp2_with fail
  exact HW.out.e HW.out.b1 HS HZ_n HN_n (md_bad ⟨rfl,rfl⟩)
theorem bound0_bad :Bad 72 #[.pointer (some ⟨b,0,none⟩),.int .i64 0] b g K:=by
 intro w ts h hF
 have HW:Hid (Wr w w b g K true ts []):=Wr.start h
 have HS:=su ts
 have HF:=ħ hF
 clear h hF
 go_enter Tryz.func72,Tryz.ntmps72
 replace HW:=HW.out.az w.heap.size
 go_wp2_with fail
 generalize w.alloc _=w1 at *
 have HB:=ħ (bound1_bad (b:=b) (g:=g) (K:=K))
 go_at_call 72
 refine (HB.out w1 ts HW.out.ps (HF.out.suf HS.out)).mono ?_
 rintro e w2 hp
 obtain ⟨n_x,k_x,t_x,v_x,a_x,l_x,c_x,β2,r2,rfl,HR_x,HN_x,HZ_x,HS_x,HL,hS,hW,-⟩:=HW.out.okN HS.out hp
 replace HW:=hW
 replace HS:=hS
 clear hp
 obtain ⟨rfl,rfl⟩:=HR_x.out.bad
 replace HW:=HW.out.am w2.heap.size HN_x
 replace HN_x:=HW.out.nA HN_x
 go_wp2_with fail
 generalize w2.alloc _=w3 at *
 go_loopw [] (fun wr=>∃ (n:Nd) (k0:Int) (t0:ByteArray) (v0:Int) (a0:Option Addr) (l0 c0:Nat),Hid (Wr w wr b g K true r2 [(w2.heap.size,#[.int .i64 k0,.string t0,.int .i64 v0,.slice a0 l0 c0],24),(w.heap.size,#[.int .i64 0,.string ⟨#[]⟩,.int .i64 0,.slice none 0 0],24)])∧Hid (NdV wr (Av w.heap.size [(w2.heap.size,#[.int .i64 k0,.string t0,.int .i64 v0,.slice a0 l0 c0],24),(w.heap.size,#[.int .i64 0,.string ⟨#[]⟩,.int .i64 0,.slice none 0 0],24)]) n (.agg #[.int .i64 k0,.string t0,.int .i64 v0,.slice a0 l0 c0]))) (fun wr=>leftR b wr)
 case atStart=>exact ⟨_,_,_,_,_,_,_,HW,HN_x.out.less HZ_x.out⟩
 case round=>
  obtain ⟨n,k0,t0,v0,a0,l0,c0,HW,HN_n⟩:=hrel
  have HZ_n:=zz w
  obtain ⟨pp21,pa21,pc21,hx1,hx2,hx3⟩:=HW.out.ps.blk
  have hc21:=cells_at hx2
  clear hx1 hx2 hx3
  have hc22:=HW.out.c0
  have hc23:=HW.out.c1
  have hf24:=HW.out.f1
  replace HW:=ħ (HW.out.s1 (.int .i64 k0) (.string t0) (.int .i64 v0) (.slice a0 l0 c0))
  replace HN_n:=HW.out.ms1.N HN_n
  go_wp2_with fail
  exact HW.out.e HW.out.b1 HS HZ_n HN_n (md_bad ⟨rfl,rfl⟩)
theorem expr_bad :Bad 53 #[.pointer (some ⟨b,0,none⟩)] b g K:=by
 intro w ts h hF
 have HW:Hid (Wr w w b g K true ts []):=Wr.start h
 have HS:=su ts
 have HF:=ħ hF
 clear h hF
 go_enter Tryz.func53,Tryz.ntmps53
 replace HW:=HW.out.az w.heap.size
 go_wp2_with fail
 generalize w.alloc _=w1 at *
 have HB:=ħ (bound0_bad (b:=b) (g:=g) (K:=K))
 go_at_call 72
 refine (HB.out w1 ts HW.out.ps (HF.out.suf HS.out)).mono ?_
 rintro e w2 hp
 obtain ⟨n_x,k_x,t_x,v_x,a_x,l_x,c_x,β2,r2,rfl,HR_x,HN_x,HZ_x,HS_x,HL,hS,hW,-⟩:=HW.out.okN HS.out hp
 replace HW:=hW
 replace HS:=hS
 clear hp
 have hc3:=HW.out.c0
 have hf4:=HW.out.f0
 replace HW:=ħ (HW.out.s0 (.int .i64 k_x) (.string t_x) (.int .i64 v_x) (.slice a_x l_x c_x))
 replace HN_x:=HW.out.ms0.N HN_x
 go_wp2_with fail
 exact HW.out.e HW.out.b0 HS HZ_x HN_x (md_bad HR_x.out.bad)
theorem bound3_gd (hM:Mth 101 #[.pointer (some ⟨b,0,none⟩)] .unary b g K ts):Gd 72 #[.pointer (some ⟨b,0,none⟩),.int .i64 3] (.bound 3) b g K ts:=by
 intro w h hF
 have HW:Hid (Wr w w b g K false ts []):=Wr.start h
 have HS:=su ts
 have HF:=ħ hF
 have HM:=ħ hM
 clear hM
 clear h hF
 go_enter Tryz.func72,Tryz.ntmps72
 replace HW:=HW.out.az w.heap.size
 go_wp2_with fail
 generalize w.alloc _=w1 at *
 go_at_call 101
 refine (HM.out w1 false HW.out.ps (HF.out.suf HS.out)).mono ?_
 rintro e w2 hp
 obtain ⟨n_x,k_x,t_x,v_x,a_x,l_x,c_x,β2,r2,rfl,HR_x,HN_x,HZ_x,HS_x,HL,hS,hW,-⟩:=HW.out.okN HS.out hp
 replace HW:=hW
 replace HS:=hS
 clear hp
 have hc3:=HW.out.c0
 have hf4:=HW.out.f0
 replace HW:=ħ (HW.out.s0 (.int .i64 k_x) (.string t_x) (.int .i64 v_x) (.slice a_x l_x c_x))
 replace HN_x:=HW.out.ms0.N HN_x
 go_wp2_with fail
 exact HW.out.e HW.out.b0 HS HZ_x HN_x (md_b3 HR_x.out)
theorem expr_gd (hM:Mth 72 #[.pointer (some ⟨b,0,none⟩),.int .i64 0] (.bound 0) b g K ts):Gd 53 #[.pointer (some ⟨b,0,none⟩)] .expr b g K ts:=by
 intro w h hF
 have HW:Hid (Wr w w b g K false ts []):=Wr.start h
 have HS:=su ts
 have HF:=ħ hF
 have HM:=ħ hM
 clear hM
 clear h hF
 go_enter Tryz.func53,Tryz.ntmps53
 replace HW:=HW.out.az w.heap.size
 go_wp2_with fail
 generalize w.alloc _=w1 at *
 go_at_call 72
 refine (HM.out w1 false HW.out.ps (HF.out.suf HS.out)).mono ?_
 rintro e w2 hp
 obtain ⟨n_x,k_x,t_x,v_x,a_x,l_x,c_x,β2,r2,rfl,HR_x,HN_x,HZ_x,HS_x,HL,hS,hW,-⟩:=HW.out.okN HS.out hp
 replace HW:=hW
 replace HS:=hS
 clear hp
 have hc3:=HW.out.c0
 have hf4:=HW.out.f0
 replace HW:=ħ (HW.out.s0 (.int .i64 k_x) (.string t_x) (.int .i64 v_x) (.slice a_x l_x c_x))
 replace HN_x:=HW.out.ms0.N HN_x
 go_wp2_with fail
 exact HW.out.e HW.out.b0 HS HZ_x HN_x (md_ex HR_x.out)
end Go.Proofs.YthcfianhdkolhaaGreatDoor.Y.Z
namespace Go.Proofs.YthcfianhdkolhaaGreatDoor.Y.Z
open Go.RowKit Go.Proofs.YthcfianhdkolhaaGreatDoor.T Go.Proofs.YthcfianhdkolhaaGreatDoor.S
open Go.Proofs.YthcfianhdkolhaaGreatDoor.X (Tok)
set_option linter.unusedVariables false
set_option linter.unusedSimpArgs false
set_option maxRecDepth 100000
set_option maxHeartbeats 2000000
variable {w w' : World} {b g : Nat} {K ts : List Tok} {β : Bool}
theorem bound0_gd (hM:Mth 72 #[.pointer (some ⟨b,0,none⟩),.int .i64 1] (.bound 1) b g K ts) (hX:Nx 72 #[.pointer (some ⟨b,0,none⟩),.int .i64 1] (.bound 1) b g K ts):Gd 72 #[.pointer (some ⟨b,0,none⟩),.int .i64 0] (.bound 0) b g K ts:=by
 intro w h hF
 have HW:Hid (Wr w w b g K false ts []):=Wr.start h
 have HS:=su ts
 have HF:=ħ hF
 have HM:=ħ hM
 have HX:=ħ hX
 clear hM hX
 clear h hF
 go_enter Tryz.func72,Tryz.ntmps72
 replace HW:=HW.out.az w.heap.size
 go_wp2_with fail
 generalize w.alloc _=w1 at *
 go_at_call 72
 refine (HM.out w1 false HW.out.ps (HF.out.suf HS.out)).mono ?_
 rintro e w2 hp
 obtain ⟨n_x,k_x,t_x,v_x,a_x,l_x,c_x,β2,r2,rfl,HR_x,HN_x,HZ_x,HS_x,HL,hS,hW,-⟩:=HW.out.okN HS.out hp
 replace HW:=hW
 replace HS:=hS
 clear hp
 replace HW:=HW.out.am w2.heap.size HN_x
 replace HN_x:=HW.out.nA HN_x
 go_wp2_with fail
 generalize w2.alloc _=w3 at *
 go_loopw [] (fun wr=>∃ (r:List Tok) (β:Bool) (n:Nd) (k0:Int) (t0:ByteArray) (v0:Int) (a0:Option Addr) (l0 c0:Nat),Hid (Wr w wr b g K β r [(w2.heap.size,#[.int .i64 k0,.string t0,.int .i64 v0,.slice a0 l0 c0],24),(w.heap.size,#[.int .i64 0,.string ⟨#[]⟩,.int .i64 0,.slice none 0 0],24)])∧Hid (NdV wr (Av w.heap.size [(w2.heap.size,#[.int .i64 k0,.string t0,.int .i64 v0,.slice a0 l0 c0],24),(w.heap.size,#[.int .i64 0,.string ⟨#[]⟩,.int .i64 0,.slice none 0 0],24)]) n (.agg #[.int .i64 k0,.string t0,.int .i64 v0,.slice a0 l0 c0]))∧Hid (r <:+ ts)∧Hid (Pg β r ts)∧Hid (BI 0 (tk ts) n β r)) (fun wr=>leftR b wr)
 case atStart=>exact ⟨_,_,_,_,_,_,_,_,_,HW,HN_x.out.less HZ_x.out,HS,HL,bi_start (by decide) HR_x.out⟩
 case round=>
  obtain ⟨r,β,n,k0,t0,v0,a0,l0,c0,HW,HN_n,HS,HL,HI⟩:=hrel
  have HZ_n:=zz w
  have hmu:=HW.out.ps.leftR
  have HMu:=ħ hmu
  clear hmu
  rcases HI.out with ⟨rfl,hA⟩|⟨rfl,hJ⟩
  ·have HA:=ħ hA
   clear hA
   obtain ⟨pp21,pa21,pc21,hx1,hx2,hx3⟩:=HW.out.ps.blk
   have hc21:=cells_at hx2
   clear hx1 hx2 hx3
   have hc22:=HW.out.c0
   have hc23:=HW.out.c1
   have hf24:=HW.out.f1
   replace HW:=ħ (HW.out.s1 (.int .i64 k0) (.string t0) (.int .i64 v0) (.slice a0 l0 c0))
   replace HN_n:=HW.out.ms1.N HN_n
   go_wp2_with fail
   exact HW.out.e HW.out.b1 HS HZ_n HN_n (Or.inr (Or.inr ⟨rfl,rfl,HA.out⟩))
  have HJ:=ħ hJ
  clear hJ HI
  obtain ⟨pp21,pa21,pc21,hx1,hx2,hx3⟩:=HW.out.ps.blk
  have hc21:=cells_at hx2
  clear hx1 hx2 hx3
  go_wp2_with fail
  clear hc21
  go_at_call 31
  refine (HW.out.tx 0 (by omega)).mono ?_
  rintro e w22 ⟨rfl,hW,hG⟩
  replace HN_n:=(Mv.quiet hG).N HN_n
  replace HW:=hW
  clear hG
  rw [List.drop_zero]
  go_wp2_with fail
  go_at_call 102
  refine (T.sign_any (hd (tk r)) _).mono ?_
  rintro e w23 ⟨rfl,hG⟩
  replace HN_n:=(Mv.quiet hG).N HN_n
  replace HW:=ħ (HW.out.quiet hG)
  clear hG
  rcases hsn:sign (hd (tk r)) with ⟨sg,so⟩
  have HSn:=ħ hsn
  simp only [hsn]
  clear hsn
  by_cases hq:sg=0
  ·subst hq
   obtain ⟨pp,pa,pc,hcb,hfb,hwb,HL,hS,hW,hG⟩:=HW.out.inc HS.out (sign_ne HSn.out (by decide))
   replace HN_n:=HW.out.kN HZ_n hG HN_n
   replace HW:=hW
   replace HS:=hS
   clear hG
   go_wp2_with fail
   generalize w23.setCell _ _=w24 at *
   clear hcb hfb hwb
   go_at_call 72
   refine (HX.out w24 false r.tail HS.out HL.out HW.out.ps (HF.out.suf HS.out)).mono ?_
   rintro e w25 hp
   obtain ⟨n_y,k_y,t_y,v_y,a_y,l_y,c_y,β25,r25,rfl,HR_y,HN_y,HZ_y,HS_y,HL,hS,hW,hG⟩:=HW.out.okN HS.out hp
   replace HN_n:=HW.out.kN HZ_n hG HN_n
   replace HW:=hW
   replace HS:=hS
   clear hG hp
   replace HW:=HW.out.am w25.heap.size HN_y
   replace HN_n:=HW.out.nA HN_n
   replace HN_y:=HW.out.nA HN_y
   have hc26:=HW.out.c0
   have hc27:=HW.out.c1
   have hc28:=HW.out.c2
   replace HW:=HW.out.al (w25.heap.size+1) #[.int .i64 k0,.string t0,.int .i64 v0,.slice a0 l0 c0,.int .i64 k_y,.string t_y,.int .i64 v_y,.slice a_y l_y c_y]
   replace HN_n:=HW.out.nA HN_n
   replace HN_y:=HW.out.nA HN_y
   have hc29:=HW.out.c1
   have hc30:=HW.out.c2
   have hc31:=HW.out.c3
   have HM_a:=ħ (Wr.t0 HW.out (HN_n.out.less HZ_n.out) (HN_y.out.less HZ_y.out))
   have HZ_a:=zz w
   clear HN_n HZ_n HN_y HZ_y
   replace HW:=ħ HW.out.d0
   have HN_z:=ħ (HM_a.out.node 32 [] so)
   have HZ_z:=HZ_a
   clear HM_a HZ_a
   have hf32:=HW.out.f1
   replace HW:=ħ (HW.out.s1 (.int .i64 32) (.string ⟨#[]⟩) (.int .i64 so) ((.slice (some ⟨(w25.heap.size+1),0,none⟩) 2 2)))
   replace HN_z:=HW.out.ms1.N HN_z
   have hc33:=HW.out.c0
   have hc34:=HW.out.c1
   have hc35:=HW.out.c2
   have hf36:=HW.out.f2
   replace HW:=ħ (HW.out.s2 (.int .i64 32) (.string ⟨#[]⟩) (.int .i64 so) ((.slice (some ⟨(w25.heap.size+1),0,none⟩) 2 2)))
   replace HN_z:=HW.out.ms2.N HN_z
   go_wp2_with fail
   exact HW.out.e HW.out.b2 HS HZ_z HN_z (bi_one HJ.out HSn.out HR_y.out HL.out)
  have HNq:=ħ hq
  have hq1:(sg == 0)=false:=by simpa using hq
  have hq2:(sg != 0)=true:=by simpa using hq
  have hc40:=HW.out.c0
  have hc41:=HW.out.c1
  have hf42:=HW.out.f1
  replace HW:=ħ (HW.out.s1 (.int .i64 k0) (.string t0) (.int .i64 v0) (.slice a0 l0 c0))
  replace HN_n:=HW.out.ms1.N HN_n
  go_wp2_with fail
  exact HW.out.e HW.out.b1 HS HZ_n HN_n (bi_stop HJ.out HSn.out HNq.out HL.out)
theorem bound1_gd (hM:Mth 72 #[.pointer (some ⟨b,0,none⟩),.int .i64 2] (.bound 2) b g K ts) (hX:Nx 72 #[.pointer (some ⟨b,0,none⟩),.int .i64 2] (.bound 2) b g K ts):Gd 72 #[.pointer (some ⟨b,0,none⟩),.int .i64 1] (.bound 1) b g K ts:=by
 intro w h hF
 have HW:Hid (Wr w w b g K false ts []):=Wr.start h
 have HS:=su ts
 have HF:=ħ hF
 have HM:=ħ hM
 have HX:=ħ hX
 clear hM hX
 clear h hF
 go_enter Tryz.func72,Tryz.ntmps72
 replace HW:=HW.out.az w.heap.size
 go_wp2_with fail
 generalize w.alloc _=w1 at *
 go_at_call 72
 refine (HM.out w1 false HW.out.ps (HF.out.suf HS.out)).mono ?_
 rintro e w2 hp
 obtain ⟨n_x,k_x,t_x,v_x,a_x,l_x,c_x,β2,r2,rfl,HR_x,HN_x,HZ_x,HS_x,HL,hS,hW,-⟩:=HW.out.okN HS.out hp
 replace HW:=hW
 replace HS:=hS
 clear hp
 replace HW:=HW.out.am w2.heap.size HN_x
 replace HN_x:=HW.out.nA HN_x
 go_wp2_with fail
 generalize w2.alloc _=w3 at *
 go_loopw [] (fun wr=>∃ (r:List Tok) (β:Bool) (n:Nd) (k0:Int) (t0:ByteArray) (v0:Int) (a0:Option Addr) (l0 c0:Nat),Hid (Wr w wr b g K β r [(w2.heap.size,#[.int .i64 k0,.string t0,.int .i64 v0,.slice a0 l0 c0],24),(w.heap.size,#[.int .i64 0,.string ⟨#[]⟩,.int .i64 0,.slice none 0 0],24)])∧Hid (NdV wr (Av w.heap.size [(w2.heap.size,#[.int .i64 k0,.string t0,.int .i64 v0,.slice a0 l0 c0],24),(w.heap.size,#[.int .i64 0,.string ⟨#[]⟩,.int .i64 0,.slice none 0 0],24)]) n (.agg #[.int .i64 k0,.string t0,.int .i64 v0,.slice a0 l0 c0]))∧Hid (r <:+ ts)∧Hid (Pg β r ts)∧Hid (BI 1 (tk ts) n β r)) (fun wr=>leftR b wr)
 case atStart=>exact ⟨_,_,_,_,_,_,_,_,_,HW,HN_x.out.less HZ_x.out,HS,HL,bi_start (by decide) HR_x.out⟩
 case round=>
  obtain ⟨r,β,n,k0,t0,v0,a0,l0,c0,HW,HN_n,HS,HL,HI⟩:=hrel
  have HZ_n:=zz w
  have hmu:=HW.out.ps.leftR
  have HMu:=ħ hmu
  clear hmu
  rcases HI.out with ⟨rfl,hA⟩|⟨rfl,hJ⟩
  ·have HA:=ħ hA
   clear hA
   obtain ⟨pp21,pa21,pc21,hx1,hx2,hx3⟩:=HW.out.ps.blk
   have hc21:=cells_at hx2
   clear hx1 hx2 hx3
   have hc22:=HW.out.c0
   have hc23:=HW.out.c1
   have hf24:=HW.out.f1
   replace HW:=ħ (HW.out.s1 (.int .i64 k0) (.string t0) (.int .i64 v0) (.slice a0 l0 c0))
   replace HN_n:=HW.out.ms1.N HN_n
   go_wp2_with fail
   exact HW.out.e HW.out.b1 HS HZ_n HN_n (Or.inr (Or.inr ⟨rfl,rfl,HA.out⟩))
  have HJ:=ħ hJ
  clear hJ HI
  obtain ⟨pp21,pa21,pc21,hx1,hx2,hx3⟩:=HW.out.ps.blk
  have hc21:=cells_at hx2
  clear hx1 hx2 hx3
  go_wp2_with fail
  clear hc21
  go_at_call 31
  refine (HW.out.tx 0 (by omega)).mono ?_
  rintro e w22 ⟨rfl,hW,hG⟩
  replace HN_n:=(Mv.quiet hG).N HN_n
  replace HW:=hW
  clear hG
  rw [List.drop_zero]
  go_wp2_with fail
  go_at_call 102
  refine (T.sign_any (hd (tk r)) _).mono ?_
  rintro e w23 ⟨rfl,hG⟩
  replace HN_n:=(Mv.quiet hG).N HN_n
  replace HW:=ħ (HW.out.quiet hG)
  clear hG
  rcases hsn:sign (hd (tk r)) with ⟨sg,so⟩
  have HSn:=ħ hsn
  simp only [hsn]
  clear hsn
  by_cases hq:sg=1
  ·subst hq
   obtain ⟨pp,pa,pc,hcb,hfb,hwb,HL,hS,hW,hG⟩:=HW.out.inc HS.out (sign_ne HSn.out (by decide))
   replace HN_n:=HW.out.kN HZ_n hG HN_n
   replace HW:=hW
   replace HS:=hS
   clear hG
   go_wp2_with fail
   generalize w23.setCell _ _=w24 at *
   clear hcb hfb hwb
   go_at_call 72
   refine (HX.out w24 false r.tail HS.out HL.out HW.out.ps (HF.out.suf HS.out)).mono ?_
   rintro e w25 hp
   obtain ⟨n_y,k_y,t_y,v_y,a_y,l_y,c_y,β25,r25,rfl,HR_y,HN_y,HZ_y,HS_y,HL,hS,hW,hG⟩:=HW.out.okN HS.out hp
   replace HN_n:=HW.out.kN HZ_n hG HN_n
   replace HW:=hW
   replace HS:=hS
   clear hG hp
   replace HW:=HW.out.am w25.heap.size HN_y
   replace HN_n:=HW.out.nA HN_n
   replace HN_y:=HW.out.nA HN_y
   have hc26:=HW.out.c0
   have hc27:=HW.out.c1
   have hc28:=HW.out.c2
   replace HW:=HW.out.al (w25.heap.size+1) #[.int .i64 k0,.string t0,.int .i64 v0,.slice a0 l0 c0,.int .i64 k_y,.string t_y,.int .i64 v_y,.slice a_y l_y c_y]
   replace HN_n:=HW.out.nA HN_n
   replace HN_y:=HW.out.nA HN_y
   have hc29:=HW.out.c1
   have hc30:=HW.out.c2
   have hc31:=HW.out.c3
   have HM_a:=ħ (Wr.t0 HW.out (HN_n.out.less HZ_n.out) (HN_y.out.less HZ_y.out))
   have HZ_a:=zz w
   clear HN_n HZ_n HN_y HZ_y
   replace HW:=ħ HW.out.d0
   have HN_z:=ħ (HM_a.out.node 32 [] so)
   have HZ_z:=HZ_a
   clear HM_a HZ_a
   have hf32:=HW.out.f1
   replace HW:=ħ (HW.out.s1 (.int .i64 32) (.string ⟨#[]⟩) (.int .i64 so) ((.slice (some ⟨(w25.heap.size+1),0,none⟩) 2 2)))
   replace HN_z:=HW.out.ms1.N HN_z
   go_wp2_with fail
   generalize (((((w25.alloc _).alloc _).setCell _ _).setCell _ _).setCell _ _).setCell _ _=w33 at *
   clear hc26 hc27 hc28 hc29 hc30 hc31 hf32
   replace HN_z:=(Mv.d0 _).N HN_z
   replace HW:=ħ HW.out.d0
   go_roundw
   case rel=>exact ⟨_,_,_,_,_,_,_,_,_,HW,HN_z,HS,HL,bi_next (by decide) HJ.out HSn.out HR_y.out⟩
   case measure=>rw [HW.out.ps.leftR,HMu.out];exact less_left (Nat.le_trans HS_y.out.length_le (List.tail_suffix _).length_le) (fun e=>Nat.lt_of_lt_of_le (HR_y.out.prog e) (List.tail_suffix _).length_le)
  have HNq:=ħ hq
  have hq1:(sg == 1)=false:=by simpa using hq
  have hq2:(sg != 1)=true:=by simpa using hq
  have hc34:=HW.out.c0
  have hc35:=HW.out.c1
  have hf36:=HW.out.f1
  replace HW:=ħ (HW.out.s1 (.int .i64 k0) (.string t0) (.int .i64 v0) (.slice a0 l0 c0))
  replace HN_n:=HW.out.ms1.N HN_n
  go_wp2_with fail
  exact HW.out.e HW.out.b1 HS HZ_n HN_n (bi_stop HJ.out HSn.out HNq.out HL.out)
theorem bound2_gd (hM:Mth 72 #[.pointer (some ⟨b,0,none⟩),.int .i64 3] (.bound 3) b g K ts) (hX:Nx 72 #[.pointer (some ⟨b,0,none⟩),.int .i64 3] (.bound 3) b g K ts):Gd 72 #[.pointer (some ⟨b,0,none⟩),.int .i64 2] (.bound 2) b g K ts:=by
 intro w h hF
 have HW:Hid (Wr w w b g K false ts []):=Wr.start h
 have HS:=su ts
 have HF:=ħ hF
 have HM:=ħ hM
 have HX:=ħ hX
 clear hM hX
 clear h hF
 go_enter Tryz.func72,Tryz.ntmps72
 replace HW:=HW.out.az w.heap.size
 go_wp2_with fail
 generalize w.alloc _=w1 at *
 go_at_call 72
 refine (HM.out w1 false HW.out.ps (HF.out.suf HS.out)).mono ?_
 rintro e w2 hp
 obtain ⟨n_x,k_x,t_x,v_x,a_x,l_x,c_x,β2,r2,rfl,HR_x,HN_x,HZ_x,HS_x,HL,hS,hW,-⟩:=HW.out.okN HS.out hp
 replace HW:=hW
 replace HS:=hS
 clear hp
 replace HW:=HW.out.am w2.heap.size HN_x
 replace HN_x:=HW.out.nA HN_x
 go_wp2_with fail
 generalize w2.alloc _=w3 at *
 go_loopw [] (fun wr=>∃ (r:List Tok) (β:Bool) (n:Nd) (k0:Int) (t0:ByteArray) (v0:Int) (a0:Option Addr) (l0 c0:Nat),Hid (Wr w wr b g K β r [(w2.heap.size,#[.int .i64 k0,.string t0,.int .i64 v0,.slice a0 l0 c0],24),(w.heap.size,#[.int .i64 0,.string ⟨#[]⟩,.int .i64 0,.slice none 0 0],24)])∧Hid (NdV wr (Av w.heap.size [(w2.heap.size,#[.int .i64 k0,.string t0,.int .i64 v0,.slice a0 l0 c0],24),(w.heap.size,#[.int .i64 0,.string ⟨#[]⟩,.int .i64 0,.slice none 0 0],24)]) n (.agg #[.int .i64 k0,.string t0,.int .i64 v0,.slice a0 l0 c0]))∧Hid (r <:+ ts)∧Hid (Pg β r ts)∧Hid (BI 2 (tk ts) n β r)) (fun wr=>leftR b wr)
 case atStart=>exact ⟨_,_,_,_,_,_,_,_,_,HW,HN_x.out.less HZ_x.out,HS,HL,bi_start (by decide) HR_x.out⟩
 case round=>
  obtain ⟨r,β,n,k0,t0,v0,a0,l0,c0,HW,HN_n,HS,HL,HI⟩:=hrel
  have HZ_n:=zz w
  have hmu:=HW.out.ps.leftR
  have HMu:=ħ hmu
  clear hmu
  rcases HI.out with ⟨rfl,hA⟩|⟨rfl,hJ⟩
  ·have HA:=ħ hA
   clear hA
   obtain ⟨pp21,pa21,pc21,hx1,hx2,hx3⟩:=HW.out.ps.blk
   have hc21:=cells_at hx2
   clear hx1 hx2 hx3
   have hc22:=HW.out.c0
   have hc23:=HW.out.c1
   have hf24:=HW.out.f1
   replace HW:=ħ (HW.out.s1 (.int .i64 k0) (.string t0) (.int .i64 v0) (.slice a0 l0 c0))
   replace HN_n:=HW.out.ms1.N HN_n
   go_wp2_with fail
   exact HW.out.e HW.out.b1 HS HZ_n HN_n (Or.inr (Or.inr ⟨rfl,rfl,HA.out⟩))
  have HJ:=ħ hJ
  clear hJ HI
  obtain ⟨pp21,pa21,pc21,hx1,hx2,hx3⟩:=HW.out.ps.blk
  have hc21:=cells_at hx2
  clear hx1 hx2 hx3
  go_wp2_with fail
  clear hc21
  go_at_call 31
  refine (HW.out.tx 0 (by omega)).mono ?_
  rintro e w22 ⟨rfl,hW,hG⟩
  replace HN_n:=(Mv.quiet hG).N HN_n
  replace HW:=hW
  clear hG
  rw [List.drop_zero]
  go_wp2_with fail
  go_at_call 102
  refine (T.sign_any (hd (tk r)) _).mono ?_
  rintro e w23 ⟨rfl,hG⟩
  replace HN_n:=(Mv.quiet hG).N HN_n
  replace HW:=ħ (HW.out.quiet hG)
  clear hG
  rcases hsn:sign (hd (tk r)) with ⟨sg,so⟩
  have HSn:=ħ hsn
  simp only [hsn]
  clear hsn
  by_cases hq:sg=2
  ·subst hq
   obtain ⟨pp,pa,pc,hcb,hfb,hwb,HL,hS,hW,hG⟩:=HW.out.inc HS.out (sign_ne HSn.out (by decide))
   replace HN_n:=HW.out.kN HZ_n hG HN_n
   replace HW:=hW
   replace HS:=hS
   clear hG
   go_wp2_with fail
   generalize w23.setCell _ _=w24 at *
   clear hcb hfb hwb
   go_at_call 72
   refine (HX.out w24 false r.tail HS.out HL.out HW.out.ps (HF.out.suf HS.out)).mono ?_
   rintro e w25 hp
   obtain ⟨n_y,k_y,t_y,v_y,a_y,l_y,c_y,β25,r25,rfl,HR_y,HN_y,HZ_y,HS_y,HL,hS,hW,hG⟩:=HW.out.okN HS.out hp
   replace HN_n:=HW.out.kN HZ_n hG HN_n
   replace HW:=hW
   replace HS:=hS
   clear hG hp
   replace HW:=HW.out.am w25.heap.size HN_y
   replace HN_n:=HW.out.nA HN_n
   replace HN_y:=HW.out.nA HN_y
   have hc26:=HW.out.c0
   have hc27:=HW.out.c1
   have hc28:=HW.out.c2
   replace HW:=HW.out.al (w25.heap.size+1) #[.int .i64 k0,.string t0,.int .i64 v0,.slice a0 l0 c0,.int .i64 k_y,.string t_y,.int .i64 v_y,.slice a_y l_y c_y]
   replace HN_n:=HW.out.nA HN_n
   replace HN_y:=HW.out.nA HN_y
   have hc29:=HW.out.c1
   have hc30:=HW.out.c2
   have hc31:=HW.out.c3
   have HM_a:=ħ (Wr.t0 HW.out (HN_n.out.less HZ_n.out) (HN_y.out.less HZ_y.out))
   have HZ_a:=zz w
   clear HN_n HZ_n HN_y HZ_y
   replace HW:=ħ HW.out.d0
   have HN_z:=ħ (HM_a.out.node 32 [] so)
   have HZ_z:=HZ_a
   clear HM_a HZ_a
   have hf32:=HW.out.f1
   replace HW:=ħ (HW.out.s1 (.int .i64 32) (.string ⟨#[]⟩) (.int .i64 so) ((.slice (some ⟨(w25.heap.size+1),0,none⟩) 2 2)))
   replace HN_z:=HW.out.ms1.N HN_z
   go_wp2_with fail
   generalize (((((w25.alloc _).alloc _).setCell _ _).setCell _ _).setCell _ _).setCell _ _=w33 at *
   clear hc26 hc27 hc28 hc29 hc30 hc31 hf32
   replace HN_z:=(Mv.d0 _).N HN_z
   replace HW:=ħ HW.out.d0
   go_roundw
   case rel=>exact ⟨_,_,_,_,_,_,_,_,_,HW,HN_z,HS,HL,bi_next (by decide) HJ.out HSn.out HR_y.out⟩
   case measure=>rw [HW.out.ps.leftR,HMu.out];exact less_left (Nat.le_trans HS_y.out.length_le (List.tail_suffix _).length_le) (fun e=>Nat.lt_of_lt_of_le (HR_y.out.prog e) (List.tail_suffix _).length_le)
  have HNq:=ħ hq
  have hq1:(sg == 2)=false:=by simpa using hq
  have hq2:(sg != 2)=true:=by simpa using hq
  have hc34:=HW.out.c0
  have hc35:=HW.out.c1
  have hf36:=HW.out.f1
  replace HW:=ħ (HW.out.s1 (.int .i64 k0) (.string t0) (.int .i64 v0) (.slice a0 l0 c0))
  replace HN_n:=HW.out.ms1.N HN_n
  go_wp2_with fail
  exact HW.out.e HW.out.b1 HS HZ_n HN_n (bi_stop HJ.out HSn.out HNq.out HL.out)
end Go.Proofs.YthcfianhdkolhaaGreatDoor.Y.Z
