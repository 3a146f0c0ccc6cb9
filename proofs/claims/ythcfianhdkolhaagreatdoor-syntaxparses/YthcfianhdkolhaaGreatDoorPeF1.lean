/- PeD PeE PeF PeF0 PeF1 -/
import Derived.Test.YthcfianhdkolhaaGreatDoorPeC
import Derived.Test.YthcfianhdkolhaaGreatDoorSign
namespace Go.Proofs.YthcfianhdkolhaaGreatDoor.Y.Z
open Go.RowKit Go.Proofs.YthcfianhdkolhaaGreatDoor.T Go.Proofs.YthcfianhdkolhaaGreatDoor.S
open Go.Proofs.YthcfianhdkolhaaGreatDoor.X (Tok)
set_option linter.unusedVariables false
set_option linter.unusedSimpArgs false
set_option maxRecDepth 100000
set_option maxHeartbeats 2000000
variable {w w' : World} {b g : Nat} {K ts : List Tok} {β : Bool}
theorem Wr.e {fn:Func} {t:Tmp} {q0 l c s:Nat} {k v:Int} {x:ByteArray} {a:Option Addr} {A:Act} {w0:World} {L:List Bk} {q:List Tk→Res→Prop} {r:List Tok} {β0:Bool} {n:Nd} (h:Wr w0 w b g K β r L) (hb:w.heap[q0]?=some (.cells #[.int .i64 k,.string x,.int .i64 v,.slice a l c] 24 (0,0))) (hr:Hid (r<:+ts)) (hs:Hid (w0.heap.size≤s)) (hN:Hid (NdV w (Av s L) n (.agg #[.int .i64 k,.string x,.int .i64 v,.slice a l c]))) (hM:Md q n β0 ts β r) (hf:fn.results=#[.cell t 24]:=by rfl) (ht:A.tmps.getD t undef=.pointer (some ⟨q0,0,none⟩):=by rfl) (hd:A.defers=[]:=by rfl):bodyPost Tryz.prog fn (PoN q w0 b g K β0 ts) .ret A w:=bodyPost_ret (rt hf ht hb) hd (h.post hr.out hs.out hN.out hM)
theorem md_round {ts r1 r2 r3:List Tok} {β1 β2 β3:Bool} {n:Nd} (h1:Mu sLP false ts β1 r1) (h2:Md (R .expr) n β1 r1 β2 r2) (h3:Mu sRP β2 r2 β3 r3):Md (R .round) n false ts β3 r3:=by
 rcases h1.good with ⟨rfl,e1,rfl⟩|⟨rfl,e1,rfl⟩
 ·rcases h2.good with ⟨rfl,l2,e2⟩|⟨rfl,e2⟩
  ·rcases h3.good with ⟨rfl,e3,rfl⟩|⟨rfl,e3,rfl⟩
   ·refine mok ?_ ?_
    ·have:=(List.tail_suffix r2).length_le
     have:=(List.tail_suffix ts).length_le
     omega
    obtain ⟨n,e2⟩:=e2
    rw [tk_tail] at *
    exact ⟨n+1,by simp [P,F,must,e1,andN,e2,e3,okN]⟩
   refine mno ?_
   obtain ⟨n,e2⟩:=e2
   rw [tk_tail] at *
   exact ⟨n+1,by simp [P,F,must,e1,andN,e2,e3]⟩
  obtain ⟨rfl,rfl⟩:=h3.bad
  refine mno ?_
  obtain ⟨n,e2⟩:=e2
  rw [tk_tail] at *
  exact ⟨n+1,by simp [P,F,must,e1,andN,e2]⟩
 obtain ⟨rfl,rfl⟩:=h2.bad
 obtain ⟨rfl,rfl⟩:=h3.bad
 exact Or.inr (Or.inr ⟨rfl,rfl,1,by simp [P,F,must,e1]⟩)
theorem md_bad {q:List Tk→Res→Prop} {n:Nd} {β':Bool} {r:List Tok} (h:β'=true∧r=ts):Md q n true ts β' r:=Or.inl ⟨rfl,h.1,h.2⟩
theorem round_gd (hE:Nx 53 #[.pointer (some ⟨b,0,none⟩)] .expr b g K ts):Gd 73 #[.pointer (some ⟨b,0,none⟩)] .round b g K ts:=by
 intro w h hF
 have HW:Hid (Wr w w b g K false ts []):=Wr.start h
 have HS:=su ts
 have HF:=ħ hF
 have HE:=ħ hE
 clear hE
 clear h hF
 go_enter Tryz.func73,Tryz.ntmps73
 replace HW:=HW.out.az w.heap.size
 go_wp2_with fail
 generalize w.alloc _=w1 at *
 go_at_call 29
 refine (HW.out.mu HS.out (s:=sLP) (by decide)).mono ?_
 rintro e w2 ⟨u2,β2,r2,rfl,HQ1,HL,hS,hW,-⟩
 replace HW:=hW
 replace HS:=hS
 go_wp2_with fail
 go_at_call 53
 refine (HE.out w2 β2 r2 HS.out HL.out HW.out.ps (HF.out.suf HS.out)).mono ?_
 rintro e w3 hp
 obtain ⟨n_x,k_x,t_x,v_x,a_x,l_x,c_x,β3,r3,rfl,HR_x,HN_x,HZ_x,HS_x,HL,hS,hW,-⟩:=HW.out.okN HS.out hp
 replace HW:=hW
 replace HS:=hS
 clear hp
 replace HW:=HW.out.am w3.heap.size HN_x
 replace HN_x:=HW.out.nA HN_x
 go_wp2_with fail
 generalize w3.alloc _=w4 at *
 go_at_call 29
 refine (HW.out.mu HS.out (s:=sRP) (by decide)).mono ?_
 rintro e w5 ⟨u5,β5,r5,rfl,HQ2,HL,hS,hW,hG⟩
 replace HN_x:=HW.out.kN HZ_x hG HN_x
 replace HW:=hW
 replace HS:=hS
 clear hG
 have hc6:=HW.out.c0
 have hc7:=HW.out.c1
 have hf8:=HW.out.f1
 replace HW:=ħ (HW.out.s1 (.int .i64 k_x) (.string t_x) (.int .i64 v_x) (.slice a_x l_x c_x))
 replace HN_x:=HW.out.ms1.N HN_x
 go_wp2_with fail
 exact HW.out.e HW.out.b1 HS HZ_x HN_x (md_round HQ1.out HR_x.out HQ2.out)
theorem round_bad (hE:Bad 53 #[.pointer (some ⟨b,0,none⟩)] b g K):Bad 73 #[.pointer (some ⟨b,0,none⟩)] b g K:=by
 intro w ts h hF
 have HW:Hid (Wr w w b g K true ts []):=Wr.start h
 have HS:=su ts
 have HF:=ħ hF
 have HE:=ħ hE
 clear hE
 clear h hF
 go_enter Tryz.func73,Tryz.ntmps73
 replace HW:=HW.out.az w.heap.size
 go_wp2_with fail
 generalize w.alloc _=w1 at *
 go_at_call 29
 refine (HW.out.mu HS.out (s:=sLP) (by decide)).mono ?_
 rintro e w2 ⟨u2,β2,r2,rfl,HQ1,HL,hS,hW,-⟩
 replace HW:=hW
 replace HS:=hS
 obtain ⟨rfl,rfl⟩:=HQ1.out.bad
 go_wp2_with fail
 go_at_call 53
 refine (HE.out w2 r2 HW.out.ps (HF.out.suf HS.out)).mono ?_
 rintro e w3 hp
 obtain ⟨n_x,k_x,t_x,v_x,a_x,l_x,c_x,β3,r3,rfl,HR_x,HN_x,HZ_x,HS_x,HL,hS,hW,-⟩:=HW.out.okN HS.out hp
 replace HW:=hW
 replace HS:=hS
 clear hp
 replace HW:=HW.out.am w3.heap.size HN_x
 replace HN_x:=HW.out.nA HN_x
 go_wp2_with fail
 generalize w3.alloc _=w4 at *
 go_at_call 29
 refine (HW.out.mu HS.out (s:=sRP) (by decide)).mono ?_
 rintro e w5 ⟨u5,β5,r5,rfl,HQ2,HL,hS,hW,hG⟩
 replace HN_x:=HW.out.kN HZ_x hG HN_x
 replace HW:=hW
 replace HS:=hS
 clear hG
 have hc6:=HW.out.c0
 have hc7:=HW.out.c1
 have hf8:=HW.out.f1
 replace HW:=ħ (HW.out.s1 (.int .i64 k_x) (.string t_x) (.int .i64 v_x) (.slice a_x l_x c_x))
 replace HN_x:=HW.out.ms1.N HN_x
 go_wp2_with fail
 exact HW.out.e HW.out.b1 HS HZ_x HN_x (md_bad (by obtain ⟨rfl,rfl⟩:=HR_x.out.bad;exact HQ2.out.bad))
theorem md_int {ts:List Tok}   (hi:hd (tk ts)=sINT) :Md (R .typ) (.mk 9 [] 0 []) false ts false ts.tail:=by
 refine mok ?_ ?_
 ·have qh_hi:=tail_lt' (s:=sINT) (by decide) hi
  simp only [List.length_tail] at *
  omega
 try simp only [tk_tail] at *
 exact ⟨1,by simp [P,F,must,andN,andR,S.name,okN,hi]⟩
theorem md_long {ts:List Tok}   (hi:¬ hd (tk ts)=sINT) (hl:hd (tk ts)=sLONG) :Md (R .typ) (.mk 10 [] 0 []) false ts false ts.tail:=by
 refine mok ?_ ?_
 ·have qh_hl:=tail_lt' (s:=sLONG) (by decide) hl
  simp only [List.length_tail] at *
  omega
 try simp only [tk_tail] at *
 exact ⟨1,by simp [P,F,must,andN,andR,S.name,okN,hi,hl]⟩
theorem md_named {ts:List Tok} {r1:List Tok} {β1:Bool} {x:List UInt8}  (hi:¬ hd (tk ts)=sINT) (hl:¬ hd (tk ts)=sLONG) (hf:¬ hd (tk ts)=sFN) (h1:Na x false ts β1 r1):Md (R .typ) (.mk 11 x 0 []) false ts β1 r1:=by
 rcases h1.good with ⟨rfl,e1,rfl,rfl⟩|⟨rfl,e1,rfl,rfl⟩
 ·refine mok ?_ ?_
  ·have q1:=tail_lt' (nm_ne e1) rfl
   simp only [List.length_tail] at *
   omega
  try simp only [tk_tail] at *
  exact ⟨1,by simp [P,F,must,andN,andR,S.name,okN,hi,hl,hf,e1]⟩
 refine mno ?_
 try simp only [tk_tail] at *
 exact ⟨1,by simp [P,F,must,andN,andR,S.name,okN,hi,hl,hf,e1]⟩
theorem md_fn {ts:List Tok} {r1 r2:List Tok} {β1 β2:Bool} {l:List Nd} {d:Bool} {y:Nd}  (hi:¬ hd (tk ts)=sINT) (hl:¬ hd (tk ts)=sLONG) (hf:hd (tk ts)=sFN) (h1:Mw (R (.rows 0)) l d false ts.tail β1 r1) (h2:Md (R .typ) y β1 r1 β2 r2):Md (R .typ) (.mk 12 [] (b2n d) (l++[y])) false ts β2 r2:=by
 rcases h1.good with ⟨rfl,l1,ll1,e1⟩|⟨rfl,e1⟩
 ·rcases h2.good with ⟨rfl,l2,e2⟩|⟨rfl,e2⟩
  ·refine mok ?_ ?_
   ·have qh_hf:=tail_lt' (s:=sFN) (by decide) hf
    have q1:=l1
    have q2:=l2
    simp only [List.length_tail] at *
    omega
   obtain ⟨N0,e1,e2⟩:=both e1 e2
   try simp only [tk_tail] at *
   exact ⟨N0+1,by simp [P,F,must,andN,andR,S.name,okN,hi,hl,hf,e1,e2]⟩
  refine mno ?_
  obtain ⟨N0,e1,e2⟩:=both e1 e2
  try simp only [tk_tail] at *
  exact ⟨N0+1,by simp [P,F,must,andN,andR,S.name,okN,hi,hl,hf,e1,e2]⟩
 obtain ⟨rfl,rfl⟩:=h2.bad
 refine mno ?_
 obtain ⟨N0,e1⟩:=e1
 try simp only [tk_tail] at *
 exact ⟨N0+1,by simp [P,F,must,andN,andR,S.name,okN,hi,hl,hf,e1]⟩
theorem md_fn_no {ts:List Tok} {r1:List Tok} {β1:Bool} {l:List Nd} {d:Bool} {nn:Nd}  (hi:¬ hd (tk ts)=sINT) (hl:¬ hd (tk ts)=sLONG) (hf:hd (tk ts)=sFN) (h1:Mw (R (.rows 0)) l d false ts.tail β1 r1) (hb:β1=true):Md (R .typ) nn false ts β1 r1:=by
 rcases h1.good with ⟨rfl,l1,ll1,e1⟩|⟨rfl,e1⟩
 ·cases hb
 refine mno ?_
 obtain ⟨N0,e1⟩:=e1
 try simp only [tk_tail] at *
 exact ⟨N0+1,by simp [P,F,must,andN,andR,S.name,okN,hi,hl,hf,e1]⟩
theorem eat_tt {s:List UInt8} (h:Eat false ts s):hd (tk ts)=s:=h.2
theorem eat_ff {s:List UInt8} (h:¬ Eat false ts s):¬ hd (tk ts)=s:=fun e=>h ⟨rfl,e⟩
theorem typ_gd (hR:NxR 32 #[.pointer (some ⟨b,0,none⟩),.int .i64 0] (.rows 0) b g K ts) (hT:Nx 30 #[.pointer (some ⟨b,0,none⟩)] .typ b g K ts):Gd 30 #[.pointer (some ⟨b,0,none⟩)] .typ b g K ts:=by
 intro w h hF
 have HW:Hid (Wr w w b g K false ts []):=Wr.start h
 have HS:=su ts
 have HF:=ħ hF
 have HR:=ħ hR
 have HT:=ħ hT
 clear hR hT
 clear h hF
 go_enter Tryz.func30,Tryz.ntmps30
 replace HW:=HW.out.az w.heap.size
 go_wp2_with fail
 generalize w.alloc _=w1 at *
 by_cases hq:Eat false ts sINT
 ·have HE1:=ħ hq
  clear hq
  go_at_call 27
  refine (HW.out.eatY HS.out (s:=sINT) (by decide) HE1.out).mono ?_
  rintro e w2 ⟨rfl,HL,hS,hW,-⟩
  replace HW:=hW
  replace HS:=hS
  have HN_z:Hid (NdV w2 (Av w.heap.size [(w.heap.size,#[.int .i64 0,.string ⟨#[]⟩,.int .i64 0,.slice none 0 0],24)]) (.mk 9 [] 0 []) (.agg #[.int .i64 9,.string (str []),.int .i64 0,.slice none 0 0])):=NdV.bare 9 [] 0 none 0
  have HZ_z:=zz w
  have hc3:=HW.out.c0
  have hf4:=HW.out.f0
  replace HW:=ħ (HW.out.s0 (.int .i64 9) (.string ⟨#[]⟩) (.int .i64 0) (.slice none 0 0))
  replace HN_z:=HW.out.ms0.N HN_z
  go_wp2_with fail
  exact HW.out.e HW.out.b0 HS HZ_z HN_z (md_int (eat_tt HE1.out))
 have HE1:=ħ hq
 clear hq
 go_at_call 27
 refine (HW.out.eatN (s:=sINT) HE1.out).mono ?_
 rintro e w8 ⟨rfl,hW,-⟩
 replace HW:=hW
 go_wp2_with fail
 by_cases hq:Eat false ts sLONG
 ·have HE2:=ħ hq
  clear hq
  go_at_call 27
  refine (HW.out.eatY HS.out (s:=sLONG) (by decide) HE2.out).mono ?_
  rintro e w9 ⟨rfl,HL,hS,hW,-⟩
  replace HW:=hW
  replace HS:=hS
  have HN_z:Hid (NdV w9 (Av w.heap.size [(w.heap.size,#[.int .i64 0,.string ⟨#[]⟩,.int .i64 0,.slice none 0 0],24)]) (.mk 10 [] 0 []) (.agg #[.int .i64 10,.string (str []),.int .i64 0,.slice none 0 0])):=NdV.bare 10 [] 0 none 0
  have HZ_z:=zz w
  have hc10:=HW.out.c0
  have hf11:=HW.out.f0
  replace HW:=ħ (HW.out.s0 (.int .i64 10) (.string ⟨#[]⟩) (.int .i64 0) (.slice none 0 0))
  replace HN_z:=HW.out.ms0.N HN_z
  go_wp2_with fail
  exact HW.out.e HW.out.b0 HS HZ_z HN_z (md_long (eat_ff HE1.out) (eat_tt HE2.out))
 have HE2:=ħ hq
 clear hq
 go_at_call 27
 refine (HW.out.eatN (s:=sLONG) HE2.out).mono ?_
 rintro e w15 ⟨rfl,hW,-⟩
 replace HW:=hW
 go_wp2_with fail
 by_cases hq:Eat false ts sFN
 ·have HE3:=ħ hq
  clear hq
  go_at_call 27
  refine (HW.out.eatY HS.out (s:=sFN) (by decide) HE3.out).mono ?_
  rintro e w16 ⟨rfl,HL,hS,hW,-⟩
  replace HW:=hW
  replace HS:=hS
  go_wp2_with fail
  go_at_call 32
  refine (HR.out w16 false ts.tail HS.out HL.out HW.out.ps (HF.out.suf HS.out)).mono ?_
  rintro e w17 hp
  obtain ⟨l_l,v_l,d_l,β17,r17,rfl,HR_l,HG_l,HI_l,HM_l,HZ_l,HS_l,HL,hS,hW,-⟩:=HW.out.okR HS.out hp
  replace HW:=hW
  replace HS:=hS
  clear hp
  cases d_l with
  | false=>
   replace HW:=HW.out.al w17.heap.size #[.int .i64 12,.string ⟨#[]⟩,.int .i64 0,.slice none 0 0]
   replace HM_l:=HW.out.rA HM_l
   obtain ⟨pp18,pa18,pc18,hx1,hx2,hx3⟩:=HW.out.ps.blk
   have hc18:=cells_at hx2
   clear hx1 hx2 hx3
   cases β17 with
   | true=>
    have HN_z:Hid (NdV (w17.alloc (.cells #[.int .i64 12,.string ⟨#[]⟩,.int .i64 0,.slice none 0 0] 24)) (Av w.heap.size [(w17.heap.size,#[.int .i64 12,.string ⟨#[]⟩,.int .i64 0,.slice none 0 0],24),(w.heap.size,#[.int .i64 0,.string ⟨#[]⟩,.int .i64 0,.slice none 0 0],24)]) (.mk 12 [] 0 []) (.agg #[.int .i64 12,.string (str []),.int .i64 0,.slice none 0 0])):=NdV.bare 12 [] 0 none 0
    have HZ_z:=zz w
    have hc19:=HW.out.c0
    have hc20:=HW.out.c1
    have hf21:=HW.out.f1
    replace HW:=ħ (HW.out.s1 (.int .i64 12) (.string ⟨#[]⟩) (.int .i64 0) (.slice none 0 0))
    replace HN_z:=HW.out.ms1.N HN_z
    go_wp2_with fail
    exact HW.out.e HW.out.b1 HS HZ_z HN_z (md_fn_no (eat_ff HE1.out) (eat_ff HE2.out) (eat_tt HE3.out) HR_l.out rfl)
   | false=>
    have hc25:=HW.out.c0
    go_wp2_with fail
    generalize w17.alloc _=w26 at *
    clear hc18 hc25
    go_at_call 30
    refine (HT.out w26 false r17 HS.out HL.out HW.out.ps (HF.out.suf HS.out)).mono ?_
    rintro e w27 hp
    obtain ⟨n_y,k_y,t_y,v_y,a_y,l_y,c_y,β27,r27,rfl,HR_y,HN_y,HZ_y,HS_y,HL,hS,hW,hG⟩:=HW.out.okN HS.out hp
    have HO_l:=ħ HM_l.out.lt
    replace HM_l:=HW.out.kR HZ_l hG HM_l
    replace HW:=hW
    replace HS:=hS
    clear hG hp
    replace HW:=HW.out.am w27.heap.size HN_y
    replace HN_y:=HW.out.nA HN_y
    replace HM_l:=HW.out.rA HM_l
    replace HW:=HW.out.am (w27.heap.size+1) HN_y
    replace HN_y:=HW.out.nA HN_y
    replace HM_l:=HW.out.rA HM_l
    have hc28:=HW.out.c0
    have hc29:=HW.out.c1
    have hc30:=HW.out.c2
    have hf31:=HW.out.f2
    go_wp2_with (at_builtin;refine app_l0 _ _ rfl rfl HW.out HM_l.out HN_y.out HZ_l.out HZ_y.out HO_l.out (by have:=HG_l.out;omega) ⟨rfl,rfl,rfl,rfl⟩ ?e1 ?e2 ?_;(case e1=>rfl);(case e2=>rfl);skip)
    intro g32 c32 w32 hW hM hG
    clear HM_l HN_y HZ_l HZ_y HO_l
    replace HW:=ħ hW
    have HM_m:=ħ hM
    have HZ_m:=zz w
    clear hW hM hG
    have hc33:=HW.out.c1
    have hf34:=HW.out.f1
    replace HW:=ħ (HW.out.p13 ((.slice (some ⟨g32,0,none⟩) (l_l.length+1) c32)))
    replace HM_m:=HW.out.mp13.R HM_m
    have hc35:=HW.out.c1
    have hf36:=HW.out.f2
    have HN_z:=ħ (HM_m.out.node 12 [] 0)
    have HZ_z:=HZ_m
    clear HM_m HZ_m
    have hc37:=HW.out.c0
    have hc38:=HW.out.c1
    have hc39:=HW.out.c2
    have hf40:=HW.out.f2
    replace HW:=ħ (HW.out.s2 (.int .i64 12) (.string ⟨#[]⟩) (.int .i64 0) ((.slice (some ⟨g32,0,none⟩) (l_l.length+1) c32)))
    replace HN_z:=HW.out.ms2.N HN_z
    go_wp2_with fail
    exact HW.out.e HW.out.b2 HS HZ_z HN_z (md_fn (eat_ff HE1.out) (eat_ff HE2.out) (eat_tt HE3.out) HR_l.out HR_y.out)
  | true=>
   replace HW:=HW.out.al w17.heap.size #[.int .i64 12,.string ⟨#[]⟩,.int .i64 1,.slice none 0 0]
   replace HM_l:=HW.out.rA HM_l
   obtain ⟨pp44,pa44,pc44,hx1,hx2,hx3⟩:=HW.out.ps.blk
   have hc44:=cells_at hx2
   clear hx1 hx2 hx3
   cases β17 with
   | true=>
    have HN_z:Hid (NdV (w17.alloc (.cells #[.int .i64 12,.string ⟨#[]⟩,.int .i64 1,.slice none 0 0] 24)) (Av w.heap.size [(w17.heap.size,#[.int .i64 12,.string ⟨#[]⟩,.int .i64 1,.slice none 0 0],24),(w.heap.size,#[.int .i64 0,.string ⟨#[]⟩,.int .i64 0,.slice none 0 0],24)]) (.mk 12 [] 1 []) (.agg #[.int .i64 12,.string (str []),.int .i64 1,.slice none 0 0])):=NdV.bare 12 [] 1 none 0
    have HZ_z:=zz w
    have hc45:=HW.out.c0
    have hc46:=HW.out.c1
    have hf47:=HW.out.f1
    replace HW:=ħ (HW.out.s1 (.int .i64 12) (.string ⟨#[]⟩) (.int .i64 1) (.slice none 0 0))
    replace HN_z:=HW.out.ms1.N HN_z
    go_wp2_with fail
    exact HW.out.e HW.out.b1 HS HZ_z HN_z (md_fn_no (eat_ff HE1.out) (eat_ff HE2.out) (eat_tt HE3.out) HR_l.out rfl)
   | false=>
    have hc51:=HW.out.c0
    go_wp2_with fail
    generalize w17.alloc _=w52 at *
    clear hc44 hc51
    go_at_call 30
    refine (HT.out w52 false r17 HS.out HL.out HW.out.ps (HF.out.suf HS.out)).mono ?_
    rintro e w53 hp
    obtain ⟨n_y,k_y,t_y,v_y,a_y,l_y,c_y,β53,r53,rfl,HR_y,HN_y,HZ_y,HS_y,HL,hS,hW,hG⟩:=HW.out.okN HS.out hp
    have HO_l:=ħ HM_l.out.lt
    replace HM_l:=HW.out.kR HZ_l hG HM_l
    replace HW:=hW
    replace HS:=hS
    clear hG hp
    replace HW:=HW.out.am w53.heap.size HN_y
    replace HN_y:=HW.out.nA HN_y
    replace HM_l:=HW.out.rA HM_l
    replace HW:=HW.out.am (w53.heap.size+1) HN_y
    replace HN_y:=HW.out.nA HN_y
    replace HM_l:=HW.out.rA HM_l
    have hc54:=HW.out.c0
    have hc55:=HW.out.c1
    have hc56:=HW.out.c2
    have hf57:=HW.out.f2
    go_wp2_with (at_builtin;refine app_l0 _ _ rfl rfl HW.out HM_l.out HN_y.out HZ_l.out HZ_y.out HO_l.out (by have:=HG_l.out;omega) ⟨rfl,rfl,rfl,rfl⟩ ?e1 ?e2 ?_;(case e1=>rfl);(case e2=>rfl);skip)
    intro g58 c58 w58 hW hM hG
    clear HM_l HN_y HZ_l HZ_y HO_l
    replace HW:=ħ hW
    have HM_m:=ħ hM
    have HZ_m:=zz w
    clear hW hM hG
    have hc59:=HW.out.c1
    have hf60:=HW.out.f1
    replace HW:=ħ (HW.out.p13 ((.slice (some ⟨g58,0,none⟩) (l_l.length+1) c58)))
    replace HM_m:=HW.out.mp13.R HM_m
    have hc61:=HW.out.c1
    have hf62:=HW.out.f2
    have HN_z:=ħ (HM_m.out.node 12 [] 1)
    have HZ_z:=HZ_m
    clear HM_m HZ_m
    have hc63:=HW.out.c0
    have hc64:=HW.out.c1
    have hc65:=HW.out.c2
    have hf66:=HW.out.f2
    replace HW:=ħ (HW.out.s2 (.int .i64 12) (.string ⟨#[]⟩) (.int .i64 1) ((.slice (some ⟨g58,0,none⟩) (l_l.length+1) c58)))
    replace HN_z:=HW.out.ms2.N HN_z
    go_wp2_with fail
    exact HW.out.e HW.out.b2 HS HZ_z HN_z (md_fn (eat_ff HE1.out) (eat_ff HE2.out) (eat_tt HE3.out) HR_l.out HR_y.out)
 have HE3:=ħ hq
 clear hq
 go_at_call 27
 refine (HW.out.eatN (s:=sFN) HE3.out).mono ?_
 rintro e w70 ⟨rfl,hW,-⟩
 replace HW:=hW
 go_wp2_with fail
 go_at_call 28
 refine (HW.out.nm HS.out HF.out).mono ?_
 rintro e w71 ⟨x_x,β71,r71,rfl,HQ_x,HL,hS,hW,-⟩
 replace HW:=hW
 replace HS:=hS
 have HN_z:Hid (NdV w71 (Av w.heap.size [(w.heap.size,#[.int .i64 0,.string ⟨#[]⟩,.int .i64 0,.slice none 0 0],24)]) (.mk 11 x_x 0 []) (.agg #[.int .i64 11,.string (str x_x),.int .i64 0,.slice none 0 0])):=NdV.bare 11 x_x 0 none 0
 have HZ_z:=zz w
 have hc72:=HW.out.c0
 have hf73:=HW.out.f0
 replace HW:=ħ (HW.out.s0 (.int .i64 11) (.string (str x_x)) (.int .i64 0) (.slice none 0 0))
 replace HN_z:=HW.out.ms0.N HN_z
 go_wp2_with fail
 exact HW.out.e HW.out.b0 HS HZ_z HN_z (md_named (eat_ff HE1.out) (eat_ff HE2.out) (eat_ff HE3.out) HQ_x.out)
theorem typ_bad :Bad 30 #[.pointer (some ⟨b,0,none⟩)] b g K:=by
 intro w ts h hF
 have HW:Hid (Wr w w b g K true ts []):=Wr.start h
 have HS:=su ts
 have HF:=ħ hF
 clear h hF
 go_enter Tryz.func30,Tryz.ntmps30
 replace HW:=HW.out.az w.heap.size
 go_wp2_with fail
 generalize w.alloc _=w1 at *
 go_at_call 27
 refine (HW.out.eatN (s:=sINT) not_eat).mono ?_
 rintro e w2 ⟨rfl,hW,-⟩
 replace HW:=hW
 go_wp2_with fail
 go_at_call 27
 refine (HW.out.eatN (s:=sLONG) not_eat).mono ?_
 rintro e w3 ⟨rfl,hW,-⟩
 replace HW:=hW
 go_wp2_with fail
 go_at_call 27
 refine (HW.out.eatN (s:=sFN) not_eat).mono ?_
 rintro e w4 ⟨rfl,hW,-⟩
 replace HW:=hW
 go_wp2_with fail
 go_at_call 28
 refine (HW.out.nm HS.out HF.out).mono ?_
 rintro e w5 ⟨x_x,β5,r5,rfl,HQ_x,HL,hS,hW,-⟩
 replace HW:=hW
 replace HS:=hS
 have HN_z:Hid (NdV w5 (Av w.heap.size [(w.heap.size,#[.int .i64 0,.string ⟨#[]⟩,.int .i64 0,.slice none 0 0],24)]) (.mk 11 x_x 0 []) (.agg #[.int .i64 11,.string (str x_x),.int .i64 0,.slice none 0 0])):=NdV.bare 11 x_x 0 none 0
 have HZ_z:=zz w
 have hc6:=HW.out.c0
 have hf7:=HW.out.f0
 replace HW:=ħ (HW.out.s0 (.int .i64 11) (.string (str x_x)) (.int .i64 0) (.slice none 0 0))
 replace HN_z:=HW.out.ms0.N HN_z
 go_wp2_with fail
 exact HW.out.e HW.out.b0 HS HZ_z HN_z (md_bad (by obtain ⟨h1,h2,_⟩:=HQ_x.out.bad;exact ⟨h1,h2⟩))
def RI (what:Nat) (T:List Tk) (acc:List Nd) (d m β:Bool) (r:List Tok):Prop:=(β=true∧R (.rows what) T (.no (tk r)))∨(β=false∧m=true∧d=false∧∀ q,R (.rowsL what acc) (tk r) q→R (.rows what) T q)∨(β=false∧m=false∧∀ q,must sRP (tk r) (fun r=>some (.ok (.row acc d) r))=some q→R (.rows what) T q)
def LI (ts:List Tok) (n:Nat) (β:Bool) (r:List Tok):Prop:=(β=false→n+r.length+1≤ts.length)∧n≤ts.length
theorem Rs.short (h:Rs w b g K β ts):ts.length≤4000:=by
 obtain ⟨p,a,c,h1,_⟩:=h.blk
 have:=h.len
 rw [h1] at this
 simp at this
 omega
theorem ri_start {what:Nat} {r1:List Tok} {β1:Bool} (h1:Mu sLP false ts β1 r1) (h2:¬ Eat β1 r1 sRP):RI what (tk ts) [] false true β1 r1:=by
 rcases h1.good with ⟨rfl,e1,rfl⟩|⟨rfl,e1,rfl⟩
 ·have e2:¬ hd (tk ts.tail)=sRP:=fun e=>h2 ⟨rfl,e⟩
  refine Or.inr (Or.inl ⟨rfl,rfl,rfl,fun q k=>?_⟩)
  obtain ⟨n,k⟩:=k
  simp only [tk_tail] at *
  exact ⟨n+1,by simp [P,F,must,e1,e2,k]⟩
 exact Or.inl ⟨rfl,1,by simp [P,F,must,e1]⟩
theorem li_start {r1:List Tok} {β1:Bool} (h1:Mu sLP false ts β1 r1):LI ts 0 β1 r1:=⟨fun e=>by have:=h1.prog (by decide) e;omega,Nat.zero_le _⟩
theorem mw_empty {what:Nat} {r1:List Tok} {β1:Bool} (h1:Mu sLP false ts β1 r1) (h2:Eat β1 r1 sRP):Mw (R (.rows what)) [] false false ts false r1.tail:=by
 obtain ⟨rfl,e2⟩:=h2
 rcases h1.good with ⟨_,e1,rfl⟩|⟨h,_⟩
 ·have q1:=tail_lt' (s:=sLP) (by decide) e1
  have q2:=(List.tail_suffix ts.tail).length_le
  refine Or.inr (Or.inl ⟨rfl,rfl,by omega,by simp only [List.length_nil];omega,?_⟩)
  simp only [tk_tail] at *
  exact ⟨1,by simp [P,F,must,e1,e2]⟩
 cases h
theorem ri_dots {what:Nat} {T:List Tk} {acc:List Nd} {r:List Tok} (hw:what<2) (J:∀ q,R (.rowsL what acc) (tk r) q→R (.rows what) T q) (h:Eat false r sDOTS):RI what T acc true false false r.tail:=by
 have e:=h.2
 refine Or.inr (Or.inr ⟨rfl,rfl,fun q k=>J q ⟨1,?_⟩⟩)
 simp only [tk_tail] at *
 simp only [P,F,e,hw,true_and,if_true,k]
theorem ri_yes {what:Nat} {T:List Tk} {acc:List Nd} {r r1:List Tok} {β1:Bool} {x:Nd} (hd':¬ (what<2∧hd (tk r)=sDOTS)) (J:∀ q,R (.rowsL what acc) (tk r) q→R (.rows what) T q) (h1:Md (R (.item what)) x false r β1 r1) (h2:Eat β1 r1 sCOMMA):RI what T (acc++[x]) false true false r1.tail:=by
 obtain ⟨rfl,e2⟩:=h2
 rcases h1.good with ⟨_,_,e1⟩|⟨h,_⟩
 ·refine Or.inr (Or.inl ⟨rfl,rfl,rfl,fun q k=>J q ?_⟩)
  obtain ⟨n,e1,k⟩:=both e1 k
  simp only [tk_tail] at *
  exact ⟨n+1,by simp only [P,F,if_neg hd',andN,e1,e2,if_true,k]⟩
 cases h
theorem ri_no {what:Nat} {T:List Tk} {acc:List Nd} {r r1:List Tok} {β1:Bool} {x:Nd} (hd':¬ (what<2∧hd (tk r)=sDOTS)) (J:∀ q,R (.rowsL what acc) (tk r) q→R (.rows what) T q) (h1:Md (R (.item what)) x false r β1 r1) (h2:¬ Eat β1 r1 sCOMMA):RI what T (acc++[x]) false false β1 r1:=by
 rcases h1.good with ⟨rfl,_,e1⟩|⟨rfl,e1⟩
 ·have e2:¬ hd (tk r1)=sCOMMA:=fun e=>h2 ⟨rfl,e⟩
  refine Or.inr (Or.inr ⟨rfl,rfl,fun q k=>J q ?_⟩)
  obtain ⟨n,e1⟩:=e1
  exact ⟨n+1,by simp only [P,F,if_neg hd',andN,e1,if_neg e2,k]⟩
 refine Or.inl ⟨rfl,J _ ?_⟩
 obtain ⟨n,e1⟩:=e1
 exact ⟨n+1,by simp only [P,F,if_neg hd',andN,e1]⟩
theorem li_next {what:Nat} {acc:List Nd} {r r1 r2:List Tok} {β1:Bool} {x:Nd} (h:LI ts acc.length false r) (h1:Md (R (.item what)) x false r β1 r1) (hs:r2 <:+ r1):LI ts (acc++[x]).length β1 r2:=by
 have a:=h.1 rfl
 have c:=hs.length_le
 refine ⟨fun e=>?_,?_⟩
 ·have d:=h1.prog e
  rw [List.length_append,List.length_singleton]
  omega
 rw [List.length_append,List.length_singleton]
 omega
theorem li_nextc {what:Nat} {acc:List Nd} {r r1:List Tok} {β1:Bool} {x:Nd} {s:List UInt8} (h:LI ts acc.length false r) (h1:Md (R (.item what)) x false r β1 r1) (h2:Eat β1 r1 s):LI ts (acc++[x]).length false r1.tail:=by
 obtain ⟨rfl,_⟩:=h2
 exact li_next h h1 (List.tail_suffix _)
theorem ri_end {what:Nat} {l:List Nd} {d m β β':Bool} {r r':List Tok} (h:RI what (tk ts) l d m β r) (hm:m=true→β=true) (hl:LI ts l.length β r) (h1:Mu sRP β r β' r'):Mw (R (.rows what)) l d false ts β' r':=by
 rcases h with ⟨rfl,e⟩|⟨rfl,rfl,_⟩|⟨rfl,rfl,e⟩
 ·obtain ⟨rfl,rfl⟩:=h1.bad
  exact Or.inr (Or.inr ⟨rfl,rfl,e⟩)
 ·cases hm rfl
 have hl1:=hl.1 rfl
 rcases h1.good with ⟨rfl,e1,rfl⟩|⟨rfl,e1,rfl⟩
 ·have:=(List.tail_suffix r).length_le
  refine Or.inr (Or.inl ⟨rfl,rfl,by omega,by omega,?_⟩)
  rw [tk_tail]
  exact e _ (by simp [must,e1])
 exact Or.inr (Or.inr ⟨rfl,rfl,e _ (by simp [must,e1])⟩)
theorem item0 {n:Nd} {β β':Bool} {r r':List Tok} (h:Md (R .typ) n β r β' r'):Md (R (.item 0)) n β r β' r':=by
 rcases h with h|⟨h1,h2,h3,n,e⟩|⟨h1,h2,n,e⟩
 ·exact Or.inl h
 ·exact Or.inr (Or.inl ⟨h1,h2,h3,n+1,by simp [P,F,e]⟩)
 exact Or.inr (Or.inr ⟨h1,h2,n+1,by simp [P,F,e]⟩)
theorem item2 {n:Nd} {β β':Bool} {r r':List Tok} (h:Md (R .expr) n β r β' r'):Md (R (.item 2)) n β r β' r':=by
 rcases h with h|⟨h1,h2,h3,n,e⟩|⟨h1,h2,n,e⟩
 ·exact Or.inl h
 ·exact Or.inr (Or.inl ⟨h1,h2,h3,n+1,by simp [P,F,e]⟩)
 exact Or.inr (Or.inr ⟨h1,h2,n+1,by simp [P,F,e]⟩)
theorem item1 {ts:List Tok} {r1 r2:List Tok} {β1 β2:Bool} {t:Nd} {x:List UInt8}   (h1:Md (R .typ) t false ts β1 r1) (h2:Na x β1 r1 β2 r2):Md (R (.item 1)) (.mk 8 x 0 [t]) false ts β2 r2:=by
 rcases h1.good with ⟨rfl,l1,e1⟩|⟨rfl,e1⟩
 ·rcases h2.good with ⟨rfl,e2,rfl,rfl⟩|⟨rfl,e2,rfl,rfl⟩
  ·refine mok ?_ ?_
   ·have q1:=l1
    have q2:=tail_lt' (nm_ne e2) rfl
    simp only [List.length_tail] at *
    omega
   obtain ⟨N0,e1⟩:=e1
   try simp only [tk_tail] at *
   exact ⟨N0+1,by simp [P,F,must,andN,andR,S.name,okN,e2,e1]⟩
  refine mno ?_
  obtain ⟨N0,e1⟩:=e1
  try simp only [tk_tail] at *
  exact ⟨N0+1,by simp [P,F,must,andN,andR,S.name,okN,e2,e1]⟩
 obtain ⟨rfl,rfl,rfl⟩:=h2.bad
 refine mno ?_
 obtain ⟨N0,e1⟩:=e1
 try simp only [tk_tail] at *
 exact ⟨N0+1,by simp [P,F,must,andN,andR,S.name,okN,e1]⟩
theorem rows_bad (what:Int):BadR 32 #[.pointer (some ⟨b,0,none⟩),.int .i64 what] b g K:=by
 intro w ts h hF
 have HW:Hid (Wr w w b g K true ts []):=Wr.start h
 have HS:=su ts
 have HF:=ħ hF
 clear h hF
 go_enter Tryz.func32,Tryz.ntmps32
 go_wp2_with fail
 go_at_call 29
 refine (HW.out.mu HS.out (s:=sLP) (by decide)).mono ?_
 rintro e w1 ⟨mv1,β1,r1,rfl,HQ1,HL,hS,hW,-⟩
 replace HW:=hW
 replace HS:=hS
 obtain ⟨rfl,rfl⟩:=HQ1.out.bad
 go_wp2_with fail
 go_at_call 27
 refine (HW.out.eatN (s:=sRP) not_eat).mono ?_
 rintro e w2 ⟨rfl,hW,-⟩
 replace HW:=hW
 go_wp2_with fail
 go_loopw [6,7,8] (fun v6 v7 v8 wr=>v6=.slice none 0 0∧v7=.bool false∧v8=.bool true∧Hid (Wr w wr b g K true r1 [])) (fun _ _ _ wr=>leftR b wr)
 case atStart=>exact ⟨rfl,rfl,rfl,HW⟩
 case round=>
  obtain ⟨rfl,rfl,rfl,HW⟩:=hrel
  obtain ⟨pp21,pa21,pc21,hx1,hx2,hx3⟩:=HW.out.ps.blk
  have hc21:=cells_at hx2
  clear hx1 hx2 hx3
  go_wp2_with fail
  clear hc21
  go_at_call 29
  refine (HW.out.mu HS.out (s:=sRP) (by decide)).mono ?_
  rintro e w22 ⟨mv22,β22,r22,rfl,HQ2,HL,hS,hW,-⟩
  replace HW:=hW
  replace HS:=hS
  go_wp2_with fail
  refine bodyPost_ret (v:=.tuple #[.slice none 0 0,.bool false]) (by simp [results,Tryz.results32,go_sem]) rfl ?_
  exact HW.out.postR HS.out (Nat.le_refl _) (RowN.nil _ _) (by simp) (fun _=>rfl) (Or.inl ⟨rfl,HQ2.out.bad.1,HQ2.out.bad.2,rfl⟩)
theorem rows0_gd (hT:Nx 30 #[.pointer (some ⟨b,0,none⟩)] .typ b g K ts):GdR 32 #[.pointer (some ⟨b,0,none⟩),.int .i64 0] (.rows 0) b g K ts:=by
 intro w h hF
 have HW:Hid (Wr w w b g K false ts []):=Wr.start h
 have HS:=su ts
 have HF:=ħ hF
 have HT:=ħ hT
 have HK:Hid (ts.length≤4000):=h.short
 clear hT
 clear h hF
 go_enter Tryz.func32,Tryz.ntmps32
 go_wp2_with fail
 go_at_call 29
 refine (HW.out.mu HS.out (s:=sLP) (by decide)).mono ?_
 rintro e w1 ⟨mv1,β1,r1,rfl,HQ1,HL,hS,hW,-⟩
 replace HW:=hW
 replace HS:=hS
 go_wp2_with fail
 by_cases hq:Eat β1 r1 sRP
 ·have HQ2:=ħ hq
  clear hq
  go_at_call 27
  refine (HW.out.eatY HS.out (s:=sRP) (by decide) HQ2.out).mono ?_
  rintro e w2 ⟨rfl,HL,hS,hW,-⟩
  replace HW:=hW
  replace HS:=hS
  go_wp2_with fail
  refine bodyPost_ret (v:=.tuple #[.slice none 0 0,.bool false]) (by simp [results,Tryz.results32,go_sem]) rfl ?_
  exact HW.out.postR HS.out (Nat.le_refl _) (RowN.nil _ _) (by simp) (fun _=>rfl) (mw_empty HQ1.out HQ2.out)
 have HQ2:=ħ hq
 clear hq
 go_at_call 27
 refine (HW.out.eatN (s:=sRP) HQ2.out).mono ?_
 rintro e w3 ⟨rfl,hW,-⟩
 replace HW:=hW
 go_wp2_with fail
 go_loopw [6,7,8] (fun v6 v7 v8 wr=>∃ (r:List Tok) (β:Bool) (l:List Nd) (d m:Bool),v7=.bool d∧v8=.bool m∧Hid (Wr w wr b g K β r [])∧Hid (RowN wr (Av w.heap.size []) v6 l)∧Hid (r <:+ ts)∧Hid (Pg β r ts)∧Hid (l=[]→v6=.slice none 0 0)∧Hid (LI ts l.length β r)∧Hid (RI 0 (tk ts) l d m β r)) (fun _ _ _ wr=>leftR b wr)
 case atStart=>exact ⟨_,_,[],_,_,rfl,rfl,HW,RowN.nil _ _,HS,HL,(fun _=>rfl),li_start HQ1.out,ri_start HQ1.out HQ2.out⟩
 case round=>
  obtain ⟨r,β,l,d,m,rfl,rfl,HW,HM_l,HS,HL,HNi,HLi,HI⟩:=hrel
  have HZ_l:=zz w
  have HG_l:Hid (l.length≤4000):=Nat.le_trans HLi.out.2 HK.out
  have hmu:=HW.out.ps.leftR
  have HMu:=ħ hmu
  clear hmu
  rcases HI.out with ⟨rfl,hA⟩|⟨rfl,rfl,rfl,hJ⟩|⟨rfl,rfl,hC⟩
  ·clear hA
   cases m with
   | false=>
    obtain ⟨pp21,pa21,pc21,hx1,hx2,hx3⟩:=HW.out.ps.blk
    have hc21:=cells_at hx2
    clear hx1 hx2 hx3
    go_wp2_with fail
    clear hc21
    go_at_call 29
    refine (HW.out.mu HS.out (s:=sRP) (by decide)).mono ?_
    rintro e w22 ⟨mv22,β22,r22,rfl,HQ3,HL,hS,hW,hG⟩
    replace HM_l:=HW.out.kR HZ_l hG HM_l
    replace HW:=hW
    replace HS:=hS
    clear hG
    go_wp2_with fail
    refine bodyPost_ret (v:=.tuple #[u6,.bool d]) (by simp [results,Tryz.results32,go_sem]) rfl ?_
    exact HW.out.postR HS.out HZ_l.out HM_l.out HG_l.out HNi.out (ri_end HI.out (fun _=>rfl) HLi.out HQ3.out)
   | true=>
    obtain ⟨pp21,pa21,pc21,hx1,hx2,hx3⟩:=HW.out.ps.blk
    have hc21:=cells_at hx2
    clear hx1 hx2 hx3
    go_wp2_with fail
    clear hc21
    go_at_call 29
    refine (HW.out.mu HS.out (s:=sRP) (by decide)).mono ?_
    rintro e w22 ⟨mv22,β22,r22,rfl,HQ3,HL,hS,hW,hG⟩
    replace HM_l:=HW.out.kR HZ_l hG HM_l
    replace HW:=hW
    replace HS:=hS
    clear hG
    go_wp2_with fail
    refine bodyPost_ret (v:=.tuple #[u6,.bool d]) (by simp [results,Tryz.results32,go_sem]) rfl ?_
    exact HW.out.postR HS.out HZ_l.out HM_l.out HG_l.out HNi.out (ri_end HI.out (fun _=>rfl) HLi.out HQ3.out)
  ·have HJ:=ħ hJ
   clear hJ HI
   obtain ⟨pp21,pa21,pc21,hx1,hx2,hx3⟩:=HW.out.ps.blk
   have hc21:=cells_at hx2
   clear hx1 hx2 hx3
   go_wp2_with fail
   clear hc21
   by_cases hq:Eat false r sDOTS
   ·have HEd:=ħ hq
    clear hq
    go_at_call 27
    refine (HW.out.eatY HS.out (s:=sDOTS) (by decide) HEd.out).mono ?_
    rintro e w22 ⟨rfl,HL,hS,hW,hG⟩
    replace HM_l:=HW.out.kR HZ_l hG HM_l
    replace HW:=hW
    replace HS:=hS
    clear hG
    go_wp2_with fail
    go_roundw
    case rel=>exact ⟨_,_,_,_,_,rfl,rfl,HW,HM_l,HS,HL,HNi,(⟨fun _=>by have h1:=HLi.out.1 rfl;have h2:=(List.tail_suffix r).length_le;omega,HLi.out.2⟩:LI _ _ _ _),ri_dots (by decide) HJ.out HEd.out⟩
    case measure=>rw [HW.out.ps.leftR,HMu.out];exact less_left (List.tail_suffix _).length_le (fun _=>tail_lt' (s:=sDOTS) (by decide) HEd.out.2)
   have HEd:=ħ hq
   clear hq
   go_at_call 27
   refine (HW.out.eatN (s:=sDOTS) HEd.out).mono ?_
   rintro e w23 ⟨rfl,hW,hG⟩
   replace HM_l:=HW.out.kR HZ_l hG HM_l
   replace HW:=hW
   clear hG
   replace HW:=HW.out.az w23.heap.size
   replace HM_l:=HW.out.rA HM_l
   go_wp2_with fail
   generalize w23.alloc _=w24 at *
   go_at_call 30
   refine (HT.out w24 false r HS.out HL.out HW.out.ps (HF.out.suf HS.out)).mono ?_
   rintro e w25 hp
   obtain ⟨n_y,k_y,t_y,v_y,a_y,l_y,c_y,β25,r25,rfl,HR_y,HN_y,HZ_y,HS_y,HL,hS,hW,hG⟩:=HW.out.okN HS.out hp
   have HO_l:=ħ HM_l.out.lt
   replace HM_l:=HW.out.kR HZ_l hG HM_l
   replace HW:=hW
   replace HS:=hS
   clear hG hp
   have hc26:=HW.out.c0
   have hf27:=HW.out.f0
   replace HW:=ħ (HW.out.s0 (.int .i64 k_y) (.string t_y) (.int .i64 v_y) (.slice a_y l_y c_y))
   replace HN_y:=HW.out.ms0.N HN_y
   replace HM_l:=HW.out.ms0.R HM_l
   have HIt:=ħ (item0 HR_y.out)
   have HSt:Hid (r25 <:+ r):=HS_y.out
   replace HW:=HW.out.am w25.heap.size HN_y
   replace HN_y:=HW.out.nA HN_y
   replace HM_l:=HW.out.rA HM_l
   have hc28:=HW.out.c0
   have hc29:=HW.out.c1
   go_wp2_with (at_builtin;refine app_l0 _ _ rfl rfl HW.out HM_l.out HN_y.out HZ_l.out HZ_y.out HO_l.out (by have:=HG_l.out;omega) ⟨rfl,rfl,rfl,rfl⟩ ?e1 ?e2 ?_;(case e1=>rfl);(case e2=>rfl);skip)
   intro g30 c30 w30 hW hM hG
   clear HM_l HN_y HZ_l HZ_y HO_l
   replace HW:=ħ hW
   have HM_l2:=ħ hM
   have HZ_l2:=zz w
   clear hW hM hG
   go_wp2_with fail
   by_cases hq:Eat β25 r25 sCOMMA
   ·have HEc:=ħ hq
    clear hq
    go_at_call 27
    refine (HW.out.eatY HS.out (s:=sCOMMA) (by decide) HEc.out).mono ?_
    rintro e w31 ⟨rfl,HL,hS,hW,hG⟩
    replace HM_l2:=HW.out.kR HZ_l2 hG HM_l2
    replace HW:=hW
    replace HS:=hS
    clear hG
    go_wp2_with fail
    replace HM_l2:=(Mv.d0 _).R HM_l2
    replace HW:=ħ HW.out.d0
    go_roundw
    case rel=>exact ⟨_,_,_,_,_,rfl,rfl,HW,HM_l2,HS,HL,(fun e=>absurd e (by simp)),li_nextc HLi.out HIt.out HEc.out,ri_yes (fun h=>HEd.out ⟨rfl,h.2⟩) HJ.out HIt.out HEc.out⟩
    case measure=>rw [HW.out.ps.leftR,HMu.out];exact less_left (Nat.le_trans (List.tail_suffix _).length_le HSt.out.length_le) (fun _=>Nat.lt_of_le_of_lt (List.tail_suffix _).length_le (HIt.out.prog HEc.out.1))
   have HEc:=ħ hq
   clear hq
   go_at_call 27
   refine (HW.out.eatN (s:=sCOMMA) HEc.out).mono ?_
   rintro e w32 ⟨rfl,hW,hG⟩
   replace HM_l2:=HW.out.kR HZ_l2 hG HM_l2
   replace HW:=hW
   clear hG
   go_wp2_with fail
   replace HM_l2:=(Mv.d0 _).R HM_l2
   replace HW:=ħ HW.out.d0
   go_roundw
   case rel=>exact ⟨_,_,_,_,_,rfl,rfl,HW,HM_l2,HS,HL,(fun e=>absurd e (by simp)),li_next HLi.out HIt.out (List.suffix_refl _),ri_no (fun h=>HEd.out ⟨rfl,h.2⟩) HJ.out HIt.out HEc.out⟩
   case measure=>rw [HW.out.ps.leftR,HMu.out];exact less_left HSt.out.length_le HIt.out.prog
  clear hC
  obtain ⟨pp21,pa21,pc21,hx1,hx2,hx3⟩:=HW.out.ps.blk
  have hc21:=cells_at hx2
  clear hx1 hx2 hx3
  go_wp2_with fail
  clear hc21
  go_at_call 29
  refine (HW.out.mu HS.out (s:=sRP) (by decide)).mono ?_
  rintro e w22 ⟨mv22,β22,r22,rfl,HQ3,HL,hS,hW,hG⟩
  replace HM_l:=HW.out.kR HZ_l hG HM_l
  replace HW:=hW
  replace HS:=hS
  clear hG
  go_wp2_with fail
  refine bodyPost_ret (v:=.tuple #[u6,.bool d]) (by simp [results,Tryz.results32,go_sem]) rfl ?_
  exact HW.out.postR HS.out HZ_l.out HM_l.out HG_l.out HNi.out (ri_end HI.out (fun h=>by cases h) HLi.out HQ3.out)
theorem rows1_gd (hT:Nx 30 #[.pointer (some ⟨b,0,none⟩)] .typ b g K ts):GdR 32 #[.pointer (some ⟨b,0,none⟩),.int .i64 1] (.rows 1) b g K ts:=by
 intro w h hF
 have HW:Hid (Wr w w b g K false ts []):=Wr.start h
 have HS:=su ts
 have HF:=ħ hF
 have HT:=ħ hT
 have HK:Hid (ts.length≤4000):=h.short
 clear hT
 clear h hF
 go_enter Tryz.func32,Tryz.ntmps32
 go_wp2_with fail
 go_at_call 29
 refine (HW.out.mu HS.out (s:=sLP) (by decide)).mono ?_
 rintro e w1 ⟨mv1,β1,r1,rfl,HQ1,HL,hS,hW,-⟩
 replace HW:=hW
 replace HS:=hS
 go_wp2_with fail
 by_cases hq:Eat β1 r1 sRP
 ·have HQ2:=ħ hq
  clear hq
  go_at_call 27
  refine (HW.out.eatY HS.out (s:=sRP) (by decide) HQ2.out).mono ?_
  rintro e w2 ⟨rfl,HL,hS,hW,-⟩
  replace HW:=hW
  replace HS:=hS
  go_wp2_with fail
  refine bodyPost_ret (v:=.tuple #[.slice none 0 0,.bool false]) (by simp [results,Tryz.results32,go_sem]) rfl ?_
  exact HW.out.postR HS.out (Nat.le_refl _) (RowN.nil _ _) (by simp) (fun _=>rfl) (mw_empty HQ1.out HQ2.out)
 have HQ2:=ħ hq
 clear hq
 go_at_call 27
 refine (HW.out.eatN (s:=sRP) HQ2.out).mono ?_
 rintro e w3 ⟨rfl,hW,-⟩
 replace HW:=hW
 go_wp2_with fail
 go_loopw [6,7,8] (fun v6 v7 v8 wr=>∃ (r:List Tok) (β:Bool) (l:List Nd) (d m:Bool),v7=.bool d∧v8=.bool m∧Hid (Wr w wr b g K β r [])∧Hid (RowN wr (Av w.heap.size []) v6 l)∧Hid (r <:+ ts)∧Hid (Pg β r ts)∧Hid (l=[]→v6=.slice none 0 0)∧Hid (LI ts l.length β r)∧Hid (RI 1 (tk ts) l d m β r)) (fun _ _ _ wr=>leftR b wr)
 case atStart=>exact ⟨_,_,[],_,_,rfl,rfl,HW,RowN.nil _ _,HS,HL,(fun _=>rfl),li_start HQ1.out,ri_start HQ1.out HQ2.out⟩
 case round=>
  obtain ⟨r,β,l,d,m,rfl,rfl,HW,HM_l,HS,HL,HNi,HLi,HI⟩:=hrel
  have HZ_l:=zz w
  have HG_l:Hid (l.length≤4000):=Nat.le_trans HLi.out.2 HK.out
  have hmu:=HW.out.ps.leftR
  have HMu:=ħ hmu
  clear hmu
  rcases HI.out with ⟨rfl,hA⟩|⟨rfl,rfl,rfl,hJ⟩|⟨rfl,rfl,hC⟩
  ·clear hA
   cases m with
   | false=>
    obtain ⟨pp21,pa21,pc21,hx1,hx2,hx3⟩:=HW.out.ps.blk
    have hc21:=cells_at hx2
    clear hx1 hx2 hx3
    go_wp2_with fail
    clear hc21
    go_at_call 29
    refine (HW.out.mu HS.out (s:=sRP) (by decide)).mono ?_
    rintro e w22 ⟨mv22,β22,r22,rfl,HQ3,HL,hS,hW,hG⟩
    replace HM_l:=HW.out.kR HZ_l hG HM_l
    replace HW:=hW
    replace HS:=hS
    clear hG
    go_wp2_with fail
    refine bodyPost_ret (v:=.tuple #[u6,.bool d]) (by simp [results,Tryz.results32,go_sem]) rfl ?_
    exact HW.out.postR HS.out HZ_l.out HM_l.out HG_l.out HNi.out (ri_end HI.out (fun _=>rfl) HLi.out HQ3.out)
   | true=>
    obtain ⟨pp21,pa21,pc21,hx1,hx2,hx3⟩:=HW.out.ps.blk
    have hc21:=cells_at hx2
    clear hx1 hx2 hx3
    go_wp2_with fail
    clear hc21
    go_at_call 29
    refine (HW.out.mu HS.out (s:=sRP) (by decide)).mono ?_
    rintro e w22 ⟨mv22,β22,r22,rfl,HQ3,HL,hS,hW,hG⟩
    replace HM_l:=HW.out.kR HZ_l hG HM_l
    replace HW:=hW
    replace HS:=hS
    clear hG
    go_wp2_with fail
    refine bodyPost_ret (v:=.tuple #[u6,.bool d]) (by simp [results,Tryz.results32,go_sem]) rfl ?_
    exact HW.out.postR HS.out HZ_l.out HM_l.out HG_l.out HNi.out (ri_end HI.out (fun _=>rfl) HLi.out HQ3.out)
  ·have HJ:=ħ hJ
   clear hJ HI
   obtain ⟨pp21,pa21,pc21,hx1,hx2,hx3⟩:=HW.out.ps.blk
   have hc21:=cells_at hx2
   clear hx1 hx2 hx3
   go_wp2_with fail
   clear hc21
   by_cases hq:Eat false r sDOTS
   ·have HEd:=ħ hq
    clear hq
    go_at_call 27
    refine (HW.out.eatY HS.out (s:=sDOTS) (by decide) HEd.out).mono ?_
    rintro e w22 ⟨rfl,HL,hS,hW,hG⟩
    replace HM_l:=HW.out.kR HZ_l hG HM_l
    replace HW:=hW
    replace HS:=hS
    clear hG
    go_wp2_with fail
    go_roundw
    case rel=>exact ⟨_,_,_,_,_,rfl,rfl,HW,HM_l,HS,HL,HNi,(⟨fun _=>by have h1:=HLi.out.1 rfl;have h2:=(List.tail_suffix r).length_le;omega,HLi.out.2⟩:LI _ _ _ _),ri_dots (by decide) HJ.out HEd.out⟩
    case measure=>rw [HW.out.ps.leftR,HMu.out];exact less_left (List.tail_suffix _).length_le (fun _=>tail_lt' (s:=sDOTS) (by decide) HEd.out.2)
   have HEd:=ħ hq
   clear hq
   go_at_call 27
   refine (HW.out.eatN (s:=sDOTS) HEd.out).mono ?_
   rintro e w23 ⟨rfl,hW,hG⟩
   replace HM_l:=HW.out.kR HZ_l hG HM_l
   replace HW:=hW
   clear hG
   replace HW:=HW.out.az w23.heap.size
   replace HM_l:=HW.out.rA HM_l
   go_wp2_with fail
   generalize w23.alloc _=w24 at *
   go_at_call 30
   refine (HT.out w24 false r HS.out HL.out HW.out.ps (HF.out.suf HS.out)).mono ?_
   rintro e w25 hp
   obtain ⟨n_t,k_t,t_t,v_t,a_t,l_t,c_t,β25,r25,rfl,HR_t,HN_t,HZ_t,HS_t,HL,hS,hW,hG⟩:=HW.out.okN HS.out hp
   have HO_l:=ħ HM_l.out.lt
   have hsz:=ħ hG.size
   replace HM_l:=HW.out.kR HZ_l hG HM_l
   replace HW:=hW
   replace HS:=hS
   clear hG hp
   have HB_t:Hid (w24.heap.size≤w25.heap.size):=hsz
   clear hsz
   replace HW:=HW.out.am w25.heap.size HN_t
   replace HN_t:=HW.out.nA HN_t
   replace HM_l:=HW.out.rA HM_l
   replace HB_t:Hid (w24.heap.size≤(w25.alloc (.cells #[.int .i64 k_t,.string t_t,.int .i64 v_t,.slice a_t l_t c_t] 24)).heap.size):=by exact Nat.le_trans HB_t.out (by simp)
   go_wp2_with fail
   generalize w25.alloc _=w26 at *
   have HSt0:=HS_t
   replace HB_t:Hid (w24.heap.size≤w26.drew.heap.size):=by exact HB_t.out
   replace HN_t:=ħ ((Mv.quiet (grown_drew w26)).nd HN_t.out)
   replace HM_l:=ħ ((Mv.quiet (grown_drew w26)).row HM_l.out)
   replace HW:=ħ (HW.out.quiet (grown_drew w26))
   refine wp_region_held_drew (S:=(fun _=>True)) (by kernel_rfl) trivial fun hHd=>?_
   generalize w26.drew=w27 at *
   refine tq 0 ?_
   simp only [qq]
   refine rq2 1 2 (fun K hK=>?_) fun K hK=>?_
   ·go_simp
    refine (HW.out.nm HS.out HF.out).mono ?_
    rintro e w28 ⟨x_s,β28,r28,rfl,HQ_s,HL,hS,hW,hG⟩
    replace HN_t:=HW.out.kN HZ_t hG HN_t
    replace HM_l:=HW.out.kR HZ_l hG HM_l
    replace HB_t:Hid (w24.heap.size≤w28.heap.size):=by exact Nat.le_trans HB_t.out (hG.size)
    replace HW:=hW
    replace HS:=hS
    clear hG
    refine hK.out _ _ trivial fun hHd=>?_
    clear hK K
    try simp only [qq]
    refine rq 2 fun K hK=>?_
    have hc29:=HW.out.c0
    go_simp
    clear hc29
    refine hK.out _ _ trivial fun hHd=>?_
    clear hK K
    try simp only [qq]
    refine rq 3 fun K hK=>?_
    have HBq:=HB_t
    replace HW:=HW.out.am w28.heap.size HN_t
    replace HN_t:=HW.out.nA HN_t
    replace HM_l:=HW.out.rA HM_l
    replace HB_t:Hid (w24.heap.size≤(w28.alloc (.cells #[.int .i64 k_t,.string t_t,.int .i64 v_t,.slice a_t l_t c_t] 24)).heap.size):=by exact Nat.le_trans HB_t.out (by simp)
    go_simp
    refine hK.out _ _ trivial fun hHd=>?_
    clear hK K
    try simp only [qq]
    generalize w28.alloc _=w30 at *
    refine tq 4 ?_
    simp only [qq]
    refine rq 5 fun K hK=>?_
    have HM_a:=ħ (Wr.one [] [(w25.heap.size,#[.int .i64 k_t,.string t_t,.int .i64 v_t,.slice a_t l_t c_t],24),(w23.heap.size,#[.int .i64 0,.string ⟨#[]⟩,.int .i64 0,.slice none 0 0],24)] HW.out (s:=w24.heap.size) HBq.out HN_t.out)
    have HZ_a:=HZ_t
    clear HN_t HZ_t
    replace HM_a:Hid (RowN w30 (Av w24.heap.size [(w25.heap.size,#[.int .i64 k_t,.string t_t,.int .i64 v_t,.slice a_t l_t c_t],24),(w23.heap.size,#[.int .i64 0,.string ⟨#[]⟩,.int .i64 0,.slice none 0 0],24)]) (.slice (some ⟨w28.heap.size,0,none⟩) 1 1) [n_t]):=by exact HM_a
    replace HM_l:=(Mv.d0 _).R HM_l
    replace HW:=ħ HW.out.d0
    have HN_y:=ħ (HM_a.out.node 8 x_s 0)
    have HZ_y:=HZ_a
    clear HM_a HZ_a
    have hc31:=HW.out.c1
    have hf32:=HW.out.f1
    replace HW:=ħ (HW.out.s1 (.int .i64 8) (.string (str x_s)) (.int .i64 0) ((.slice (some ⟨w28.heap.size,0,none⟩) 1 1)))
    replace HN_y:=HW.out.ms1.N HN_y
    replace HM_l:=HW.out.ms1.R HM_l
    replace HB_t:Hid (w24.heap.size≤((((w30.setCell ⟨w23.heap.size,0,none⟩ (.int .i64 8)).setCell ⟨w23.heap.size,1,none⟩ (.string (str x_s))).setCell ⟨w23.heap.size,2,none⟩ (.int .i64 0)).setCell ⟨w23.heap.size,3,none⟩ ((.slice (some ⟨w28.heap.size,0,none⟩) 1 1))).heap.size):=by exact Nat.le_trans HB_t.out (by simp [World.setCell])
    go_simp
    refine hK.out _ _ trivial fun hHd=>?_
    clear hK K
    try simp only [qq]
    generalize (((w30.setCell _ _).setCell _ _).setCell _ _).setCell _ _=w33 at *
    clear hc31 hf32
    refine wpAnyH_done (by kernel_rfl) ?_ _
    clear HB_t
    have HIt:=ħ (item1 HR_t.out HQ_s.out)
    have HSt:Hid (r28 <:+ r):=HQ_s.out.suf.trans HSt0.out
    have hc34:=HW.out.c0
    have hc35:=HW.out.c1
    replace HW:=HW.out.al w33.heap.size #[.int .i64 8,.string (str x_s),.int .i64 0,(.slice (some ⟨w28.heap.size,0,none⟩) 1 1)]
    replace HN_y:=HW.out.nA HN_y
    replace HM_l:=HW.out.rA HM_l
    have hc36:=HW.out.c0
    have hc37:=HW.out.c1
    have hc38:=HW.out.c2
    go_wp2_with (at_builtin;refine app_l0 _ _ rfl rfl HW.out HM_l.out HN_y.out HZ_l.out HZ_y.out HO_l.out (by have:=HG_l.out;omega) ⟨rfl,rfl,rfl,rfl⟩ ?e1 ?e2 ?_;(case e1=>rfl);(case e2=>rfl);skip)
    intro g39 c39 w39 hW hM hG
    clear HM_l HN_y HZ_l HZ_y HO_l
    replace HW:=ħ hW
    have HM_l2:=ħ hM
    have HZ_l2:=zz w
    clear hW hM hG
    go_wp2_with fail
    by_cases hq:Eat β28 r28 sCOMMA
    ·have HEc:=ħ hq
     clear hq
     go_at_call 27
     refine (HW.out.eatY HS.out (s:=sCOMMA) (by decide) HEc.out).mono ?_
     rintro e w40 ⟨rfl,HL,hS,hW,hG⟩
     replace HM_l2:=HW.out.kR HZ_l2 hG HM_l2
     replace HW:=hW
     replace HS:=hS
     clear hG
     go_wp2_with fail
     replace HM_l2:=(Mv.d0 _).R HM_l2
     replace HW:=ħ HW.out.d0
     replace HM_l2:=(Mv.d0 _).R HM_l2
     replace HW:=ħ HW.out.d0
     go_roundw
     case rel=>exact ⟨_,_,_,_,_,rfl,rfl,HW,HM_l2,HS,HL,(fun e=>absurd e (by simp)),li_nextc HLi.out HIt.out HEc.out,ri_yes (fun h=>HEd.out ⟨rfl,h.2⟩) HJ.out HIt.out HEc.out⟩
     case measure=>rw [HW.out.ps.leftR,HMu.out];exact less_left (Nat.le_trans (List.tail_suffix _).length_le HSt.out.length_le) (fun _=>Nat.lt_of_le_of_lt (List.tail_suffix _).length_le (HIt.out.prog HEc.out.1))
    have HEc:=ħ hq
    clear hq
    go_at_call 27
    refine (HW.out.eatN (s:=sCOMMA) HEc.out).mono ?_
    rintro e w41 ⟨rfl,hW,hG⟩
    replace HM_l2:=HW.out.kR HZ_l2 hG HM_l2
    replace HW:=hW
    clear hG
    go_wp2_with fail
    replace HM_l2:=(Mv.d0 _).R HM_l2
    replace HW:=ħ HW.out.d0
    replace HM_l2:=(Mv.d0 _).R HM_l2
    replace HW:=ħ HW.out.d0
    go_roundw
    case rel=>exact ⟨_,_,_,_,_,rfl,rfl,HW,HM_l2,HS,HL,(fun e=>absurd e (by simp)),li_next HLi.out HIt.out (List.suffix_refl _),ri_no (fun h=>HEd.out ⟨rfl,h.2⟩) HJ.out HIt.out HEc.out⟩
    case measure=>rw [HW.out.ps.leftR,HMu.out];exact less_left HSt.out.length_le HIt.out.prog
   have hc42:=HW.out.c0
   go_simp
   clear hc42
   refine hK.out _ _ trivial fun hHd=>?_
   clear hK K
   try simp only [qq]
   refine rq2 1 3 (fun K hK=>?_) fun K hK=>?_
   ·go_simp
    refine (HW.out.nm HS.out HF.out).mono ?_
    rintro e w43 ⟨x_s,β43,r43,rfl,HQ_s,HL,hS,hW,hG⟩
    replace HN_t:=HW.out.kN HZ_t hG HN_t
    replace HM_l:=HW.out.kR HZ_l hG HM_l
    replace HB_t:Hid (w24.heap.size≤w43.heap.size):=by exact Nat.le_trans HB_t.out (hG.size)
    replace HW:=hW
    replace HS:=hS
    clear hG
    refine hK.out _ _ trivial fun hHd=>?_
    clear hK K
    try simp only [qq]
    refine rq 3 fun K hK=>?_
    have HBq:=HB_t
    replace HW:=HW.out.am w43.heap.size HN_t
    replace HN_t:=HW.out.nA HN_t
    replace HM_l:=HW.out.rA HM_l
    replace HB_t:Hid (w24.heap.size≤(w43.alloc (.cells #[.int .i64 k_t,.string t_t,.int .i64 v_t,.slice a_t l_t c_t] 24)).heap.size):=by exact Nat.le_trans HB_t.out (by simp)
    go_simp
    refine hK.out _ _ trivial fun hHd=>?_
    clear hK K
    try simp only [qq]
    generalize w43.alloc _=w44 at *
    refine tq 4 ?_
    simp only [qq]
    refine rq 5 fun K hK=>?_
    have HM_a:=ħ (Wr.one [] [(w25.heap.size,#[.int .i64 k_t,.string t_t,.int .i64 v_t,.slice a_t l_t c_t],24),(w23.heap.size,#[.int .i64 0,.string ⟨#[]⟩,.int .i64 0,.slice none 0 0],24)] HW.out (s:=w24.heap.size) HBq.out HN_t.out)
    have HZ_a:=HZ_t
    clear HN_t HZ_t
    replace HM_a:Hid (RowN w44 (Av w24.heap.size [(w25.heap.size,#[.int .i64 k_t,.string t_t,.int .i64 v_t,.slice a_t l_t c_t],24),(w23.heap.size,#[.int .i64 0,.string ⟨#[]⟩,.int .i64 0,.slice none 0 0],24)]) (.slice (some ⟨w43.heap.size,0,none⟩) 1 1) [n_t]):=by exact HM_a
    replace HM_l:=(Mv.d0 _).R HM_l
    replace HW:=ħ HW.out.d0
    have HN_y:=ħ (HM_a.out.node 8 x_s 0)
    have HZ_y:=HZ_a
    clear HM_a HZ_a
    have hc45:=HW.out.c1
    have hf46:=HW.out.f1
    replace HW:=ħ (HW.out.s1 (.int .i64 8) (.string (str x_s)) (.int .i64 0) ((.slice (some ⟨w43.heap.size,0,none⟩) 1 1)))
    replace HN_y:=HW.out.ms1.N HN_y
    replace HM_l:=HW.out.ms1.R HM_l
    replace HB_t:Hid (w24.heap.size≤((((w44.setCell ⟨w23.heap.size,0,none⟩ (.int .i64 8)).setCell ⟨w23.heap.size,1,none⟩ (.string (str x_s))).setCell ⟨w23.heap.size,2,none⟩ (.int .i64 0)).setCell ⟨w23.heap.size,3,none⟩ ((.slice (some ⟨w43.heap.size,0,none⟩) 1 1))).heap.size):=by exact Nat.le_trans HB_t.out (by simp [World.setCell])
    go_simp
    refine hK.out _ _ trivial fun hHd=>?_
    clear hK K
    try simp only [qq]
    generalize (((w44.setCell _ _).setCell _ _).setCell _ _).setCell _ _=w47 at *
    clear hc45 hf46
    refine wpAnyH_done (by kernel_rfl) ?_ _
    clear HB_t
    have HIt:=ħ (item1 HR_t.out HQ_s.out)
    have HSt:Hid (r43 <:+ r):=HQ_s.out.suf.trans HSt0.out
    have hc48:=HW.out.c0
    have hc49:=HW.out.c1
    replace HW:=HW.out.al w47.heap.size #[.int .i64 8,.string (str x_s),.int .i64 0,(.slice (some ⟨w43.heap.size,0,none⟩) 1 1)]
    replace HN_y:=HW.out.nA HN_y
    replace HM_l:=HW.out.rA HM_l
    have hc50:=HW.out.c0
    have hc51:=HW.out.c1
    have hc52:=HW.out.c2
    go_wp2_with (at_builtin;refine app_l0 _ _ rfl rfl HW.out HM_l.out HN_y.out HZ_l.out HZ_y.out HO_l.out (by have:=HG_l.out;omega) ⟨rfl,rfl,rfl,rfl⟩ ?e1 ?e2 ?_;(case e1=>rfl);(case e2=>rfl);skip)
    intro g53 c53 w53 hW hM hG
    clear HM_l HN_y HZ_l HZ_y HO_l
    replace HW:=ħ hW
    have HM_l2:=ħ hM
    have HZ_l2:=zz w
    clear hW hM hG
    go_wp2_with fail
    by_cases hq:Eat β43 r43 sCOMMA
    ·have HEc:=ħ hq
     clear hq
     go_at_call 27
     refine (HW.out.eatY HS.out (s:=sCOMMA) (by decide) HEc.out).mono ?_
     rintro e w54 ⟨rfl,HL,hS,hW,hG⟩
     replace HM_l2:=HW.out.kR HZ_l2 hG HM_l2
     replace HW:=hW
     replace HS:=hS
     clear hG
     go_wp2_with fail
     replace HM_l2:=(Mv.d0 _).R HM_l2
     replace HW:=ħ HW.out.d0
     replace HM_l2:=(Mv.d0 _).R HM_l2
     replace HW:=ħ HW.out.d0
     go_roundw
     case rel=>exact ⟨_,_,_,_,_,rfl,rfl,HW,HM_l2,HS,HL,(fun e=>absurd e (by simp)),li_nextc HLi.out HIt.out HEc.out,ri_yes (fun h=>HEd.out ⟨rfl,h.2⟩) HJ.out HIt.out HEc.out⟩
     case measure=>rw [HW.out.ps.leftR,HMu.out];exact less_left (Nat.le_trans (List.tail_suffix _).length_le HSt.out.length_le) (fun _=>Nat.lt_of_le_of_lt (List.tail_suffix _).length_le (HIt.out.prog HEc.out.1))
    have HEc:=ħ hq
    clear hq
    go_at_call 27
    refine (HW.out.eatN (s:=sCOMMA) HEc.out).mono ?_
    rintro e w55 ⟨rfl,hW,hG⟩
    replace HM_l2:=HW.out.kR HZ_l2 hG HM_l2
    replace HW:=hW
    clear hG
    go_wp2_with fail
    replace HM_l2:=(Mv.d0 _).R HM_l2
    replace HW:=ħ HW.out.d0
    replace HM_l2:=(Mv.d0 _).R HM_l2
    replace HW:=ħ HW.out.d0
    go_roundw
    case rel=>exact ⟨_,_,_,_,_,rfl,rfl,HW,HM_l2,HS,HL,(fun e=>absurd e (by simp)),li_next HLi.out HIt.out (List.suffix_refl _),ri_no (fun h=>HEd.out ⟨rfl,h.2⟩) HJ.out HIt.out HEc.out⟩
    case measure=>rw [HW.out.ps.leftR,HMu.out];exact less_left HSt.out.length_le HIt.out.prog
   have HBq:=HB_t
   replace HW:=HW.out.am w27.heap.size HN_t
   replace HN_t:=HW.out.nA HN_t
   replace HM_l:=HW.out.rA HM_l
   replace HB_t:Hid (w24.heap.size≤(w27.alloc (.cells #[.int .i64 k_t,.string t_t,.int .i64 v_t,.slice a_t l_t c_t] 24)).heap.size):=by exact Nat.le_trans HB_t.out (by simp)
   go_simp
   refine hK.out _ _ trivial fun hHd=>?_
   clear hK K
   try simp only [qq]
   generalize w27.alloc _=w56 at *
   refine rq 1 fun K hK=>?_
   go_simp
   refine (HW.out.nm HS.out HF.out).mono ?_
   rintro e w57 ⟨x_s,β57,r57,rfl,HQ_s,HL,hS,hW,hG⟩
   replace HN_t:=HW.out.kN HZ_t hG HN_t
   replace HM_l:=HW.out.kR HZ_l hG HM_l
   replace HB_t:Hid (w24.heap.size≤w57.heap.size):=by exact Nat.le_trans HB_t.out (hG.size)
   replace HW:=hW
   replace HS:=hS
   clear hG
   refine hK.out _ _ trivial fun hHd=>?_
   clear hK K
   try simp only [qq]
   refine tq 4 ?_
   simp only [qq]
   refine rq 5 fun K hK=>?_
   have HM_a:=ħ (Wr.one [] [(w25.heap.size,#[.int .i64 k_t,.string t_t,.int .i64 v_t,.slice a_t l_t c_t],24),(w23.heap.size,#[.int .i64 0,.string ⟨#[]⟩,.int .i64 0,.slice none 0 0],24)] HW.out (s:=w24.heap.size) HBq.out HN_t.out)
   have HZ_a:=HZ_t
   clear HN_t HZ_t
   replace HM_a:Hid (RowN w57 (Av w24.heap.size [(w25.heap.size,#[.int .i64 k_t,.string t_t,.int .i64 v_t,.slice a_t l_t c_t],24),(w23.heap.size,#[.int .i64 0,.string ⟨#[]⟩,.int .i64 0,.slice none 0 0],24)]) (.slice (some ⟨w27.heap.size,0,none⟩) 1 1) [n_t]):=by exact HM_a
   replace HM_l:=(Mv.d0 _).R HM_l
   replace HW:=ħ HW.out.d0
   have HN_y:=ħ (HM_a.out.node 8 x_s 0)
   have HZ_y:=HZ_a
   clear HM_a HZ_a
   have hc58:=HW.out.c1
   have hf59:=HW.out.f1
   replace HW:=ħ (HW.out.s1 (.int .i64 8) (.string (str x_s)) (.int .i64 0) ((.slice (some ⟨w27.heap.size,0,none⟩) 1 1)))
   replace HN_y:=HW.out.ms1.N HN_y
   replace HM_l:=HW.out.ms1.R HM_l
   replace HB_t:Hid (w24.heap.size≤((((w57.setCell ⟨w23.heap.size,0,none⟩ (.int .i64 8)).setCell ⟨w23.heap.size,1,none⟩ (.string (str x_s))).setCell ⟨w23.heap.size,2,none⟩ (.int .i64 0)).setCell ⟨w23.heap.size,3,none⟩ ((.slice (some ⟨w27.heap.size,0,none⟩) 1 1))).heap.size):=by exact Nat.le_trans HB_t.out (by simp [World.setCell])
   go_simp
   refine hK.out _ _ trivial fun hHd=>?_
   clear hK K
   try simp only [qq]
   generalize (((w57.setCell _ _).setCell _ _).setCell _ _).setCell _ _=w60 at *
   clear hc58 hf59
   refine wpAnyH_done (by kernel_rfl) ?_ _
   clear HB_t
   have HIt:=ħ (item1 HR_t.out HQ_s.out)
   have HSt:Hid (r57 <:+ r):=HQ_s.out.suf.trans HSt0.out
   have hc61:=HW.out.c0
   have hc62:=HW.out.c1
   replace HW:=HW.out.al w60.heap.size #[.int .i64 8,.string (str x_s),.int .i64 0,(.slice (some ⟨w27.heap.size,0,none⟩) 1 1)]
   replace HN_y:=HW.out.nA HN_y
   replace HM_l:=HW.out.rA HM_l
   have hc63:=HW.out.c0
   have hc64:=HW.out.c1
   have hc65:=HW.out.c2
   go_wp2_with (at_builtin;refine app_l0 _ _ rfl rfl HW.out HM_l.out HN_y.out HZ_l.out HZ_y.out HO_l.out (by have:=HG_l.out;omega) ⟨rfl,rfl,rfl,rfl⟩ ?e1 ?e2 ?_;(case e1=>rfl);(case e2=>rfl);skip)
   intro g66 c66 w66 hW hM hG
   clear HM_l HN_y HZ_l HZ_y HO_l
   replace HW:=ħ hW
   have HM_l2:=ħ hM
   have HZ_l2:=zz w
   clear hW hM hG
   go_wp2_with fail
   by_cases hq:Eat β57 r57 sCOMMA
   ·have HEc:=ħ hq
    clear hq
    go_at_call 27
    refine (HW.out.eatY HS.out (s:=sCOMMA) (by decide) HEc.out).mono ?_
    rintro e w67 ⟨rfl,HL,hS,hW,hG⟩
    replace HM_l2:=HW.out.kR HZ_l2 hG HM_l2
    replace HW:=hW
    replace HS:=hS
    clear hG
    go_wp2_with fail
    replace HM_l2:=(Mv.d0 _).R HM_l2
    replace HW:=ħ HW.out.d0
    replace HM_l2:=(Mv.d0 _).R HM_l2
    replace HW:=ħ HW.out.d0
    go_roundw
    case rel=>exact ⟨_,_,_,_,_,rfl,rfl,HW,HM_l2,HS,HL,(fun e=>absurd e (by simp)),li_nextc HLi.out HIt.out HEc.out,ri_yes (fun h=>HEd.out ⟨rfl,h.2⟩) HJ.out HIt.out HEc.out⟩
    case measure=>rw [HW.out.ps.leftR,HMu.out];exact less_left (Nat.le_trans (List.tail_suffix _).length_le HSt.out.length_le) (fun _=>Nat.lt_of_le_of_lt (List.tail_suffix _).length_le (HIt.out.prog HEc.out.1))
   have HEc:=ħ hq
   clear hq
   go_at_call 27
   refine (HW.out.eatN (s:=sCOMMA) HEc.out).mono ?_
   rintro e w68 ⟨rfl,hW,hG⟩
   replace HM_l2:=HW.out.kR HZ_l2 hG HM_l2
   replace HW:=hW
   clear hG
   go_wp2_with fail
   replace HM_l2:=(Mv.d0 _).R HM_l2
   replace HW:=ħ HW.out.d0
   replace HM_l2:=(Mv.d0 _).R HM_l2
   replace HW:=ħ HW.out.d0
   go_roundw
   case rel=>exact ⟨_,_,_,_,_,rfl,rfl,HW,HM_l2,HS,HL,(fun e=>absurd e (by simp)),li_next HLi.out HIt.out (List.suffix_refl _),ri_no (fun h=>HEd.out ⟨rfl,h.2⟩) HJ.out HIt.out HEc.out⟩
   case measure=>rw [HW.out.ps.leftR,HMu.out];exact less_left HSt.out.length_le HIt.out.prog
  clear hC
  obtain ⟨pp21,pa21,pc21,hx1,hx2,hx3⟩:=HW.out.ps.blk
  have hc21:=cells_at hx2
  clear hx1 hx2 hx3
  go_wp2_with fail
  clear hc21
  go_at_call 29
  refine (HW.out.mu HS.out (s:=sRP) (by decide)).mono ?_
  rintro e w22 ⟨mv22,β22,r22,rfl,HQ3,HL,hS,hW,hG⟩
  replace HM_l:=HW.out.kR HZ_l hG HM_l
  replace HW:=hW
  replace HS:=hS
  clear hG
  go_wp2_with fail
  refine bodyPost_ret (v:=.tuple #[u6,.bool d]) (by simp [results,Tryz.results32,go_sem]) rfl ?_
  exact HW.out.postR HS.out HZ_l.out HM_l.out HG_l.out HNi.out (ri_end HI.out (fun h=>by cases h) HLi.out HQ3.out)
end Go.Proofs.YthcfianhdkolhaaGreatDoor.Y.Z
