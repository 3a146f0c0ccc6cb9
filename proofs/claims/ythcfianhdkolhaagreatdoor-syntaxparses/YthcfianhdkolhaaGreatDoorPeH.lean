/- PeH -/
import Derived.Test.YthcfianhdkolhaaGreatDoorSign
import Derived.Test.YthcfianhdkolhaaGreatDoorPeG2
namespace Go.Proofs.YthcfianhdkolhaaGreatDoor.Y.Z
open Go.RowKit Go.Proofs.YthcfianhdkolhaaGreatDoor.T Go.Proofs.YthcfianhdkolhaaGreatDoor.S
open Go.Proofs.YthcfianhdkolhaaGreatDoor.X (Tok)
set_option linter.unusedVariables false
set_option linter.unusedSimpArgs false
set_option maxRecDepth 100000
set_option maxHeartbeats 2000000
variable {w w' : World} {b g : Nat} {K ts : List Tok} {β : Bool}
def PI (T:List Tk) (n:Nd) (β:Bool) (r:List Tok):Prop:=(β=true∧R .unary T (.no (tk r)))∨(β=false∧∀ q,R (.postL n) (tk r) q→R .unary T q)
theorem pi_start {n:Nd} {β1:Bool} {r1:List Tok} (h1:¬ hd (tk ts)=sMINUS) (h2:¬ hd (tk ts)=sNOT) (h:Md (R .first) n false ts β1 r1):PI (tk ts) n β1 r1:=by
 rcases h.good with ⟨rfl,_,e⟩|⟨rfl,e⟩
 ·refine Or.inr ⟨rfl,fun q k2=>?_⟩
  obtain ⟨m,e,k2⟩:=both e k2
  exact ⟨m+1,by simp only [P,F,if_neg h1,if_neg h2,e,andN,k2]⟩
 obtain ⟨m,e⟩:=e
 exact Or.inl ⟨rfl,m+1,by simp only [P,F,if_neg h1,if_neg h2,e,andN]⟩
theorem pi_stop {n:Nd} {r:List Tok} (J:∀ q,R (.postL n) (tk r) q→R .unary (tk ts) q) (h1:¬ hd (tk r)=sDOT) (h2:¬ hd (tk r)=sLP) (hl:Pg false r ts):Md (R .unary) n false ts false r:=
 Or.inr (Or.inl ⟨rfl,rfl,hl rfl,J _ ⟨1,by simp only [P,F,if_neg h1,if_neg h2,okN]⟩⟩)
theorem pi_dot {n:Nd} {T:List Tk} {r r1:List Tok} {β1:Bool} {x:List UInt8} (J:∀ q,R (.postL n) (tk r) q→R .unary T q) (h1:hd (tk r)=sDOT) (h:Na x false r.tail β1 r1):PI T (.mk 24 x 0 [n]) β1 r1:=by
 rcases h.good with ⟨rfl,e,rfl,rfl⟩|⟨rfl,e,rfl,rfl⟩
 ·refine Or.inr ⟨rfl,fun q k2=>J q ?_⟩
  obtain ⟨m,k2⟩:=k2
  simp only [tk_tail] at *
  exact ⟨m+1,by simp [P,F,h1,S.name,e,k2]⟩
 rw [tk_tail] at e
 exact Or.inl ⟨rfl,J _ ⟨1,by simp [P,F,h1,S.name,e,tk_tail]⟩⟩
theorem pi_call {n:Nd} {T:List Tk} {r r1:List Tok} {β1 d:Bool} {l:List Nd} (J:∀ q,R (.postL n) (tk r) q→R .unary T q) (h1:hd (tk r)=sLP) (h:Mw (R (.rows 2)) l d false r β1 r1):PI T (.mk 25 [] 0 (n::l)) β1 r1:=by
 rcases h.good with ⟨rfl,_,_,e⟩|⟨rfl,e⟩
 ·refine Or.inr ⟨rfl,fun q k2=>J q ?_⟩
  obtain ⟨m,e,k2⟩:=both e k2
  exact ⟨m+1,by simp [P,F,h1,andR,e,k2]⟩
 obtain ⟨m,e⟩:=e
 exact Or.inl ⟨rfl,J _ ⟨m+1,by simp [P,F,h1,andR,e]⟩⟩
theorem str_list (a c:List UInt8):((str a).toList == c)=decide (a=c):=by
 rw [ByteArray.toList_eq,show (str a).data.toList=a by simp [str]]
 by_cases h:a=c
 ·rw [decide_eq_true h,h];simp
 rw [decide_eq_false h];simpa using h
theorem tx_yes {s:List UInt8} (h:hd (tk ts)=s):((str (hd (tk ts))).toList == s)=true:=by rw [str_list];exact decide_eq_true h
theorem tx_no {s:List UInt8} (h:¬ hd (tk ts)=s):((str (hd (tk ts))).toList == s)=false:=by rw [str_list];exact decide_eq_false h
theorem md_neg {ts:List Tok} {r1:List Tok} {β1:Bool} {x:Nd}  (g0:hd (tk ts)=sMINUS) (h1:Md (R .unary) x false ts.tail β1 r1):Md (R .unary) (.mk 28 [] 0 [x]) false ts β1 r1:=by
 rcases h1.good with ⟨rfl,l1,e1⟩|⟨rfl,e1⟩
 ·refine mok ?_ ?_
  ·have qh_g0:=tail_lt' (s:=sMINUS) (by decide) g0
   have q1:=l1
   simp only [List.length_tail] at *
   omega
  obtain ⟨N0,e1⟩:=e1
  try simp only [tk_tail] at *
  exact ⟨N0+1,by simp [P,F,must,andN,andR,S.name,okN,g0,e1]⟩
 refine mno ?_
 obtain ⟨N0,e1⟩:=e1
 try simp only [tk_tail] at *
 exact ⟨N0+1,by simp [P,F,must,andN,andR,S.name,okN,g0,e1]⟩
theorem md_not {ts:List Tok} {r1:List Tok} {β1:Bool} {x:Nd}  (g0:¬ hd (tk ts)=sMINUS) (g1:hd (tk ts)=sNOT) (h1:Md (R .unary) x false ts.tail β1 r1):Md (R .unary) (.mk 29 [] 0 [x]) false ts β1 r1:=by
 rcases h1.good with ⟨rfl,l1,e1⟩|⟨rfl,e1⟩
 ·refine mok ?_ ?_
  ·have qh_g1:=tail_lt' (s:=sNOT) (by decide) g1
   have q1:=l1
   simp only [List.length_tail] at *
   omega
  obtain ⟨N0,e1⟩:=e1
  try simp only [tk_tail] at *
  exact ⟨N0+1,by simp [P,F,must,andN,andR,S.name,okN,g0,g1,e1]⟩
 refine mno ?_
 obtain ⟨N0,e1⟩:=e1
 try simp only [tk_tail] at *
 exact ⟨N0+1,by simp [P,F,must,andN,andR,S.name,okN,g0,g1,e1]⟩
theorem unary_gd (hU:Nx 101 #[.pointer (some ⟨b,0,none⟩)] .unary b g K ts) (hP:Mth 126 #[.pointer (some ⟨b,0,none⟩)] .first b g K ts) (hR:NxR 32 #[.pointer (some ⟨b,0,none⟩),.int .i64 2] (.rows 2) b g K ts):Gd 101 #[.pointer (some ⟨b,0,none⟩)] .unary b g K ts:=by
 intro w h hF
 have HW:Hid (Wr w w b g K false ts []):=Wr.start h
 have HS:=su ts
 have HF:=ħ hF
 have HU:=ħ hU
 have HP:=ħ hP
 have HR:=ħ hR
 clear hU hP hR
 clear h hF
 go_enter Tryz.func101,Tryz.ntmps101
 replace HW:=HW.out.az w.heap.size
 go_wp2_with fail
 generalize w.alloc _=w1 at *
 by_cases hq:Eat false ts sMINUS
 ·have HE1:=ħ hq
  clear hq
  go_at_call 27
  refine (HW.out.eatY HS.out (s:=sMINUS) (by decide) HE1.out).mono ?_
  rintro e w2 ⟨rfl,HL,hS,hW,-⟩
  replace HW:=hW
  replace HS:=hS
  go_wp2_with fail
  go_at_call 101
  refine (HU.out w2 false ts.tail HS.out HL.out HW.out.ps (HF.out.suf HS.out)).mono ?_
  rintro e w3 hp
  obtain ⟨n_x,k_x,t_x,v_x,a_x,l_x,c_x,β3,r3,rfl,HR_x,HN_x,HZ_x,HS_x,HL,hS,hW,-⟩:=HW.out.okN HS.out hp
  replace HW:=hW
  replace HS:=hS
  clear hp
  replace HW:=HW.out.am w3.heap.size HN_x
  replace HN_x:=HW.out.nA HN_x
  have hc4:=HW.out.c0
  have hc5:=HW.out.c1
  replace HW:=HW.out.am (w3.heap.size+1) HN_x
  replace HN_x:=HW.out.nA HN_x
  have HM_a:=ħ (Wr.o0 HW.out (HN_x.out.less HZ_x.out))
  have HZ_a:=zz w
  clear HN_x HZ_x
  replace HW:=ħ HW.out.d0
  have HN_z:=ħ (HM_a.out.node 28 [] 0)
  have HZ_z:=HZ_a
  clear HM_a HZ_a
  have hc6:=HW.out.c0
  have hc7:=HW.out.c1
  have hf8:=HW.out.f1
  replace HW:=ħ (HW.out.s1 (.int .i64 28) (.string ⟨#[]⟩) (.int .i64 0) ((.slice (some ⟨(w3.heap.size+1),0,none⟩) 1 1)))
  replace HN_z:=HW.out.ms1.N HN_z
  go_wp2_with fail
  exact HW.out.e HW.out.b1 HS HZ_z HN_z (md_neg (eat_tt HE1.out) HR_x.out)
 have HE1:=ħ hq
 clear hq
 go_at_call 27
 refine (HW.out.eatN (s:=sMINUS) HE1.out).mono ?_
 rintro e w12 ⟨rfl,hW,-⟩
 replace HW:=hW
 go_wp2_with fail
 by_cases hq:Eat false ts sNOT
 ·have HE2:=ħ hq
  clear hq
  go_at_call 27
  refine (HW.out.eatY HS.out (s:=sNOT) (by decide) HE2.out).mono ?_
  rintro e w13 ⟨rfl,HL,hS,hW,-⟩
  replace HW:=hW
  replace HS:=hS
  go_wp2_with fail
  go_at_call 101
  refine (HU.out w13 false ts.tail HS.out HL.out HW.out.ps (HF.out.suf HS.out)).mono ?_
  rintro e w14 hp
  obtain ⟨n_x,k_x,t_x,v_x,a_x,l_x,c_x,β14,r14,rfl,HR_x,HN_x,HZ_x,HS_x,HL,hS,hW,-⟩:=HW.out.okN HS.out hp
  replace HW:=hW
  replace HS:=hS
  clear hp
  replace HW:=HW.out.am w14.heap.size HN_x
  replace HN_x:=HW.out.nA HN_x
  have hc15:=HW.out.c0
  have hc16:=HW.out.c1
  replace HW:=HW.out.am (w14.heap.size+1) HN_x
  replace HN_x:=HW.out.nA HN_x
  have HM_a:=ħ (Wr.o0 HW.out (HN_x.out.less HZ_x.out))
  have HZ_a:=zz w
  clear HN_x HZ_x
  replace HW:=ħ HW.out.d0
  have HN_z:=ħ (HM_a.out.node 29 [] 0)
  have HZ_z:=HZ_a
  clear HM_a HZ_a
  have hc17:=HW.out.c0
  have hc18:=HW.out.c1
  have hf19:=HW.out.f1
  replace HW:=ħ (HW.out.s1 (.int .i64 29) (.string ⟨#[]⟩) (.int .i64 0) ((.slice (some ⟨(w14.heap.size+1),0,none⟩) 1 1)))
  replace HN_z:=HW.out.ms1.N HN_z
  go_wp2_with fail
  exact HW.out.e HW.out.b1 HS HZ_z HN_z (md_not (eat_ff HE1.out) (eat_tt HE2.out) HR_x.out)
 have HE2:=ħ hq
 clear hq
 go_at_call 27
 refine (HW.out.eatN (s:=sNOT) HE2.out).mono ?_
 rintro e w23 ⟨rfl,hW,-⟩
 replace HW:=hW
 go_wp2_with fail
 go_at_call 126
 refine (HP.out w23 false HW.out.ps (HF.out.suf HS.out)).mono ?_
 rintro e w24 hp
 obtain ⟨n_x,k_x,t_x,v_x,a_x,l_x,c_x,β24,r24,rfl,HR_x,HN_x,HZ_x,HS_x,HL,hS,hW,-⟩:=HW.out.okN HS.out hp
 replace HW:=hW
 replace HS:=hS
 clear hp
 replace HW:=HW.out.am w24.heap.size HN_x
 replace HN_x:=HW.out.nA HN_x
 go_wp2_with fail
 generalize w24.alloc _=w25 at *
 go_loopw [] (fun wr=>∃ (r:List Tok) (β:Bool) (n:Nd) (k0:Int) (t0:ByteArray) (v0:Int) (a0:Option Addr) (l0 c0:Nat),Hid (Wr w wr b g K β r [(w24.heap.size,#[.int .i64 k0,.string t0,.int .i64 v0,.slice a0 l0 c0],24),(w.heap.size,#[.int .i64 0,.string ⟨#[]⟩,.int .i64 0,.slice none 0 0],24)])∧Hid (NdV wr (Av w.heap.size [(w24.heap.size,#[.int .i64 k0,.string t0,.int .i64 v0,.slice a0 l0 c0],24),(w.heap.size,#[.int .i64 0,.string ⟨#[]⟩,.int .i64 0,.slice none 0 0],24)]) n (.agg #[.int .i64 k0,.string t0,.int .i64 v0,.slice a0 l0 c0]))∧Hid (r <:+ ts)∧Hid (Pg β r ts)∧Hid (PI (tk ts) n β r)) (fun wr=>leftR b wr)
 case atStart=>exact ⟨_,_,_,_,_,_,_,_,_,HW,HN_x.out.less HZ_x.out,HS,HL,pi_start (eat_ff HE1.out) (eat_ff HE2.out) HR_x.out⟩
 case round=>
  obtain ⟨r,β,n,k0,t0,v0,a0,l0,c0,HW,HN_n,HS,HL,HI⟩:=hrel
  have HZ_n:=zz w
  have hmu:=HW.out.ps.leftR
  have HMu:=ħ hmu
  clear hmu
  rcases HI.out with ⟨rfl,hA⟩|⟨rfl,hJ⟩
  ·have HA:=ħ hA
   clear hA
   obtain ⟨pp46,pa46,pc46,hx1,hx2,hx3⟩:=HW.out.ps.blk
   have hc46:=cells_at hx2
   clear hx1 hx2 hx3
   have hc47:=HW.out.c0
   have hc48:=HW.out.c1
   have hf49:=HW.out.f1
   replace HW:=ħ (HW.out.s1 (.int .i64 k0) (.string t0) (.int .i64 v0) (.slice a0 l0 c0))
   replace HN_n:=HW.out.ms1.N HN_n
   go_wp2_with fail
   exact HW.out.e HW.out.b1 HS HZ_n HN_n (Or.inr (Or.inr ⟨rfl,rfl,HA.out⟩))
  have HJ:=ħ hJ
  clear hJ HI
  obtain ⟨pp46,pa46,pc46,hx1,hx2,hx3⟩:=HW.out.ps.blk
  have hc46:=cells_at hx2
  clear hx1 hx2 hx3
  go_wp2_with fail
  clear hc46
  by_cases hq:Eat false r sDOT
  ·have HEd:=ħ hq
   clear hq
   go_at_call 27
   refine (HW.out.eatY HS.out (s:=sDOT) (by decide) HEd.out).mono ?_
   rintro e w47 ⟨rfl,HL,hS,hW,hG⟩
   replace HN_n:=HW.out.kN HZ_n hG HN_n
   replace HW:=hW
   replace HS:=hS
   clear hG
   go_wp2_with fail
   replace HN_n:=ħ ((Mv.quiet (grown_drew w47)).nd HN_n.out)
   replace HW:=ħ (HW.out.quiet (grown_drew w47))
   refine wp_region_held_drew (S:=(fun _=>True)) (by kernel_rfl) trivial fun hHd=>?_
   generalize w47.drew=w48 at *
   refine tq 0 ?_
   simp only [qq]
   refine rq2 1 2 (fun K hK=>?_) fun K hK=>?_
   ·go_simp
    refine (HW.out.nm HS.out HF.out).mono ?_
    rintro e w49 ⟨x_s,β49,r49,rfl,HQ_s,HL,hS,hW,hG⟩
    replace HN_n:=HW.out.kN HZ_n hG HN_n
    replace HW:=hW
    replace HS:=hS
    clear hG
    refine hK.out _ _ trivial fun hHd=>?_
    clear hK K
    try simp only [qq]
    refine rq 2 fun K hK=>?_
    have hc50:=HW.out.c0
    go_simp
    clear hc50
    refine hK.out _ _ trivial fun hHd=>?_
    clear hK K
    try simp only [qq]
    refine rq 3 fun K hK=>?_
    replace HW:=HW.out.al w49.heap.size #[.int .i64 k0,.string t0,.int .i64 v0,.slice a0 l0 c0]
    replace HN_n:=HW.out.nA HN_n
    go_simp
    refine hK.out _ _ trivial fun hHd=>?_
    clear hK K
    try simp only [qq]
    generalize w49.alloc _=w51 at *
    refine tq 4 ?_
    simp only [qq]
    refine rq 5 fun K hK=>?_
    have HM_a:=ħ (Wr.o0 HW.out (HN_n.out.less HZ_n.out))
    have HZ_a:=zz w
    clear HN_n HZ_n
    replace HW:=ħ HW.out.d0
    have HN_z:=ħ (HM_a.out.node 24 x_s 0)
    have HZ_z:=HZ_a
    clear HM_a HZ_a
    have hc52:=HW.out.c0
    have hf53:=HW.out.f0
    replace HW:=ħ (HW.out.s0 (.int .i64 24) (.string (str x_s)) (.int .i64 0) ((.slice (some ⟨w49.heap.size,0,none⟩) 1 1)))
    replace HN_z:=HW.out.ms0.N HN_z
    go_simp
    refine hK.out _ _ trivial fun hHd=>?_
    clear hK K
    try simp only [qq]
    generalize (((w51.setCell _ _).setCell _ _).setCell _ _).setCell _ _=w54 at *
    clear hc52 hf53
    refine wpAnyH_done (by kernel_rfl) ?_ _
    go_wp2_with fail
    go_roundw
    case rel=>exact ⟨_,_,_,_,_,_,_,_,_,HW,HN_z,HS,HL,pi_dot HJ.out (eat_tt HEd.out) HQ_s.out⟩
    case measure=>rw [HW.out.ps.leftR,HMu.out];exact less_left (Nat.le_trans HQ_s.out.suf.length_le (List.tail_suffix _).length_le) (fun _=>Nat.lt_of_le_of_lt HQ_s.out.suf.length_le (tail_lt' (s:=sDOT) (by decide) (eat_tt HEd.out)))
   have hc55:=HW.out.c0
   go_simp
   clear hc55
   refine hK.out _ _ trivial fun hHd=>?_
   clear hK K
   try simp only [qq]
   refine rq2 1 3 (fun K hK=>?_) fun K hK=>?_
   ·go_simp
    refine (HW.out.nm HS.out HF.out).mono ?_
    rintro e w56 ⟨x_s,β56,r56,rfl,HQ_s,HL,hS,hW,hG⟩
    replace HN_n:=HW.out.kN HZ_n hG HN_n
    replace HW:=hW
    replace HS:=hS
    clear hG
    refine hK.out _ _ trivial fun hHd=>?_
    clear hK K
    try simp only [qq]
    refine rq 3 fun K hK=>?_
    replace HW:=HW.out.al w56.heap.size #[.int .i64 k0,.string t0,.int .i64 v0,.slice a0 l0 c0]
    replace HN_n:=HW.out.nA HN_n
    go_simp
    refine hK.out _ _ trivial fun hHd=>?_
    clear hK K
    try simp only [qq]
    generalize w56.alloc _=w57 at *
    refine tq 4 ?_
    simp only [qq]
    refine rq 5 fun K hK=>?_
    have HM_a:=ħ (Wr.o0 HW.out (HN_n.out.less HZ_n.out))
    have HZ_a:=zz w
    clear HN_n HZ_n
    replace HW:=ħ HW.out.d0
    have HN_z:=ħ (HM_a.out.node 24 x_s 0)
    have HZ_z:=HZ_a
    clear HM_a HZ_a
    have hc58:=HW.out.c0
    have hf59:=HW.out.f0
    replace HW:=ħ (HW.out.s0 (.int .i64 24) (.string (str x_s)) (.int .i64 0) ((.slice (some ⟨w56.heap.size,0,none⟩) 1 1)))
    replace HN_z:=HW.out.ms0.N HN_z
    go_simp
    refine hK.out _ _ trivial fun hHd=>?_
    clear hK K
    try simp only [qq]
    generalize (((w57.setCell _ _).setCell _ _).setCell _ _).setCell _ _=w60 at *
    clear hc58 hf59
    refine wpAnyH_done (by kernel_rfl) ?_ _
    go_wp2_with fail
    go_roundw
    case rel=>exact ⟨_,_,_,_,_,_,_,_,_,HW,HN_z,HS,HL,pi_dot HJ.out (eat_tt HEd.out) HQ_s.out⟩
    case measure=>rw [HW.out.ps.leftR,HMu.out];exact less_left (Nat.le_trans HQ_s.out.suf.length_le (List.tail_suffix _).length_le) (fun _=>Nat.lt_of_le_of_lt HQ_s.out.suf.length_le (tail_lt' (s:=sDOT) (by decide) (eat_tt HEd.out)))
   replace HW:=HW.out.al w48.heap.size #[.int .i64 k0,.string t0,.int .i64 v0,.slice a0 l0 c0]
   replace HN_n:=HW.out.nA HN_n
   go_simp
   refine hK.out _ _ trivial fun hHd=>?_
   clear hK K
   try simp only [qq]
   generalize w48.alloc _=w61 at *
   refine rq 1 fun K hK=>?_
   go_simp
   refine (HW.out.nm HS.out HF.out).mono ?_
   rintro e w62 ⟨x_s,β62,r62,rfl,HQ_s,HL,hS,hW,hG⟩
   replace HN_n:=HW.out.kN HZ_n hG HN_n
   replace HW:=hW
   replace HS:=hS
   clear hG
   refine hK.out _ _ trivial fun hHd=>?_
   clear hK K
   try simp only [qq]
   refine tq 4 ?_
   simp only [qq]
   refine rq 5 fun K hK=>?_
   have HM_a:=ħ (Wr.o0 HW.out (HN_n.out.less HZ_n.out))
   have HZ_a:=zz w
   clear HN_n HZ_n
   replace HW:=ħ HW.out.d0
   have HN_z:=ħ (HM_a.out.node 24 x_s 0)
   have HZ_z:=HZ_a
   clear HM_a HZ_a
   have hc63:=HW.out.c0
   have hf64:=HW.out.f0
   replace HW:=ħ (HW.out.s0 (.int .i64 24) (.string (str x_s)) (.int .i64 0) ((.slice (some ⟨w48.heap.size,0,none⟩) 1 1)))
   replace HN_z:=HW.out.ms0.N HN_z
   go_simp
   refine hK.out _ _ trivial fun hHd=>?_
   clear hK K
   try simp only [qq]
   generalize (((w62.setCell _ _).setCell _ _).setCell _ _).setCell _ _=w65 at *
   clear hc63 hf64
   refine wpAnyH_done (by kernel_rfl) ?_ _
   go_wp2_with fail
   go_roundw
   case rel=>exact ⟨_,_,_,_,_,_,_,_,_,HW,HN_z,HS,HL,pi_dot HJ.out (eat_tt HEd.out) HQ_s.out⟩
   case measure=>rw [HW.out.ps.leftR,HMu.out];exact less_left (Nat.le_trans HQ_s.out.suf.length_le (List.tail_suffix _).length_le) (fun _=>Nat.lt_of_le_of_lt HQ_s.out.suf.length_le (tail_lt' (s:=sDOT) (by decide) (eat_tt HEd.out)))
  have HEd:=ħ hq
  clear hq
  go_at_call 27
  refine (HW.out.eatN (s:=sDOT) HEd.out).mono ?_
  rintro e w66 ⟨rfl,hW,hG⟩
  replace HN_n:=HW.out.kN HZ_n hG HN_n
  replace HW:=hW
  clear hG
  go_wp2_with fail
  go_at_call 31
  refine (HW.out.tx 0 (by omega)).mono ?_
  rintro e w67 ⟨rfl,hW,hG⟩
  replace HN_n:=(Mv.quiet hG).N HN_n
  replace HW:=hW
  clear hG
  rw [List.drop_zero]
  by_cases hq:hd (tk r)=sLP
  ·have HQl:=ħ hq
   have hq1:((str (hd (tk r))).toList == [40])=true:=tx_yes hq
   clear hq
   go_wp2_with fail
   clear hq1
   go_at_call 32
   refine (HR.out w67 false r HS.out HL.out HW.out.ps (HF.out.suf HS.out)).mono ?_
   rintro e w68 hp
   obtain ⟨l_l,v_l,d_l,β68,r68,rfl,HR_l,HG_l,HI_l,HM_l,HZ_l,HS_l,HL,hS,hW,hG⟩:=HW.out.okR HS.out hp
   replace HN_n:=HW.out.kN HZ_n hG HN_n
   replace HW:=hW
   replace HS:=hS
   clear hG hp
   have hc69:=HW.out.c0
   have hc70:=HW.out.c1
   replace HW:=HW.out.al w68.heap.size #[.int .i64 k0,.string t0,.int .i64 v0,.slice a0 l0 c0]
   replace HN_n:=HW.out.nA HN_n
   replace HM_l:=HW.out.rA HM_l
   have hc71:=HW.out.c1
   have hc72:=HW.out.c2
   have hf73:=HW.out.f1
   have HD:Hid _:=apart_new (n:=1) (cp:=1) HM_l.out HZ_l.out rfl
   have HM_a:=ħ (Wr.o0 HW.out (HN_n.out.less HZ_n.out))
   have HZ_a:=zz w
   clear HN_n HZ_n
   replace HM_l:=(Mv.d0 _).R HM_l
   replace HW:=ħ HW.out.d0
   go_wp2_with (at_builtin;refine app_rows_list _ _ rfl rfl HW.out HM_a.out HD.out HZ_a.out (by have h1:=HG_l.out;simp only [List.length_cons,List.length_nil];omega) HI_l.out (by simp) ?e1 ?e2 ?_;(case e1=>rfl);(case e2=>rfl);skip)
   intro g74 c74 w74 hW74 hM74 hG74
   clear HM_a HM_l HZ_a HZ_l HD
   replace HW:=ħ hW74
   have HM_c:Hid (RowN w74 (Av w.heap.size _) (.slice (some ⟨g74,0,none⟩) (l_l.length+1) c74) ([n]++l_l)):=hM74
   have HZ_c:=zz w
   clear hW74 hM74 hG74
   have HN_z:=ħ (HM_c.out.node 25 [] 0)
   have HZ_z:=HZ_c
   clear HM_c HZ_c
   have hc75:=HW.out.c0
   have hf76:=HW.out.f0
   replace HW:=ħ (HW.out.s0 (.int .i64 25) (.string ⟨#[]⟩) (.int .i64 0) ((.slice (some ⟨g74,0,none⟩) (l_l.length+1) c74)))
   replace HN_z:=HW.out.ms0.N HN_z
   go_wp2_with fail
   generalize (((w74.setCell _ _).setCell _ _).setCell _ _).setCell _ _=w77 at *
   clear hc75 hf76
   go_roundw
   case rel=>exact ⟨_,_,_,_,_,_,_,_,_,HW,HN_z,HS,HL,pi_call HJ.out HQl.out HR_l.out⟩
   case measure=>rw [HW.out.ps.leftR,HMu.out];exact less_left HS_l.out.length_le HR_l.out.prog
  have HQl:=ħ hq
  have hq1:((str (hd (tk r))).toList == [40])=false:=tx_no hq
  clear hq
  have hc78:=HW.out.c0
  have hc79:=HW.out.c1
  have hf80:=HW.out.f1
  replace HW:=ħ (HW.out.s1 (.int .i64 k0) (.string t0) (.int .i64 v0) (.slice a0 l0 c0))
  replace HN_n:=HW.out.ms1.N HN_n
  go_wp2_with fail
  exact HW.out.e HW.out.b1 HS HZ_n HN_n (pi_stop HJ.out (eat_ff HEd.out) HQl.out HL.out)
end Go.Proofs.YthcfianhdkolhaaGreatDoor.Y.Z
