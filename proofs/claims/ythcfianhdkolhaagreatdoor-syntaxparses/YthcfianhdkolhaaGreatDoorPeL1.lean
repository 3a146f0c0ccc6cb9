/- PeK PeL PeL0 PeL1 -/
import Derived.Test.YthcfianhdkolhaaGreatDoorSign
import Derived.Test.YthcfianhdkolhaaGreatDoorPeJ
namespace Go.Proofs.YthcfianhdkolhaaGreatDoor.Y.Z
open Go.RowKit Go.Proofs.YthcfianhdkolhaaGreatDoor.T Go.Proofs.YthcfianhdkolhaaGreatDoor.S
open Go.Proofs.YthcfianhdkolhaaGreatDoor.X (Tok)
set_option linter.unusedVariables false
set_option linter.unusedSimpArgs false
set_option maxRecDepth 100000
set_option maxHeartbeats 2000000
variable {w w' : World} {b g : Nat} {K ts : List Tok} {β : Bool}
def Sm (ts:List Tk) (q:Res):Prop:=(nameB (hd ts)=true∧R (.simpleL (.mk 23 (hd ts) 0 []) false) ts.tail q)∨(nameB (hd ts)=false∧q=.no ts)
def SI (T:List Tk) (n:Nd) (c:Nat) (β:Bool) (r:List Tok):Prop:=(β=true∧Sm T (.no (tk r)))∨(β=false∧∀ q,R (.simpleL n (decide (0<c))) (tk r) q→Sm T q)
theorem nd_kind {A:Nat→Prop} {n:Nd} {k0:Int} {x y z:Value} (h:NdV w A n (.agg #[.int .i64 k0,x,y,z])):∃ t v l,n=.mk k0 t v l:=by
 generalize hv:(Value.agg #[.int .i64 k0,x,y,z])=v at h
 cases h with
 | leaf k t v ka kc hk=>
  have e:=congrArg Array.toList (Value.agg.inj hv)
  simp at e
  obtain ⟨rfl,_⟩:=e
  exact ⟨_,_,_,rfl⟩
 | full k t v kids g kc c hne h1 h2 hA hc hs=>
  have e:=congrArg Array.toList (Value.agg.inj hv)
  simp at e
  obtain ⟨rfl,_⟩:=e
  exact ⟨_,_,_,rfl⟩
theorem si_start {x:List UInt8} {β1:Bool} {r1:List Tok} (h:Na x false ts β1 r1):SI (tk ts) (.mk 23 x 0 []) 0 β1 r1:=by
 rcases h.good with ⟨rfl,e,rfl,rfl⟩|⟨rfl,e,rfl,rfl⟩
 ·exact Or.inr ⟨rfl,fun q k=>Or.inl ⟨e,by rw [tk_tail] at k;exact k⟩⟩
 exact Or.inl ⟨rfl,Or.inr ⟨e,rfl⟩⟩
theorem si_dot {T:List Tk} {n:Nd} {c:Nat} {r r1:List Tok} {β1:Bool} {x:List UInt8} (J:∀ q,R (.simpleL n (decide (0<c))) (tk r) q→Sm T q) (h1:hd (tk r)=sDOT) (h:Na x false r.tail β1 r1):SI T (.mk 24 x 0 [n]) c β1 r1:=by
 rcases h.good with ⟨rfl,e,rfl,rfl⟩|⟨rfl,e,rfl,rfl⟩
 ·refine Or.inr ⟨rfl,fun q k2=>J q ?_⟩
  obtain ⟨m,k2⟩:=k2
  simp only [tk_tail] at *
  exact ⟨m+1,by simp only [P,F,h1,S.name,e,if_true,k2]⟩
 rw [tk_tail] at e
 exact Or.inl ⟨rfl,J _ ⟨1,by simp [P,F,h1,S.name,e,tk_tail]⟩⟩
theorem si_call {T:List Tk} {n:Nd} {c:Nat} {r r1:List Tok} {β1 d:Bool} {l:List Nd} (J:∀ q,R (.simpleL n (decide (0<c))) (tk r) q→Sm T q) (h1:hd (tk r)=sLP) (h:Mw (R (.rows 2)) l d false r β1 r1):SI T (.mk 25 [] 0 (n::l)) (c+1) β1 r1:=by
 rcases h.good with ⟨rfl,_,_,e⟩|⟨rfl,e⟩
 ·refine Or.inr ⟨rfl,fun q k2=>J q ?_⟩
  obtain ⟨m,e,k2⟩:=both e k2
  have hd':decide (0<c+1)=true:=by simp
  rw [hd'] at k2
  exact ⟨m+1,by simp [P,F,h1,andR,e,k2]⟩
 obtain ⟨m,e⟩:=e
 exact Or.inl ⟨rfl,J _ ⟨m+1,by simp [P,F,h1,andR,e]⟩⟩
theorem si_set {n x:Nd} {r r1 r2:List Tok} {β1 β2:Bool} (J:∀ q,R (.simpleL n (decide (0<0))) (tk r) q→Sm (tk ts) q) (hp:Pg false r ts) (h0:¬ hd (tk r)=sDOT) (h1:¬ hd (tk r)=sLP) (h2:Mu sEQ false r β1 r1) (h3:Md (R .expr) x β1 r1 β2 r2):Md Sm (.mk 15 [] 0 [n,x]) false ts β2 r2:=by
 have hl:=hp rfl
 rcases h2.good with ⟨rfl,e1,rfl⟩|⟨rfl,e1,rfl⟩
 ·have q:=(List.tail_suffix r).length_le
  rcases h3.good with ⟨rfl,l3,e3⟩|⟨rfl,e3⟩
  ·obtain ⟨m,e3⟩:=e3
   rw [tk_tail] at e3
   exact Or.inr (Or.inl ⟨rfl,rfl,by omega,J _ ⟨m+1,by simp [P,F,h0,h1,must,e1,andN,e3,okN]⟩⟩)
  obtain ⟨m,e3⟩:=e3
  rw [tk_tail] at e3
  exact Or.inr (Or.inr ⟨rfl,rfl,J _ ⟨m+1,by simp [P,F,h0,h1,must,e1,andN,e3]⟩⟩)
 obtain ⟨rfl,rfl⟩:=h3.bad
 exact Or.inr (Or.inr ⟨rfl,rfl,J _ ⟨1,by simp [P,F,h0,h1,must,e1]⟩⟩)
theorem si_do {k0:Int} {t:List UInt8} {v:Int} {l:List Nd} {c:Nat} {r:List Tok} (J:∀ q,R (.simpleL (.mk k0 t v l) (decide (0<c))) (tk r) q→Sm (tk ts) q) (hp:Pg false r ts) (h0:¬ hd (tk r)=sDOT) (h1:¬ hd (tk r)=sLP) (hc:0<c) (hk:k0=25):Md Sm (.mk 20 [] 0 [.mk k0 t v l]) false ts false r:=by
 have hd':decide (0<c)=true:=by simpa using hc
 rw [hd'] at J
 exact Or.inr (Or.inl ⟨rfl,rfl,hp rfl,J _ ⟨1,by simp [P,F,h0,h1,hk,okN]⟩⟩)
theorem si_bad {n:Nd} {k0:Int} {t:List UInt8} {v:Int} {l:List Nd} {c:Nat} {r:List Tok} (J:∀ q,R (.simpleL (.mk k0 t v l) (decide (0<c))) (tk r) q→Sm (tk ts) q) (h0:¬ hd (tk r)=sDOT) (h1:¬ hd (tk r)=sLP) (hc:0<c) (hk:¬ k0=25):Md Sm n false ts true r:=by
 have hd':decide (0<c)=true:=by simpa using hc
 rw [hd'] at J
 exact Or.inr (Or.inr ⟨rfl,rfl,J _ ⟨1,by simp [P,F,h0,h1,hk]⟩⟩)
theorem li_call {c:Nat} {r r1:List Tok} {β1 d:Bool} {l:List Nd} {q:List Tk→Res→Prop} (h:LI ts c false r) (h1:Mw q l d false r β1 r1):LI ts (c+1) β1 r1:=by
 have a:=h.1 rfl
 exact ⟨fun e=>by have d:=h1.prog e;omega,by omega⟩
theorem li_less {c:Nat} {r r1:List Tok} {β1:Bool} (h:LI ts c false r) (h1:r1 <:+ r):LI ts c β1 r1:=⟨fun e=>by have a:=h.1 rfl;have:=h1.length_le;omega,h.2⟩
theorem li_name {x:List UInt8} {β1:Bool} {r1:List Tok} (h:Na x false ts β1 r1):LI ts 0 β1 r1:=⟨fun e=>by have:=h.prog e;omega,Nat.zero_le _⟩
theorem simple_gd :∀ w,Rs w b g K false ts→Fits ts→Calls Tryz.prog 74 #[.pointer (some ⟨b,0,none⟩)] w (PoN Sm w b g K false ts):=by
 intro w h hF
 have HW:Hid (Wr w w b g K false ts []):=Wr.start h
 have HS:=su ts
 have HF:=ħ hF
 have HK:Hid (ts.length≤4000):=h.short
 have HE:=ħ (Nx.all (ts:=ts) (expr_any (b:=b) (g:=g) (K:=K)))
 have HR:=ħ (NxR.all (ts:=ts) (rows2_any (b:=b) (g:=g) (K:=K)))
 clear h hF
 go_enter Tryz.func74,Tryz.ntmps74
 replace HW:=HW.out.az w.heap.size
 go_wp2_with fail
 generalize w.alloc _=w1 at *
 go_at_call 28
 refine (HW.out.nm HS.out HF.out).mono ?_
 rintro e w2 ⟨x_s,β2,r2,rfl,HQ_s,HL,hS,hW,-⟩
 replace HW:=hW
 replace HS:=hS
 have HN_x:Hid (NdV w2 (Av w.heap.size [(w.heap.size,#[.int .i64 0,.string ⟨#[]⟩,.int .i64 0,.slice none 0 0],24)]) (.mk 23 x_s 0 []) (.agg #[.int .i64 23,.string (str x_s),.int .i64 0,.slice none 0 0])):=NdV.bare 23 x_s 0 none 0
 have HZ_x:=zz w
 replace HW:=HW.out.al w2.heap.size #[.int .i64 23,.string (str x_s),.int .i64 0,.slice none 0 0]
 replace HN_x:=HW.out.nA HN_x
 go_wp2_with fail
 generalize w2.alloc _=w3 at *
 go_loopw [4] (fun v4 wr=>∃ (r:List Tok) (β:Bool) (c:Nat) (n:Nd) (k0:Int) (t0:ByteArray) (v0:Int) (a0:Option Addr) (l0 c0:Nat),v4=.int .i64 c∧Hid (Wr w wr b g K β r [(w2.heap.size,#[.int .i64 k0,.string t0,.int .i64 v0,.slice a0 l0 c0],24),(w.heap.size,#[.int .i64 0,.string ⟨#[]⟩,.int .i64 0,.slice none 0 0],24)])∧Hid (NdV wr (Av w.heap.size [(w2.heap.size,#[.int .i64 k0,.string t0,.int .i64 v0,.slice a0 l0 c0],24),(w.heap.size,#[.int .i64 0,.string ⟨#[]⟩,.int .i64 0,.slice none 0 0],24)]) n (.agg #[.int .i64 k0,.string t0,.int .i64 v0,.slice a0 l0 c0]))∧Hid (r <:+ ts)∧Hid (Pg β r ts)∧Hid (LI ts c β r)∧Hid (SI (tk ts) n c β r)) (fun _ wr=>leftR b wr)
 case atStart=>exact ⟨_,_,0,_,_,_,_,_,_,_,rfl,HW,HN_x.out.less HZ_x.out,HS,HL,li_name HQ_s.out,si_start HQ_s.out⟩
 case round=>
  obtain ⟨r,β,c,n,k0,t0,v0,a0,l0,c0,rfl,HW,HN_n,HS,HL,HLi,HI⟩:=hrel
  have HZ_n:=zz w
  have hcb:c≤4000:=Nat.le_trans HLi.out.2 HK.out
  have HC:=ħ hcb
  clear hcb
  have hmu:=HW.out.ps.leftR
  have HMu:=ħ hmu
  clear hmu
  rcases HI.out with ⟨rfl,hA⟩|⟨rfl,hJ⟩
  ·have HA:=ħ hA
   clear hA
   obtain ⟨pp24,pa24,pc24,hx1,hx2,hx3⟩:=HW.out.ps.blk
   have hc24:=cells_at hx2
   clear hx1 hx2 hx3
   have hc25:=HW.out.c0
   have hc26:=HW.out.c1
   replace HW:=HW.out.al wr.heap.size #[.int .i64 k0,.string t0,.int .i64 v0,.slice a0 l0 c0]
   replace HN_n:=HW.out.nA HN_n
   have HM_a:=ħ (Wr.o0 HW.out (HN_n.out.less HZ_n.out))
   have HZ_a:=zz w
   clear HN_n HZ_n
   replace HW:=ħ HW.out.d0
   have HN_z:=ħ (HM_a.out.node 20 [] 0)
   have HZ_z:=HZ_a
   clear HM_a HZ_a
   have hc27:=HW.out.c0
   have hc28:=HW.out.c1
   have hf29:=HW.out.f1
   replace HW:=ħ (HW.out.s1 (.int .i64 20) (.string ⟨#[]⟩) (.int .i64 0) ((.slice (some ⟨wr.heap.size,0,none⟩) 1 1)))
   replace HN_z:=HW.out.ms1.N HN_z
   go_wp2_with fail
   exact HW.out.e HW.out.b1 HS HZ_z HN_z (Or.inr (Or.inr ⟨rfl,rfl,HA.out⟩))
  have HJ:=ħ hJ
  clear hJ HI
  obtain ⟨pp24,pa24,pc24,hx1,hx2,hx3⟩:=HW.out.ps.blk
  have hc24:=cells_at hx2
  clear hx1 hx2 hx3
  go_wp2_with fail
  clear hc24
  by_cases hq:Eat false r sDOT
  ·have HEd:=ħ hq
   clear hq
   go_at_call 27
   refine (HW.out.eatY HS.out (s:=sDOT) (by decide) HEd.out).mono ?_
   rintro e w25 ⟨rfl,HL,hS,hW,hG⟩
   replace HN_n:=HW.out.kN HZ_n hG HN_n
   replace HW:=hW
   replace HS:=hS
   clear hG
   go_wp2_with fail
   replace HN_n:=ħ ((Mv.quiet (grown_drew w25)).nd HN_n.out)
   replace HW:=ħ (HW.out.quiet (grown_drew w25))
   refine wp_region_held_drew (S:=(fun _=>True)) (by kernel_rfl) trivial fun hHd=>?_
   generalize w25.drew=w26 at *
   refine tq 0 ?_
   simp only [qq]
   refine rq2 1 2 (fun K hK=>?_) fun K hK=>?_
   ·go_simp
    refine (HW.out.nm HS.out HF.out).mono ?_
    rintro e w27 ⟨x_s,β27,r27,rfl,HQ_s,HL,hS,hW,hG⟩
    replace HN_n:=HW.out.kN HZ_n hG HN_n
    replace HW:=hW
    replace HS:=hS
    clear hG
    refine hK.out _ _ trivial fun hHd=>?_
    clear hK K
    try simp only [qq]
    refine rq 2 fun K hK=>?_
    have hc28:=HW.out.c0
    go_simp
    clear hc28
    refine hK.out _ _ trivial fun hHd=>?_
    clear hK K
    try simp only [qq]
    refine rq 3 fun K hK=>?_
    replace HW:=HW.out.al w27.heap.size #[.int .i64 k0,.string t0,.int .i64 v0,.slice a0 l0 c0]
    replace HN_n:=HW.out.nA HN_n
    go_simp
    refine hK.out _ _ trivial fun hHd=>?_
    clear hK K
    try simp only [qq]
    generalize w27.alloc _=w29 at *
    refine tq 4 ?_
    simp only [qq]
    refine rq 5 fun K hK=>?_
    have HM_a:=ħ (Wr.o0 HW.out (HN_n.out.less HZ_n.out))
    have HZ_a:=zz w
    clear HN_n HZ_n
    replace HW:=ħ HW.out.d0
    have HN_z:=ħ (HM_a.out.node 24 x_s 0)
    have HZ_z:=HZ_a
    clear HM_a HZ_a
    have hc30:=HW.out.c0
    have hf31:=HW.out.f0
    replace HW:=ħ (HW.out.s0 (.int .i64 24) (.string (str x_s)) (.int .i64 0) ((.slice (some ⟨w27.heap.size,0,none⟩) 1 1)))
    replace HN_z:=HW.out.ms0.N HN_z
    go_simp
    refine hK.out _ _ trivial fun hHd=>?_
    clear hK K
    try simp only [qq]
    generalize (((w29.setCell _ _).setCell _ _).setCell _ _).setCell _ _=w32 at *
    clear hc30 hf31
    refine wpAnyH_done (by kernel_rfl) ?_ _
    go_wp2_with fail
    go_roundw
    case rel=>exact ⟨_,_,c,_,_,_,_,_,_,_,rfl,HW,HN_z,HS,HL,li_less HLi.out (HQ_s.out.suf.trans (List.tail_suffix _)),si_dot HJ.out (eat_tt HEd.out) HQ_s.out⟩
    case measure=>rw [HW.out.ps.leftR,HMu.out];exact less_left (Nat.le_trans HQ_s.out.suf.length_le (List.tail_suffix _).length_le) (fun _=>Nat.lt_of_le_of_lt HQ_s.out.suf.length_le (tail_lt' (s:=sDOT) (by decide) (eat_tt HEd.out)))
   have hc33:=HW.out.c0
   go_simp
   clear hc33
   refine hK.out _ _ trivial fun hHd=>?_
   clear hK K
   try simp only [qq]
   refine rq2 1 3 (fun K hK=>?_) fun K hK=>?_
   ·go_simp
    refine (HW.out.nm HS.out HF.out).mono ?_
    rintro e w34 ⟨x_s,β34,r34,rfl,HQ_s,HL,hS,hW,hG⟩
    replace HN_n:=HW.out.kN HZ_n hG HN_n
    replace HW:=hW
    replace HS:=hS
    clear hG
    refine hK.out _ _ trivial fun hHd=>?_
    clear hK K
    try simp only [qq]
    refine rq 3 fun K hK=>?_
    replace HW:=HW.out.al w34.heap.size #[.int .i64 k0,.string t0,.int .i64 v0,.slice a0 l0 c0]
    replace HN_n:=HW.out.nA HN_n
    go_simp
    refine hK.out _ _ trivial fun hHd=>?_
    clear hK K
    try simp only [qq]
    generalize w34.alloc _=w35 at *
    refine tq 4 ?_
    simp only [qq]
    refine rq 5 fun K hK=>?_
    have HM_a:=ħ (Wr.o0 HW.out (HN_n.out.less HZ_n.out))
    have HZ_a:=zz w
    clear HN_n HZ_n
    replace HW:=ħ HW.out.d0
    have HN_z:=ħ (HM_a.out.node 24 x_s 0)
    have HZ_z:=HZ_a
    clear HM_a HZ_a
    have hc36:=HW.out.c0
    have hf37:=HW.out.f0
    replace HW:=ħ (HW.out.s0 (.int .i64 24) (.string (str x_s)) (.int .i64 0) ((.slice (some ⟨w34.heap.size,0,none⟩) 1 1)))
    replace HN_z:=HW.out.ms0.N HN_z
    go_simp
    refine hK.out _ _ trivial fun hHd=>?_
    clear hK K
    try simp only [qq]
    generalize (((w35.setCell _ _).setCell _ _).setCell _ _).setCell _ _=w38 at *
    clear hc36 hf37
    refine wpAnyH_done (by kernel_rfl) ?_ _
    go_wp2_with fail
    go_roundw
    case rel=>exact ⟨_,_,c,_,_,_,_,_,_,_,rfl,HW,HN_z,HS,HL,li_less HLi.out (HQ_s.out.suf.trans (List.tail_suffix _)),si_dot HJ.out (eat_tt HEd.out) HQ_s.out⟩
    case measure=>rw [HW.out.ps.leftR,HMu.out];exact less_left (Nat.le_trans HQ_s.out.suf.length_le (List.tail_suffix _).length_le) (fun _=>Nat.lt_of_le_of_lt HQ_s.out.suf.length_le (tail_lt' (s:=sDOT) (by decide) (eat_tt HEd.out)))
   replace HW:=HW.out.al w26.heap.size #[.int .i64 k0,.string t0,.int .i64 v0,.slice a0 l0 c0]
   replace HN_n:=HW.out.nA HN_n
   go_simp
   refine hK.out _ _ trivial fun hHd=>?_
   clear hK K
   try simp only [qq]
   generalize w26.alloc _=w39 at *
   refine rq 1 fun K hK=>?_
   go_simp
   refine (HW.out.nm HS.out HF.out).mono ?_
   rintro e w40 ⟨x_s,β40,r40,rfl,HQ_s,HL,hS,hW,hG⟩
   replace HN_n:=HW.out.kN HZ_n hG HN_n
   replace HW:=hW
   replace HS:=hS
   clear hG
   refine hK.out _ _ trivial fun hHd=>?_
   clear hK K
   try simp only [qq]
   refine tq 4 ?_
   simp only [qq]
   refine rq 5 fun K hK=>?_
   have HM_a:=ħ (Wr.o0 HW.out (HN_n.out.less HZ_n.out))
   have HZ_a:=zz w
   clear HN_n HZ_n
   replace HW:=ħ HW.out.d0
   have HN_z:=ħ (HM_a.out.node 24 x_s 0)
   have HZ_z:=HZ_a
   clear HM_a HZ_a
   have hc41:=HW.out.c0
   have hf42:=HW.out.f0
   replace HW:=ħ (HW.out.s0 (.int .i64 24) (.string (str x_s)) (.int .i64 0) ((.slice (some ⟨w26.heap.size,0,none⟩) 1 1)))
   replace HN_z:=HW.out.ms0.N HN_z
   go_simp
   refine hK.out _ _ trivial fun hHd=>?_
   clear hK K
   try simp only [qq]
   generalize (((w40.setCell _ _).setCell _ _).setCell _ _).setCell _ _=w43 at *
   clear hc41 hf42
   refine wpAnyH_done (by kernel_rfl) ?_ _
   go_wp2_with fail
   go_roundw
   case rel=>exact ⟨_,_,c,_,_,_,_,_,_,_,rfl,HW,HN_z,HS,HL,li_less HLi.out (HQ_s.out.suf.trans (List.tail_suffix _)),si_dot HJ.out (eat_tt HEd.out) HQ_s.out⟩
   case measure=>rw [HW.out.ps.leftR,HMu.out];exact less_left (Nat.le_trans HQ_s.out.suf.length_le (List.tail_suffix _).length_le) (fun _=>Nat.lt_of_le_of_lt HQ_s.out.suf.length_le (tail_lt' (s:=sDOT) (by decide) (eat_tt HEd.out)))
  have HEd:=ħ hq
  clear hq
  go_at_call 27
  refine (HW.out.eatN (s:=sDOT) HEd.out).mono ?_
  rintro e w44 ⟨rfl,hW,hG⟩
  replace HN_n:=HW.out.kN HZ_n hG HN_n
  replace HW:=hW
  clear hG
  go_wp2_with fail
  go_at_call 31
  refine (HW.out.tx 0 (by omega)).mono ?_
  rintro e w45 ⟨rfl,hW,hG⟩
  replace HN_n:=(Mv.quiet hG).N HN_n
  replace HW:=hW
  clear hG
  rw [List.drop_zero]
  by_cases hq:hd (tk r)=sLP
  ·have HQl:=ħ hq
   have hq1:((str (hd (tk r))).toList == [40])=true:=tx_yes hq
   clear hq
   go_wp2_with fail
   clear hq1
   go_at_call 32
   refine (HR.out w45 false r HS.out HL.out HW.out.ps (HF.out.suf HS.out)).mono ?_
   rintro e w46 hp
   obtain ⟨l_l,v_l,d_l,β46,r46,rfl,HR_l,HG_l,HI_l,HM_l,HZ_l,HS_l,HL,hS,hW,hG⟩:=HW.out.okR HS.out hp
   replace HN_n:=HW.out.kN HZ_n hG HN_n
   replace HW:=hW
   replace HS:=hS
   clear hG hp
   have hc47:=HW.out.c0
   have hc48:=HW.out.c1
   replace HW:=HW.out.al w46.heap.size #[.int .i64 k0,.string t0,.int .i64 v0,.slice a0 l0 c0]
   replace HN_n:=HW.out.nA HN_n
   replace HM_l:=HW.out.rA HM_l
   have hc49:=HW.out.c1
   have hc50:=HW.out.c2
   have hf51:=HW.out.f1
   have HD:Hid _:=apart_new (n:=1) (cp:=1) HM_l.out HZ_l.out rfl
   have HM_a:=ħ (Wr.o0 HW.out (HN_n.out.less HZ_n.out))
   have HZ_a:=zz w
   clear HN_n HZ_n
   replace HM_l:=(Mv.d0 _).R HM_l
   replace HW:=ħ HW.out.d0
   go_wp2_with (at_builtin;refine app_rows_list _ _ rfl rfl HW.out HM_a.out HD.out HZ_a.out (by have h1:=HG_l.out;simp only [List.length_cons,List.length_nil];omega) HI_l.out (by simp) ?e1 ?e2 ?_;(case e1=>rfl);(case e2=>rfl);skip)
   intro g52 c52 w52 hW52 hM52 hG52
   clear HM_a HM_l HZ_a HZ_l HD
   replace HW:=ħ hW52
   have HM_c:Hid (RowN w52 (Av w.heap.size _) (.slice (some ⟨g52,0,none⟩) (l_l.length+1) c52) ([n]++l_l)):=hM52
   have HZ_c:=zz w
   clear hW52 hM52 hG52
   have hwc:IntKind.i64.wrap ((c:Int)+1)=(c:Int)+1:=by rw [IntKind.wrap_i64];have:=HC.out;omega
   have HN_z:=ħ (HM_c.out.node 25 [] 0)
   have HZ_z:=HZ_c
   clear HM_c HZ_c
   have hc53:=HW.out.c0
   have hf54:=HW.out.f0
   replace HW:=ħ (HW.out.s0 (.int .i64 25) (.string ⟨#[]⟩) (.int .i64 0) ((.slice (some ⟨g52,0,none⟩) (l_l.length+1) c52)))
   replace HN_z:=HW.out.ms0.N HN_z
   go_wp2_with fail
   generalize (((w52.setCell _ _).setCell _ _).setCell _ _).setCell _ _=w55 at *
   clear hc53 hf54 hwc
   go_roundw
   case rel=>exact ⟨_,_,(c+1),_,_,_,_,_,_,_,by go_num,HW,HN_z,HS,HL,li_call HLi.out HR_l.out,si_call HJ.out HQl.out HR_l.out⟩
   case measure=>rw [HW.out.ps.leftR,HMu.out];exact less_left HS_l.out.length_le HR_l.out.prog
  have HQl:=ħ hq
  have hq1:((str (hd (tk r))).toList == [40])=false:=tx_no hq
  clear hq
  by_cases hz:c=0
  ·have HL0:=HL
   subst hz
   go_wp2_with fail
   clear hq1
   go_at_call 29
   refine (HW.out.mu HS.out (s:=sEQ) (by decide)).mono ?_
   rintro e w56 ⟨mv56,β56,r56,rfl,HQ1,HL,hS,hW,hG⟩
   replace HN_n:=HW.out.kN HZ_n hG HN_n
   replace HW:=hW
   replace HS:=hS
   clear hG
   go_wp2_with fail
   go_at_call 53
   refine (HE.out w56 β56 r56 HS.out HL.out HW.out.ps (HF.out.suf HS.out)).mono ?_
   rintro e w57 hp
   obtain ⟨n_x,k_x,t_x,v_x,a_x,l_x,c_x,β57,r57,rfl,HR_x,HN_x,HZ_x,HS_x,HL,hS,hW,hG⟩:=HW.out.okN HS.out hp
   replace HN_n:=HW.out.kN HZ_n hG HN_n
   replace HW:=hW
   replace HS:=hS
   clear hG hp
   replace HW:=HW.out.am w57.heap.size HN_x
   replace HN_n:=HW.out.nA HN_n
   replace HN_x:=HW.out.nA HN_x
   have hc58:=HW.out.c0
   have hc59:=HW.out.c1
   have hc60:=HW.out.c2
   replace HW:=HW.out.al (w57.heap.size+1) #[.int .i64 k0,.string t0,.int .i64 v0,.slice a0 l0 c0,.int .i64 k_x,.string t_x,.int .i64 v_x,.slice a_x l_x c_x]
   replace HN_n:=HW.out.nA HN_n
   replace HN_x:=HW.out.nA HN_x
   have hc61:=HW.out.c1
   have hc62:=HW.out.c2
   have hc63:=HW.out.c3
   have HM_a:=ħ (Wr.t0 HW.out (HN_n.out.less HZ_n.out) (HN_x.out.less HZ_x.out))
   have HZ_a:=zz w
   clear HN_n HZ_n HN_x HZ_x
   replace HW:=ħ HW.out.d0
   have HN_z:=ħ (HM_a.out.node 15 [] 0)
   have HZ_z:=HZ_a
   clear HM_a HZ_a
   have hc64:=HW.out.c0
   have hc65:=HW.out.c1
   have hc66:=HW.out.c2
   have hf67:=HW.out.f2
   replace HW:=ħ (HW.out.s2 (.int .i64 15) (.string ⟨#[]⟩) (.int .i64 0) ((.slice (some ⟨(w57.heap.size+1),0,none⟩) 2 2)))
   replace HN_z:=HW.out.ms2.N HN_z
   go_wp2_with fail
   exact HW.out.e HW.out.b2 HS HZ_z HN_z (si_set HJ.out HL0.out (eat_ff HEd.out) HQl.out HQ1.out HR_x.out)
  have HCp:Hid (0<c):=Nat.pos_of_ne_zero hz
  have hz1:((c:Int) == 0)=false:=by simpa using hz
  have hz2:¬ (c:Int)=0:=by omega
  clear hz
  obtain ⟨kt,kv,kl,rfl⟩:=nd_kind HN_n.out
  by_cases hk:k0=25
  ·have HKk:=ħ hk
   subst hk
   have hc71:=HW.out.c0
   have hc72:=HW.out.c1
   replace HW:=HW.out.al w45.heap.size #[.int .i64 25,.string t0,.int .i64 v0,.slice a0 l0 c0]
   replace HN_n:=HW.out.nA HN_n
   have HM_a:=ħ (Wr.o0 HW.out (HN_n.out.less HZ_n.out))
   have HZ_a:=zz w
   clear HN_n HZ_n
   replace HW:=ħ HW.out.d0
   have HN_z:=ħ (HM_a.out.node 20 [] 0)
   have HZ_z:=HZ_a
   clear HM_a HZ_a
   have hc73:=HW.out.c0
   have hc74:=HW.out.c1
   have hf75:=HW.out.f1
   replace HW:=ħ (HW.out.s1 (.int .i64 20) (.string ⟨#[]⟩) (.int .i64 0) ((.slice (some ⟨w45.heap.size,0,none⟩) 1 1)))
   replace HN_z:=HW.out.ms1.N HN_z
   go_wp2_with fail
   exact HW.out.e HW.out.b1 HS HZ_z HN_z (si_do HJ.out HL.out (eat_ff HEd.out) HQl.out HCp.out rfl)
  have HKk:=ħ hk
  have hk1:(k0 == 25)=false:=by simpa using hk
  have hk2:(k0 != 25)=true:=by simpa using hk
  clear hk
  have hc79:=HW.out.c0
  have hc80:=HW.out.c1
  go_wp2_with fail
  clear hq1 hz1 hz2 hk1 hk2 hc79 hc80
  go_at_call 52
  refine HW.out.fl.mono ?_
  rintro e w81 ⟨mv81,rfl,hW,hG⟩
  replace HN_n:=HW.out.kN HZ_n hG HN_n
  replace HW:=hW
  clear hG
  have hc82:=HW.out.c0
  have hc83:=HW.out.c1
  replace HW:=HW.out.al w81.heap.size #[.int .i64 k0,.string t0,.int .i64 v0,.slice a0 l0 c0]
  replace HN_n:=HW.out.nA HN_n
  have HM_a:=ħ (Wr.o0 HW.out (HN_n.out.less HZ_n.out))
  have HZ_a:=zz w
  clear HN_n HZ_n
  replace HW:=ħ HW.out.d0
  have HN_z:=ħ (HM_a.out.node 20 [] 0)
  have HZ_z:=HZ_a
  clear HM_a HZ_a
  have hc84:=HW.out.c0
  have hc85:=HW.out.c1
  have hf86:=HW.out.f1
  replace HW:=ħ (HW.out.s1 (.int .i64 20) (.string ⟨#[]⟩) (.int .i64 0) ((.slice (some ⟨w81.heap.size,0,none⟩) 1 1)))
  replace HN_z:=HW.out.ms1.N HN_z
  go_wp2_with fail
  exact HW.out.e HW.out.b1 HS HZ_z HN_z (si_bad HJ.out (eat_ff HEd.out) HQl.out HCp.out HKk.out)
theorem md_if2 {ts:List Tok} {r1 r2:List Tok} {β1 β2:Bool} {c:Nd} {d:Nd}  (gy:hd (tk ts)=sIF) (h1:Md (R .round) c false ts.tail β1 r1) (h2:Md (R .block) d β1 r1 β2 r2) (h3:¬ Eat β2 r2 sELSE):Md (R .stat) (.mk 16 [] 0 [c,d]) false ts β2 r2:=by
 rcases h1.good with ⟨rfl,l1,e1⟩|⟨rfl,e1⟩
 ·rcases h2.good with ⟨rfl,l2,e2⟩|⟨rfl,e2⟩
  ·have e3:¬ hd (tk r2)=sELSE:=fun e=>h3 ⟨rfl,e⟩
   refine mok ?_ ?_
   ·have qh_gy:=tail_lt' (s:=sIF) (by decide) gy
    have q1:=l1
    have q2:=l2
    simp only [List.length_tail] at *
    omega
   obtain ⟨N0,e1,e2⟩:=both e1 e2
   try simp only [tk_tail] at *
   exact ⟨N0+1,by simp [P,F,must,andN,andR,S.name,okN,gy,e3,e1,e2]⟩
  refine mno ?_
  obtain ⟨N0,e1,e2⟩:=both e1 e2
  try simp only [tk_tail] at *
  exact ⟨N0+1,by simp [P,F,must,andN,andR,S.name,okN,gy,e1,e2]⟩
 obtain ⟨rfl,rfl⟩:=h2.bad
 refine mno ?_
 obtain ⟨N0,e1⟩:=e1
 try simp only [tk_tail] at *
 exact ⟨N0+1,by simp [P,F,must,andN,andR,S.name,okN,gy,e1]⟩
theorem md_if3 {ts:List Tok} {r1 r2 r4:List Tok} {β1 β2 β4:Bool} {c:Nd} {d:Nd} {o:Nd}  (gy:hd (tk ts)=sIF) (h1:Md (R .round) c false ts.tail β1 r1) (h2:Md (R .block) d β1 r1 β2 r2) (h3:Eat β2 r2 sELSE) (h4:Md (R .block) o false r2.tail β4 r4):Md (R .stat) (.mk 16 [] 0 ([c,d]++[o])) false ts β4 r4:=by
 rcases h1.good with ⟨rfl,l1,e1⟩|⟨rfl,e1⟩
 ·rcases h2.good with ⟨rfl,l2,e2⟩|⟨rfl,e2⟩
  ·have e3:=h3.2
   rcases h4.good with ⟨rfl,l4,e4⟩|⟨rfl,e4⟩
   ·refine mok ?_ ?_
    ·have qh_gy:=tail_lt' (s:=sIF) (by decide) gy
     have q1:=l1
     have q2:=l2
     have q3:=tail_lt' (s:=sELSE) (by decide) e3
     have q4:=l4
     simp only [List.length_tail] at *
     omega
    obtain ⟨N0,e1,e2,e4⟩:=three e1 e2 e4
    try simp only [tk_tail] at *
    exact ⟨N0+1,by simp [P,F,must,andN,andR,S.name,okN,gy,e3,e1,e2,e4]⟩
   refine mno ?_
   obtain ⟨N0,e1,e2,e4⟩:=three e1 e2 e4
   try simp only [tk_tail] at *
   exact ⟨N0+1,by simp [P,F,must,andN,andR,S.name,okN,gy,e3,e1,e2,e4]⟩
  cases h3.1
 obtain ⟨rfl,rfl⟩:=h2.bad
 cases h3.1
theorem md_while {ts:List Tok} {r1 r2:List Tok} {β1 β2:Bool} {c:Nd} {d:Nd}  (g0:¬ hd (tk ts)=sIF) (gy:hd (tk ts)=sWHILE) (h1:Md (R .round) c false ts.tail β1 r1) (h2:Md (R .block) d β1 r1 β2 r2):Md (R .stat) (.mk 17 [] 0 [c,d]) false ts β2 r2:=by
 rcases h1.good with ⟨rfl,l1,e1⟩|⟨rfl,e1⟩
 ·rcases h2.good with ⟨rfl,l2,e2⟩|⟨rfl,e2⟩
  ·refine mok ?_ ?_
   ·have qh_gy:=tail_lt' (s:=sWHILE) (by decide) gy
    have q1:=l1
    have q2:=l2
    simp only [List.length_tail] at *
    omega
   obtain ⟨N0,e1,e2⟩:=both e1 e2
   try simp only [tk_tail] at *
   exact ⟨N0+1,by simp [P,F,must,andN,andR,S.name,okN,g0,gy,e1,e2]⟩
  refine mno ?_
  obtain ⟨N0,e1,e2⟩:=both e1 e2
  try simp only [tk_tail] at *
  exact ⟨N0+1,by simp [P,F,must,andN,andR,S.name,okN,g0,gy,e1,e2]⟩
 obtain ⟨rfl,rfl⟩:=h2.bad
 refine mno ?_
 obtain ⟨N0,e1⟩:=e1
 try simp only [tk_tail] at *
 exact ⟨N0+1,by simp [P,F,must,andN,andR,S.name,okN,g0,gy,e1]⟩
theorem md_ret {ts:List Tok} {r1 r2:List Tok} {β1 β2:Bool} {x:Nd}  (g0:¬ hd (tk ts)=sIF) (g1:¬ hd (tk ts)=sWHILE) (gy:hd (tk ts)=sRET) (h1:Md (R .expr) x false ts.tail β1 r1) (h2:Mu sSEMI β1 r1 β2 r2):Md (R .stat) (.mk 18 [] 0 [x]) false ts β2 r2:=by
 rcases h1.good with ⟨rfl,l1,e1⟩|⟨rfl,e1⟩
 ·rcases h2.good with ⟨rfl,e2,rfl⟩|⟨rfl,e2,rfl⟩
  ·refine mok ?_ ?_
   ·have qh_gy:=tail_lt' (s:=sRET) (by decide) gy
    have q1:=l1
    have q2:=tail_lt' (s:=sSEMI) (by decide) e2
    simp only [List.length_tail] at *
    omega
   obtain ⟨N0,e1⟩:=e1
   try simp only [tk_tail] at *
   exact ⟨N0+1,by simp [P,F,must,andN,andR,S.name,okN,g0,g1,gy,e2,e1]⟩
  refine mno ?_
  obtain ⟨N0,e1⟩:=e1
  try simp only [tk_tail] at *
  exact ⟨N0+1,by simp [P,F,must,andN,andR,S.name,okN,g0,g1,gy,e2,e1]⟩
 obtain ⟨rfl,rfl⟩:=h2.bad
 refine mno ?_
 obtain ⟨N0,e1⟩:=e1
 try simp only [tk_tail] at *
 exact ⟨N0+1,by simp [P,F,must,andN,andR,S.name,okN,g0,g1,gy,e1]⟩
theorem md_put {ts:List Tok} {r1 r2:List Tok} {β1 β2:Bool} {x:Nd}  (g0:¬ hd (tk ts)=sIF) (g1:¬ hd (tk ts)=sWHILE) (g2:¬ hd (tk ts)=sRET) (gy:hd (tk ts)=sPUT) (h1:Md (R .round) x false ts.tail β1 r1) (h2:Mu sSEMI β1 r1 β2 r2):Md (R .stat) (.mk 19 [] 0 [x]) false ts β2 r2:=by
 rcases h1.good with ⟨rfl,l1,e1⟩|⟨rfl,e1⟩
 ·rcases h2.good with ⟨rfl,e2,rfl⟩|⟨rfl,e2,rfl⟩
  ·refine mok ?_ ?_
   ·have qh_gy:=tail_lt' (s:=sPUT) (by decide) gy
    have q1:=l1
    have q2:=tail_lt' (s:=sSEMI) (by decide) e2
    simp only [List.length_tail] at *
    omega
   obtain ⟨N0,e1⟩:=e1
   try simp only [tk_tail] at *
   exact ⟨N0+1,by simp [P,F,must,andN,andR,S.name,okN,g0,g1,g2,gy,e2,e1]⟩
  refine mno ?_
  obtain ⟨N0,e1⟩:=e1
  try simp only [tk_tail] at *
  exact ⟨N0+1,by simp [P,F,must,andN,andR,S.name,okN,g0,g1,g2,gy,e2,e1]⟩
 obtain ⟨rfl,rfl⟩:=h2.bad
 refine mno ?_
 obtain ⟨N0,e1⟩:=e1
 try simp only [tk_tail] at *
 exact ⟨N0+1,by simp [P,F,must,andN,andR,S.name,okN,g0,g1,g2,gy,e1]⟩
theorem md_var0 {ts:List Tok} {r1 r2 r3 r4 r5:List Tok} {β1 β2 β3 β4 β5:Bool} {t:Nd} {s:List UInt8} {x:Nd}  (g0:¬ hd (tk ts)=sIF) (g1:¬ hd (tk ts)=sWHILE) (g2:¬ hd (tk ts)=sRET) (g3:¬ hd (tk ts)=sPUT) (gv:hd (tk ts)=sINT) (h1:Md (R .typ) t false ts β1 r1) (h2:Na s β1 r1 β2 r2) (h3:Mu sEQ β2 r2 β3 r3) (h4:Md (R .expr) x β3 r3 β4 r4) (h5:Mu sSEMI β4 r4 β5 r5):Md (R .stat) (.mk 14 s 0 [t,x]) false ts β5 r5:=by
 rcases h1.good with ⟨rfl,l1,e1⟩|⟨rfl,e1⟩
 ·rcases h2.good with ⟨rfl,e2,rfl,rfl⟩|⟨rfl,e2,rfl,rfl⟩
  ·rcases h3.good with ⟨rfl,e3,rfl⟩|⟨rfl,e3,rfl⟩
   ·rcases h4.good with ⟨rfl,l4,e4⟩|⟨rfl,e4⟩
    ·rcases h5.good with ⟨rfl,e5,rfl⟩|⟨rfl,e5,rfl⟩
     ·refine mok ?_ ?_
      ·have qh_gv:=tail_lt' (s:=sINT) (by decide) gv
       have q1:=l1
       have q2:=tail_lt' (nm_ne e2) rfl
       have q3:=tail_lt' (s:=sEQ) (by decide) e3
       have q4:=l4
       have q5:=tail_lt' (s:=sSEMI) (by decide) e5
       simp only [List.length_tail] at *
       omega
      obtain ⟨N0,e1,e4⟩:=both e1 e4
      try simp only [tk_tail] at *
      exact ⟨N0+1,by simp [P,F,must,andN,andR,S.name,okN,g0,g1,g2,g3,gv,e2,e3,e5,e1,e4]⟩
     refine mno ?_
     obtain ⟨N0,e1,e4⟩:=both e1 e4
     try simp only [tk_tail] at *
     exact ⟨N0+1,by simp [P,F,must,andN,andR,S.name,okN,g0,g1,g2,g3,gv,e2,e3,e5,e1,e4]⟩
    obtain ⟨rfl,rfl⟩:=h5.bad
    refine mno ?_
    obtain ⟨N0,e1,e4⟩:=both e1 e4
    try simp only [tk_tail] at *
    exact ⟨N0+1,by simp [P,F,must,andN,andR,S.name,okN,g0,g1,g2,g3,gv,e2,e3,e1,e4]⟩
   obtain ⟨rfl,rfl⟩:=h4.bad
   obtain ⟨rfl,rfl⟩:=h5.bad
   refine mno ?_
   obtain ⟨N0,e1⟩:=e1
   try simp only [tk_tail] at *
   exact ⟨N0+1,by simp [P,F,must,andN,andR,S.name,okN,g0,g1,g2,g3,gv,e2,e3,e1]⟩
  obtain ⟨rfl,rfl⟩:=h3.bad
  obtain ⟨rfl,rfl⟩:=h4.bad
  obtain ⟨rfl,rfl⟩:=h5.bad
  refine mno ?_
  obtain ⟨N0,e1⟩:=e1
  try simp only [tk_tail] at *
  exact ⟨N0+1,by simp [P,F,must,andN,andR,S.name,okN,g0,g1,g2,g3,gv,e2,e1]⟩
 obtain ⟨rfl,rfl,rfl⟩:=h2.bad
 obtain ⟨rfl,rfl⟩:=h3.bad
 obtain ⟨rfl,rfl⟩:=h4.bad
 obtain ⟨rfl,rfl⟩:=h5.bad
 refine mno ?_
 obtain ⟨N0,e1⟩:=e1
 try simp only [tk_tail] at *
 exact ⟨N0+1,by simp [P,F,must,andN,andR,S.name,okN,g0,g1,g2,g3,gv,e1]⟩
theorem md_var1 {ts:List Tok} {r1 r2 r3 r4 r5:List Tok} {β1 β2 β3 β4 β5:Bool} {t:Nd} {s:List UInt8} {x:Nd}  (g0:¬ hd (tk ts)=sIF) (g1:¬ hd (tk ts)=sWHILE) (g2:¬ hd (tk ts)=sRET) (g3:¬ hd (tk ts)=sPUT) (gv:hd (tk ts)=sLONG) (h1:Md (R .typ) t false ts β1 r1) (h2:Na s β1 r1 β2 r2) (h3:Mu sEQ β2 r2 β3 r3) (h4:Md (R .expr) x β3 r3 β4 r4) (h5:Mu sSEMI β4 r4 β5 r5):Md (R .stat) (.mk 14 s 0 [t,x]) false ts β5 r5:=by
 rcases h1.good with ⟨rfl,l1,e1⟩|⟨rfl,e1⟩
 ·rcases h2.good with ⟨rfl,e2,rfl,rfl⟩|⟨rfl,e2,rfl,rfl⟩
  ·rcases h3.good with ⟨rfl,e3,rfl⟩|⟨rfl,e3,rfl⟩
   ·rcases h4.good with ⟨rfl,l4,e4⟩|⟨rfl,e4⟩
    ·rcases h5.good with ⟨rfl,e5,rfl⟩|⟨rfl,e5,rfl⟩
     ·refine mok ?_ ?_
      ·have qh_gv:=tail_lt' (s:=sLONG) (by decide) gv
       have q1:=l1
       have q2:=tail_lt' (nm_ne e2) rfl
       have q3:=tail_lt' (s:=sEQ) (by decide) e3
       have q4:=l4
       have q5:=tail_lt' (s:=sSEMI) (by decide) e5
       simp only [List.length_tail] at *
       omega
      obtain ⟨N0,e1,e4⟩:=both e1 e4
      try simp only [tk_tail] at *
      exact ⟨N0+1,by simp [P,F,must,andN,andR,S.name,okN,g0,g1,g2,g3,gv,e2,e3,e5,e1,e4]⟩
     refine mno ?_
     obtain ⟨N0,e1,e4⟩:=both e1 e4
     try simp only [tk_tail] at *
     exact ⟨N0+1,by simp [P,F,must,andN,andR,S.name,okN,g0,g1,g2,g3,gv,e2,e3,e5,e1,e4]⟩
    obtain ⟨rfl,rfl⟩:=h5.bad
    refine mno ?_
    obtain ⟨N0,e1,e4⟩:=both e1 e4
    try simp only [tk_tail] at *
    exact ⟨N0+1,by simp [P,F,must,andN,andR,S.name,okN,g0,g1,g2,g3,gv,e2,e3,e1,e4]⟩
   obtain ⟨rfl,rfl⟩:=h4.bad
   obtain ⟨rfl,rfl⟩:=h5.bad
   refine mno ?_
   obtain ⟨N0,e1⟩:=e1
   try simp only [tk_tail] at *
   exact ⟨N0+1,by simp [P,F,must,andN,andR,S.name,okN,g0,g1,g2,g3,gv,e2,e3,e1]⟩
  obtain ⟨rfl,rfl⟩:=h3.bad
  obtain ⟨rfl,rfl⟩:=h4.bad
  obtain ⟨rfl,rfl⟩:=h5.bad
  refine mno ?_
  obtain ⟨N0,e1⟩:=e1
  try simp only [tk_tail] at *
  exact ⟨N0+1,by simp [P,F,must,andN,andR,S.name,okN,g0,g1,g2,g3,gv,e2,e1]⟩
 obtain ⟨rfl,rfl,rfl⟩:=h2.bad
 obtain ⟨rfl,rfl⟩:=h3.bad
 obtain ⟨rfl,rfl⟩:=h4.bad
 obtain ⟨rfl,rfl⟩:=h5.bad
 refine mno ?_
 obtain ⟨N0,e1⟩:=e1
 try simp only [tk_tail] at *
 exact ⟨N0+1,by simp [P,F,must,andN,andR,S.name,okN,g0,g1,g2,g3,gv,e1]⟩
theorem md_var2 {ts:List Tok} {r1 r2 r3 r4 r5:List Tok} {β1 β2 β3 β4 β5:Bool} {t:Nd} {s:List UInt8} {x:Nd}  (g0:¬ hd (tk ts)=sIF) (g1:¬ hd (tk ts)=sWHILE) (g2:¬ hd (tk ts)=sRET) (g3:¬ hd (tk ts)=sPUT) (gv:hd (tk ts)=sFN) (h1:Md (R .typ) t false ts β1 r1) (h2:Na s β1 r1 β2 r2) (h3:Mu sEQ β2 r2 β3 r3) (h4:Md (R .expr) x β3 r3 β4 r4) (h5:Mu sSEMI β4 r4 β5 r5):Md (R .stat) (.mk 14 s 0 [t,x]) false ts β5 r5:=by
 rcases h1.good with ⟨rfl,l1,e1⟩|⟨rfl,e1⟩
 ·rcases h2.good with ⟨rfl,e2,rfl,rfl⟩|⟨rfl,e2,rfl,rfl⟩
  ·rcases h3.good with ⟨rfl,e3,rfl⟩|⟨rfl,e3,rfl⟩
   ·rcases h4.good with ⟨rfl,l4,e4⟩|⟨rfl,e4⟩
    ·rcases h5.good with ⟨rfl,e5,rfl⟩|⟨rfl,e5,rfl⟩
     ·refine mok ?_ ?_
      ·have qh_gv:=tail_lt' (s:=sFN) (by decide) gv
       have q1:=l1
       have q2:=tail_lt' (nm_ne e2) rfl
       have q3:=tail_lt' (s:=sEQ) (by decide) e3
       have q4:=l4
       have q5:=tail_lt' (s:=sSEMI) (by decide) e5
       simp only [List.length_tail] at *
       omega
      obtain ⟨N0,e1,e4⟩:=both e1 e4
      try simp only [tk_tail] at *
      exact ⟨N0+1,by simp [P,F,must,andN,andR,S.name,okN,g0,g1,g2,g3,gv,e2,e3,e5,e1,e4]⟩
     refine mno ?_
     obtain ⟨N0,e1,e4⟩:=both e1 e4
     try simp only [tk_tail] at *
     exact ⟨N0+1,by simp [P,F,must,andN,andR,S.name,okN,g0,g1,g2,g3,gv,e2,e3,e5,e1,e4]⟩
    obtain ⟨rfl,rfl⟩:=h5.bad
    refine mno ?_
    obtain ⟨N0,e1,e4⟩:=both e1 e4
    try simp only [tk_tail] at *
    exact ⟨N0+1,by simp [P,F,must,andN,andR,S.name,okN,g0,g1,g2,g3,gv,e2,e3,e1,e4]⟩
   obtain ⟨rfl,rfl⟩:=h4.bad
   obtain ⟨rfl,rfl⟩:=h5.bad
   refine mno ?_
   obtain ⟨N0,e1⟩:=e1
   try simp only [tk_tail] at *
   exact ⟨N0+1,by simp [P,F,must,andN,andR,S.name,okN,g0,g1,g2,g3,gv,e2,e3,e1]⟩
  obtain ⟨rfl,rfl⟩:=h3.bad
  obtain ⟨rfl,rfl⟩:=h4.bad
  obtain ⟨rfl,rfl⟩:=h5.bad
  refine mno ?_
  obtain ⟨N0,e1⟩:=e1
  try simp only [tk_tail] at *
  exact ⟨N0+1,by simp [P,F,must,andN,andR,S.name,okN,g0,g1,g2,g3,gv,e2,e1]⟩
 obtain ⟨rfl,rfl,rfl⟩:=h2.bad
 obtain ⟨rfl,rfl⟩:=h3.bad
 obtain ⟨rfl,rfl⟩:=h4.bad
 obtain ⟨rfl,rfl⟩:=h5.bad
 refine mno ?_
 obtain ⟨N0,e1⟩:=e1
 try simp only [tk_tail] at *
 exact ⟨N0+1,by simp [P,F,must,andN,andR,S.name,okN,g0,g1,g2,g3,gv,e1]⟩
theorem md_var3 {ts:List Tok} {r1 r2 r3 r4 r5:List Tok} {β1 β2 β3 β4 β5:Bool} {t:Nd} {s:List UInt8} {x:Nd}  (g0:¬ hd (tk ts)=sIF) (g1:¬ hd (tk ts)=sWHILE) (g2:¬ hd (tk ts)=sRET) (g3:¬ hd (tk ts)=sPUT) (gn:nameB (hd (tk ts))=true) (gm:nameB (hd (tk ts).tail)=true) (h1:Md (R .typ) t false ts β1 r1) (h2:Na s β1 r1 β2 r2) (h3:Mu sEQ β2 r2 β3 r3) (h4:Md (R .expr) x β3 r3 β4 r4) (h5:Mu sSEMI β4 r4 β5 r5):Md (R .stat) (.mk 14 s 0 [t,x]) false ts β5 r5:=by
 rcases h1.good with ⟨rfl,l1,e1⟩|⟨rfl,e1⟩
 ·rcases h2.good with ⟨rfl,e2,rfl,rfl⟩|⟨rfl,e2,rfl,rfl⟩
  ·rcases h3.good with ⟨rfl,e3,rfl⟩|⟨rfl,e3,rfl⟩
   ·rcases h4.good with ⟨rfl,l4,e4⟩|⟨rfl,e4⟩
    ·rcases h5.good with ⟨rfl,e5,rfl⟩|⟨rfl,e5,rfl⟩
     ·refine mok ?_ ?_
      ·have q1:=l1
       have q2:=tail_lt' (nm_ne e2) rfl
       have q3:=tail_lt' (s:=sEQ) (by decide) e3
       have q4:=l4
       have q5:=tail_lt' (s:=sSEMI) (by decide) e5
       simp only [List.length_tail] at *
       omega
      obtain ⟨N0,e1,e4⟩:=both e1 e4
      try simp only [tk_tail] at *
      exact ⟨N0+1,by simp [P,F,must,andN,andR,S.name,okN,g0,g1,g2,g3,gn,gm,e2,e3,e5,e1,e4]⟩
     refine mno ?_
     obtain ⟨N0,e1,e4⟩:=both e1 e4
     try simp only [tk_tail] at *
     exact ⟨N0+1,by simp [P,F,must,andN,andR,S.name,okN,g0,g1,g2,g3,gn,gm,e2,e3,e5,e1,e4]⟩
    obtain ⟨rfl,rfl⟩:=h5.bad
    refine mno ?_
    obtain ⟨N0,e1,e4⟩:=both e1 e4
    try simp only [tk_tail] at *
    exact ⟨N0+1,by simp [P,F,must,andN,andR,S.name,okN,g0,g1,g2,g3,gn,gm,e2,e3,e1,e4]⟩
   obtain ⟨rfl,rfl⟩:=h4.bad
   obtain ⟨rfl,rfl⟩:=h5.bad
   refine mno ?_
   obtain ⟨N0,e1⟩:=e1
   try simp only [tk_tail] at *
   exact ⟨N0+1,by simp [P,F,must,andN,andR,S.name,okN,g0,g1,g2,g3,gn,gm,e2,e3,e1]⟩
  obtain ⟨rfl,rfl⟩:=h3.bad
  obtain ⟨rfl,rfl⟩:=h4.bad
  obtain ⟨rfl,rfl⟩:=h5.bad
  refine mno ?_
  obtain ⟨N0,e1⟩:=e1
  try simp only [tk_tail] at *
  exact ⟨N0+1,by simp [P,F,must,andN,andR,S.name,okN,g0,g1,g2,g3,gn,gm,e2,e1]⟩
 obtain ⟨rfl,rfl,rfl⟩:=h2.bad
 obtain ⟨rfl,rfl⟩:=h3.bad
 obtain ⟨rfl,rfl⟩:=h4.bad
 obtain ⟨rfl,rfl⟩:=h5.bad
 refine mno ?_
 obtain ⟨N0,e1⟩:=e1
 try simp only [tk_tail] at *
 exact ⟨N0+1,by simp [P,F,must,andN,andR,S.name,okN,g0,g1,g2,g3,gn,gm,e1]⟩
theorem md_simple {ts r1 r2:List Tok} {β1 β2:Bool} {x:Nd} (g0:¬ hd (tk ts)=sIF) (g1:¬ hd (tk ts)=sWHILE) (g2:¬ hd (tk ts)=sRET) (g3:¬ hd (tk ts)=sPUT) (gc:¬ (hd (tk ts)=sINT∨hd (tk ts)=sLONG∨hd (tk ts)=sFN∨(nameB (hd (tk ts))=true∧nameB (hd (tk ts).tail)=true))) (h1:Md Sm x false ts β1 r1) (h2:Mu sSEMI β1 r1 β2 r2):Md (R .stat) x false ts β2 r2:=by
 rcases h1.good with ⟨rfl,l1,e1⟩|⟨rfl,e1⟩
 ·rcases e1 with ⟨n1,m,e1⟩|⟨_,e1⟩
  ·rcases h2.good with ⟨rfl,e2,rfl⟩|⟨rfl,e2,rfl⟩
   ·have q:=(List.tail_suffix r1).length_le
    refine Or.inr (Or.inl ⟨rfl,rfl,by omega,m+1,?_⟩)
    simp only [P,F,if_neg g0,if_neg g1,if_neg g2,if_neg g3,if_neg gc]
    simp only [S.name,n1,if_true,e1,andN,must,e2,okN,tk_tail]
   refine Or.inr (Or.inr ⟨rfl,rfl,m+1,?_⟩)
   simp only [P,F,if_neg g0,if_neg g1,if_neg g2,if_neg g3,if_neg gc]
   simp only [S.name,n1,if_true,e1,andN,must,if_neg e2]
  cases e1
 obtain ⟨rfl,rfl⟩:=h2.bad
 rcases e1 with ⟨n1,m,e1⟩|⟨n1,e1⟩
 ·refine Or.inr (Or.inr ⟨rfl,rfl,m+1,?_⟩)
  simp only [P,F,if_neg g0,if_neg g1,if_neg g2,if_neg g3,if_neg gc]
  simp only [S.name,n1,if_true,e1,andN]
 injection e1 with e1
 refine Or.inr (Or.inr ⟨rfl,rfl,1,?_⟩)
 rw [e1]
 simp only [P,F,if_neg g0,if_neg g1,if_neg g2,if_neg g3,if_neg gc]
 simp [S.name,n1]
theorem stat_bad :Bad 54 #[.pointer (some ⟨b,0,none⟩)] b g K:=by
 intro w ts h hF
 have HW:Hid (Wr w w b g K true ts []):=Wr.start h
 have HS:=su ts
 have HF:=ħ hF
 clear h hF
 go_enter Tryz.func54,Tryz.ntmps54
 replace HW:=HW.out.az w.heap.size
 replace HW:=HW.out.az (w.heap.size+1)
 obtain ⟨pp1,pa1,pc1,hx1,hx2,hx3⟩:=HW.out.ps.blk
 have hc1:=cells_at hx2
 clear hx1 hx2 hx3
 have HN_z:Hid (NdV ((w.alloc (.cells #[.int .i64 0,.string ⟨#[]⟩,.int .i64 0,.slice none 0 0] 24)).alloc (.cells #[.int .i64 0,.string ⟨#[]⟩,.int .i64 0,.slice none 0 0] 24)) (Av w.heap.size [((w.heap.size+1),#[.int .i64 0,.string ⟨#[]⟩,.int .i64 0,.slice none 0 0],24),(w.heap.size,#[.int .i64 0,.string ⟨#[]⟩,.int .i64 0,.slice none 0 0],24)]) (.mk 0 [] 0 []) (.agg #[.int .i64 0,.string (str []),.int .i64 0,.slice none 0 0])):=NdV.bare 0 [] 0 none 0
 have HZ_z:=zz w
 go_wp2_with fail
 exact HW.out.e HW.out.b1 HS HZ_z HN_z (md_bad ⟨rfl,rfl⟩)
theorem stat_if (gy:hd (tk ts)=sIF) (hB:Nx 33 #[.pointer (some ⟨b,0,none⟩)] .block b g K ts):Gd 54 #[.pointer (some ⟨b,0,none⟩)] .stat b g K ts:=by
 intro w h hF
 have HW:Hid (Wr w w b g K false ts []):=Wr.start h
 have HS:=su ts
 have HF:=ħ hF
 have HE:=ħ (Nx.all (ts:=ts) (expr_any (b:=b) (g:=g) (K:=K)))
 have HR:=ħ (Nx.all (ts:=ts) (round_any (b:=b) (g:=g) (K:=K)))
 have HB:=ħ hB
 clear hB
 have H_gy:=ħ gy
 clear gy
 clear h hF
 go_enter Tryz.func54,Tryz.ntmps54
 replace HW:=HW.out.az w.heap.size
 replace HW:=HW.out.az (w.heap.size+1)
 obtain ⟨pp1,pa1,pc1,hx1,hx2,hx3⟩:=HW.out.ps.blk
 have hc1:=cells_at hx2
 clear hx1 hx2 hx3
 go_wp2_with fail
 generalize (w.alloc _).alloc _=w2 at *
 clear hc1
 go_at_call 27
 refine (HW.out.eatY HS.out (s:=sIF) (by decide) ⟨rfl,H_gy.out⟩).mono ?_
 rintro e w3 ⟨rfl,HL,hS,hW,-⟩
 replace HW:=hW
 replace HS:=hS
 go_wp2_with fail
 go_at_call 73
 refine (HR.out w3 false ts.tail HS.out HL.out HW.out.ps (HF.out.suf HS.out)).mono ?_
 rintro e w4 hp
 obtain ⟨n_c,k_c,t_c,v_c,a_c,l_c,c_c,β4,r4,rfl,HR_c,HN_c,HZ_c,HS_c,HL,hS,hW,-⟩:=HW.out.okN HS.out hp
 replace HW:=hW
 replace HS:=hS
 clear hp
 replace HW:=HW.out.am w4.heap.size HN_c
 replace HN_c:=HW.out.nA HN_c
 go_wp2_with fail
 generalize w4.alloc _=w5 at *
 go_at_call 33
 refine (HB.out w5 β4 r4 HS.out HL.out HW.out.ps (HF.out.suf HS.out)).mono ?_
 rintro e w6 hp
 obtain ⟨n_d,k_d,t_d,v_d,a_d,l_d,c_d,β6,r6,rfl,HR_d,HN_d,HZ_d,HS_d,HL,hS,hW,hG⟩:=HW.out.okN HS.out hp
 replace HN_c:=HW.out.kN HZ_c hG HN_c
 replace HW:=hW
 replace HS:=hS
 clear hG hp
 replace HW:=HW.out.am w6.heap.size HN_d
 replace HN_c:=HW.out.nA HN_c
 replace HN_d:=HW.out.nA HN_d
 have hc7:=HW.out.c0
 have hc8:=HW.out.c1
 have hc9:=HW.out.c2
 have hc10:=HW.out.c3
 replace HW:=HW.out.al (w6.heap.size+1) #[.int .i64 k_c,.string t_c,.int .i64 v_c,.slice a_c l_c c_c,.int .i64 k_d,.string t_d,.int .i64 v_d,.slice a_d l_d c_d]
 replace HN_c:=HW.out.nA HN_c
 replace HN_d:=HW.out.nA HN_d
 have HM_a:=ħ (Wr.t0 HW.out (HN_c.out.less HZ_c.out) (HN_d.out.less HZ_d.out))
 have HZ_a:=zz w
 clear HN_c HZ_c HN_d HZ_d
 replace HW:=ħ HW.out.d0
 have hc11:=HW.out.c2
 have hf12:=HW.out.f2
 replace HW:=ħ (HW.out.s2 (.int .i64 16) (.string ⟨#[]⟩) (.int .i64 0) (.slice (some ⟨(w6.heap.size+1),0,none⟩) 2 2))
 replace HM_a:=HW.out.ms2.R HM_a
 go_wp2_with fail
 generalize (((((w6.alloc _).alloc _).setCell _ _).setCell _ _).setCell _ _).setCell _ _=w13 at *
 clear hc7 hc8 hc9 hc10 hc11 hf12
 replace HM_a:=(Mv.d0 _).R HM_a
 replace HW:=ħ HW.out.d0
 replace HM_a:=(Mv.d0 _).R HM_a
 replace HW:=ħ HW.out.d0
 by_cases hq:Eat β6 r6 sELSE
 ·have HEe:=ħ hq
  clear hq
  go_at_call 27
  refine (HW.out.eatY HS.out (s:=sELSE) (by decide) HEe.out).mono ?_
  rintro e w14 ⟨rfl,HL,hS,hW,hG⟩
  replace HM_a:=HW.out.kR HZ_a hG HM_a
  replace HW:=hW
  replace HS:=hS
  clear hG
  go_wp2_with fail
  go_at_call 33
  refine (HB.out w14 false r6.tail HS.out HL.out HW.out.ps (HF.out.suf HS.out)).mono ?_
  rintro e w15 hp
  obtain ⟨n_o,k_o,t_o,v_o,a_o,l_o,c_o,β15,r15,rfl,HR_o,HN_o,HZ_o,HS_o,HL,hS,hW,hG⟩:=HW.out.okN HS.out hp
  have HO_a:=ħ HM_a.out.lt
  replace HM_a:=HW.out.kR HZ_a hG HM_a
  replace HW:=hW
  replace HS:=hS
  clear hG hp
  replace HW:=HW.out.am w15.heap.size HN_o
  replace HN_o:=HW.out.nA HN_o
  replace HM_a:=HW.out.rA HM_a
  have hc16:=HW.out.c0
  have hc17:=HW.out.c1
  replace HW:=HW.out.am (w15.heap.size+1) HN_o
  replace HN_o:=HW.out.nA HN_o
  replace HM_a:=HW.out.rA HM_a
  have hc18:=HW.out.c0
  have hc19:=HW.out.c1
  have hc20:=HW.out.c2
  have hc21:=HW.out.c3
  go_wp2_with (at_builtin;refine app_l0 _ _ rfl rfl HW.out HM_a.out HN_o.out HZ_a.out HZ_o.out HO_a.out (by simp) ⟨rfl,rfl,rfl,rfl⟩ ?e1 ?e2 ?_;(case e1=>rfl);(case e2=>rfl);skip)
  intro g22 c22 w22 hW hM hG
  clear HM_a HN_o HZ_a HZ_o HO_a
  replace HW:=ħ hW
  have HM_m:=ħ hM
  have HZ_m:=zz w
  clear hW hM hG
  have hc23:=HW.out.c1
  have hf24:=HW.out.f1
  replace HW:=ħ (HW.out.p13 ((.slice (some ⟨g22,0,none⟩) (2+1) c22)))
  replace HM_m:=HW.out.mp13.R HM_m
  have HN_z:=ħ (HM_m.out.node 16 [] 0)
  have HZ_z:=HZ_m
  clear HM_m HZ_m
  have hc25:=HW.out.c0
  have hc26:=HW.out.c1
  have hc27:=HW.out.c2
  have hf28:=HW.out.f2
  replace HW:=ħ (HW.out.s2 (.int .i64 16) (.string ⟨#[]⟩) (.int .i64 0) ((.slice (some ⟨g22,0,none⟩) (2+1) c22)))
  replace HN_z:=HW.out.ms2.N HN_z
  go_wp2_with fail
  exact HW.out.e HW.out.b2 HS HZ_z HN_z (md_if3 H_gy.out HR_c.out HR_d.out HEe.out HR_o.out)
 have HEe:=ħ hq
 clear hq
 go_at_call 27
 refine (HW.out.eatN (s:=sELSE) HEe.out).mono ?_
 rintro e w32 ⟨rfl,hW,hG⟩
 replace HM_a:=HW.out.kR HZ_a hG HM_a
 replace HW:=hW
 clear hG
 have HN_z:=ħ (HM_a.out.node 16 [] 0)
 have HZ_z:=HZ_a
 clear HM_a HZ_a
 have hc33:=HW.out.c0
 have hc34:=HW.out.c1
 have hf35:=HW.out.f1
 replace HW:=ħ (HW.out.s1 (.int .i64 16) (.string ⟨#[]⟩) (.int .i64 0) ((.slice (some ⟨(w6.heap.size+1),0,none⟩) 2 2)))
 replace HN_z:=HW.out.ms1.N HN_z
 go_wp2_with fail
 exact HW.out.e HW.out.b1 HS HZ_z HN_z (md_if2 H_gy.out HR_c.out HR_d.out HEe.out)
theorem stat_while (g0:¬ hd (tk ts)=sIF) (gy:hd (tk ts)=sWHILE) (hB:Nx 33 #[.pointer (some ⟨b,0,none⟩)] .block b g K ts):Gd 54 #[.pointer (some ⟨b,0,none⟩)] .stat b g K ts:=by
 intro w h hF
 have HW:Hid (Wr w w b g K false ts []):=Wr.start h
 have HS:=su ts
 have HF:=ħ hF
 have HE:=ħ (Nx.all (ts:=ts) (expr_any (b:=b) (g:=g) (K:=K)))
 have HR:=ħ (Nx.all (ts:=ts) (round_any (b:=b) (g:=g) (K:=K)))
 have HB:=ħ hB
 clear hB
 have H_g0:=ħ g0
 clear g0
 have H_gy:=ħ gy
 clear gy
 clear h hF
 go_enter Tryz.func54,Tryz.ntmps54
 replace HW:=HW.out.az w.heap.size
 replace HW:=HW.out.az (w.heap.size+1)
 obtain ⟨pp1,pa1,pc1,hx1,hx2,hx3⟩:=HW.out.ps.blk
 have hc1:=cells_at hx2
 clear hx1 hx2 hx3
 go_wp2_with fail
 generalize (w.alloc _).alloc _=w2 at *
 clear hc1
 go_at_call 27
 refine (HW.out.eatN (s:=sIF) (fun e=>H_g0.out e.2)).mono ?_
 rintro e w3 ⟨rfl,hW,-⟩
 replace HW:=hW
 go_wp2_with fail
 go_at_call 27
 refine (HW.out.eatY HS.out (s:=sWHILE) (by decide) ⟨rfl,H_gy.out⟩).mono ?_
 rintro e w4 ⟨rfl,HL,hS,hW,-⟩
 replace HW:=hW
 replace HS:=hS
 go_wp2_with fail
 go_at_call 73
 refine (HR.out w4 false ts.tail HS.out HL.out HW.out.ps (HF.out.suf HS.out)).mono ?_
 rintro e w5 hp
 obtain ⟨n_c,k_c,t_c,v_c,a_c,l_c,c_c,β5,r5,rfl,HR_c,HN_c,HZ_c,HS_c,HL,hS,hW,-⟩:=HW.out.okN HS.out hp
 replace HW:=hW
 replace HS:=hS
 clear hp
 replace HW:=HW.out.am w5.heap.size HN_c
 replace HN_c:=HW.out.nA HN_c
 go_wp2_with fail
 generalize w5.alloc _=w6 at *
 go_at_call 33
 refine (HB.out w6 β5 r5 HS.out HL.out HW.out.ps (HF.out.suf HS.out)).mono ?_
 rintro e w7 hp
 obtain ⟨n_d,k_d,t_d,v_d,a_d,l_d,c_d,β7,r7,rfl,HR_d,HN_d,HZ_d,HS_d,HL,hS,hW,hG⟩:=HW.out.okN HS.out hp
 replace HN_c:=HW.out.kN HZ_c hG HN_c
 replace HW:=hW
 replace HS:=hS
 clear hG hp
 replace HW:=HW.out.am w7.heap.size HN_d
 replace HN_c:=HW.out.nA HN_c
 replace HN_d:=HW.out.nA HN_d
 have hc8:=HW.out.c0
 have hc9:=HW.out.c1
 have hc10:=HW.out.c2
 replace HW:=HW.out.al (w7.heap.size+1) #[.int .i64 k_c,.string t_c,.int .i64 v_c,.slice a_c l_c c_c,.int .i64 k_d,.string t_d,.int .i64 v_d,.slice a_d l_d c_d]
 replace HN_c:=HW.out.nA HN_c
 replace HN_d:=HW.out.nA HN_d
 have HM_a:=ħ (Wr.t0 HW.out (HN_c.out.less HZ_c.out) (HN_d.out.less HZ_d.out))
 have HZ_a:=zz w
 clear HN_c HZ_c HN_d HZ_d
 replace HW:=ħ HW.out.d0
 have HN_z:=ħ (HM_a.out.node 17 [] 0)
 have HZ_z:=HZ_a
 clear HM_a HZ_a
 replace HN_z:=(Mv.d0 _).N HN_z
 replace HW:=ħ HW.out.d0
 replace HN_z:=(Mv.d0 _).N HN_z
 replace HW:=ħ HW.out.d0
 have hc11:=HW.out.c0
 have hc12:=HW.out.c1
 have hf13:=HW.out.f1
 replace HW:=ħ (HW.out.s1 (.int .i64 17) (.string ⟨#[]⟩) (.int .i64 0) ((.slice (some ⟨(w7.heap.size+1),0,none⟩) 2 2)))
 replace HN_z:=HW.out.ms1.N HN_z
 go_wp2_with fail
 exact HW.out.e HW.out.b1 HS HZ_z HN_z (md_while H_g0.out H_gy.out HR_c.out HR_d.out)
theorem stat_ret (g0:¬ hd (tk ts)=sIF) (g1:¬ hd (tk ts)=sWHILE) (gy:hd (tk ts)=sRET) (hB:Nx 33 #[.pointer (some ⟨b,0,none⟩)] .block b g K ts):Gd 54 #[.pointer (some ⟨b,0,none⟩)] .stat b g K ts:=by
 intro w h hF
 have HW:Hid (Wr w w b g K false ts []):=Wr.start h
 have HS:=su ts
 have HF:=ħ hF
 have HE:=ħ (Nx.all (ts:=ts) (expr_any (b:=b) (g:=g) (K:=K)))
 have HR:=ħ (Nx.all (ts:=ts) (round_any (b:=b) (g:=g) (K:=K)))
 have HB:=ħ hB
 clear hB
 have H_g0:=ħ g0
 clear g0
 have H_g1:=ħ g1
 clear g1
 have H_gy:=ħ gy
 clear gy
 clear h hF
 go_enter Tryz.func54,Tryz.ntmps54
 replace HW:=HW.out.az w.heap.size
 replace HW:=HW.out.az (w.heap.size+1)
 obtain ⟨pp1,pa1,pc1,hx1,hx2,hx3⟩:=HW.out.ps.blk
 have hc1:=cells_at hx2
 clear hx1 hx2 hx3
 go_wp2_with fail
 generalize (w.alloc _).alloc _=w2 at *
 clear hc1
 go_at_call 27
 refine (HW.out.eatN (s:=sIF) (fun e=>H_g0.out e.2)).mono ?_
 rintro e w3 ⟨rfl,hW,-⟩
 replace HW:=hW
 go_wp2_with fail
 go_at_call 27
 refine (HW.out.eatN (s:=sWHILE) (fun e=>H_g1.out e.2)).mono ?_
 rintro e w4 ⟨rfl,hW,-⟩
 replace HW:=hW
 go_wp2_with fail
 go_at_call 31
 refine (HW.out.tx 0 (by omega)).mono ?_
 rintro e w5 ⟨rfl,hW,-⟩
 replace HW:=hW
 rw [List.drop_zero]
 go_wp2_with fail
 go_at_call 27
 refine (HW.out.eatY HS.out (s:=sRET) (by decide) ⟨rfl,H_gy.out⟩).mono ?_
 rintro e w6 ⟨rfl,HL,hS,hW,-⟩
 replace HW:=hW
 replace HS:=hS
 go_wp2_with fail
 go_at_call 53
 refine (HE.out w6 false ts.tail HS.out HL.out HW.out.ps (HF.out.suf HS.out)).mono ?_
 rintro e w7 hp
 obtain ⟨n_x,k_x,t_x,v_x,a_x,l_x,c_x,β7,r7,rfl,HR_x,HN_x,HZ_x,HS_x,HL,hS,hW,-⟩:=HW.out.okN HS.out hp
 replace HW:=hW
 replace HS:=hS
 clear hp
 replace HW:=HW.out.am w7.heap.size HN_x
 replace HN_x:=HW.out.nA HN_x
 have hc8:=HW.out.c0
 replace HW:=HW.out.am (w7.heap.size+1) HN_x
 replace HN_x:=HW.out.nA HN_x
 have HM_a:=ħ (Wr.o0 HW.out (HN_x.out.less HZ_x.out))
 have HZ_a:=zz w
 clear HN_x HZ_x
 replace HW:=ħ HW.out.d0
 replace HM_a:=(Mv.d0 _).R HM_a
 replace HW:=ħ HW.out.d0
 have hf9:=HW.out.f0
 have hc10:=HW.out.c0
 replace HW:=ħ (HW.out.s0 (.int .i64 18) (.string ⟨#[]⟩) (.int .i64 0) (.slice (some ⟨(w7.heap.size+1),0,none⟩) 1 1))
 replace HM_a:=HW.out.ms0.R HM_a
 go_wp2_with fail
 generalize (((((w7.alloc _).alloc _).setCell _ _).setCell _ _).setCell _ _).setCell _ _=w11 at *
 clear hc8 hf9 hc10
 go_at_call 29
 refine (HW.out.mu HS.out (s:=sSEMI) (by decide)).mono ?_
 rintro e w12 ⟨mv12,β12,r12,rfl,HQ1,HL,hS,hW,hG⟩
 replace HM_a:=HW.out.kR HZ_a hG HM_a
 replace HW:=hW
 replace HS:=hS
 clear hG
 have HN_z:=ħ (HM_a.out.node 18 [] 0)
 have HZ_z:=HZ_a
 clear HM_a HZ_a
 have hc13:=HW.out.c0
 have hc14:=HW.out.c1
 have hf15:=HW.out.f1
 replace HW:=ħ (HW.out.s1 (.int .i64 18) (.string ⟨#[]⟩) (.int .i64 0) ((.slice (some ⟨(w7.heap.size+1),0,none⟩) 1 1)))
 replace HN_z:=HW.out.ms1.N HN_z
 go_wp2_with fail
 exact HW.out.e HW.out.b1 HS HZ_z HN_z (md_ret H_g0.out H_g1.out H_gy.out HR_x.out HQ1.out)
theorem stat_put (g0:¬ hd (tk ts)=sIF) (g1:¬ hd (tk ts)=sWHILE) (g2:¬ hd (tk ts)=sRET) (gy:hd (tk ts)=sPUT) (hB:Nx 33 #[.pointer (some ⟨b,0,none⟩)] .block b g K ts):Gd 54 #[.pointer (some ⟨b,0,none⟩)] .stat b g K ts:=by
 intro w h hF
 have HW:Hid (Wr w w b g K false ts []):=Wr.start h
 have HS:=su ts
 have HF:=ħ hF
 have HE:=ħ (Nx.all (ts:=ts) (expr_any (b:=b) (g:=g) (K:=K)))
 have HR:=ħ (Nx.all (ts:=ts) (round_any (b:=b) (g:=g) (K:=K)))
 have HB:=ħ hB
 clear hB
 have H_g0:=ħ g0
 clear g0
 have H_g1:=ħ g1
 clear g1
 have H_g2:=ħ g2
 clear g2
 have H_gy:=ħ gy
 clear gy
 clear h hF
 go_enter Tryz.func54,Tryz.ntmps54
 replace HW:=HW.out.az w.heap.size
 replace HW:=HW.out.az (w.heap.size+1)
 obtain ⟨pp1,pa1,pc1,hx1,hx2,hx3⟩:=HW.out.ps.blk
 have hc1:=cells_at hx2
 clear hx1 hx2 hx3
 go_wp2_with fail
 generalize (w.alloc _).alloc _=w2 at *
 clear hc1
 go_at_call 27
 refine (HW.out.eatN (s:=sIF) (fun e=>H_g0.out e.2)).mono ?_
 rintro e w3 ⟨rfl,hW,-⟩
 replace HW:=hW
 go_wp2_with fail
 go_at_call 27
 refine (HW.out.eatN (s:=sWHILE) (fun e=>H_g1.out e.2)).mono ?_
 rintro e w4 ⟨rfl,hW,-⟩
 replace HW:=hW
 go_wp2_with fail
 go_at_call 31
 refine (HW.out.tx 0 (by omega)).mono ?_
 rintro e w5 ⟨rfl,hW,-⟩
 replace HW:=hW
 rw [List.drop_zero]
 go_wp2_with fail
 go_at_call 27
 refine (HW.out.eatN (s:=sRET) (fun e=>H_g2.out e.2)).mono ?_
 rintro e w6 ⟨rfl,hW,-⟩
 replace HW:=hW
 go_wp2_with fail
 go_at_call 27
 refine (HW.out.eatY HS.out (s:=sPUT) (by decide) ⟨rfl,H_gy.out⟩).mono ?_
 rintro e w7 ⟨rfl,HL,hS,hW,-⟩
 replace HW:=hW
 replace HS:=hS
 go_wp2_with fail
 go_at_call 73
 refine (HR.out w7 false ts.tail HS.out HL.out HW.out.ps (HF.out.suf HS.out)).mono ?_
 rintro e w8 hp
 obtain ⟨n_x,k_x,t_x,v_x,a_x,l_x,c_x,β8,r8,rfl,HR_x,HN_x,HZ_x,HS_x,HL,hS,hW,-⟩:=HW.out.okN HS.out hp
 replace HW:=hW
 replace HS:=hS
 clear hp
 replace HW:=HW.out.am w8.heap.size HN_x
 replace HN_x:=HW.out.nA HN_x
 have hc9:=HW.out.c0
 replace HW:=HW.out.am (w8.heap.size+1) HN_x
 replace HN_x:=HW.out.nA HN_x
 have HM_a:=ħ (Wr.o0 HW.out (HN_x.out.less HZ_x.out))
 have HZ_a:=zz w
 clear HN_x HZ_x
 replace HW:=ħ HW.out.d0
 replace HM_a:=(Mv.d0 _).R HM_a
 replace HW:=ħ HW.out.d0
 have hf10:=HW.out.f0
 have hc11:=HW.out.c0
 replace HW:=ħ (HW.out.s0 (.int .i64 19) (.string ⟨#[]⟩) (.int .i64 0) (.slice (some ⟨(w8.heap.size+1),0,none⟩) 1 1))
 replace HM_a:=HW.out.ms0.R HM_a
 go_wp2_with fail
 generalize (((((w8.alloc _).alloc _).setCell _ _).setCell _ _).setCell _ _).setCell _ _=w12 at *
 clear hc9 hf10 hc11
 go_at_call 29
 refine (HW.out.mu HS.out (s:=sSEMI) (by decide)).mono ?_
 rintro e w13 ⟨mv13,β13,r13,rfl,HQ1,HL,hS,hW,hG⟩
 replace HM_a:=HW.out.kR HZ_a hG HM_a
 replace HW:=hW
 replace HS:=hS
 clear hG
 have HN_z:=ħ (HM_a.out.node 19 [] 0)
 have HZ_z:=HZ_a
 clear HM_a HZ_a
 have hc14:=HW.out.c0
 have hc15:=HW.out.c1
 have hf16:=HW.out.f1
 replace HW:=ħ (HW.out.s1 (.int .i64 19) (.string ⟨#[]⟩) (.int .i64 0) ((.slice (some ⟨(w8.heap.size+1),0,none⟩) 1 1)))
 replace HN_z:=HW.out.ms1.N HN_z
 go_wp2_with fail
 exact HW.out.e HW.out.b1 HS HZ_z HN_z (md_put H_g0.out H_g1.out H_g2.out H_gy.out HR_x.out HQ1.out)
end Go.Proofs.YthcfianhdkolhaaGreatDoor.Y.Z
