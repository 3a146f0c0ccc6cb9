/- PbM PbN PbO PbP -/
import Derived.Test.YthcfianhdkolhaaGreatDoorPbL
import Derived.Test.YthcfianhdkolhaaGreatDoorSign
namespace Go.Proofs.YthcfianhdkolhaaGreatDoor.Y
open Go.RowKit Go.Proofs.YthcfianhdkolhaaGreatDoor.X Go.Proofs.YthcfianhdkolhaaGreatDoor.T Go.Proofs.YthcfianhdkolhaaGreatDoor.S
set_option linter.unusedVariables false
set_option linter.unusedSimpArgs false
variable {w w' w0 : World} {b g : Nat} {m : Value} {ts : List Tok} {t : Tok}
theorem RowN.two (L1 L2:List Bk) {q s:Nat} {k1 v1 k2 v2:Int} {t1 t2:ByteArray} {a1 a2:Option Addr} {n1 c1 n2 c2:Nat} {x y:Nd} (h:Wd w0 w b g m ts (L1++(q,#[.int .i64 k1,.string t1,.int .i64 v1,.slice a1 n1 c1,.int .i64 k2,.string t2,.int .i64 v2,.slice a2 n2 c2],24)::L2)) (hs:s≤q)
  (hx:NdV w (Av s (L1++(q,#[.int .i64 k1,.string t1,.int .i64 v1,.slice a1 n1 c1,.int .i64 k2,.string t2,.int .i64 v2,.slice a2 n2 c2],24)::L2)) x (.agg #[.int .i64 k1,.string t1,.int .i64 v1,.slice a1 n1 c1]))
  (hy:NdV w (Av s (L1++(q,#[.int .i64 k1,.string t1,.int .i64 v1,.slice a1 n1 c1,.int .i64 k2,.string t2,.int .i64 v2,.slice a2 n2 c2],24)::L2)) y (.agg #[.int .i64 k2,.string t2,.int .i64 v2,.slice a2 n2 c2])):
  RowN w (Av s (L1++L2)) (.slice (some ⟨q,0,none⟩) 2 2) [x,y]:=by
 obtain ⟨p1,p2,p3,p4⟩:=pairwise_mid (c':=#[]) (T':=0) h.ord
 have hq:=(h.blk (q,#[.int .i64 k1,.string t1,.int .i64 v1,.slice a1 n1 c1,.int .i64 k2,.string t2,.int .i64 v2,.slice a2 n2 c2],24) (by simp)).2
 have hm:∀ n v,NdV w (Av s (L1++(q,#[.int .i64 k1,.string t1,.int .i64 v1,.slice a1 n1 c1,.int .i64 k2,.string t2,.int .i64 v2,.slice a2 n2 c2],24)::L2)) n v→NdV w (fun k=>Av s (L1++L2) k∧some k≠(Value.slice (some ⟨q,0,none⟩) 2 2).ownBlock) n v:=fun n v hn=>
  hn.mono (fun k hk _=>⟨⟨hk.1,fun y hy=>hk.2 y (by
   rcases List.mem_append.1 hy with hy|hy
   ·simp [hy]
   simp [hy])⟩,fun e=>hk.2 (q,#[.int .i64 k1,.string t1,.int .i64 v1,.slice a1 n1 c1,.int .i64 k2,.string t2,.int .i64 v2,.slice a2 n2 c2],24) (by simp) (Option.some.inj e).symm⟩)
 refine ⟨fun k hk=>?_,[(.int .i64 k1,.string t1,.int .i64 v1,.slice a1 n1 c1),(.int .i64 k2,.string t2,.int .i64 v2,.slice a2 n2 c2)],rfl,⟨by simp [cellsN],Or.inr ⟨q,2,#[.int .i64 k1,.string t1,.int .i64 v1,.slice a1 n1 c1,.int .i64 k2,.string t2,.int .i64 v2,.slice a2 n2 c2],rfl,Nat.zero_le _,hq,by simp,by decide,rfl,rfl⟩⟩,fun j hj hj'=>?_⟩
 ·obtain rfl:q=k:=by simpa [Value.ownBlock] using hk
  refine ⟨hs,fun y hy=>?_⟩
  rcases List.mem_append.1 hy with hy|hy
  ·exact p2 y hy
  exact fun e=>p3 y hy e.symm
 have hj2:j=0∨j=1:=by have:j<2:=(by simpa using hj);omega
 rcases hj2 with rfl|rfl
 ·exact hm _ _ hx
 exact hm _ _ hy
theorem RowN.t0 {L:List Bk} {q:Nat} {k1 v1 k2 v2:Int} {t1 t2:ByteArray} {a1 a2:Option Addr} {n1 c1 n2 c2:Nat} {x y:Nd} (h:Wd w0 w b g m ts ((q,#[.int .i64 k1,.string t1,.int .i64 v1,.slice a1 n1 c1,.int .i64 k2,.string t2,.int .i64 v2,.slice a2 n2 c2],24)::L)) (hx:NdV w (Av w0.heap.size ((q,#[.int .i64 k1,.string t1,.int .i64 v1,.slice a1 n1 c1,.int .i64 k2,.string t2,.int .i64 v2,.slice a2 n2 c2],24)::L)) x (.agg #[.int .i64 k1,.string t1,.int .i64 v1,.slice a1 n1 c1])) (hy:NdV w (Av w0.heap.size ((q,#[.int .i64 k1,.string t1,.int .i64 v1,.slice a1 n1 c1,.int .i64 k2,.string t2,.int .i64 v2,.slice a2 n2 c2],24)::L)) y (.agg #[.int .i64 k2,.string t2,.int .i64 v2,.slice a2 n2 c2])):RowN w (Av w0.heap.size (L)) (.slice (some ⟨q,0,none⟩) 2 2) [x,y]:=RowN.two [] L h (h.blk (q,#[.int .i64 k1,.string t1,.int .i64 v1,.slice a1 n1 c1,.int .i64 k2,.string t2,.int .i64 v2,.slice a2 n2 c2],24) List.mem_cons_self).1 hx hy
theorem post_simple:∀ (n:Nat) (x:Nd) (c:Bool) (t:List Tk) (res:Res),Ch x c→P n (.postL x) t=some res →
  (∀ y r,res=.ok (.nd y) r→∃ c',Ch y c'∧¬ hd r=sDOT∧¬ hd r=sLP∧∀ q,R (.simpleL y c') r q→R (.simpleL x c) t q)∧(∀ r,res=.no r→R (.simpleL x c) t (.no r)):=by
 intro n
 induction n with
 | zero=>intro x c t res hx h;cases h
 | succ n ih=>
  intro x c t res hx h
  have h':F (P n) (.postL x) t=some res:=h
  simp only [F] at h'
  by_cases h1:hd t=sDOT
  ·rw [if_pos h1] at h'
   unfold S.name at h'
   by_cases h2:nameB (hd t.tail)=true
   ·rw [if_pos h2] at h'
    obtain ⟨i1,i2⟩:=ih _ c _ _ (Ch.dot (hd t.tail) x c hx) h'
    have step:∀ q,R (.simpleL (.mk 24 (hd t.tail) 0 [x]) c) t.tail.tail q→R (.simpleL x c) t q:=fun q k=>by
     obtain ⟨n,e⟩:=k
     exact ⟨n+1,by simp [P,F,h1,S.name,h2,e]⟩
    refine ⟨fun y r e=>?_,fun r e=>step _ (i2 r e)⟩
    obtain ⟨c',k1,k2,k3,k4⟩:=i1 y r e
    exact ⟨c',k1,k2,k3,fun q k=>step q (k4 q k)⟩
   rw [if_neg h2] at h'
   injection h' with h'
   subst h'
   refine ⟨fun y r e=>(by cases e),fun r e=>?_⟩
   injection e with e
   subst e
   exact ⟨1,by simp [P,F,h1,S.name,h2]⟩
  rw [if_neg h1] at h'
  by_cases h2:hd t=sLP
  ·rw [if_pos h2] at h'
   cases hr:P n (.rows 2) t with
   | none=>rw [hr] at h';cases h'
   | some rr=>
    rw [hr] at h'
    cases rr with
    | no r0=>
     have e0:some (Res.no r0)=some res:=h'
     injection e0 with e0
     subst e0
     refine ⟨fun y r e=>(by cases e),fun r e=>?_⟩
     injection e with e
     subst e
     exact ⟨n+1,by simp [P,F,h1,h2,andR,hr]⟩
    | ok v r0=>
     cases v with
     | nd a=>cases h'
     | row l d=>
      have h'':P n (.postL (.mk 25 [] 0 (x::l))) r0=some res:=h'
      obtain ⟨i1,i2⟩:=ih _ true _ _ (Ch.call x l c hx) h''
      have step:∀ q,R (.simpleL (.mk 25 [] 0 (x::l)) true) r0 q→R (.simpleL x c) t q:=fun q k=>by
       obtain ⟨n2,e1,e2⟩:=both ⟨n,hr⟩ k
       exact ⟨n2+1,by simp [P,F,h1,h2,andR,e1,e2]⟩
      refine ⟨fun y r e=>?_,fun r e=>step _ (i2 r e)⟩
      obtain ⟨c',k1,k2,k3,k4⟩:=i1 y r e
      exact ⟨c',k1,k2,k3,fun q k=>step q (k4 q k)⟩
  rw [if_neg h2] at h'
  have e0:some (Res.ok (V.nd x) t)=some res:=h'
  injection e0 with e0
  subst e0
  refine ⟨fun y r e=>?_,fun r e=>(by cases e)⟩
  injection e with e1 e2
  injection e1 with e1
  subst e1 e2
  exact ⟨c,hx,h1,h2,fun q k=>k⟩
theorem post_ok {x y:Nd} {c:Bool} {t r:List Tk} (hx:Ch x c) (h:R (.postL x) t (.ok (.nd y) r)):∃ c',Ch y c'∧¬ hd r=sDOT∧¬ hd r=sLP∧∀ q,R (.simpleL y c') r q→R (.simpleL x c) t q:=by
 obtain ⟨n,e⟩:=h
 exact (post_simple n x c t _ hx e).1 y r rfl
theorem post_no {x:Nd} {c:Bool} {t r:List Tk} (hx:Ch x c) (h:R (.postL x) t (.no r)):R (.simpleL x c) t (.no r):=by
 obtain ⟨n,e⟩:=h
 exact (post_simple n x c t _ hx e).2 r rfl
def SOk (ts:List Tk) (n:Nd) (r:List Tk):Prop:=nameB (hd ts)=true∧R (.simpleL (.mk 23 (hd ts) 0 []) false) ts.tail (.ok (.nd n) r)
def SNo (ts r:List Tk):Prop:=(nameB (hd ts)=false∧r=ts)∨(nameB (hd ts)=true∧R (.simpleL (.mk 23 (hd ts) 0 []) false) ts.tail (.no r))
def PostS (w:World) (b g:Nat) (m:Value) (ts:List Tok) (e:Ending) (w':World):Prop:=w.grownBy w' (some b)∧∃ r,r <:+ ts ∧
 ((∃ n v,r.length<ts.length∧SOk (tk ts) n (tk r)∧e=.returned v∧NdV w' (fun k=>w.heap.size≤k) n v∧Ps w' b g m r)∨(SNo (tk ts) (tk r)∧e=up r))
theorem Ch.kind {n:Nd} {c:Bool} (h:Ch n c) (hk:kindN n=25):c=true:=by
 cases h with
 | nm s=>cases hk
 | dot s x c h=>cases hk
 | call x l c h=>rfl
theorem r_sL_do {n:Nd} {t:List Tk} (h1:¬ hd t=sDOT) (h2:¬ hd t=sLP) (hk:kindN n=25):R (.simpleL n true) t (.ok (.nd (.mk 20 [] 0 [n])) t):=by
 obtain ⟨k,a,v,kids⟩:=n
 have hk':k=25:=hk
 exact ⟨1,by simp [P,F,h1,h2,hk',okN]⟩
theorem r_sL_no {n:Nd} {t:List Tk} (h1:¬ hd t=sDOT) (h2:¬ hd t=sLP) (hk:¬ kindN n=25):R (.simpleL n true) t (.no t):=by
 obtain ⟨k,a,v,kids⟩:=n
 have hk':¬ k=25:=hk
 exact ⟨1,by simp [P,F,h1,h2,hk']⟩
theorem r_sL_eq0 {n:Nd} {t:List Tk} (h1:¬ hd t=sDOT) (h2:¬ hd t=sLP) (h3:¬ hd t=sEQ):R (.simpleL n false) t (.no t):=by
 obtain ⟨k,a,v,kids⟩:=n
 exact ⟨1,by simp [P,F,h1,h2,must,h3]⟩
theorem r_sL_eq1 {n:Nd} {t r:List Tk} (h1:¬ hd t=sDOT) (h2:¬ hd t=sLP) (h3:hd t=sEQ) (a:R .expr t.tail (.no r)):R (.simpleL n false) t (.no r):=by
 obtain ⟨k,a',v,kids⟩:=n
 obtain ⟨i,e⟩:=a
 exact ⟨i+1,by simp [P,F,h3,must,andN,e]⟩
theorem r_sL_eq2 {n x:Nd} {t r:List Tk} (h1:¬ hd t=sDOT) (h2:¬ hd t=sLP) (h3:hd t=sEQ) (a:R .expr t.tail (.ok (.nd x) r)):R (.simpleL n false) t (.ok (.nd (.mk 15 [] 0 [n,x])) r):=by
 obtain ⟨k,a',v,kids⟩:=n
 obtain ⟨i,e⟩:=a
 exact ⟨i+1,by simp [P,F,h3,must,andN,e,okN]⟩
end Go.Proofs.YthcfianhdkolhaaGreatDoor.Y
namespace Go.Proofs.YthcfianhdkolhaaGreatDoor.Y
open Go.RowKit Go.Proofs.YthcfianhdkolhaaGreatDoor.X Go.Proofs.YthcfianhdkolhaaGreatDoor.T Go.Proofs.YthcfianhdkolhaaGreatDoor.S
set_option maxRecDepth 100000
set_option maxHeartbeats 2000000
set_option linter.unusedVariables false
set_option linter.unusedSimpArgs false
variable {w w' : World} {b g : Nat} {m : Value} {ts : List Tok} {t : Tok}
theorem setOrDo_any (h:Ps w b g m ts) (hT:Two w b m) (hGl:Og w) (hb5:4<b) (hgl:g<w.heap.size) (hF:Fits ts) (hlen:ts.length≤4000):Calls Tryz.prog 144 #[.pointer (some ⟨b,0,none⟩)] w (PostS w b g m ts):=by
 have HW:Hid (Wd w w b g m ts []):=Wd.start h hT hGl hb5 hgl
 have HS:=su ts
 have HF:=ħ hF
 have HLn:=ħ hlen
 have HE:Hid (Later 143 .expr b g m ts):=expr_later hb5 ts
 clear h hT hGl hgl hF hlen
 go_enter Tryz.func144,Tryz.ntmps144
 replace HW:=HW.out.az
 go_wp2_with fail
 generalize w.alloc _=w1 at *
 go_at_call 93
 refine (HW.out.nm HS.out HF.out).mono ?_
 rintro e w2 (⟨HQ_s,rfl,HL,hS,hW,hG⟩|⟨hn,rfl,h1⟩)
 rotate_left
 ·exact ⟨rfl,h1,_,HS.out,Or.inr ⟨Or.inl ⟨hn,rfl⟩,rfl⟩⟩
 replace HW:=hW
 replace HS:=hS
 clear hG
 have HN_x:Hid (NdV w2 (Av w.heap.size [(w.heap.size,#[.int .i64 0,.string ⟨#[]⟩,.int .i64 0,.slice none 0 0],24)]) (.mk 23 (hd (tk ts)) 0 []) (.agg #[.int .i64 23,.string (str (hd (tk ts))),.int .i64 0,.slice none 0 0])):=NdV.bare 23 (hd (tk ts)) 0 none 0
 have HZ_x:=zz w
 go_wp2_with fail
 go_at_call 156
 refine (behind_any HW.out (HF.out.suf HS.out) (Nat.le_trans HS.out.length_le HLn.out) (.mk 23 (hd (tk ts)) 0 []) _ _ _ _ _ _ (HN_x.out.less HZ_x.out) (HE.out.suf HS.out)).mono ?_
 rintro e w3 ⟨hG3,r3,hsu,⟨n_y,vv,hR,rfl,hN,hW3⟩|⟨hR,rfl⟩⟩
 rotate_left
 ·exact ⟨rfl,hG3,_,hsu.trans HS.out,Or.inr ⟨Or.inr ⟨HQ_s.out,by rw [← tk_tail];exact post_no (Ch.nm _) hR⟩,rfl⟩⟩
 obtain ⟨k_y,t_y,v_y,a_y,l_y,c_y,rfl⟩:=hN.form
 have HR_y:=hide hR
 have HN_y:=hide hN
 have HZ_y:=zz w
 clear HN_x HZ_x
 replace HL:=ħ (Nat.lt_of_le_of_lt hsu.length_le HL.out)
 replace HS:=ħ (hsu.trans HS.out)
 replace HW:=ħ (hW3)
 clear hR hN hsu hW3 hG3
 obtain ⟨c',hch,hd1,hd2,hsim⟩:=post_ok (Ch.nm _) HR_y.out
 have HCh:=hide hch
 have HD1:=hide hd1
 have HD2:=hide hd2
 have HSim:=hide hsim
 clear hch hd1 hd2 hsim
 replace HW:=HW.out.an HN_y
 replace HN_y:=HW.out.nA HN_y
 have hc4:=HW.out.c0
 go_wp2_with fail
 generalize w3.alloc _=w5 at *
 clear hc4
 go_at_call 149
 refine (call_ch HN_y.out HCh.out).mono ?_
 rintro e w6 ⟨rfl,hG6⟩
 replace HN_y:=(Mv.quiet hG6).N HN_y
 replace HW:=ħ (HW.out.quiet hG6)
 clear hG6
 by_cases hk:kindN n_y=25
 ·have hct:=HCh.out.kind hk
  subst hct
  rw [decide_eq_true hk]
  have HK:=hide hk
  clear hk
  have hc7:=HW.out.c0
  replace HW:=HW.out.an HN_y
  replace HN_y:=HW.out.nA HN_y
  have hc8:=HW.out.c0
  have hc9:=HW.out.c1
  go_wp2_with fail
  generalize w6.alloc _=w10 at *
  clear hc7 hc8 hc9
  go_at_call 140
  refine (node_any 20 (some ⟨w6.heap.size,0,none⟩) 1 1 w10).mono ?_
  rintro e w11 ⟨rfl,hG11⟩
  replace HN_y:=(Mv.quiet hG11).N HN_y
  replace HW:=ħ (HW.out.quiet hG11)
  clear hG11
  have HM_a:=ħ (RowN.o0 HW.out (HN_y.out.less HZ_y.out))
  have HZ_a:=zz w
  clear HN_y HZ_y
  replace HW:=hide HW.out.d0
  have HN_z:=ħ (HM_a.out.node 20 [] 0)
  have HZ_z:=HZ_a
  clear HM_a HZ_a
  have hc12:=HW.out.c0
  have hc13:=HW.out.c1
  have hf14:=HW.out.f1
  replace HW:=ħ (HW.out.s1 (.int .i64 20) (.string ⟨#[]⟩) (.int .i64 0) ((.slice (some ⟨w6.heap.size,0,none⟩) 1 1)))
  replace HN_z:=HW.out.ms1.N HN_z
  go_wp2_with fail
  generalize (((w11.setCell _ _).setCell _ _).setCell _ _).setCell _ _=w17 at *
  refine bodyPost_ret (rt rfl rfl HW.out.b1) rfl ?_
  exact ⟨HW.out.grown,_,HS.out,Or.inl ⟨_,_,HL.out,⟨HQ_s.out,by rw [← tk_tail];exact HSim.out _ (r_sL_do HD1.out HD2.out HK.out)⟩,rfl,HN_z.out.mono (fun k hk _=>Nat.le_trans HZ_z.out hk.1),HW.out.ps⟩⟩
 rw [decide_eq_false hk]
 have HK:=hide hk
 clear hk
 have hc18:=HW.out.c0
 go_wp2_with fail
 clear hc18
 go_at_call 148
 refine (place_ch HN_y.out HCh.out).mono ?_
 rintro e w19 ⟨rfl,hG19⟩
 replace HN_y:=(Mv.quiet hG19).N HN_y
 replace HW:=ħ (HW.out.quiet hG19)
 clear hG19
 cases c' with
 | true=>
  go_wp2_with fail
  go_at_call 120
  refine (giveUp_any HW.out.ps).mono ?_
  rintro e w20 ⟨rfl,rfl⟩
  exact ⟨rfl,HW.out.grown,_,HS.out,Or.inr ⟨Or.inr ⟨HQ_s.out,by rw [← tk_tail];exact HSim.out _ (r_sL_no HD1.out HD2.out HK.out)⟩,rfl⟩⟩
 | false=>
  have HA:=ħ (HW.out.ask1 HS.out HF.out (s:=sEQ) (⟨_,_,rfl,by decide⟩) (by decide) (q:=w19.heap.size) (by simp))
  go_wp2_with fail
  go_at_call 94
  refine HA.out.mono ?_
  clear HA
  rintro e w20 (⟨HQe,rfl,HL,hS,hW,hG⟩|⟨hq,rfl,h1⟩)
  rotate_left
  ·exact ⟨rfl,h1,_,HS.out,Or.inr ⟨Or.inr ⟨HQ_s.out,by rw [← tk_tail];exact HSim.out _ (r_sL_eq0 HD1.out HD2.out hq)⟩,rfl⟩⟩
  replace HN_y:=HW.out.kN HZ_y hG HN_y
  replace HW:=hW
  replace HS:=hS
  clear hG
  go_wp2_with fail
  replace HN_y:=ħ ((Mv.quiet (grown_drew w20)).nd HN_y.out)
  replace HW:=ħ (HW.out.quiet (grown_drew w20))
  refine wp_region_held_drew (S:=(fun _=>True)) (by kernel_rfl) trivial fun hHd=>?_
  generalize w20.drew=w21 at *
  refine tq 1 ?_
  simp only [qq]
  refine rq2 0 2 (fun K hK=>?_) fun K hK=>?_
  ·have hc22:=HW.out.c0
   go_simp
   clear hc22
   refine hK.out _ _ trivial fun hHd=>?_
   clear hK K
   try simp only [qq]
   refine rq 2 fun K hK=>?_
   go_simp
   refine (HE.out r3.tail HS.out HL.out w21 HW.out.ps HW.out.two HW.out.glo HW.out.glt (HF.out.suf HS.out) (Nat.le_trans HS.out.length_le HLn.out)).mono ?_
   rintro e w23 hp
   obtain ⟨r23,n_x,k_x,t_x,v_x,a_x,l_x,c_x,rfl,HR_x,HN_x,HZ_x,HL,HSx,HLs2,hS,hW,hG⟩|⟨r,hR,rfl,h1,h2⟩:=HW.out.okN HS.out hp
   rotate_left
   ·exact ⟨rfl,h1,_,h2,Or.inr ⟨Or.inr ⟨HQ_s.out,by rw [← tk_tail];exact HSim.out _ (r_sL_eq1 HD1.out HD2.out HQe.out (by rw [← tk_tail];exact hR))⟩,rfl⟩⟩
   replace HN_y:=HW.out.kN HZ_y hG HN_y
   replace HW:=hW
   replace HS:=hS
   clear hG hp
   refine hK.out _ _ trivial fun hHd=>?_
   clear hK K
   try simp only [qq]
   refine rq 3 fun K hK=>?_
   replace HW:=HW.out.al w23.heap.size #[.int .i64 k_y,.string t_y,.int .i64 v_y,.slice a_y l_y c_y,.int .i64 k_x,.string t_x,.int .i64 v_x,.slice a_x l_x c_x]
   replace HN_y:=HW.out.nA HN_y
   replace HN_x:=HW.out.nA HN_x
   go_simp
   refine hK.out _ _ trivial fun hHd=>?_
   clear hK K
   try simp only [qq]
   generalize w23.alloc _=w24 at *
   refine rq 4 fun K hK=>?_
   go_simp
   refine (node_any 15 (some ⟨w23.heap.size,0,none⟩) 2 2 w24).mono ?_
   rintro e w25 ⟨rfl,hG25⟩
   replace HN_y:=(Mv.quiet hG25).N HN_y
   replace HN_x:=(Mv.quiet hG25).N HN_x
   replace HW:=ħ (HW.out.quiet hG25)
   clear hG25
   refine hK.out _ _ trivial fun hHd=>?_
   clear hK K
   try simp only [qq]
   refine rq 5 fun K hK=>?_
   have HM_a:=ħ (RowN.t0 HW.out (HN_y.out.less HZ_y.out) (HN_x.out.less HZ_x.out))
   have HZ_a:=zz w
   clear HN_y HZ_y HN_x HZ_x
   replace HW:=hide HW.out.d0
   have HN_z:=ħ (HM_a.out.node 15 [] 0)
   have HZ_z:=HZ_a
   clear HM_a HZ_a
   have hc26:=HW.out.c1
   have hf27:=HW.out.f1
   replace HW:=ħ (HW.out.s1 (.int .i64 15) (.string ⟨#[]⟩) (.int .i64 0) ((.slice (some ⟨w23.heap.size,0,none⟩) 2 2)))
   replace HN_z:=HW.out.ms1.N HN_z
   go_simp
   refine hK.out _ _ trivial fun hHd=>?_
   clear hK K
   try simp only [qq]
   generalize (((w25.setCell _ _).setCell _ _).setCell _ _).setCell _ _=w28 at *
   clear hc26 hf27
   refine wpAnyH_done (by kernel_rfl) ?_ _
   go_wp2_with fail
   refine bodyPost_ret (rt rfl rfl HW.out.b1) rfl ?_
   exact ⟨HW.out.grown,_,HS.out,Or.inl ⟨_,_,HL.out,⟨HQ_s.out,by rw [← tk_tail];exact HSim.out _ (r_sL_eq2 HD1.out HD2.out HQe.out (by rw [← tk_tail];exact HR_x.out))⟩,rfl,HN_z.out.mono (fun k hk _=>Nat.le_trans HZ_z.out hk.1),HW.out.ps⟩⟩
  go_simp
  refine (HE.out r3.tail HS.out HL.out w21 HW.out.ps HW.out.two HW.out.glo HW.out.glt (HF.out.suf HS.out) (Nat.le_trans HS.out.length_le HLn.out)).mono ?_
  rintro e w31 hp
  obtain ⟨r31,n_x,k_x,t_x,v_x,a_x,l_x,c_x,rfl,HR_x,HN_x,HZ_x,HL,HSx,HLs2,hS,hW,hG⟩|⟨r,hR,rfl,h1,h2⟩:=HW.out.okN HS.out hp
  rotate_left
  ·exact ⟨rfl,h1,_,h2,Or.inr ⟨Or.inr ⟨HQ_s.out,by rw [← tk_tail];exact HSim.out _ (r_sL_eq1 HD1.out HD2.out HQe.out (by rw [← tk_tail];exact hR))⟩,rfl⟩⟩
  replace HN_y:=HW.out.kN HZ_y hG HN_y
  replace HW:=hW
  replace HS:=hS
  clear hG hp
  refine hK.out _ _ trivial fun hHd=>?_
  clear hK K
  try simp only [qq]
  refine rq 0 fun K hK=>?_
  have hc32:=HW.out.c0
  go_simp
  clear hc32
  refine hK.out _ _ trivial fun hHd=>?_
  clear hK K
  try simp only [qq]
  refine rq 3 fun K hK=>?_
  replace HW:=HW.out.al w31.heap.size #[.int .i64 k_y,.string t_y,.int .i64 v_y,.slice a_y l_y c_y,.int .i64 k_x,.string t_x,.int .i64 v_x,.slice a_x l_x c_x]
  replace HN_y:=HW.out.nA HN_y
  replace HN_x:=HW.out.nA HN_x
  go_simp
  refine hK.out _ _ trivial fun hHd=>?_
  clear hK K
  try simp only [qq]
  generalize w31.alloc _=w33 at *
  refine rq 4 fun K hK=>?_
  go_simp
  refine (node_any 15 (some ⟨w31.heap.size,0,none⟩) 2 2 w33).mono ?_
  rintro e w34 ⟨rfl,hG34⟩
  replace HN_y:=(Mv.quiet hG34).N HN_y
  replace HN_x:=(Mv.quiet hG34).N HN_x
  replace HW:=ħ (HW.out.quiet hG34)
  clear hG34
  refine hK.out _ _ trivial fun hHd=>?_
  clear hK K
  try simp only [qq]
  refine rq 5 fun K hK=>?_
  have HM_a:=ħ (RowN.t0 HW.out (HN_y.out.less HZ_y.out) (HN_x.out.less HZ_x.out))
  have HZ_a:=zz w
  clear HN_y HZ_y HN_x HZ_x
  replace HW:=hide HW.out.d0
  have HN_z:=ħ (HM_a.out.node 15 [] 0)
  have HZ_z:=HZ_a
  clear HM_a HZ_a
  have hc35:=HW.out.c1
  have hf36:=HW.out.f1
  replace HW:=ħ (HW.out.s1 (.int .i64 15) (.string ⟨#[]⟩) (.int .i64 0) ((.slice (some ⟨w31.heap.size,0,none⟩) 2 2)))
  replace HN_z:=HW.out.ms1.N HN_z
  go_simp
  refine hK.out _ _ trivial fun hHd=>?_
  clear hK K
  try simp only [qq]
  generalize (((w34.setCell _ _).setCell _ _).setCell _ _).setCell _ _=w37 at *
  clear hc35 hf36
  refine wpAnyH_done (by kernel_rfl) ?_ _
  go_wp2_with fail
  refine bodyPost_ret (rt rfl rfl HW.out.b1) rfl ?_
  exact ⟨HW.out.grown,_,HS.out,Or.inl ⟨_,_,HL.out,⟨HQ_s.out,by rw [← tk_tail];exact HSim.out _ (r_sL_eq2 HD1.out HD2.out HQe.out (by rw [← tk_tail];exact HR_x.out))⟩,rfl,HN_z.out.mono (fun k hk _=>Nat.le_trans HZ_z.out hk.1),HW.out.ps⟩⟩
theorem r_blk0 {ts:List Tk} (h:¬ hd ts=sLB):R .block ts (.no ts):=⟨1,by simp [P,F,must,h]⟩
theorem r_blk1 {ts:List Tk} {q:Res} (h:hd ts=sLB) (a:R (.blockL []) ts.tail q):R .block ts q:=by
 obtain ⟨n,e⟩:=a
 exact ⟨n+1,by simp [P,F,must,h,e]⟩
theorem r_bkL0 {l:List Nd} {ts:List Tk} (h:hd ts=sRB):R (.blockL l) ts (.ok (.nd (.mk 13 [] 0 l)) ts.tail):=⟨1,by simp [P,F,h,okN]⟩
theorem r_bkL1 {l:List Nd} {ts r:List Tk} (h:¬ hd ts=sRB) (a:R .stat ts (.no r)):R (.blockL l) ts (.no r):=by
 obtain ⟨n,e⟩:=a
 exact ⟨n+1,by simp [P,F,h,andN,e]⟩
theorem r_bkL2 {l:List Nd} {ts r:List Tk} {x:Nd} {q:Res} (h:¬ hd ts=sRB) (a:R .stat ts (.ok (.nd x) r)) (k:R (.blockL (l++[x])) r q):R (.blockL l) ts q:=by
 obtain ⟨n,e,e2⟩:=both a k
 exact ⟨n+1,by simp [P,F,h,andN,e,e2]⟩
theorem block_any (h:Ps w b g m ts) (hT:Two w b m) (hGl:Og w) (hb5:4<b) (hgl:g<w.heap.size) (hF:Fits ts) (hlen:ts.length≤4000) (hSt:Later 125 .stat b g m ts):Calls Tryz.prog 98 #[.pointer (some ⟨b,0,none⟩)] w (PostN .block w b g m ts):=by
 have HW:Hid (Wd w w b g m ts []):=Wd.start h hT hGl hb5 hgl
 have HS:=su ts
 have HF:=ħ hF
 have HLn:=ħ hlen
 have HSt:=hide hSt
 clear hSt
 clear h hT hGl hgl hF hlen
 go_enter Tryz.func98,Tryz.ntmps98
 replace HW:=HW.out.az
 replace HW:=HW.out.al (w.heap.size+1) #[.int .i64 13,.string ⟨#[]⟩,.int .i64 0,.slice none 0 0]
 have HA:=ħ (HW.out.ask1 HS.out HF.out (s:=sLB) (⟨_,_,rfl,by decide⟩) (by decide) (q:=(w.heap.size+2)) (by simp))
 go_wp2_with fail
 generalize (w.alloc _).alloc _=w1 at *
 go_at_call 94
 refine HA.out.mono ?_
 clear HA
 rintro e w2 (⟨HQ,rfl,HL,hS,hW,hG⟩|⟨hq,rfl,h1⟩)
 rotate_left
 ·exact ⟨rfl,h1,_,HS.out,Or.inr ⟨r_blk0 hq,rfl⟩⟩
 replace HW:=hW
 replace HS:=hS
 clear hG
 go_wp2_with fail
 go_loopw [] (fun wr=>∃ (r:List Tok) (l:List Nd) (a1:Option Addr) (n1 c1:Nat),Hid (Wd w wr b g m r [((w.heap.size+1),#[.int .i64 13,.string ⟨#[]⟩,.int .i64 0,.slice a1 n1 c1],24),(w.heap.size,#[.int .i64 0,.string ⟨#[]⟩,.int .i64 0,.slice none 0 0],24)])∧Hid (RowN wr (Av w.heap.size [((w.heap.size+1),#[.int .i64 13,.string ⟨#[]⟩,.int .i64 0,.slice a1 n1 c1],24),(w.heap.size,#[.int .i64 0,.string ⟨#[]⟩,.int .i64 0,.slice none 0 0],24)]) (.slice a1 n1 c1) l)∧Hid (r <:+ ts)∧Hid (r.length<ts.length)∧Hid (l.length+r.length≤ts.length)∧Hid (∀ q,R (.blockL l) (tk r) q→R .block (tk ts) q)) (fun wr=>leftOf b wr)
 case atStart=>exact ⟨_,[],_,_,_,HW,RowN.nil _ _,HS,HL,(by have:=HL.out;show 0+_≤_;omega),fun q hr=>r_blk1 HQ.out (by rw [← tk_tail];exact hr)⟩
 case round=>
  obtain ⟨r,l,a1,n1,c1,HW,HM_l,HS,HL,HLl,HI⟩:=hrel
  have HZ_l:=zz w
  have hmu:=HW.out.ps.leftOf
  have HMu:=hide hmu
  clear hmu
  go_wp2_with fail
  by_cases hq:tx r=str sRB
  ·have HQ1:Hid (hd (tk r)=sRB):=(tx_hd (HF.out.suf HS.out) sRB (⟨_,_,rfl,by decide⟩)).1 hq
   go_at_call 67
   refine (HW.out.tkY HS.out (x:=str sRB) (by decide) hq).mono ?_
   rintro e w21 ⟨rfl,HL,HLs,hS,hW,hG⟩
   replace HM_l:=HW.out.kR HZ_l hG HM_l
   replace HW:=hW
   replace HS:=hS
   clear hG
   have HN_z:=ħ (HM_l.out.node 13 [] 0)
   have HZ_z:=HZ_l
   clear HM_l HZ_l
   have hc22:=HW.out.c0
   have hc23:=HW.out.c1
   have hf24:=HW.out.f1
   replace HW:=ħ (HW.out.s1 (.int .i64 13) (.string ⟨#[]⟩) (.int .i64 0) ((.slice a1 n1 c1)))
   replace HN_z:=HW.out.ms1.N HN_z
   go_wp2_with fail
   generalize (((w21.setCell _ _).setCell _ _).setCell _ _).setCell _ _=w27 at *
   refine bodyPost_ret (rt rfl rfl HW.out.b1) rfl ?_
   exact HW.out.post HS.out (by rw [tk_tail];exact HI.out _ (r_bkL0 HQ1.out)) HL.out HZ_z.out HN_z.out
  have HQ1:Hid (¬ hd (tk r)=sRB):=fun e=>hq ((tx_hd (HF.out.suf HS.out) sRB (⟨_,_,rfl,by decide⟩)).2 e)
  go_at_call 67
  refine (HW.out.tkN (x:=str sRB) (by decide) hq).mono ?_
  rintro e w28 ⟨rfl,hW,hG⟩
  replace HM_l:=HW.out.kR HZ_l hG HM_l
  replace HW:=hW
  clear hG
  go_wp2_with fail
  replace HM_l:=ħ ((Mv.quiet (grown_drew w28)).row HM_l.out)
  replace HW:=ħ (HW.out.quiet (grown_drew w28))
  refine wp_region_held_drew (S:=(fun _=>True)) (by kernel_rfl) trivial fun hHd=>?_
  generalize w28.drew=w29 at *
  refine tq 0 ?_
  simp only [qq]
  refine tq 2 ?_
  simp only [qq]
  refine rq2 1 3 (fun K hK=>?_) fun K hK=>?_
  ·have hc30:=HW.out.c0
   go_simp
   clear hc30
   refine hK.out _ _ trivial fun hHd=>?_
   clear hK K
   try simp only [qq]
   refine rq 3 fun K hK=>?_
   go_simp
   refine (HSt.out r HS.out HL.out w29 HW.out.ps HW.out.two HW.out.glo HW.out.glt (HF.out.suf HS.out) (Nat.le_trans HS.out.length_le HLn.out)).mono ?_
   rintro e w31 hp
   obtain ⟨r31,n_y,k_y,t_y,v_y,a_y,l_y,c_y,rfl,HR_y,HN_y,HZ_y,HL,HSy,HLs2,hS,hW,hG⟩|⟨r,hR,rfl,h1,h2⟩:=HW.out.okN HS.out hp
   rotate_left
   ·exact ⟨rfl,h1,_,h2,Or.inr ⟨HI.out _ (r_bkL1 HQ1.out hR),rfl⟩⟩
   have HO_l:=hide HM_l.out.lt
   replace HM_l:=HW.out.kR HZ_l hG HM_l
   replace HW:=hW
   replace HS:=hS
   clear hG hp
   refine hK.out _ _ trivial fun hHd=>?_
   clear hK K
   try simp only [qq]
   refine rq 4 fun K hK=>?_
   replace HW:=HW.out.an HN_y
   replace HN_y:=HW.out.nA HN_y
   replace HM_l:=HW.out.rA HM_l
   go_simp
   refine hK.out _ _ trivial fun hHd=>?_
   clear hK K
   try simp only [qq]
   generalize w31.alloc _=w32 at *
   refine rq 5 fun K hK=>?_
   refine app_s0 _ _ rfl rfl HW.out HM_l.out HN_y.out HZ_l.out HZ_y.out HO_l.out (by have:=HLl.out;have:=HLn.out;omega) ⟨rfl,rfl,rfl,rfl⟩ rfl rfl ?_
   intro g33 c33 w33 hW hM hG
   clear HM_l HN_y HZ_l HZ_y HO_l
   replace HW:=hide hW
   have HM_l2:=hide hM
   have HZ_l2:=zz w
   clear hW hM hG
   refine hK.out _ _ trivial fun hHd=>?_
   clear hK K
   try simp only [qq]
   refine tq 6 ?_
   simp only [qq]
   refine rq 7 fun K hK=>?_
   have hc34:=HW.out.c0
   have hf35:=HW.out.f0
   replace HW:=ħ (HW.out.p03 ((.slice (some ⟨g33,0,none⟩) (l.length+1) c33)))
   replace HM_l2:=HW.out.mp03.R HM_l2
   go_simp
   refine hK.out _ _ trivial fun hHd=>?_
   clear hK K
   try simp only [qq]
   generalize w33.setCell _ _=w36 at *
   clear hc34 hf35
   refine wpAnyH_done (by kernel_rfl) ?_ _
   go_wp2_with fail
   go_roundw
   case rel=>exact ⟨_,_,_,_,_,HW,HM_l2,HS,HL,(by have h1:=HLl.out;have h2:=HLs2.out;show (l++[n_y]).length+_≤_;rw [List.length_append,List.length_singleton];omega),fun q hr=>HI.out q (r_bkL2 HQ1.out HR_y.out hr)⟩
   case measure=>rw [HW.out.ps.leftOf,HMu.out];exact HLs2.out
  go_simp
  refine (HSt.out r HS.out HL.out w29 HW.out.ps HW.out.two HW.out.glo HW.out.glt (HF.out.suf HS.out) (Nat.le_trans HS.out.length_le HLn.out)).mono ?_
  rintro e w37 hp
  obtain ⟨r37,n_y,k_y,t_y,v_y,a_y,l_y,c_y,rfl,HR_y,HN_y,HZ_y,HL,HSy,HLs2,hS,hW,hG⟩|⟨r,hR,rfl,h1,h2⟩:=HW.out.okN HS.out hp
  rotate_left
  ·exact ⟨rfl,h1,_,h2,Or.inr ⟨HI.out _ (r_bkL1 HQ1.out hR),rfl⟩⟩
  have HO_l:=hide HM_l.out.lt
  replace HM_l:=HW.out.kR HZ_l hG HM_l
  replace HW:=hW
  replace HS:=hS
  clear hG hp
  refine hK.out _ _ trivial fun hHd=>?_
  clear hK K
  try simp only [qq]
  refine rq2 1 4 (fun K hK=>?_) fun K hK=>?_
  ·have hc38:=HW.out.c0
   go_simp
   clear hc38
   refine hK.out _ _ trivial fun hHd=>?_
   clear hK K
   try simp only [qq]
   refine rq 4 fun K hK=>?_
   replace HW:=HW.out.an HN_y
   replace HN_y:=HW.out.nA HN_y
   replace HM_l:=HW.out.rA HM_l
   go_simp
   refine hK.out _ _ trivial fun hHd=>?_
   clear hK K
   try simp only [qq]
   generalize w37.alloc _=w39 at *
   refine rq 5 fun K hK=>?_
   refine app_s0 _ _ rfl rfl HW.out HM_l.out HN_y.out HZ_l.out HZ_y.out HO_l.out (by have:=HLl.out;have:=HLn.out;omega) ⟨rfl,rfl,rfl,rfl⟩ rfl rfl ?_
   intro g40 c40 w40 hW hM hG
   clear HM_l HN_y HZ_l HZ_y HO_l
   replace HW:=hide hW
   have HM_l2:=hide hM
   have HZ_l2:=zz w
   clear hW hM hG
   refine hK.out _ _ trivial fun hHd=>?_
   clear hK K
   try simp only [qq]
   refine tq 6 ?_
   simp only [qq]
   refine rq 7 fun K hK=>?_
   have hc41:=HW.out.c0
   have hf42:=HW.out.f0
   replace HW:=ħ (HW.out.p03 ((.slice (some ⟨g40,0,none⟩) (l.length+1) c40)))
   replace HM_l2:=HW.out.mp03.R HM_l2
   go_simp
   refine hK.out _ _ trivial fun hHd=>?_
   clear hK K
   try simp only [qq]
   generalize w40.setCell _ _=w43 at *
   clear hc41 hf42
   refine wpAnyH_done (by kernel_rfl) ?_ _
   go_wp2_with fail
   go_roundw
   case rel=>exact ⟨_,_,_,_,_,HW,HM_l2,HS,HL,(by have h1:=HLl.out;have h2:=HLs2.out;show (l++[n_y]).length+_≤_;rw [List.length_append,List.length_singleton];omega),fun q hr=>HI.out q (r_bkL2 HQ1.out HR_y.out hr)⟩
   case measure=>rw [HW.out.ps.leftOf,HMu.out];exact HLs2.out
  replace HW:=HW.out.an HN_y
  replace HN_y:=HW.out.nA HN_y
  replace HM_l:=HW.out.rA HM_l
  go_simp
  refine hK.out _ _ trivial fun hHd=>?_
  clear hK K
  try simp only [qq]
  generalize w37.alloc _=w44 at *
  refine rq 1 fun K hK=>?_
  have hc45:=HW.out.c1
  go_simp
  clear hc45
  refine hK.out _ _ trivial fun hHd=>?_
  clear hK K
  try simp only [qq]
  refine rq 5 fun K hK=>?_
  refine app_s0 _ _ rfl rfl HW.out HM_l.out HN_y.out HZ_l.out HZ_y.out HO_l.out (by have:=HLl.out;have:=HLn.out;omega) ⟨rfl,rfl,rfl,rfl⟩ rfl rfl ?_
  intro g46 c46 w46 hW hM hG
  clear HM_l HN_y HZ_l HZ_y HO_l
  replace HW:=hide hW
  have HM_l2:=hide hM
  have HZ_l2:=zz w
  clear hW hM hG
  refine hK.out _ _ trivial fun hHd=>?_
  clear hK K
  try simp only [qq]
  refine tq 6 ?_
  simp only [qq]
  refine rq 7 fun K hK=>?_
  have hc47:=HW.out.c0
  have hf48:=HW.out.f0
  replace HW:=ħ (HW.out.p03 ((.slice (some ⟨g46,0,none⟩) (l.length+1) c46)))
  replace HM_l2:=HW.out.mp03.R HM_l2
  go_simp
  refine hK.out _ _ trivial fun hHd=>?_
  clear hK K
  try simp only [qq]
  generalize w46.setCell _ _=w49 at *
  clear hc47 hf48
  refine wpAnyH_done (by kernel_rfl) ?_ _
  go_wp2_with fail
  go_roundw
  case rel=>exact ⟨_,_,_,_,_,HW,HM_l2,HS,HL,(by have h1:=HLl.out;have h2:=HLs2.out;show (l++[n_y]).length+_≤_;rw [List.length_append,List.length_singleton];omega),fun q hr=>HI.out q (r_bkL2 HQ1.out HR_y.out hr)⟩
  case measure=>rw [HW.out.ps.leftOf,HMu.out];exact HLs2.out
theorem r_if0 {ts r:List Tk} (h:hd ts=sIF) (a:R .round ts.tail (.no r)):R .stat ts (.no r):=by
 obtain ⟨n,e⟩:=a
 exact ⟨n+1,by simp [P,F,h,andN,e]⟩
theorem r_if1 {ts r r2:List Tk} {c:Nd} (h:hd ts=sIF) (a:R .round ts.tail (.ok (.nd c) r)) (k:R .block r (.no r2)):R .stat ts (.no r2):=by
 obtain ⟨n,e,e2⟩:=both a k
 exact ⟨n+1,by simp [P,F,h,andN,e,e2]⟩
theorem r_if2 {ts r r2:List Tk} {c x:Nd} (h:hd ts=sIF) (a:R .round ts.tail (.ok (.nd c) r)) (k:R .block r (.ok (.nd x) r2)) (h2:¬ hd r2=sELSE):R .stat ts (.ok (.nd (.mk 16 [] 0 [c,x])) r2):=by
 obtain ⟨n,e,e2⟩:=both a k
 exact ⟨n+1,by simp [P,F,h,andN,e,e2,h2,okN]⟩
theorem r_if3 {ts r r2 r3:List Tk} {c x:Nd} (h:hd ts=sIF) (a:R .round ts.tail (.ok (.nd c) r)) (k:R .block r (.ok (.nd x) r2)) (h2:hd r2=sELSE) (j:R .block r2.tail (.no r3)):R .stat ts (.no r3):=by
 obtain ⟨n,e,e2,e3⟩:=three a k j
 exact ⟨n+1,by simp [P,F,h,andN,e,e2,h2,e3]⟩
theorem r_if4 {ts r r2 r3:List Tk} {c x y:Nd} (h:hd ts=sIF) (a:R .round ts.tail (.ok (.nd c) r)) (k:R .block r (.ok (.nd x) r2)) (h2:hd r2=sELSE) (j:R .block r2.tail (.ok (.nd y) r3)):R .stat ts (.ok (.nd (.mk 16 [] 0 [c,x,y])) r3):=by
 obtain ⟨n,e,e2,e3⟩:=three a k j
 exact ⟨n+1,by simp [P,F,h,andN,e,e2,h2,e3,okN]⟩
theorem r_wh0 {ts r:List Tk} (h:hd ts=sWHILE) (a:R .round ts.tail (.no r)):R .stat ts (.no r):=by
 obtain ⟨n,e⟩:=a
 exact ⟨n+1,by simp [P,F,h,andN,e]⟩
theorem r_wh1 {ts r r2:List Tk} {c:Nd} (h:hd ts=sWHILE) (a:R .round ts.tail (.ok (.nd c) r)) (k:R .block r (.no r2)):R .stat ts (.no r2):=by
 obtain ⟨n,e,e2⟩:=both a k
 exact ⟨n+1,by simp [P,F,h,andN,e,e2]⟩
theorem r_wh2 {ts r r2:List Tk} {c x:Nd} (h:hd ts=sWHILE) (a:R .round ts.tail (.ok (.nd c) r)) (k:R .block r (.ok (.nd x) r2)):R .stat ts (.ok (.nd (.mk 17 [] 0 [c,x])) r2):=by
 obtain ⟨n,e,e2⟩:=both a k
 exact ⟨n+1,by simp [P,F,h,andN,e,e2,okN]⟩
theorem r_rt0 {ts r:List Tk} (h:hd ts=sRET) (a:R .expr ts.tail (.no r)):R .stat ts (.no r):=by
 obtain ⟨n,e⟩:=a
 exact ⟨n+1,by simp [P,F,h,andN,e]⟩
theorem r_rt1 {ts r:List Tk} {x:Nd} (h:hd ts=sRET) (a:R .expr ts.tail (.ok (.nd x) r)) (h2:¬ hd r=sSEMI):R .stat ts (.no r):=by
 obtain ⟨n,e⟩:=a
 exact ⟨n+1,by simp [P,F,h,andN,e,must,h2]⟩
theorem r_rt2 {ts r:List Tk} {x:Nd} (h:hd ts=sRET) (a:R .expr ts.tail (.ok (.nd x) r)) (h2:hd r=sSEMI):R .stat ts (.ok (.nd (.mk 18 [] 0 [x])) r.tail):=by
 obtain ⟨n,e⟩:=a
 exact ⟨n+1,by simp [P,F,h,andN,e,must,h2,okN]⟩
theorem r_pu0 {ts r:List Tk} (h:hd ts=sPUT) (a:R .round ts.tail (.no r)):R .stat ts (.no r):=by
 obtain ⟨n,e⟩:=a
 exact ⟨n+1,by simp [P,F,h,andN,e]⟩
theorem r_pu1 {ts r:List Tk} {x:Nd} (h:hd ts=sPUT) (a:R .round ts.tail (.ok (.nd x) r)) (h2:¬ hd r=sSEMI):R .stat ts (.no r):=by
 obtain ⟨n,e⟩:=a
 exact ⟨n+1,by simp [P,F,h,andN,e,must,h2]⟩
theorem r_pu2 {ts r:List Tk} {x:Nd} (h:hd ts=sPUT) (a:R .round ts.tail (.ok (.nd x) r)) (h2:hd r=sSEMI):R .stat ts (.ok (.nd (.mk 19 [] 0 [x])) r.tail):=by
 obtain ⟨n,e⟩:=a
 exact ⟨n+1,by simp [P,F,h,andN,e,must,h2,okN]⟩
theorem nm_not {s:List UInt8} (h:nameB s=true):¬ s=sINT∧¬ s=sLONG∧¬ s=sFN:=⟨fun e=>by rw [e] at h;revert h;decide,fun e=>by rw [e] at h;revert h;decide,fun e=>by rw [e] at h;revert h;decide⟩
theorem r_sd0 {ts r:List Tk} (n1:¬ hd ts=sIF) (n2:¬ hd ts=sWHILE) (n3:¬ hd ts=sRET) (n4:¬ hd ts=sPUT) (h:nameB (hd ts)=true) (h2:nameB (hd ts.tail)=false) (a:SNo ts r):R .stat ts (.no r):=by
 obtain ⟨m1,m2,m3⟩:=nm_not h
 rcases a with ⟨a,_⟩|⟨_,n,e⟩
 ·rw [h] at a;cases a
 exact ⟨n+1,by simp [P,F,n1,n2,n3,n4,m1,m2,m3,h,h2,S.name,andN,e]⟩
theorem r_sd1 {ts r:List Tk} {x:Nd} (n1:¬ hd ts=sIF) (n2:¬ hd ts=sWHILE) (n3:¬ hd ts=sRET) (n4:¬ hd ts=sPUT) (h:nameB (hd ts)=true) (h2:nameB (hd ts.tail)=false) (a:SOk ts x r) (h3:¬ hd r=sSEMI):R .stat ts (.no r):=by
 obtain ⟨m1,m2,m3⟩:=nm_not h
 obtain ⟨_,n,e⟩:=a
 exact ⟨n+1,by simp [P,F,n1,n2,n3,n4,m1,m2,m3,h,h2,S.name,andN,e,must,h3]⟩
theorem r_sd2 {ts r:List Tk} {x:Nd} (n1:¬ hd ts=sIF) (n2:¬ hd ts=sWHILE) (n3:¬ hd ts=sRET) (n4:¬ hd ts=sPUT) (h:nameB (hd ts)=true) (h2:nameB (hd ts.tail)=false) (a:SOk ts x r) (h3:hd r=sSEMI):R .stat ts (.ok (.nd x) r.tail):=by
 obtain ⟨m1,m2,m3⟩:=nm_not h
 obtain ⟨_,n,e⟩:=a
 exact ⟨n+1,by simp [P,F,n1,n2,n3,n4,m1,m2,m3,h,h2,S.name,andN,e,must,h3,okN]⟩
theorem va_typ {ts:List Tk} (hv:¬ (nameB (hd ts)=true∧nameB (hd ts.tail)=false)):(hd ts=sINT∨hd ts=sLONG∨hd ts=sFN∨(nameB (hd ts)=true∧nameB (hd ts.tail)=true))∨(R .typ ts (.no ts)∧nameB (hd ts)=false∧¬ (hd ts=sINT∨hd ts=sLONG∨hd ts=sFN∨(nameB (hd ts)=true∧nameB (hd ts.tail)=true))):=by
 by_cases q1:hd ts=sINT
 ·exact Or.inl (Or.inl q1)
 by_cases q2:hd ts=sLONG
 ·exact Or.inl (Or.inr (Or.inl q2))
 by_cases q3:hd ts=sFN
 ·exact Or.inl (Or.inr (Or.inr (Or.inl q3)))
 cases hn:nameB (hd ts) with
 | false=>exact Or.inr ⟨r_ty_nm0 q1 q2 q3 hn,rfl,by simp [q1,q2,q3]⟩
 | true=>
  cases hn2:nameB (hd ts.tail) with
  | false=>exact absurd ⟨hn,hn2⟩ hv
  | true=>exact Or.inl (Or.inr (Or.inr (Or.inr ⟨rfl,rfl⟩)))
theorem r_va0 {ts r:List Tk} (n1:¬ hd ts=sIF) (n2:¬ hd ts=sWHILE) (n3:¬ hd ts=sRET) (n4:¬ hd ts=sPUT) (hv:¬ (nameB (hd ts)=true∧nameB (hd ts.tail)=false)) (a:TyNo ts r):R .stat ts (.no r):=by
 rcases va_typ hv with hc|⟨h1,h2,hc⟩
 ·rcases a with ⟨n,e⟩|⟨t,⟨n,e⟩,h2⟩
  ·exact ⟨n+1,by simp only [P,F,if_neg n1,if_neg n2,if_neg n3,if_neg n4,if_pos hc];simp [andN,e]⟩
  exact ⟨n+1,by simp only [P,F,if_neg n1,if_neg n2,if_neg n3,if_neg n4,if_pos hc];simp [andN,e,S.name,h2]⟩
 rcases a with a|⟨t,a,_⟩
 ·have e:=R_one a h1
  injection e with e
  subst e
  exact ⟨1,by simp only [P,F,if_neg n1,if_neg n2,if_neg n3,if_neg n4,if_neg hc];simp [S.name,h2]⟩
 have e:=R_one a h1
 cases e
theorem r_va1 {ts r:List Tk} {t:Nd} {s:List UInt8} {q:Res} (n1:¬ hd ts=sIF) (n2:¬ hd ts=sWHILE) (n3:¬ hd ts=sRET) (n4:¬ hd ts=sPUT) (hv:¬ (nameB (hd ts)=true∧nameB (hd ts.tail)=false)) (a:TyOk ts t s r) (k:∃ n,must sEQ r (fun r=>andN (P n .expr r) fun x r=>must sSEMI r fun r=>okN (.mk 14 s 0 [t,x]) r)=some q):R .stat ts q:=by
 obtain ⟨r1,a,h2,rfl,rfl⟩:=a
 rcases va_typ hv with hc|⟨h1,_,hc⟩
 ·obtain ⟨n,e⟩:=a
  obtain ⟨n',e'⟩:=k
  have e1:=P_le (Nat.le_max_left n n') e
  have e2:must sEQ r1.tail (fun r=>andN (P (max n n') .expr r) fun x r=>must sSEMI r fun r=>okN (.mk 14 (hd r1) 0 [t,x]) r)=some q:=must_mono (fun t q h=>andN_mono (fun q h=>P_le (Nat.le_max_right n n') h) (fun a s q h=>h) h) e'
  exact ⟨max n n'+1,by simp only [P,F,if_neg n1,if_neg n2,if_neg n3,if_neg n4,if_pos hc,e1,andN,S.name,if_pos h2];exact e2⟩
 have e:=R_one a h1
 cases e
theorem va0 {r:List Tk} {t:Nd} {s:List UInt8} (h:¬ hd r=sEQ):∃ n,must sEQ r (fun r=>andN (P n .expr r) fun x r=>must sSEMI r fun r=>okN (.mk 14 s 0 [t,x]) r)=some (.no r):=⟨0,by simp [must,h]⟩
theorem va1 {r r2:List Tk} {t:Nd} {s:List UInt8} (h:hd r=sEQ) (a:R .expr r.tail (.no r2)):∃ n,must sEQ r (fun r=>andN (P n .expr r) fun x r=>must sSEMI r fun r=>okN (.mk 14 s 0 [t,x]) r)=some (.no r2):=by
 obtain ⟨n,e⟩:=a
 exact ⟨n,by simp [must,h,andN,e]⟩
theorem va2 {r r2:List Tk} {t x:Nd} {s:List UInt8} (h:hd r=sEQ) (a:R .expr r.tail (.ok (.nd x) r2)) (h2:¬ hd r2=sSEMI):∃ n,must sEQ r (fun r=>andN (P n .expr r) fun x r=>must sSEMI r fun r=>okN (.mk 14 s 0 [t,x]) r)=some (.no r2):=by
 obtain ⟨n,e⟩:=a
 exact ⟨n,by simp [must,h,andN,e,h2]⟩
theorem va3 {r r2:List Tk} {t x:Nd} {s:List UInt8} (h:hd r=sEQ) (a:R .expr r.tail (.ok (.nd x) r2)) (h2:hd r2=sSEMI):∃ n,must sEQ r (fun r=>andN (P n .expr r) fun x r=>must sSEMI r fun r=>okN (.mk 14 s 0 [t,x]) r)=some (.ok (.nd (.mk 14 s 0 [t,x])) r2.tail):=by
 obtain ⟨n,e⟩:=a
 exact ⟨n,by simp [must,h,andN,e,h2,okN]⟩
theorem stat_while (h:Ps w b g m ts) (hT:Two w b m) (hGl:Og w) (hb5:4<b) (hgl:g<w.heap.size) (hF:Fits ts) (hlen:ts.length≤4000) (hq_sIF:¬ tx ts=str sIF) (hq_sWHILE:tx ts=str sWHILE) (hBl:Later 98 .block b g m ts):Calls Tryz.prog 125 #[.pointer (some ⟨b,0,none⟩)] w (PostN .stat w b g m ts):=by
 have HW:Hid (Wd w w b g m ts []):=Wd.start h hT hGl hb5 hgl
 have HS:=su ts
 have HF:=ħ hF
 have HLn:=ħ hlen
 have HBl:=hide hBl
 have HE:Hid (Later 143 .expr b g m ts):=expr_later hb5 ts
 have hc_sIF:((tx ts).toList == ([105,102]:List UInt8))=false:=by rw [cmp_str];exact decide_eq_false hq_sIF
 have hc_sWHILE:((tx ts).toList == ([119,104,105,108,101]:List UInt8))=true:=by rw [cmp_str];exact decide_eq_true hq_sWHILE
 have HQ_sIF:Hid (¬ hd (tk ts)=sIF):=fun e=>hq_sIF ((tx_hd hF sIF (⟨_,_,rfl,by decide⟩)).2 e)
 have HQ_sWHILE:Hid (hd (tk ts)=sWHILE):=(tx_hd hF sWHILE (⟨_,_,rfl,by decide⟩)).1 hq_sWHILE
 have HQx:=hide hq_sWHILE
 clear hq_sIF hq_sWHILE
 clear hBl
 clear h hT hGl hgl hF hlen
 go_enter Tryz.func125,Tryz.ntmps125
 replace HW:=HW.out.az
 go_wp2_with fail
 generalize w.alloc _=w1 at *
 go_at_call 91
 refine (text_any HW.out.ps).mono ?_
 rintro e w2 ⟨rfl,hww⟩
 replace hww:w1=w2:=hww.symm
 subst hww
 replace HW:=ħ (HW.out.alloc' w1.heap.size (by simp) #[.string ⟨#[119,104,105,108,101]⟩] 9)
 go_wp2_with fail
 generalize w1.alloc _=w3 at *
 go_at_call 141
 refine (inside1 HW.out (by decide) HQx.out (HF.out.suf HS.out) (Nat.le_trans HS.out.length_le HLn.out) (HE.out.suf HS.out)).mono ?_
 rintro e w4 ⟨hG4,r4,hsu,⟨n_x,vv,hlt,hR,rfl,hN,hP4⟩|⟨hR,rfl⟩⟩
 rotate_left
 ·exact ⟨rfl,grown_trans HW.out.grown hG4,_,(hsu.trans (List.tail_suffix _)).trans HS.out,Or.inr ⟨r_wh0 HQ_sWHILE.out (by rw [← tk_tail];exact hR),rfl⟩⟩
 obtain ⟨k_x,t_x,v_x,a_x,l_x,c_x,rfl⟩:=hN.form
 have HR_x:=hide hR
 have HN_x:=ħ (hN.given HW.out)
 have HZ_x:Hid (w.heap.size≤w3.heap.size):=HW.out.grown.size
 have HL:Hid (r4.length<ts.length):=Nat.lt_of_lt_of_le hlt (Nat.le_trans (List.tail_suffix _).length_le HS.out.length_le)
 replace HW:=ħ (HW.out.call hG4 hP4)
 replace HS:=ħ ((hsu.trans (List.tail_suffix _)).trans HS.out)
 clear hP4 hG4 hR hN hsu hlt
 go_wp2_with fail
 go_at_call 98
 refine (HBl.out r4 HS.out HL.out w4 HW.out.ps HW.out.two HW.out.glo HW.out.glt (HF.out.suf HS.out) (Nat.le_trans HS.out.length_le HLn.out)).mono ?_
 rintro e w5 hp
 obtain ⟨r5,n_y,k_y,t_y,v_y,a_y,l_y,c_y,rfl,HR_y,HN_y,HZ_y,HL,HSy,HLs2,hS,hW,hG⟩|⟨r,hR,rfl,h1,h2⟩:=HW.out.okN HS.out hp
 rotate_left
 ·exact ⟨rfl,h1,_,h2,Or.inr ⟨r_wh1 HQ_sWHILE.out (by rw [← tk_tail];exact HR_x.out) hR,rfl⟩⟩
 replace HN_x:=HW.out.kN HZ_x hG HN_x
 replace HW:=hW
 replace HS:=hS
 clear hG hp
 replace HW:=HW.out.al w5.heap.size #[.int .i64 k_x,.string t_x,.int .i64 v_x,.slice a_x l_x c_x,.int .i64 k_y,.string t_y,.int .i64 v_y,.slice a_y l_y c_y]
 replace HN_x:=HW.out.nA HN_x
 replace HN_y:=HW.out.nA HN_y
 go_wp2_with fail
 generalize w5.alloc _=w6 at *
 go_at_call 140
 refine (node_any 17 (some ⟨w5.heap.size,0,none⟩) 2 2 w6).mono ?_
 rintro e w7 ⟨rfl,hG7⟩
 replace HN_x:=(Mv.quiet hG7).N HN_x
 replace HN_y:=(Mv.quiet hG7).N HN_y
 replace HW:=ħ (HW.out.quiet hG7)
 clear hG7
 have HM_k:=ħ (RowN.t0 HW.out (HN_x.out.less HZ_x.out) (HN_y.out.less HZ_y.out))
 have HZ_k:=zz w
 clear HN_x HZ_x HN_y HZ_y
 replace HW:=hide HW.out.d0
 have HN_r:=ħ (HM_k.out.node 17 [] 0)
 have HZ_r:=HZ_k
 clear HM_k HZ_k
 have hc8:=HW.out.c0
 have hc9:=HW.out.c1
 have hf10:=HW.out.f1
 replace HW:=ħ (HW.out.s1 (.int .i64 17) (.string ⟨#[]⟩) (.int .i64 0) ((.slice (some ⟨w5.heap.size,0,none⟩) 2 2)))
 replace HN_r:=HW.out.ms1.N HN_r
 go_wp2_with fail
 generalize (((w7.setCell _ _).setCell _ _).setCell _ _).setCell _ _=w13 at *
 refine bodyPost_ret (rt rfl rfl HW.out.b1) rfl ?_
 exact HW.out.post HS.out (r_wh2 HQ_sWHILE.out (by rw [← tk_tail];exact HR_x.out) HR_y.out) HL.out HZ_r.out HN_r.out
theorem stat_ret (h:Ps w b g m ts) (hT:Two w b m) (hGl:Og w) (hb5:4<b) (hgl:g<w.heap.size) (hF:Fits ts) (hlen:ts.length≤4000) (hq_sIF:¬ tx ts=str sIF) (hq_sWHILE:¬ tx ts=str sWHILE) (hq_sRET:tx ts=str sRET) (hBl:Later 98 .block b g m ts):Calls Tryz.prog 125 #[.pointer (some ⟨b,0,none⟩)] w (PostN .stat w b g m ts):=by
 have HW:Hid (Wd w w b g m ts []):=Wd.start h hT hGl hb5 hgl
 have HS:=su ts
 have HF:=ħ hF
 have HLn:=ħ hlen
 have HBl:=hide hBl
 have HE:Hid (Later 143 .expr b g m ts):=expr_later hb5 ts
 have hc_sIF:((tx ts).toList == ([105,102]:List UInt8))=false:=by rw [cmp_str];exact decide_eq_false hq_sIF
 have hc_sWHILE:((tx ts).toList == ([119,104,105,108,101]:List UInt8))=false:=by rw [cmp_str];exact decide_eq_false hq_sWHILE
 have hc_sRET:((tx ts).toList == ([114,101,116,117,114,110]:List UInt8))=true:=by rw [cmp_str];exact decide_eq_true hq_sRET
 have HQ_sIF:Hid (¬ hd (tk ts)=sIF):=fun e=>hq_sIF ((tx_hd hF sIF (⟨_,_,rfl,by decide⟩)).2 e)
 have HQ_sWHILE:Hid (¬ hd (tk ts)=sWHILE):=fun e=>hq_sWHILE ((tx_hd hF sWHILE (⟨_,_,rfl,by decide⟩)).2 e)
 have HQ_sRET:Hid (hd (tk ts)=sRET):=(tx_hd hF sRET (⟨_,_,rfl,by decide⟩)).1 hq_sRET
 have HQx:=hide hq_sRET
 clear hq_sIF hq_sWHILE hq_sRET
 clear hBl
 clear h hT hGl hgl hF hlen
 go_enter Tryz.func125,Tryz.ntmps125
 replace HW:=HW.out.az
 go_wp2_with fail
 generalize w.alloc _=w1 at *
 go_at_call 91
 refine (text_any HW.out.ps).mono ?_
 rintro e w2 ⟨rfl,hww⟩
 replace hww:w1=w2:=hww.symm
 subst hww
 go_wp2_with fail
 go_at_call 92
 refine (pass_tx HW.out.ps (by decide) HQx.out).mono ?_
 rintro e w3 ⟨rfl,hP3,hG3⟩
 have HL:Hid (ts.tail.length<ts.length):=Nat.lt_of_lt_of_le (tail_lt (by decide) HQx.out) HS.out.length_le
 replace HW:=ħ (HW.out.call hG3 hP3)
 replace HS:=ħ ((List.tail_suffix _).trans HS.out)
 clear hP3 hG3
 go_wp2_with fail
 go_at_call 143
 refine (HE.out ts.tail HS.out HL.out w3 HW.out.ps HW.out.two HW.out.glo HW.out.glt (HF.out.suf HS.out) (Nat.le_trans HS.out.length_le HLn.out)).mono ?_
 rintro e w4 hp
 obtain ⟨r4,n_x,k_x,t_x,v_x,a_x,l_x,c_x,rfl,HR_x,HN_x,HZ_x,HL,HSx,HLs2,hS,hW,hG⟩|⟨r,hR,rfl,h1,h2⟩:=HW.out.okN HS.out hp
 rotate_left
 ·exact ⟨rfl,h1,_,h2,Or.inr ⟨r_rt0 HQ_sRET.out (by rw [← tk_tail];exact hR),rfl⟩⟩
 replace HW:=hW
 replace HS:=hS
 clear hG hp
 replace HW:=HW.out.an HN_x
 replace HN_x:=HW.out.nA HN_x
 go_wp2_with fail
 generalize w4.alloc _=w5 at *
 go_at_call 140
 refine (node_any 18 (some ⟨w4.heap.size,0,none⟩) 1 1 w5).mono ?_
 rintro e w6 ⟨rfl,hG6⟩
 replace HN_x:=(Mv.quiet hG6).N HN_x
 replace HW:=ħ (HW.out.quiet hG6)
 clear hG6
 have HM_a:=ħ (RowN.o0 HW.out (HN_x.out.less HZ_x.out))
 have HZ_a:=zz w
 clear HN_x HZ_x
 replace HW:=hide HW.out.d0
 have HN_z:=ħ (HM_a.out.node 18 [] 0)
 have HZ_z:=HZ_a
 clear HM_a HZ_a
 go_wp2_with fail
 go_at_call 142
 refine (ended_any HW.out.ps HW.out.glt _ _ _ _ _ _).mono ?_
 rintro e w7 ⟨hG7,⟨hq,rfl,hP7⟩|⟨hq,rfl⟩⟩
 rotate_left
 ·replace hq:¬ hd (tk r4)=sSEMI:=fun e=>hq ((tx_hd (HF.out.suf HS.out) sSEMI (⟨_,_,rfl,by decide⟩)).2 e)
  exact ⟨rfl,grown_trans HW.out.grown hG7,_,HS.out,Or.inr ⟨r_rt1 HQ_sRET.out (by rw [← tk_tail];exact HR_x.out) hq,rfl⟩⟩
 have HQ3:Hid (hd (tk r4)=sSEMI):=(tx_hd (HF.out.suf HS.out) sSEMI (⟨_,_,rfl,by decide⟩)).1 hq
 have HL:Hid (r4.tail.length<ts.length):=Nat.lt_of_lt_of_le (tail_lt (by decide) hq) HS.out.length_le
 replace HN_z:=HW.out.kN HZ_z hG7 HN_z
 replace HW:=ħ (HW.out.call hG7 hP7)
 replace HS:=ħ ((List.tail_suffix _).trans HS.out)
 clear hP7 hG7 hq
 have hc8:=HW.out.c0
 have hf9:=HW.out.f0
 replace HW:=ħ (HW.out.s0 (.int .i64 18) (.string ⟨#[]⟩) (.int .i64 0) ((.slice (some ⟨w4.heap.size,0,none⟩) 1 1)))
 replace HN_z:=HW.out.ms0.N HN_z
 go_wp2_with fail
 generalize (((w7.setCell _ _).setCell _ _).setCell _ _).setCell _ _=w12 at *
 refine bodyPost_ret (rt rfl rfl HW.out.b0) rfl ?_
 exact HW.out.post HS.out (by rw [tk_tail];exact r_rt2 HQ_sRET.out (by rw [← tk_tail];exact HR_x.out) HQ3.out) HL.out HZ_z.out HN_z.out
theorem stat_put (h:Ps w b g m ts) (hT:Two w b m) (hGl:Og w) (hb5:4<b) (hgl:g<w.heap.size) (hF:Fits ts) (hlen:ts.length≤4000) (hq_sIF:¬ tx ts=str sIF) (hq_sWHILE:¬ tx ts=str sWHILE) (hq_sRET:¬ tx ts=str sRET) (hq_sPUT:tx ts=str sPUT) (hBl:Later 98 .block b g m ts):Calls Tryz.prog 125 #[.pointer (some ⟨b,0,none⟩)] w (PostN .stat w b g m ts):=by
 have HW:Hid (Wd w w b g m ts []):=Wd.start h hT hGl hb5 hgl
 have HS:=su ts
 have HF:=ħ hF
 have HLn:=ħ hlen
 have HBl:=hide hBl
 have HE:Hid (Later 143 .expr b g m ts):=expr_later hb5 ts
 have hc_sIF:((tx ts).toList == ([105,102]:List UInt8))=false:=by rw [cmp_str];exact decide_eq_false hq_sIF
 have hc_sWHILE:((tx ts).toList == ([119,104,105,108,101]:List UInt8))=false:=by rw [cmp_str];exact decide_eq_false hq_sWHILE
 have hc_sRET:((tx ts).toList == ([114,101,116,117,114,110]:List UInt8))=false:=by rw [cmp_str];exact decide_eq_false hq_sRET
 have hc_sPUT:((tx ts).toList == ([112,117,116]:List UInt8))=true:=by rw [cmp_str];exact decide_eq_true hq_sPUT
 have HQ_sIF:Hid (¬ hd (tk ts)=sIF):=fun e=>hq_sIF ((tx_hd hF sIF (⟨_,_,rfl,by decide⟩)).2 e)
 have HQ_sWHILE:Hid (¬ hd (tk ts)=sWHILE):=fun e=>hq_sWHILE ((tx_hd hF sWHILE (⟨_,_,rfl,by decide⟩)).2 e)
 have HQ_sRET:Hid (¬ hd (tk ts)=sRET):=fun e=>hq_sRET ((tx_hd hF sRET (⟨_,_,rfl,by decide⟩)).2 e)
 have HQ_sPUT:Hid (hd (tk ts)=sPUT):=(tx_hd hF sPUT (⟨_,_,rfl,by decide⟩)).1 hq_sPUT
 have HQx:=hide hq_sPUT
 clear hq_sIF hq_sWHILE hq_sRET hq_sPUT
 clear hBl
 clear h hT hGl hgl hF hlen
 go_enter Tryz.func125,Tryz.ntmps125
 replace HW:=HW.out.az
 go_wp2_with fail
 generalize w.alloc _=w1 at *
 go_at_call 91
 refine (text_any HW.out.ps).mono ?_
 rintro e w2 ⟨rfl,hww⟩
 replace hww:w1=w2:=hww.symm
 subst hww
 replace HW:=ħ (HW.out.alloc' w1.heap.size (by simp) #[.string ⟨#[112,117,116]⟩] 9)
 go_wp2_with fail
 generalize w1.alloc _=w3 at *
 go_at_call 141
 refine (inside1 HW.out (by decide) HQx.out (HF.out.suf HS.out) (Nat.le_trans HS.out.length_le HLn.out) (HE.out.suf HS.out)).mono ?_
 rintro e w4 ⟨hG4,r4,hsu,⟨n_x,vv,hlt,hR,rfl,hN,hP4⟩|⟨hR,rfl⟩⟩
 rotate_left
 ·exact ⟨rfl,grown_trans HW.out.grown hG4,_,(hsu.trans (List.tail_suffix _)).trans HS.out,Or.inr ⟨r_pu0 HQ_sPUT.out (by rw [← tk_tail];exact hR),rfl⟩⟩
 obtain ⟨k_x,t_x,v_x,a_x,l_x,c_x,rfl⟩:=hN.form
 have HR_x:=hide hR
 have HN_x:=ħ (hN.given HW.out)
 have HZ_x:Hid (w.heap.size≤w3.heap.size):=HW.out.grown.size
 have HL:Hid (r4.length<ts.length):=Nat.lt_of_lt_of_le hlt (Nat.le_trans (List.tail_suffix _).length_le HS.out.length_le)
 replace HW:=ħ (HW.out.call hG4 hP4)
 replace HS:=ħ ((hsu.trans (List.tail_suffix _)).trans HS.out)
 clear hP4 hG4 hR hN hsu hlt
 replace HW:=HW.out.an HN_x
 replace HN_x:=HW.out.nA HN_x
 go_wp2_with fail
 generalize w4.alloc _=w5 at *
 go_at_call 140
 refine (node_any 19 (some ⟨w4.heap.size,0,none⟩) 1 1 w5).mono ?_
 rintro e w6 ⟨rfl,hG6⟩
 replace HN_x:=(Mv.quiet hG6).N HN_x
 replace HW:=ħ (HW.out.quiet hG6)
 clear hG6
 have HM_a:=ħ (RowN.o0 HW.out (HN_x.out.less HZ_x.out))
 have HZ_a:=zz w
 clear HN_x HZ_x
 replace HW:=hide HW.out.d0
 have HN_z:=ħ (HM_a.out.node 19 [] 0)
 have HZ_z:=HZ_a
 clear HM_a HZ_a
 go_wp2_with fail
 go_at_call 142
 refine (ended_any HW.out.ps HW.out.glt _ _ _ _ _ _).mono ?_
 rintro e w7 ⟨hG7,⟨hq,rfl,hP7⟩|⟨hq,rfl⟩⟩
 rotate_left
 ·replace hq:¬ hd (tk r4)=sSEMI:=fun e=>hq ((tx_hd (HF.out.suf HS.out) sSEMI (⟨_,_,rfl,by decide⟩)).2 e)
  exact ⟨rfl,grown_trans HW.out.grown hG7,_,HS.out,Or.inr ⟨r_pu1 HQ_sPUT.out (by rw [← tk_tail];exact HR_x.out) hq,rfl⟩⟩
 have HQ3:Hid (hd (tk r4)=sSEMI):=(tx_hd (HF.out.suf HS.out) sSEMI (⟨_,_,rfl,by decide⟩)).1 hq
 have HL:Hid (r4.tail.length<ts.length):=Nat.lt_of_lt_of_le (tail_lt (by decide) hq) HS.out.length_le
 replace HN_z:=HW.out.kN HZ_z hG7 HN_z
 replace HW:=ħ (HW.out.call hG7 hP7)
 replace HS:=ħ ((List.tail_suffix _).trans HS.out)
 clear hP7 hG7 hq
 have hc8:=HW.out.c0
 have hc9:=HW.out.c1
 have hf10:=HW.out.f1
 replace HW:=ħ (HW.out.s1 (.int .i64 19) (.string ⟨#[]⟩) (.int .i64 0) ((.slice (some ⟨w4.heap.size,0,none⟩) 1 1)))
 replace HN_z:=HW.out.ms1.N HN_z
 go_wp2_with fail
 generalize (((w7.setCell _ _).setCell _ _).setCell _ _).setCell _ _=w13 at *
 refine bodyPost_ret (rt rfl rfl HW.out.b1) rfl ?_
 exact HW.out.post HS.out (by rw [tk_tail];exact r_pu2 HQ_sPUT.out (by rw [← tk_tail];exact HR_x.out) HQ3.out) HL.out HZ_z.out HN_z.out
end Go.Proofs.YthcfianhdkolhaaGreatDoor.Y
