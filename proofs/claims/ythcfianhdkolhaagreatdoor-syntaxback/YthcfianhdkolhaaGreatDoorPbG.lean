/- PbF PbG -/
import Derived.Test.YthcfianhdkolhaaGreatDoorPbC
import Derived.Test.YthcfianhdkolhaaGreatDoorPbE
import Derived.Test.YthcfianhdkolhaaGreatDoorShelf
namespace Go.Proofs.YthcfianhdkolhaaGreatDoor.Y
open Go.RowKit Go.Proofs.YthcfianhdkolhaaGreatDoor.X Go.Proofs.YthcfianhdkolhaaGreatDoor.T Go.Proofs.YthcfianhdkolhaaGreatDoor.S
set_option maxRecDepth 100000
set_option maxHeartbeats 2000000
set_option linter.unusedVariables false
set_option linter.unusedSimpArgs false
variable {w w' : World} {b g : Nat} {m : Value} {ts : List Tok} {t : Tok}
theorem inside1 {w0 w:World} {L:List Bk} {q:Nat} {x:ByteArray} (HW:Wd w0 w b g m ts ((q,#[.string x],9)::L)) (hx:x.size≠0) (hq:tx ts=x) (hF:Fits ts) (hlen:ts.length≤4000) (hLt:Later 143 .expr b g m ts):Calls Tryz.prog 141 #[.pointer (some ⟨b,0,none⟩),.slice (some ⟨q,0,none⟩) 1 1] w (PostN .round w b g m ts.tail):=by
 have hB:=HW.blk (q,#[.string x],9) List.mem_cons_self
 have hlt:=HW.lt (q,#[.string x],9) List.mem_cons_self
 have hbl:=HW.bl
 have hb1:w0.heap.size≤q:=hB.1
 have ht:=tail_lt hx hq
 refine inside_any HW.ps HW.glt HW.two [x] (by simpa using hx) (some ⟨q,0,none⟩) 1 q (fun _=>rfl) (by omega) hlt (fun j hj=>?_) (by simp) ts.tail (by simp [asks,hq]) (hF.suf (List.tail_suffix _)) (fun w1 hg hP hT hgl=>hLt _ ((List.tail_suffix _).trans (List.tail_suffix _)) (Nat.lt_of_le_of_lt (List.tail_suffix _).length_le ht) w1 hP hT (Gl_kept HW.glo HW.bg hg) hgl (hF.suf ((List.tail_suffix _).trans (List.tail_suffix _))) (Nat.le_trans ((List.tail_suffix _).trans (List.tail_suffix _)).length_le hlen))
 obtain rfl:j=0:=by simpa using hj
 exact cells_at hB.2 0
theorem inside0 {w0 w:World} {L:List Bk} (HW:Wd w0 w b g m ts L) (hq:tx ts=str sLP) (hF:Fits ts) (hlen:ts.length≤4000) (hLt:Later 143 .expr b g m ts):Calls Tryz.prog 141 #[.pointer (some ⟨b,0,none⟩),.slice none 0 0] w (PostN .round w b g m ts):=by
 have ht:=tail_lt (by decide) hq
 have hbl:=HW.bl
 have hgr:=HW.grown.size
 have hgl:=HW.gl
 have hpn:=HW.ps.ne
 exact inside_any HW.ps HW.glt HW.two [] (by simp) none 0 g (fun h=>absurd rfl h) hpn HW.glt (fun j hj=>by simp at hj) (by simp) ts (by simp [asks]) hF (fun w1 hg hP hT hgl=>hLt _ (List.tail_suffix _) ht w1 hP hT (Gl_kept HW.glo HW.bg hg) hgl (hF.suf (List.tail_suffix _)) (Nat.le_trans (List.tail_suffix _).length_le hlen))
theorem pass_tx {x:ByteArray} (h:Ps w b g m ts) (hx:x.size≠0) (hq:tx ts=x):Calls Tryz.prog 92 #[.pointer (some ⟨b,0,none⟩)] w fun e w'=>e=.returned (.tuple #[])∧Ps w' b g m ts.tail∧w.grownBy w' (some b):=by
 obtain ⟨t,r,rfl⟩:=tx_len ts x hx hq
 exact pass_any h
theorem r_un {x:Nd} {ts r:List Tk} {q:Res} (h1:¬ hd ts=sMINUS) (h2:¬ hd ts=sNOT) (a:R .first ts (.ok (.nd x) r)) (k:R (.postL x) r q):R .unary ts q:=by
 obtain ⟨n,e1,e2⟩:=both a k
 exact ⟨n+1,by simp [P,F,h1,h2,andN,e1,e2]⟩
theorem r_un0 {ts r:List Tk} (h1:¬ hd ts=sMINUS) (h2:¬ hd ts=sNOT) (a:R .first ts (.no r)):R .unary ts (.no r):=by
 obtain ⟨n,e1⟩:=a
 exact ⟨n+1,by simp [P,F,h1,h2,andN,e1]⟩
theorem unary_any (h:Ps w b g m ts) (hT:Two w b m) (hGl:T.Gl w) (hb5:4<b) (hgl:g<w.heap.size) (hF:Fits ts) (hlen:ts.length≤4000) (hFi:Meth 176 .first b g m ts) (hU:Later 173 .unary b g m ts) (hE:Later 143 .expr b g m ts):Calls Tryz.prog 173 #[.pointer (some ⟨b,0,none⟩)] w (PostN .unary w b g m ts):=by
 have HW:Hid (Wd w w b g m ts []):=Wd.start h hT hGl hb5 hgl
 have HS:Hid (ts <:+ ts):=List.suffix_refl _
 have HF:Hid (Fits ts):=hF
 have HLn:Hid (ts.length≤4000):=hlen
 have HFi:=hide hFi
 have HU:=hide hU
 have HE:=hide hE
 clear hFi hU hE
 clear h hT hGl hgl hF hlen
 go_enter Tryz.func173,Tryz.ntmps173
 replace HW:=hide (HW.out.alloc' w.heap.size (by simp) #[.int .i64 0,.string ⟨#[]⟩,.int .i64 0,.slice none 0 0] 24)
 go_wp2_with fail
 generalize w.alloc _=w1 at *
 by_cases hqsMINUS:tx ts=str sMINUS
 ·have HQ:Hid (hd (tk ts)=sMINUS):=(tx_hd (HF.out.suf HS.out) sMINUS (⟨_,_,rfl,by decide⟩)).1 hqsMINUS
  go_at_call 67
  refine (HW.out.tkY HS.out (x:=str sMINUS) (by decide) hqsMINUS).mono ?_
  rintro e w2 ⟨rfl,HL,HLs,hS,hW,hG⟩
  replace HW:=hW
  replace HS:=hS
  clear hG
  go_wp2_with fail
  go_at_call 173
  refine (HU.out ts.tail HS.out HL.out w2 HW.out.ps HW.out.two HW.out.glo HW.out.glt (HF.out.suf HS.out) (Nat.le_trans HS.out.length_le HLn.out)).mono ?_
  rintro e w3 hp
  obtain ⟨r3,n_x,k_x,t_x,v_x,a_x,l_x,c_x,rfl,HR_x,HN_x,HZ_x,HL,HSx,HLs2,hS,hW,hG⟩|⟨r,hR,rfl,h1,h2⟩:=HW.out.okN HS.out hp
  rotate_left
  ·exact ⟨rfl,h1,_,h2,Or.inr ⟨r_neg0 HQ.out (by rw [← tk_tail];exact hR),rfl⟩⟩
  replace HW:=hW
  replace HS:=hS
  clear hG hp
  replace HW:=hide (HW.out.alloc' w3.heap.size (by simp) #[.int .i64 k_x,.string t_x,.int .i64 v_x,.slice a_x l_x c_x] 24)
  replace HN_x:=hide ((HW.out.ma (by simp)).nd HN_x.out)
  go_wp2_with fail
  generalize w3.alloc _=w4 at *
  go_at_call 140
  refine (node_any 28 (some ⟨w3.heap.size,0,none⟩) 1 1 w4).mono ?_
  rintro e w5 ⟨rfl,hG5⟩
  replace HN_x:=hide ((Mv.quiet hG5).nd HN_x.out)
  replace HW:=hide (HW.out.quiet hG5)
  clear hG5
  have HM_a:=hide (RowN.o0 HW.out (HN_x.out.less HZ_x.out))
  have HZ_a:Hid (w.heap.size≤w.heap.size):=Nat.le_refl _
  clear HN_x HZ_x
  replace HW:=hide HW.out.d0
  have HN_z:=hide (HM_a.out.node 28 [] 0)
  have HZ_z:=HZ_a
  clear HM_a HZ_a
  have hc6:=HW.out.c0
  have hf7:=HW.out.f0
  replace HW:=hide (HW.out.s0 (.int .i64 28) (.string ⟨#[]⟩) (.int .i64 0) ((.slice (some ⟨w3.heap.size,0,none⟩) 1 1)))
  replace HN_z:=hide ((HW.out.ms0).nd HN_z.out)
  have hc8:=HW.out.c0
  have hl9:=HW.out.l0
  go_wp2_with fail
  generalize (((w5.setCell _ _).setCell _ _).setCell _ _).setCell _ _=w10 at *
  refine bodyPost_ret (v:=(.agg #[.int .i64 28,.string ⟨#[]⟩,.int .i64 0,(.slice (some ⟨w3.heap.size,0,none⟩) 1 1)])) (by simp [results,Tryz.results173,go_sem,hc8,hl9]) rfl ?_
  exact HW.out.post HS.out (r_neg HQ.out (by rw [← tk_tail];exact HR_x.out)) HL.out HZ_z.out HN_z.out
 ·have HQ1:Hid (¬ hd (tk ts)=sMINUS):=fun e=>hqsMINUS ((tx_hd (HF.out.suf HS.out) sMINUS (⟨_,_,rfl,by decide⟩)).2 e)
  go_at_call 67
  refine (HW.out.tkN (x:=str sMINUS) (by decide) hqsMINUS).mono ?_
  rintro e w11 ⟨rfl,hW,hG⟩
  replace HW:=hW
  clear hG
  go_wp2_with fail
  by_cases hqsNOT:tx ts=str sNOT
  ·have HQ:Hid (hd (tk ts)=sNOT):=(tx_hd (HF.out.suf HS.out) sNOT (⟨_,_,rfl,by decide⟩)).1 hqsNOT
   go_at_call 67
   refine (HW.out.tkY HS.out (x:=str sNOT) (by decide) hqsNOT).mono ?_
   rintro e w12 ⟨rfl,HL,HLs,hS,hW,hG⟩
   replace HW:=hW
   replace HS:=hS
   clear hG
   go_wp2_with fail
   go_at_call 173
   refine (HU.out ts.tail HS.out HL.out w12 HW.out.ps HW.out.two HW.out.glo HW.out.glt (HF.out.suf HS.out) (Nat.le_trans HS.out.length_le HLn.out)).mono ?_
   rintro e w13 hp
   obtain ⟨r13,n_x,k_x,t_x,v_x,a_x,l_x,c_x,rfl,HR_x,HN_x,HZ_x,HL,HSx,HLs2,hS,hW,hG⟩|⟨r,hR,rfl,h1,h2⟩:=HW.out.okN HS.out hp
   rotate_left
   ·exact ⟨rfl,h1,_,h2,Or.inr ⟨r_not0 HQ.out (by rw [← tk_tail];exact hR),rfl⟩⟩
   replace HW:=hW
   replace HS:=hS
   clear hG hp
   replace HW:=hide (HW.out.alloc' w13.heap.size (by simp) #[.int .i64 k_x,.string t_x,.int .i64 v_x,.slice a_x l_x c_x] 24)
   replace HN_x:=hide ((HW.out.ma (by simp)).nd HN_x.out)
   go_wp2_with fail
   generalize w13.alloc _=w14 at *
   go_at_call 140
   refine (node_any 29 (some ⟨w13.heap.size,0,none⟩) 1 1 w14).mono ?_
   rintro e w15 ⟨rfl,hG15⟩
   replace HN_x:=hide ((Mv.quiet hG15).nd HN_x.out)
   replace HW:=hide (HW.out.quiet hG15)
   clear hG15
   have HM_a:=hide (RowN.o0 HW.out (HN_x.out.less HZ_x.out))
   have HZ_a:Hid (w.heap.size≤w.heap.size):=Nat.le_refl _
   clear HN_x HZ_x
   replace HW:=hide HW.out.d0
   have HN_z:=hide (HM_a.out.node 29 [] 0)
   have HZ_z:=HZ_a
   clear HM_a HZ_a
   have hc16:=HW.out.c0
   have hf17:=HW.out.f0
   replace HW:=hide (HW.out.s0 (.int .i64 29) (.string ⟨#[]⟩) (.int .i64 0) ((.slice (some ⟨w13.heap.size,0,none⟩) 1 1)))
   replace HN_z:=hide ((HW.out.ms0).nd HN_z.out)
   have hc18:=HW.out.c0
   have hl19:=HW.out.l0
   go_wp2_with fail
   generalize (((w15.setCell _ _).setCell _ _).setCell _ _).setCell _ _=w20 at *
   refine bodyPost_ret (v:=(.agg #[.int .i64 29,.string ⟨#[]⟩,.int .i64 0,(.slice (some ⟨w13.heap.size,0,none⟩) 1 1)])) (by simp [results,Tryz.results173,go_sem,hc18,hl19]) rfl ?_
   exact HW.out.post HS.out (r_not HQ.out (by rw [← tk_tail];exact HR_x.out)) HL.out HZ_z.out HN_z.out
  ·have HQ2:Hid (¬ hd (tk ts)=sNOT):=fun e=>hqsNOT ((tx_hd (HF.out.suf HS.out) sNOT (⟨_,_,rfl,by decide⟩)).2 e)
   go_at_call 67
   refine (HW.out.tkN (x:=str sNOT) (by decide) hqsNOT).mono ?_
   rintro e w21 ⟨rfl,hW,hG⟩
   replace HW:=hW
   clear hG
   go_wp2_with fail
   go_at_call 176
   refine (HFi.out w21 HW.out.ps HW.out.two HW.out.glo HW.out.glt (HF.out.suf HS.out) (Nat.le_trans HS.out.length_le HLn.out)).mono ?_
   rintro e w22 hp
   obtain ⟨r22,n_x,k_x,t_x,v_x,a_x,l_x,c_x,rfl,HR_x,HN_x,HZ_x,HL,HSx,HLs2,hS,hW,hG⟩|⟨r,hR,rfl,h1,h2⟩:=HW.out.okN HS.out hp
   rotate_left
   ·exact ⟨rfl,h1,_,h2,Or.inr ⟨r_un0 HQ1.out HQ2.out hR,rfl⟩⟩
   replace HW:=hW
   replace HS:=hS
   clear hG hp
   go_wp2_with fail
   go_at_call 156
   refine (behind_any HW.out (HF.out.suf HS.out) (Nat.le_trans HS.out.length_le HLn.out) n_x _ _ _ _ _ _ (HN_x.out.less HZ_x.out) (HE.out.suf HS.out)).mono ?_
   rintro e w23 ⟨hG23,r23,hsu,⟨n_y,vv,hR,rfl,hN,hW23⟩|⟨hR,rfl⟩⟩
   rotate_left
   ·exact ⟨rfl,hG23,_,hsu.trans HS.out,Or.inr ⟨r_un HQ1.out HQ2.out HR_x.out hR,rfl⟩⟩
   obtain ⟨k_y,t_y,v_y,a_y,l_y,c_y,rfl⟩:=hN.form
   have HR_y:=hide hR
   have HN_y:=hide hN
   have HZ_y:Hid (w.heap.size≤w.heap.size):=Nat.le_refl _
   clear HN_x HZ_x
   replace HL:=hide (Nat.lt_of_le_of_lt hsu.length_le HL.out)
   replace HS:=hide (hsu.trans HS.out)
   replace HW:=hide (hW23)
   clear hR hN hsu hW23 hG23
   have hc24:=HW.out.c0
   have hf25:=HW.out.f0
   replace HW:=hide (HW.out.s0 (.int .i64 k_y) (.string t_y) (.int .i64 v_y) (.slice a_y l_y c_y))
   replace HN_y:=hide ((HW.out.ms0).nd HN_y.out)
   have hc26:=HW.out.c0
   have hl27:=HW.out.l0
   go_wp2_with fail
   generalize (((w23.setCell _ _).setCell _ _).setCell _ _).setCell _ _=w28 at *
   refine bodyPost_ret (v:=(.agg #[.int .i64 k_y,.string t_y,.int .i64 v_y,.slice a_y l_y c_y])) (by simp [results,Tryz.results173,go_sem,hc26,hl27]) rfl ?_
   exact HW.out.post HS.out (r_un HQ1.out HQ2.out HR_x.out HR_y.out) HL.out HZ_y.out HN_y.out
end Go.Proofs.YthcfianhdkolhaaGreatDoor.Y
namespace Go.Proofs.YthcfianhdkolhaaGreatDoor.Y
open Go.RowKit Go.Proofs.YthcfianhdkolhaaGreatDoor.X Go.Proofs.YthcfianhdkolhaaGreatDoor.T Go.Proofs.YthcfianhdkolhaaGreatDoor.S
set_option maxRecDepth 100000
set_option maxHeartbeats 2000000
set_option linter.unusedVariables false
set_option linter.unusedSimpArgs false
variable {w w' : World} {b g : Nat} {m : Value} {ts : List Tok} {t : Tok}
theorem r_fi_lp {ts:List Tk} {q:Res} (h:hd ts=sLP) (a:R .round ts q):R .first ts q:=by
 obtain ⟨n,e⟩:=a
 exact ⟨n+1,by simp [P,F,h,e]⟩
theorem r_fi_int {x:Nd} {ts r:List Tk} (h:hd ts=sINT) (a:R .round ts.tail (.ok (.nd x) r)):R .first ts (.ok (.nd (.mk 30 [] 0 [x])) r):=by
 obtain ⟨n,e⟩:=a
 exact ⟨n+1,by simp [P,F,h,andN,e,okN]⟩
theorem r_fi_int0 {ts r:List Tk} (h:hd ts=sINT) (a:R .round ts.tail (.no r)):R .first ts (.no r):=by
 obtain ⟨n,e⟩:=a
 exact ⟨n+1,by simp [P,F,h,andN,e]⟩
theorem r_fi_long {x:Nd} {ts r:List Tk} (h:hd ts=sLONG) (a:R .round ts.tail (.ok (.nd x) r)):R .first ts (.ok (.nd (.mk 31 [] 0 [x])) r):=by
 obtain ⟨n,e⟩:=a
 exact ⟨n+1,by simp [P,F,h,andN,e,okN]⟩
theorem r_fi_long0 {ts r:List Tk} (h:hd ts=sLONG) (a:R .round ts.tail (.no r)):R .first ts (.no r):=by
 obtain ⟨n,e⟩:=a
 exact ⟨n+1,by simp [P,F,h,andN,e]⟩
theorem r_fi_extra {x:Nd} {ts r:List Tk} (h:hd ts=sEXTRA) (a:R .round ts.tail (.ok (.nd x) r)):R .first ts (.ok (.nd (.mk 34 [] 0 [x])) r):=by
 obtain ⟨n,e⟩:=a
 exact ⟨n+1,by simp [P,F,h,andN,e,okN]⟩
theorem r_fi_extra0 {ts r:List Tk} (h:hd ts=sEXTRA) (a:R .round ts.tail (.no r)):R .first ts (.no r):=by
 obtain ⟨n,e⟩:=a
 exact ⟨n+1,by simp [P,F,h,andN,e]⟩
theorem r_fi_amp {ts:List Tk} (h:hd ts=sAMP) (h2:nameB (hd ts.tail)=true):R .first ts (.ok (.nd (.mk 26 (hd ts.tail) 0 [])) ts.tail.tail):=⟨1,by simp [P,F,h,S.name,h2,okN]⟩
theorem r_fi_amp0 {ts:List Tk} (h:hd ts=sAMP) (h2:nameB (hd ts.tail)=false):R .first ts (.no ts.tail):=⟨1,by simp [P,F,h,S.name,h2]⟩
theorem r_fi_count {ts:List Tk} (h:hd ts=sCOUNT):R .first ts (.ok (.nd (.mk 33 [] 0 [])) ts.tail):=⟨1,by simp [P,F,h,okN]⟩
theorem r_fi_num {ts:List Tk} {q:Res} (n1:¬ hd ts=sLP) (n2:¬ hd ts=sAMP) (n3:¬ hd ts=sCOUNT) (n4:¬ hd ts=sINT) (n5:¬ hd ts=sLONG) (n6:¬ hd ts=sEXTRA) (h:nameB (hd ts)=false) (e:number ts=some q):R .first ts q:=⟨1,by simp [P,F,n1,n2,n3,n4,n5,n6,h,e]⟩
theorem r_fi_name {ts:List Tk} (n1:¬ hd ts=sLP) (n2:¬ hd ts=sAMP) (n3:¬ hd ts=sCOUNT) (n4:¬ hd ts=sINT) (n5:¬ hd ts=sLONG) (n6:¬ hd ts=sEXTRA) (h:nameB (hd ts)=true) (h2:¬ hd ts.tail=sLB):R .first ts (.ok (.nd (.mk 23 (hd ts) 0 [])) ts.tail):=⟨1,by simp [P,F,n1,n2,n3,n4,n5,n6,h,h2,okN]⟩
def KMk (ts:List Tk) (o:Option (List Nd)) (r:List Tk):Prop:=R .first ts (match o with|some l=>.ok (.nd (.mk 27 (hd ts) 0 l)) r|none=>.no r)
def JMk (ts:List Tk) (acc:List Nd) (t:List Tk):Prop:=∀ q,R (.makeL (hd ts) acc) t q→R .first ts q
theorem loop_mk {ts:List Tk} (n1:¬ hd ts=sLP) (n2:¬ hd ts=sAMP) (n3:¬ hd ts=sCOUNT) (n4:¬ hd ts=sINT) (n5:¬ hd ts=sLONG) (n6:¬ hd ts=sEXTRA) (h:nameB (hd ts)=true) (h2:hd ts.tail=sLB):Loop sRB (JMk ts) (KMk ts) ts.tail.tail where
 z h1:=⟨1,by simp [P,F,n1,n2,n3,n4,n5,n6,h,h2,h1,okN]⟩
 j0 h1:=fun q k=>by
  obtain ⟨n,e⟩:=k
  exact ⟨n+1,by simp [P,F,n1,n2,n3,n4,n5,n6,h,h2,h1,e]⟩
 no acc t r j k:=j _ (by
  obtain ⟨n,e⟩:=k
  exact ⟨n+1,by simp [P,F,andN,e]⟩)
 comma acc t x r j k h1:=fun q k2=>j _ (by
  obtain ⟨n,e1,e2⟩:=both k k2
  exact ⟨n+1,by simp [P,F,andN,e1,h1,e2]⟩)
 done acc t x r j k h1 h2:=j _ (by
  obtain ⟨n,e1⟩:=k
  exact ⟨n+1,by simp [P,F,andN,e1,must,h2,okN]⟩)
 bad acc t x r j k h1 h2:=j _ (by
  obtain ⟨n,e1⟩:=k
  exact ⟨n+1,by simp [P,F,andN,e1,h1,must,h2]⟩)
theorem cmp_str (x:ByteArray) (s:List UInt8):(x.toList == s)=decide (x=str s):=by
 have h:=str_neq x (str s)
 have e:(str s).toList=s:=by rw [ByteArray.toList_eq];simp [str]
 rwa [e] at h
theorem tx_short (h:Fits ts):(tx ts).size≤4000:=by
 cases ts with
 | nil=>show (0:Nat)≤4000;omega
 | cons t r=>exact (h t List.mem_cons_self).short
theorem number_lt {ts:List Tok} {v:V} {r:List Tk} (h:number (tk ts)=some (.ok v r)):ts.tail.length<ts.length:=by
 cases ts with
 | nil=>cases h
 | cons t r=>simp
theorem first_int (h:Ps w b g m ts) (hT:Two w b m) (hGl:T.Gl w) (hb5:4<b) (hgl:g<w.heap.size) (hF:Fits ts) (hlen:ts.length≤4000) (hq:tx ts=str sINT) (hE:Later 143 .expr b g m ts):Calls Tryz.prog 176 #[.pointer (some ⟨b,0,none⟩)] w (PostN .first w b g m ts):=by
 have HW:Hid (Wd w w b g m ts []):=Wd.start h hT hGl hb5 hgl
 have HS:Hid (ts <:+ ts):=List.suffix_refl _
 have HF:Hid (Fits ts):=hF
 have HLn:Hid (ts.length≤4000):=hlen
 have HE:=hide hE
 have HSz:Hid ((tx ts).size≤4000):=tx_short hF
 have H2:Hid (twoOf (tx ts)=(9,30,true)):=by rw [hq];rfl
 have HQ:Hid (hd (tk ts)=sINT):=(tx_hd hF sINT (⟨_,_,rfl,by decide⟩)).1 hq
 have HQx:=hide hq
 clear hq
 clear hE
 clear h hT hGl hgl hF hlen
 go_enter Tryz.func176,Tryz.ntmps176
 replace HW:=hide (HW.out.alloc' w.heap.size (by simp) #[.int .i64 0,.string ⟨#[]⟩,.int .i64 0,.slice none 0 0] 24)
 go_wp2_with fail
 generalize w.alloc _=w1 at *
 replace HW:=hide (HW.out.quiet (grown_drew w1))
 refine wp_region_held_drew (S:=(fun w'=>w'.cell? ⟨b,1,none⟩=some m∧Two w' b m)) (by kernel_rfl) (⟨HW.out.ps.cell1,HW.out.two⟩) (fun hHd=>?_)
 generalize w1.drew=w2 at *
 refine tq 0 ?_
 simp only [qq]
 refine tq 1 ?_
 simp only [qq]
 refine tq 2 ?_
 simp only [qq]
 refine tq 3 ?_ (hy:=by (intro w hSw;obtain ⟨hs1,hs2⟩:=hSw;go_simp)<;>with_reducible rfl)
 simp only [qq]
 refine tq 4 ?_
 simp only [qq]
 refine rq2 5 10 (fun K hK=>?_) fun K hK=>?_
 ·go_simp
  refine (text_any HW.out.ps).mono ?_
  rintro e w3 ⟨rfl,hww⟩
  replace hww:w2=w3:=hww.symm
  subst hww
  refine hK.out _ _ (⟨HW.out.ps.cell1,HW.out.two⟩) (fun hHd=>?_)
  clear hK K
  try simp only [qq]
  refine tq 6 ?_ (hy:=by (intro w hSw;have hlk:=hSw.2.look (tx ts) HSz.out;rw [H2.out] at hlk;clear hSw;go_simp)<;>with_reducible rfl)
  simp only [qq]
  refine tq 7 ?_
  simp only [qq]
  refine tq 8 ?_
  simp only [qq]
  refine tq 9 ?_
  simp only [qq]
  refine rq 10 fun K hK=>?_
  replace HW:=hide (HW.out.alloc' w2.heap.size (by simp) #[.int .i64 0,.int .i64 0] 52)
  go_simp
  refine hK.out _ _ (⟨HW.out.ps.cell1,HW.out.two⟩) (fun hHd=>?_)
  clear hK K
  try simp only [qq]
  generalize w2.alloc _=w4 at *
  refine rq 11 fun K hK=>?_
  have hc5:=HW.out.c0
  have hf6:=HW.out.f0
  replace HW:=hide (HW.out.r00 (.int .i64 9))
  replace HW:=hide (HW.out.r01 (.int .i64 30))
  go_simp
  refine hK.out _ _ (⟨HW.out.ps.cell1,HW.out.two⟩) (fun hHd=>?_)
  clear hK K
  try simp only [qq]
  generalize (w4.setCell _ _).setCell _ _=w7 at *
  clear hc5 hf6
  refine tq 12 ?_
  simp only [qq]
  refine wpAnyH_done (by kernel_rfl) ?_ _
  go_wp2_with fail
  replace HW:=hide (HW.out.quiet (grown_drew w7))
  refine wp_region_held_drew (S:=(fun w'=>∀ oo,w'.cell? ⟨w2.heap.size,oo,none⟩=(#[Value.int .i64 9,.int .i64 30])[oo]?)) (by kernel_rfl) (cells_at (HW.out.blk (w2.heap.size,#[.int .i64 9,.int .i64 30],52) (List.mem_cons_self)).2) (fun hHd=>?_)
  generalize w7.drew=w8 at *
  refine tq 0 ?_
  simp only [qq]
  refine tq 1 ?_
  simp only [qq]
  refine tq 2 ?_
  simp only [qq]
  refine tq 3 ?_
  simp only [qq]
  refine rq 4 fun K hK=>?_
  go_simp
  refine (text_any HW.out.ps).mono ?_
  rintro e w9 ⟨rfl,hww⟩
  replace hww:w8=w9:=hww.symm
  subst hww
  refine hK.out _ _ (cells_at (HW.out.blk (w2.heap.size,#[.int .i64 9,.int .i64 30],52) (List.mem_cons_self)).2) (fun hHd=>?_)
  clear hK K
  try simp only [qq]
  refine rq 5 fun K hK=>?_
  replace HW:=hide (HW.out.alloc' w8.heap.size (by simp) #[.string (tx ts)] 9)
  go_simp
  refine hK.out _ _ (cells_at (HW.out.blk (w2.heap.size,#[.int .i64 9,.int .i64 30],52) ((List.mem_cons_of_mem _ List.mem_cons_self))).2) (fun hHd=>?_)
  clear hK K
  try simp only [qq]
  generalize w8.alloc _=w10 at *
  refine rq 6 fun K hK=>?_
  have hxz:(tx ts).size≠0:=by rw [HQx.out];decide
  go_simp
  refine (inside1 HW.out hxz rfl (HF.out.suf HS.out) (Nat.le_trans HS.out.length_le HLn.out) (HE.out.suf HS.out)).mono ?_
  rintro e w11 ⟨hG11,r11,hsu,⟨n_x,vv,hlt,hR,rfl,hN,hP11⟩|⟨hR,rfl⟩⟩
  rotate_left
  ·exact ⟨rfl,grown_trans HW.out.grown hG11,_,(hsu.trans (List.tail_suffix _)).trans HS.out,Or.inr ⟨r_fi_int0 HQ.out (by rw [← tk_tail];exact hR),rfl⟩⟩
  obtain ⟨k_x,t_x,v_x,a_x,l_x,c_x,rfl⟩:=hN.form
  have HR_x:=hide hR
  have HN_x:=hide (hN.given HW.out)
  have HZ_x:Hid (w.heap.size≤w10.heap.size):=HW.out.grown.size
  have HL:Hid (r11.length<ts.length):=Nat.lt_of_lt_of_le hlt (Nat.le_trans (List.tail_suffix _).length_le HS.out.length_le)
  replace HW:=hide (HW.out.call hG11 hP11)
  replace HS:=hide ((hsu.trans (List.tail_suffix _)).trans HS.out)
  clear hP11 hG11 hR hN hsu hlt
  refine hK.out _ _ (cells_at (HW.out.blk (w2.heap.size,#[.int .i64 9,.int .i64 30],52) ((List.mem_cons_of_mem _ List.mem_cons_self))).2) (fun hHd=>?_)
  clear hK K
  try simp only [qq]
  refine rq 7 fun K hK=>?_
  replace HW:=hide (HW.out.alloc' w11.heap.size (by simp) #[.int .i64 k_x,.string t_x,.int .i64 v_x,.slice a_x l_x c_x] 24)
  replace HN_x:=hide ((HW.out.ma (by simp)).nd HN_x.out)
  go_simp
  refine hK.out _ _ (cells_at (HW.out.blk (w2.heap.size,#[.int .i64 9,.int .i64 30],52) ((List.mem_cons_of_mem _ (List.mem_cons_of_mem _ List.mem_cons_self)))).2) (fun hHd=>?_)
  clear hK K
  try simp only [qq]
  generalize w11.alloc _=w12 at *
  refine rq 8 fun K hK=>?_
  go_simp
  refine (node_any 30 (some ⟨w11.heap.size,0,none⟩) 1 1 w12).mono ?_
  rintro e w13 ⟨rfl,hG13⟩
  replace HN_x:=hide ((Mv.quiet hG13).nd HN_x.out)
  replace HW:=hide (HW.out.quiet hG13)
  clear hG13
  refine hK.out _ _ (cells_at (HW.out.blk (w2.heap.size,#[.int .i64 9,.int .i64 30],52) ((List.mem_cons_of_mem _ (List.mem_cons_of_mem _ List.mem_cons_self)))).2) (fun hHd=>?_)
  clear hK K
  try simp only [qq]
  refine rq 9 fun K hK=>?_
  have HM_a:=hide (RowN.o0 HW.out (HN_x.out.less HZ_x.out))
  have HZ_a:Hid (w.heap.size≤w.heap.size):=Nat.le_refl _
  clear HN_x HZ_x
  replace HW:=hide HW.out.d0
  have HN_z:=hide (HM_a.out.node 30 [] 0)
  have HZ_z:=HZ_a
  clear HM_a HZ_a
  have hc14:=HW.out.c2
  have hf15:=HW.out.f2
  replace HW:=hide (HW.out.s2 (.int .i64 30) (.string ⟨#[]⟩) (.int .i64 0) ((.slice (some ⟨w11.heap.size,0,none⟩) 1 1)))
  replace HN_z:=hide ((HW.out.ms2).nd HN_z.out)
  go_simp
  refine hK.out _ _ (cells_at (HW.out.blk (w2.heap.size,#[.int .i64 9,.int .i64 30],52) ((List.mem_cons_of_mem _ List.mem_cons_self))).2) (fun hHd=>?_)
  clear hK K
  try simp only [qq]
  generalize (((w13.setCell _ _).setCell _ _).setCell _ _).setCell _ _=w16 at *
  clear hc14 hf15
  refine wpAnyH_done (by kernel_rfl) ?_ _
  have hc17:=HW.out.c0
  have hc18:=HW.out.c1
  have hc19:=HW.out.c2
  have hl20:=HW.out.l2
  go_wp2_with fail
  refine bodyPost_ret (v:=(.agg #[.int .i64 30,.string ⟨#[]⟩,.int .i64 0,(.slice (some ⟨w11.heap.size,0,none⟩) 1 1)])) (by simp [results,Tryz.results176,go_sem,hc17,hc18,hc19,hl20]) rfl ?_
  exact HW.out.post HS.out (r_fi_int HQ.out (by rw [← tk_tail];exact HR_x.out)) HL.out HZ_z.out HN_z.out
 ·replace HW:=hide (HW.out.alloc' w2.heap.size (by simp) #[.int .i64 0,.int .i64 0] 52)
  go_simp
  refine hK.out _ _ (⟨HW.out.ps.cell1,HW.out.two⟩) (fun hHd=>?_)
  clear hK K
  try simp only [qq]
  generalize w2.alloc _=w21 at *
  refine rq 5 fun K hK=>?_
  go_simp
  refine (text_any HW.out.ps).mono ?_
  rintro e w22 ⟨rfl,hww⟩
  replace hww:w21=w22:=hww.symm
  subst hww
  refine hK.out _ _ (⟨HW.out.ps.cell1,HW.out.two⟩) (fun hHd=>?_)
  clear hK K
  try simp only [qq]
  refine tq 6 ?_ (hy:=by (intro w hSw;have hlk:=hSw.2.look (tx ts) HSz.out;rw [H2.out] at hlk;clear hSw;go_simp)<;>with_reducible rfl)
  simp only [qq]
  refine tq 7 ?_
  simp only [qq]
  refine tq 8 ?_
  simp only [qq]
  refine tq 9 ?_
  simp only [qq]
  refine rq 11 fun K hK=>?_
  have hc23:=HW.out.c0
  have hf24:=HW.out.f0
  replace HW:=hide (HW.out.r00 (.int .i64 9))
  replace HW:=hide (HW.out.r01 (.int .i64 30))
  go_simp
  refine hK.out _ _ (⟨HW.out.ps.cell1,HW.out.two⟩) (fun hHd=>?_)
  clear hK K
  try simp only [qq]
  generalize (w21.setCell _ _).setCell _ _=w25 at *
  clear hc23 hf24
  refine tq 12 ?_
  simp only [qq]
  refine wpAnyH_done (by kernel_rfl) ?_ _
  go_wp2_with fail
  replace HW:=hide (HW.out.quiet (grown_drew w25))
  refine wp_region_held_drew (S:=(fun w'=>∀ oo,w'.cell? ⟨w2.heap.size,oo,none⟩=(#[Value.int .i64 9,.int .i64 30])[oo]?)) (by kernel_rfl) (cells_at (HW.out.blk (w2.heap.size,#[.int .i64 9,.int .i64 30],52) (List.mem_cons_self)).2) (fun hHd=>?_)
  generalize w25.drew=w26 at *
  refine tq 0 ?_
  simp only [qq]
  refine tq 1 ?_
  simp only [qq]
  refine tq 2 ?_
  simp only [qq]
  refine tq 3 ?_
  simp only [qq]
  refine rq 4 fun K hK=>?_
  go_simp
  refine (text_any HW.out.ps).mono ?_
  rintro e w27 ⟨rfl,hww⟩
  replace hww:w26=w27:=hww.symm
  subst hww
  refine hK.out _ _ (cells_at (HW.out.blk (w2.heap.size,#[.int .i64 9,.int .i64 30],52) (List.mem_cons_self)).2) (fun hHd=>?_)
  clear hK K
  try simp only [qq]
  refine rq 5 fun K hK=>?_
  replace HW:=hide (HW.out.alloc' w26.heap.size (by simp) #[.string (tx ts)] 9)
  go_simp
  refine hK.out _ _ (cells_at (HW.out.blk (w2.heap.size,#[.int .i64 9,.int .i64 30],52) ((List.mem_cons_of_mem _ List.mem_cons_self))).2) (fun hHd=>?_)
  clear hK K
  try simp only [qq]
  generalize w26.alloc _=w28 at *
  refine rq 6 fun K hK=>?_
  have hxz:(tx ts).size≠0:=by rw [HQx.out];decide
  go_simp
  refine (inside1 HW.out hxz rfl (HF.out.suf HS.out) (Nat.le_trans HS.out.length_le HLn.out) (HE.out.suf HS.out)).mono ?_
  rintro e w29 ⟨hG29,r29,hsu,⟨n_x,vv,hlt,hR,rfl,hN,hP29⟩|⟨hR,rfl⟩⟩
  rotate_left
  ·exact ⟨rfl,grown_trans HW.out.grown hG29,_,(hsu.trans (List.tail_suffix _)).trans HS.out,Or.inr ⟨r_fi_int0 HQ.out (by rw [← tk_tail];exact hR),rfl⟩⟩
  obtain ⟨k_x,t_x,v_x,a_x,l_x,c_x,rfl⟩:=hN.form
  have HR_x:=hide hR
  have HN_x:=hide (hN.given HW.out)
  have HZ_x:Hid (w.heap.size≤w28.heap.size):=HW.out.grown.size
  have HL:Hid (r29.length<ts.length):=Nat.lt_of_lt_of_le hlt (Nat.le_trans (List.tail_suffix _).length_le HS.out.length_le)
  replace HW:=hide (HW.out.call hG29 hP29)
  replace HS:=hide ((hsu.trans (List.tail_suffix _)).trans HS.out)
  clear hP29 hG29 hR hN hsu hlt
  refine hK.out _ _ (cells_at (HW.out.blk (w2.heap.size,#[.int .i64 9,.int .i64 30],52) ((List.mem_cons_of_mem _ List.mem_cons_self))).2) (fun hHd=>?_)
  clear hK K
  try simp only [qq]
  refine rq 7 fun K hK=>?_
  replace HW:=hide (HW.out.alloc' w29.heap.size (by simp) #[.int .i64 k_x,.string t_x,.int .i64 v_x,.slice a_x l_x c_x] 24)
  replace HN_x:=hide ((HW.out.ma (by simp)).nd HN_x.out)
  go_simp
  refine hK.out _ _ (cells_at (HW.out.blk (w2.heap.size,#[.int .i64 9,.int .i64 30],52) ((List.mem_cons_of_mem _ (List.mem_cons_of_mem _ List.mem_cons_self)))).2) (fun hHd=>?_)
  clear hK K
  try simp only [qq]
  generalize w29.alloc _=w30 at *
  refine rq 8 fun K hK=>?_
  go_simp
  refine (node_any 30 (some ⟨w29.heap.size,0,none⟩) 1 1 w30).mono ?_
  rintro e w31 ⟨rfl,hG31⟩
  replace HN_x:=hide ((Mv.quiet hG31).nd HN_x.out)
  replace HW:=hide (HW.out.quiet hG31)
  clear hG31
  refine hK.out _ _ (cells_at (HW.out.blk (w2.heap.size,#[.int .i64 9,.int .i64 30],52) ((List.mem_cons_of_mem _ (List.mem_cons_of_mem _ List.mem_cons_self)))).2) (fun hHd=>?_)
  clear hK K
  try simp only [qq]
  refine rq 9 fun K hK=>?_
  have HM_a:=hide (RowN.o0 HW.out (HN_x.out.less HZ_x.out))
  have HZ_a:Hid (w.heap.size≤w.heap.size):=Nat.le_refl _
  clear HN_x HZ_x
  replace HW:=hide HW.out.d0
  have HN_z:=hide (HM_a.out.node 30 [] 0)
  have HZ_z:=HZ_a
  clear HM_a HZ_a
  have hc32:=HW.out.c2
  have hf33:=HW.out.f2
  replace HW:=hide (HW.out.s2 (.int .i64 30) (.string ⟨#[]⟩) (.int .i64 0) ((.slice (some ⟨w29.heap.size,0,none⟩) 1 1)))
  replace HN_z:=hide ((HW.out.ms2).nd HN_z.out)
  go_simp
  refine hK.out _ _ (cells_at (HW.out.blk (w2.heap.size,#[.int .i64 9,.int .i64 30],52) ((List.mem_cons_of_mem _ List.mem_cons_self))).2) (fun hHd=>?_)
  clear hK K
  try simp only [qq]
  generalize (((w31.setCell _ _).setCell _ _).setCell _ _).setCell _ _=w34 at *
  clear hc32 hf33
  refine wpAnyH_done (by kernel_rfl) ?_ _
  have hc35:=HW.out.c0
  have hc36:=HW.out.c1
  have hc37:=HW.out.c2
  have hl38:=HW.out.l2
  go_wp2_with fail
  refine bodyPost_ret (v:=(.agg #[.int .i64 30,.string ⟨#[]⟩,.int .i64 0,(.slice (some ⟨w29.heap.size,0,none⟩) 1 1)])) (by simp [results,Tryz.results176,go_sem,hc35,hc36,hc37,hl38]) rfl ?_
  exact HW.out.post HS.out (r_fi_int HQ.out (by rw [← tk_tail];exact HR_x.out)) HL.out HZ_z.out HN_z.out
end Go.Proofs.YthcfianhdkolhaaGreatDoor.Y
