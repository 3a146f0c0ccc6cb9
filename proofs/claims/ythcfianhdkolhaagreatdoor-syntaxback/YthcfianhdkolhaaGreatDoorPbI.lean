/- PbI -/
import Derived.Test.YthcfianhdkolhaaGreatDoorPbH
namespace Go.Proofs.YthcfianhdkolhaaGreatDoor.Y
open Go.RowKit Go.Proofs.YthcfianhdkolhaaGreatDoor.X Go.Proofs.YthcfianhdkolhaaGreatDoor.T Go.Proofs.YthcfianhdkolhaaGreatDoor.S
set_option maxRecDepth 100000
set_option maxHeartbeats 2000000
set_option linter.unusedVariables false
set_option linter.unusedSimpArgs false
variable {w w' : World} {b g : Nat} {m : Value} {ts : List Tok} {t : Tok}
def PostQ (q:G) (w:World) (b g:Nat) (m:Value) (ts:List Tok) (e:Ending) (w':World):Prop:=w.grownBy w' (some b)∧∃ r,r <:+ ts ∧
 ((∃ l d v,r.length<ts.length∧l.length+r.length≤ts.length∧R q (tk ts) (.ok (.row l d) (tk r))∧e=.returned (.tuple #[v,.int .i64 (b2n d)])∧RowN w' (fun k=>w.heap.size≤k) v l∧Ps w' b g m r)∨(R q (tk ts) (.no (tk r))∧e=up r))
theorem r_ro0 {k:Nat} {ts:List Tk} (h:¬ hd ts=sLP):R (.rows k) ts (.no ts):=⟨1,by simp [P,F,must,h]⟩
theorem r_ro1 {k:Nat} {ts:List Tk} (h:hd ts=sLP) (h1:hd ts.tail=sRP):R (.rows k) ts (.ok (.row [] false) ts.tail.tail):=⟨1,by simp [P,F,must,h,h1]⟩
theorem r_ro2 {k:Nat} {ts:List Tk} {q:Res} (h:hd ts=sLP) (h1:¬ hd ts.tail=sRP) (a:R (.rowsL k []) ts.tail q):R (.rows k) ts q:=by
 obtain ⟨n,e⟩:=a
 exact ⟨n+1,by simp [P,F,must,h,h1,e]⟩
theorem r_rL1 {k:Nat} (hk:k<2) {acc:List Nd} {ts:List Tk} (h:hd ts=sDOTS) (h1:¬ hd ts.tail=sRP):R (.rowsL k acc) ts (.no ts.tail):=⟨1,by simp [P,F,must,h,h1,hk]⟩
theorem r_rL2 {k:Nat} (hk:k<2) {acc:List Nd} {ts:List Tk} (h:hd ts=sDOTS) (h1:hd ts.tail=sRP):R (.rowsL k acc) ts (.ok (.row acc true) ts.tail.tail):=⟨1,by simp [P,F,must,h,h1,hk]⟩
theorem r_rL3 {k:Nat} {acc:List Nd} {ts r:List Tk} (h:¬ hd ts=sDOTS) (a:R (.item k) ts (.no r)):R (.rowsL k acc) ts (.no r):=by
 obtain ⟨n,e⟩:=a
 exact ⟨n+1,by simp [P,F,h,andN,e]⟩
theorem r_rL4 {k:Nat} {acc:List Nd} {ts r:List Tk} {x:Nd} {q:Res} (h:¬ hd ts=sDOTS) (a:R (.item k) ts (.ok (.nd x) r)) (h1:hd r=sCOMMA) (a2:R (.rowsL k (acc++[x])) r.tail q):R (.rowsL k acc) ts q:=by
 obtain ⟨n,e1,e2⟩:=both a a2
 exact ⟨n+1,by simp [P,F,h,andN,e1,h1,e2]⟩
theorem r_rL5 {k:Nat} {acc:List Nd} {ts r:List Tk} {x:Nd} (h:¬ hd ts=sDOTS) (a:R (.item k) ts (.ok (.nd x) r)) (h1:¬ hd r=sCOMMA) (h2:hd r=sRP):R (.rowsL k acc) ts (.ok (.row (acc++[x]) false) r.tail):=by
 obtain ⟨n,e1⟩:=a
 exact ⟨n+1,by simp [P,F,h,andN,e1,must,h2]⟩
theorem r_rL6 {k:Nat} {acc:List Nd} {ts r:List Tk} {x:Nd} (h:¬ hd ts=sDOTS) (a:R (.item k) ts (.ok (.nd x) r)) (h1:¬ hd r=sCOMMA) (h2:¬ hd r=sRP):R (.rowsL k acc) ts (.no r):=by
 obtain ⟨n,e1⟩:=a
 exact ⟨n+1,by simp [P,F,h,andN,e1,must,h1,h2]⟩
theorem open_typ (h:Ps w b g m ts) (hT:Two w b m) (hGl:T.Gl w) (hb5:4<b) (hgl:g<w.heap.size) (hF:Fits ts) (hlen:ts.length≤4000) (hI:Later 121 (.item 0) b g m ts):Calls Tryz.prog 122 #[.pointer (some ⟨b,0,none⟩),.func (.func 121) #[.pointer (some ⟨b,0,none⟩)] #[]] w (PostQ (.rows 0) w b g m ts):=by
 have HW:Hid (Wd w w b g m ts []):=Wd.start h hT hGl hb5 hgl
 have HS:Hid (ts <:+ ts):=List.suffix_refl _
 have HF:Hid (Fits ts):=hF
 have HLn:Hid (ts.length≤4000):=hlen
 have HI:=hide hI
 clear hI
 clear h hT hGl hgl hF hlen
 go_enter Tryz.func122,Tryz.ntmps122
 have HA:=hide (HW.out.ask1 HS.out HF.out (s:=sLP) (⟨_,_,rfl,by decide⟩) (by decide) (q:=w.heap.size) (by simp))
 go_wp2_with fail
 go_at_call 94
 refine HA.out.mono ?_
 clear HA
 rintro e w1 (⟨HQ,rfl,HL,hS,hW,hG⟩|⟨hq,rfl,h1⟩)
 rotate_left
 ·exact ⟨rfl,h1,_,HS.out,Or.inr ⟨r_ro0 hq,rfl⟩⟩
 replace HW:=hW
 replace HS:=hS
 clear hG
 go_wp2_with fail
 by_cases hq:tx ts.tail=str sRP
 ·have HQ1:Hid (hd (tk ts.tail)=sRP):=(tx_hd (HF.out.suf HS.out) sRP (⟨_,_,rfl,by decide⟩)).1 hq
  go_at_call 67
  refine (HW.out.tkY HS.out (x:=str sRP) (by decide) hq).mono ?_
  rintro e w2 ⟨rfl,HL,HLs,hS,hW,hG⟩
  replace HW:=hW
  replace HS:=hS
  clear hG
  go_wp2_with fail
  refine bodyPost_ret (v:=.tuple #[.slice none 0 0,.int .i64 0]) (by simp [results,Tryz.results122,go_sem]) rfl ?_
  exact ⟨HW.out.grown,_,HS.out,Or.inl ⟨[],false,_,HL.out,by have:=HL.out;show 0+_≤_;omega,by simp only [tk_tail];exact r_ro1 HQ.out (by rw [← tk_tail];exact HQ1.out),rfl,RowN.nil _ _,HW.out.ps⟩⟩
 ·have HQ1:Hid (¬ hd (tk ts.tail)=sRP):=fun e=>hq ((tx_hd (HF.out.suf HS.out) sRP (⟨_,_,rfl,by decide⟩)).2 e)
  go_at_call 67
  refine (HW.out.tkN (x:=str sRP) (by decide) hq).mono ?_
  rintro e w3 ⟨rfl,hW,hG⟩
  replace HW:=hW
  clear hG
  go_wp2_with fail
  go_loopw [4,5] (fun v4 v5 wr=>∃ (v:Value) (r:List Tok) (l:List Nd),v=v4∧v5=.int .i64 0∧Hid (Wd w wr b g m r [])∧Hid (RowN wr (Av w.heap.size []) v l)∧Hid (r <:+ ts)∧Hid (r.length<ts.length)∧Hid (l.length+r.length≤ts.length)∧Hid (∀ q,R (.rowsL 0 l) (tk r) q→R (.rows 0) (tk ts) q)) (fun _ _ wr=>leftOf b wr)
  case atStart=>exact ⟨_,_,[],rfl,rfl,HW,RowN.nil _ _,HS,HL,(by have:=HL.out;show 0+_≤_;omega),fun q hr=>r_ro2 HQ.out (by rw [← tk_tail];exact HQ1.out) (by rw [← tk_tail];exact hr)⟩
  case round=>
   obtain ⟨v,r,l,rfl,rfl,HW,HM_l,HS,HL,HLl,HJ⟩:=hrel
   have HZ_l:Hid (w.heap.size≤w.heap.size):=Nat.le_refl _
   have hmu:=HW.out.ps.leftOf
   have HMu:=hide hmu
   clear hmu
   go_wp2_with fail
   by_cases hq2:tx r=str sDOTS
   ·have HQ2:Hid (hd (tk r)=sDOTS):=(tx_hd (HF.out.suf HS.out) sDOTS (⟨_,_,rfl,by decide⟩)).1 hq2
    go_at_call 67
    refine (HW.out.tkY HS.out (x:=str sDOTS) (by decide) hq2).mono ?_
    rintro e w21 ⟨rfl,HL,HLs,hS,hW,hG⟩
    replace HM_l:=hide ((Mv.call (Nat.lt_of_lt_of_le HW.out.bl HZ_l.out) hG _).row HM_l.out)
    replace HW:=hW
    replace HS:=hS
    clear hG
    have HA:=hide (HW.out.ask1 HS.out HF.out (s:=sRP) (⟨_,_,rfl,by decide⟩) (by decide) (q:=w21.heap.size) (by simp))
    go_wp2_with fail
    go_at_call 94
    refine HA.out.mono ?_
    clear HA
    rintro e w22 (⟨HQ3,rfl,HL,hS,hW,hG⟩|⟨hq,rfl,h1⟩)
    rotate_left
    ·exact ⟨rfl,h1,_,HS.out,Or.inr ⟨by rw [tk_tail];exact HJ.out _ (r_rL1 (by decide) HQ2.out (by rw [← tk_tail];exact hq)),rfl⟩⟩
    replace HM_l:=hide ((Mv.call (Nat.lt_of_lt_of_le HW.out.bl HZ_l.out) hG _).row HM_l.out)
    replace HW:=hW
    replace HS:=hS
    clear hG
    go_wp2_with fail
    refine bodyPost_ret (v:=.tuple #[v,.int .i64 1]) (by simp [results,Tryz.results122,go_sem]) rfl ?_
    exact ⟨HW.out.grown,_,HS.out,Or.inl ⟨l,true,_,HL.out,by have h1:=HLl.out;have h2:=((List.tail_suffix _).trans (List.tail_suffix r)).length_le;omega,by simp only [tk_tail];exact HJ.out _ (r_rL2 (by decide) HQ2.out (by rw [← tk_tail];exact HQ3.out)),rfl,HM_l.out.move (fun k hk _=>⟨rfl,hk.1⟩),HW.out.ps⟩⟩
   ·have HQ2:Hid (¬ hd (tk r)=sDOTS):=fun e=>hq2 ((tx_hd (HF.out.suf HS.out) sDOTS (⟨_,_,rfl,by decide⟩)).2 e)
    go_at_call 67
    refine (HW.out.tkN (x:=str sDOTS) (by decide) hq2).mono ?_
    rintro e w23 ⟨rfl,hW,hG⟩
    replace HM_l:=hide ((Mv.call (Nat.lt_of_lt_of_le HW.out.bl HZ_l.out) hG _).row HM_l.out)
    replace HW:=hW
    clear hG
    go_wp2_with fail
    go_at_call 121
    refine (HI.out r HS.out HL.out w23 HW.out.ps HW.out.two HW.out.glo HW.out.glt (HF.out.suf HS.out) (Nat.le_trans HS.out.length_le HLn.out)).mono ?_
    rintro e w24 hp
    obtain ⟨r24,n_y,k_y,t_y,v_y,a_y,l_y,c_y,rfl,HR_y,HN_y,HZ_y,HL,HSy,HLs2,hS,hW,hG⟩|⟨r,hR,rfl,h1,h2⟩:=HW.out.okN HS.out hp
    rotate_left
    ·exact ⟨rfl,h1,_,h2,Or.inr ⟨HJ.out _ (r_rL3 HQ2.out hR),rfl⟩⟩
    have HO_l:=hide HM_l.out.lt
    replace HM_l:=hide ((Mv.call (Nat.lt_of_lt_of_le HW.out.bl HZ_l.out) hG _).row HM_l.out)
    replace HW:=hW
    replace HS:=hS
    clear hG hp
    replace HW:=hide (HW.out.alloc' w24.heap.size (by simp) #[.int .i64 k_y,.string t_y,.int .i64 v_y,.slice a_y l_y c_y] 24)
    replace HN_y:=hide ((HW.out.ma (by simp)).nd HN_y.out)
    replace HM_l:=hide ((HW.out.ma (by simp)).row HM_l.out)
    go_wp2_with (at_builtin;refine app_l0 _ _ rfl rfl HW.out HM_l.out HN_y.out HZ_l.out HZ_y.out HO_l.out (by have:=HLl.out;have:=HLn.out;omega) ⟨rfl,rfl,rfl,rfl⟩ ?e1 ?e2 ?_;(case e1=>rfl);(case e2=>rfl);skip)
    intro g25 c25 w25 hW hM hG
    clear HM_l HN_y HZ_l HZ_y HO_l
    replace HW:=hide hW
    have HM_l2:=hide hM
    have HZ_l2:Hid (w.heap.size≤w.heap.size):=Nat.le_refl _
    clear hW hM hG
    go_wp2_with fail
    by_cases hq3:tx r24=str sCOMMA
    ·have HQ3:Hid (hd (tk r24)=sCOMMA):=(tx_hd (HF.out.suf HS.out) sCOMMA (⟨_,_,rfl,by decide⟩)).1 hq3
     go_at_call 67
     refine (HW.out.tkY HS.out (x:=str sCOMMA) (by decide) hq3).mono ?_
     rintro e w26 ⟨rfl,HL,HLs,hS,hW,hG⟩
     replace HM_l2:=hide ((Mv.call (Nat.lt_of_lt_of_le HW.out.bl HZ_l2.out) hG _).row HM_l2.out)
     replace HW:=hW
     replace HS:=hS
     clear hG
     go_wp2_with fail
     go_roundw
     case rel=>exact ⟨_,_,_,rfl,rfl,HW,HM_l2,HS,HL,(by have h1:=HLl.out;have h2:=HLs2.out;have h3:=HLs.out;show (l++[n_y]).length+_≤_;rw [List.length_append,List.length_singleton];omega),fun q hr=>HJ.out q (r_rL4 HQ2.out HR_y.out HQ3.out (by rw [← tk_tail];exact hr))⟩
     case measure=>rw [HW.out.ps.leftOf,HMu.out];have h2:=HLs2.out;have h3:=HLs.out;omega
    ·have HQ3:Hid (¬ hd (tk r24)=sCOMMA):=fun e=>hq3 ((tx_hd (HF.out.suf HS.out) sCOMMA (⟨_,_,rfl,by decide⟩)).2 e)
     go_at_call 67
     refine (HW.out.tkN (x:=str sCOMMA) (by decide) hq3).mono ?_
     rintro e w27 ⟨rfl,hW,hG⟩
     replace HM_l2:=hide ((Mv.call (Nat.lt_of_lt_of_le HW.out.bl HZ_l2.out) hG _).row HM_l2.out)
     replace HW:=hW
     clear hG
     have HA:=hide (HW.out.ask1 HS.out HF.out (s:=sRP) (⟨_,_,rfl,by decide⟩) (by decide) (q:=w27.heap.size) (by simp))
     go_wp2_with fail
     go_at_call 94
     refine HA.out.mono ?_
     clear HA
     rintro e w28 (⟨HQ4,rfl,HL,hS,hW,hG⟩|⟨hq,rfl,h1⟩)
     rotate_left
     ·exact ⟨rfl,h1,_,HS.out,Or.inr ⟨HJ.out _ (r_rL6 HQ2.out HR_y.out HQ3.out hq),rfl⟩⟩
     replace HM_l2:=hide ((Mv.call (Nat.lt_of_lt_of_le HW.out.bl HZ_l2.out) hG _).row HM_l2.out)
     replace HW:=hW
     replace HS:=hS
     clear hG
     go_wp2_with fail
     refine bodyPost_ret (v:=.tuple #[(.slice (some ⟨g25,0,none⟩) (l.length+1) c25),.int .i64 0]) (by simp [results,Tryz.results122,go_sem]) rfl ?_
     exact ⟨HW.out.grown,_,HS.out,Or.inl ⟨(l++[n_y]),false,_,HL.out,by have h1:=HLl.out;have h2:=HLs2.out;have h3:=(List.tail_suffix r24).length_le;rw [List.length_append,List.length_singleton];omega,by rw [tk_tail];exact HJ.out _ (r_rL5 HQ2.out HR_y.out HQ3.out HQ4.out),rfl,HM_l2.out.move (fun k hk _=>⟨rfl,hk.1⟩),HW.out.ps⟩⟩
theorem open_param (h:Ps w b g m ts) (hT:Two w b m) (hGl:T.Gl w) (hb5:4<b) (hgl:g<w.heap.size) (hF:Fits ts) (hlen:ts.length≤4000) (hI:Later 123 (.item 1) b g m ts):Calls Tryz.prog 122 #[.pointer (some ⟨b,0,none⟩),.func (.func 123) #[.pointer (some ⟨b,0,none⟩)] #[]] w (PostQ (.rows 1) w b g m ts):=by
 have HW:Hid (Wd w w b g m ts []):=Wd.start h hT hGl hb5 hgl
 have HS:Hid (ts <:+ ts):=List.suffix_refl _
 have HF:Hid (Fits ts):=hF
 have HLn:Hid (ts.length≤4000):=hlen
 have HI:=hide hI
 clear hI
 clear h hT hGl hgl hF hlen
 go_enter Tryz.func122,Tryz.ntmps122
 have HA:=hide (HW.out.ask1 HS.out HF.out (s:=sLP) (⟨_,_,rfl,by decide⟩) (by decide) (q:=w.heap.size) (by simp))
 go_wp2_with fail
 go_at_call 94
 refine HA.out.mono ?_
 clear HA
 rintro e w1 (⟨HQ,rfl,HL,hS,hW,hG⟩|⟨hq,rfl,h1⟩)
 rotate_left
 ·exact ⟨rfl,h1,_,HS.out,Or.inr ⟨r_ro0 hq,rfl⟩⟩
 replace HW:=hW
 replace HS:=hS
 clear hG
 go_wp2_with fail
 by_cases hq:tx ts.tail=str sRP
 ·have HQ1:Hid (hd (tk ts.tail)=sRP):=(tx_hd (HF.out.suf HS.out) sRP (⟨_,_,rfl,by decide⟩)).1 hq
  go_at_call 67
  refine (HW.out.tkY HS.out (x:=str sRP) (by decide) hq).mono ?_
  rintro e w2 ⟨rfl,HL,HLs,hS,hW,hG⟩
  replace HW:=hW
  replace HS:=hS
  clear hG
  go_wp2_with fail
  refine bodyPost_ret (v:=.tuple #[.slice none 0 0,.int .i64 0]) (by simp [results,Tryz.results122,go_sem]) rfl ?_
  exact ⟨HW.out.grown,_,HS.out,Or.inl ⟨[],false,_,HL.out,by have:=HL.out;show 0+_≤_;omega,by simp only [tk_tail];exact r_ro1 HQ.out (by rw [← tk_tail];exact HQ1.out),rfl,RowN.nil _ _,HW.out.ps⟩⟩
 ·have HQ1:Hid (¬ hd (tk ts.tail)=sRP):=fun e=>hq ((tx_hd (HF.out.suf HS.out) sRP (⟨_,_,rfl,by decide⟩)).2 e)
  go_at_call 67
  refine (HW.out.tkN (x:=str sRP) (by decide) hq).mono ?_
  rintro e w3 ⟨rfl,hW,hG⟩
  replace HW:=hW
  clear hG
  go_wp2_with fail
  go_loopw [4,5] (fun v4 v5 wr=>∃ (v:Value) (r:List Tok) (l:List Nd),v=v4∧v5=.int .i64 0∧Hid (Wd w wr b g m r [])∧Hid (RowN wr (Av w.heap.size []) v l)∧Hid (r <:+ ts)∧Hid (r.length<ts.length)∧Hid (l.length+r.length≤ts.length)∧Hid (∀ q,R (.rowsL 1 l) (tk r) q→R (.rows 1) (tk ts) q)) (fun _ _ wr=>leftOf b wr)
  case atStart=>exact ⟨_,_,[],rfl,rfl,HW,RowN.nil _ _,HS,HL,(by have:=HL.out;show 0+_≤_;omega),fun q hr=>r_ro2 HQ.out (by rw [← tk_tail];exact HQ1.out) (by rw [← tk_tail];exact hr)⟩
  case round=>
   obtain ⟨v,r,l,rfl,rfl,HW,HM_l,HS,HL,HLl,HJ⟩:=hrel
   have HZ_l:Hid (w.heap.size≤w.heap.size):=Nat.le_refl _
   have hmu:=HW.out.ps.leftOf
   have HMu:=hide hmu
   clear hmu
   go_wp2_with fail
   by_cases hq2:tx r=str sDOTS
   ·have HQ2:Hid (hd (tk r)=sDOTS):=(tx_hd (HF.out.suf HS.out) sDOTS (⟨_,_,rfl,by decide⟩)).1 hq2
    go_at_call 67
    refine (HW.out.tkY HS.out (x:=str sDOTS) (by decide) hq2).mono ?_
    rintro e w21 ⟨rfl,HL,HLs,hS,hW,hG⟩
    replace HM_l:=hide ((Mv.call (Nat.lt_of_lt_of_le HW.out.bl HZ_l.out) hG _).row HM_l.out)
    replace HW:=hW
    replace HS:=hS
    clear hG
    have HA:=hide (HW.out.ask1 HS.out HF.out (s:=sRP) (⟨_,_,rfl,by decide⟩) (by decide) (q:=w21.heap.size) (by simp))
    go_wp2_with fail
    go_at_call 94
    refine HA.out.mono ?_
    clear HA
    rintro e w22 (⟨HQ3,rfl,HL,hS,hW,hG⟩|⟨hq,rfl,h1⟩)
    rotate_left
    ·exact ⟨rfl,h1,_,HS.out,Or.inr ⟨by rw [tk_tail];exact HJ.out _ (r_rL1 (by decide) HQ2.out (by rw [← tk_tail];exact hq)),rfl⟩⟩
    replace HM_l:=hide ((Mv.call (Nat.lt_of_lt_of_le HW.out.bl HZ_l.out) hG _).row HM_l.out)
    replace HW:=hW
    replace HS:=hS
    clear hG
    go_wp2_with fail
    refine bodyPost_ret (v:=.tuple #[v,.int .i64 1]) (by simp [results,Tryz.results122,go_sem]) rfl ?_
    exact ⟨HW.out.grown,_,HS.out,Or.inl ⟨l,true,_,HL.out,by have h1:=HLl.out;have h2:=((List.tail_suffix _).trans (List.tail_suffix r)).length_le;omega,by simp only [tk_tail];exact HJ.out _ (r_rL2 (by decide) HQ2.out (by rw [← tk_tail];exact HQ3.out)),rfl,HM_l.out.move (fun k hk _=>⟨rfl,hk.1⟩),HW.out.ps⟩⟩
   ·have HQ2:Hid (¬ hd (tk r)=sDOTS):=fun e=>hq2 ((tx_hd (HF.out.suf HS.out) sDOTS (⟨_,_,rfl,by decide⟩)).2 e)
    go_at_call 67
    refine (HW.out.tkN (x:=str sDOTS) (by decide) hq2).mono ?_
    rintro e w23 ⟨rfl,hW,hG⟩
    replace HM_l:=hide ((Mv.call (Nat.lt_of_lt_of_le HW.out.bl HZ_l.out) hG _).row HM_l.out)
    replace HW:=hW
    clear hG
    go_wp2_with fail
    go_at_call 123
    refine (HI.out r HS.out HL.out w23 HW.out.ps HW.out.two HW.out.glo HW.out.glt (HF.out.suf HS.out) (Nat.le_trans HS.out.length_le HLn.out)).mono ?_
    rintro e w24 hp
    obtain ⟨r24,n_y,k_y,t_y,v_y,a_y,l_y,c_y,rfl,HR_y,HN_y,HZ_y,HL,HSy,HLs2,hS,hW,hG⟩|⟨r,hR,rfl,h1,h2⟩:=HW.out.okN HS.out hp
    rotate_left
    ·exact ⟨rfl,h1,_,h2,Or.inr ⟨HJ.out _ (r_rL3 HQ2.out hR),rfl⟩⟩
    have HO_l:=hide HM_l.out.lt
    replace HM_l:=hide ((Mv.call (Nat.lt_of_lt_of_le HW.out.bl HZ_l.out) hG _).row HM_l.out)
    replace HW:=hW
    replace HS:=hS
    clear hG hp
    replace HW:=hide (HW.out.alloc' w24.heap.size (by simp) #[.int .i64 k_y,.string t_y,.int .i64 v_y,.slice a_y l_y c_y] 24)
    replace HN_y:=hide ((HW.out.ma (by simp)).nd HN_y.out)
    replace HM_l:=hide ((HW.out.ma (by simp)).row HM_l.out)
    go_wp2_with (at_builtin;refine app_l0 _ _ rfl rfl HW.out HM_l.out HN_y.out HZ_l.out HZ_y.out HO_l.out (by have:=HLl.out;have:=HLn.out;omega) ⟨rfl,rfl,rfl,rfl⟩ ?e1 ?e2 ?_;(case e1=>rfl);(case e2=>rfl);skip)
    intro g25 c25 w25 hW hM hG
    clear HM_l HN_y HZ_l HZ_y HO_l
    replace HW:=hide hW
    have HM_l2:=hide hM
    have HZ_l2:Hid (w.heap.size≤w.heap.size):=Nat.le_refl _
    clear hW hM hG
    go_wp2_with fail
    by_cases hq3:tx r24=str sCOMMA
    ·have HQ3:Hid (hd (tk r24)=sCOMMA):=(tx_hd (HF.out.suf HS.out) sCOMMA (⟨_,_,rfl,by decide⟩)).1 hq3
     go_at_call 67
     refine (HW.out.tkY HS.out (x:=str sCOMMA) (by decide) hq3).mono ?_
     rintro e w26 ⟨rfl,HL,HLs,hS,hW,hG⟩
     replace HM_l2:=hide ((Mv.call (Nat.lt_of_lt_of_le HW.out.bl HZ_l2.out) hG _).row HM_l2.out)
     replace HW:=hW
     replace HS:=hS
     clear hG
     go_wp2_with fail
     go_roundw
     case rel=>exact ⟨_,_,_,rfl,rfl,HW,HM_l2,HS,HL,(by have h1:=HLl.out;have h2:=HLs2.out;have h3:=HLs.out;show (l++[n_y]).length+_≤_;rw [List.length_append,List.length_singleton];omega),fun q hr=>HJ.out q (r_rL4 HQ2.out HR_y.out HQ3.out (by rw [← tk_tail];exact hr))⟩
     case measure=>rw [HW.out.ps.leftOf,HMu.out];have h2:=HLs2.out;have h3:=HLs.out;omega
    ·have HQ3:Hid (¬ hd (tk r24)=sCOMMA):=fun e=>hq3 ((tx_hd (HF.out.suf HS.out) sCOMMA (⟨_,_,rfl,by decide⟩)).2 e)
     go_at_call 67
     refine (HW.out.tkN (x:=str sCOMMA) (by decide) hq3).mono ?_
     rintro e w27 ⟨rfl,hW,hG⟩
     replace HM_l2:=hide ((Mv.call (Nat.lt_of_lt_of_le HW.out.bl HZ_l2.out) hG _).row HM_l2.out)
     replace HW:=hW
     clear hG
     have HA:=hide (HW.out.ask1 HS.out HF.out (s:=sRP) (⟨_,_,rfl,by decide⟩) (by decide) (q:=w27.heap.size) (by simp))
     go_wp2_with fail
     go_at_call 94
     refine HA.out.mono ?_
     clear HA
     rintro e w28 (⟨HQ4,rfl,HL,hS,hW,hG⟩|⟨hq,rfl,h1⟩)
     rotate_left
     ·exact ⟨rfl,h1,_,HS.out,Or.inr ⟨HJ.out _ (r_rL6 HQ2.out HR_y.out HQ3.out hq),rfl⟩⟩
     replace HM_l2:=hide ((Mv.call (Nat.lt_of_lt_of_le HW.out.bl HZ_l2.out) hG _).row HM_l2.out)
     replace HW:=hW
     replace HS:=hS
     clear hG
     go_wp2_with fail
     refine bodyPost_ret (v:=.tuple #[(.slice (some ⟨g25,0,none⟩) (l.length+1) c25),.int .i64 0]) (by simp [results,Tryz.results122,go_sem]) rfl ?_
     exact ⟨HW.out.grown,_,HS.out,Or.inl ⟨(l++[n_y]),false,_,HL.out,by have h1:=HLl.out;have h2:=HLs2.out;have h3:=(List.tail_suffix r24).length_le;rw [List.length_append,List.length_singleton];omega,by rw [tk_tail];exact HJ.out _ (r_rL5 HQ2.out HR_y.out HQ3.out HQ4.out),rfl,HM_l2.out.move (fun k hk _=>⟨rfl,hk.1⟩),HW.out.ps⟩⟩
end Go.Proofs.YthcfianhdkolhaaGreatDoor.Y
