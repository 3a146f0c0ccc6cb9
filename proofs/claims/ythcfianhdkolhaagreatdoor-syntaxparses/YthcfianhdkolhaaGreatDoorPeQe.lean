/- PeQ0 PeQe -/
import Derived.Test.YthcfianhdkolhaaGreatDoorSign
import Derived.Test.YthcfianhdkolhaaGreatDoorPeP
namespace Go.Proofs.YthcfianhdkolhaaGreatDoor.Y.Z
open Go.RowKit Go.Proofs.YthcfianhdkolhaaGreatDoor.T Go.Proofs.YthcfianhdkolhaaGreatDoor.S
open Go.Proofs.YthcfianhdkolhaaGreatDoor.X (Tok)
set_option linter.unusedVariables false
set_option linter.unusedSimpArgs false
set_option maxRecDepth 100000
set_option maxHeartbeats 2000000
variable {w w' : World} {b g : Nat} {K ts : List Tok} {β : Bool}
theorem decl_struct (gy:hd (tk ts)=sSTRUCT):Gd 14 #[.pointer (some ⟨b,0,none⟩)] .decl b g K ts:=by
 intro w h hF
 have HW:Hid (Wr w w b g K false ts []):=Wr.start h
 have HS:=su ts
 have HF:=ħ hF
 have HK:Hid (ts.length≤4000):=h.short
 have H_gy:=ħ gy
 clear gy
 clear h hF
 go_enter Tryz.func14,Tryz.ntmps14
 replace HW:=HW.out.az w.heap.size
 go_wp2_with fail
 generalize w.alloc _=w1 at *
 go_at_call 27
 refine (HW.out.eatY HS.out (s:=sSTRUCT) (by decide) ⟨rfl,H_gy.out⟩).mono ?_
 rintro e w2 ⟨rfl,HL,hS,hW,-⟩
 replace HW:=hW
 replace HS:=hS
 go_wp2_with fail
 go_at_call 28
 refine (HW.out.nm HS.out HF.out).mono ?_
 rintro e w3 ⟨x_s,β3,r3,rfl,HQ_s,HL,hS,hW,-⟩
 replace HW:=hW
 replace HS:=hS
 replace HW:=HW.out.al w3.heap.size #[.int .i64 2,.string (str x_s),.int .i64 0,.slice none 0 0]
 go_wp2_with fail
 generalize w3.alloc _=w4 at *
 go_at_call 29
 refine (HW.out.mu HS.out (s:=sLB) (by decide)).mono ?_
 rintro e w5 ⟨mv5,β5,r5,rfl,HQ1,HL,hS,hW,-⟩
 replace HW:=hW
 replace HS:=hS
 go_wp2_with fail
 go_loopw [] (fun wr=>∃ (r:List Tok) (β:Bool) (l:List Nd) (a0:Option Addr) (n0 c0:Nat),Hid (Wr w wr b g K β r [(w3.heap.size,#[.int .i64 2,.string (str x_s),.int .i64 0,.slice a0 n0 c0],24),(w.heap.size,#[.int .i64 0,.string ⟨#[]⟩,.int .i64 0,.slice none 0 0],24)])∧Hid (RowN wr (Av w.heap.size [(w3.heap.size,#[.int .i64 2,.string (str x_s),.int .i64 0,.slice a0 n0 c0],24),(w.heap.size,#[.int .i64 0,.string ⟨#[]⟩,.int .i64 0,.slice none 0 0],24)]) (.slice a0 n0 c0) l)∧Hid (r <:+ ts)∧Hid (Pg β r ts)∧Hid (LI ts l.length β r)∧Hid (FI (tk ts) x_s l β r)) (fun wr=>leftR b wr)
 case atStart=>exact ⟨_,_,[],_,_,_,HW,RowN.nil _ _,HS,HL,li_two H_gy.out HQ_s.out HQ1.out,fi_start H_gy.out HQ_s.out HQ1.out⟩
 case round=>
  obtain ⟨r,β,l,a0,n0,c0,HW,HM_l,HS,HL,HLi,HI⟩:=hrel
  have HZ_l:=zz w
  have HG_l:Hid (l.length≤4000):=Nat.le_trans HLi.out.2 HK.out
  have hmu:=HW.out.ps.leftR
  have HMu:=ħ hmu
  clear hmu
  rcases HI.out with ⟨rfl,hA⟩|⟨rfl,hJ⟩
  ·have HA:=ħ hA
   clear hA
   obtain ⟨pp26,pa26,pc26,hx1,hx2,hx3⟩:=HW.out.ps.blk
   have hc26:=cells_at hx2
   clear hx1 hx2 hx3
   have HN_z:=ħ (HM_l.out.node 2 x_s 0)
   have HZ_z:=HZ_l
   clear HM_l HZ_l
   have hc27:=HW.out.c0
   have hc28:=HW.out.c1
   have hf29:=HW.out.f1
   replace HW:=ħ (HW.out.s1 (.int .i64 2) (.string (str x_s)) (.int .i64 0) (.slice a0 n0 c0))
   replace HN_z:=HW.out.ms1.N HN_z
   go_wp2_with fail
   exact HW.out.e HW.out.b1 HS HZ_z HN_z (Or.inr (Or.inr ⟨rfl,rfl,HA.out⟩))
  have HJ:=ħ hJ
  have HL0:=HL
  clear hJ HI
  obtain ⟨pp26,pa26,pc26,hx1,hx2,hx3⟩:=HW.out.ps.blk
  have hc26:=cells_at hx2
  clear hx1 hx2 hx3
  go_wp2_with fail
  clear hc26
  go_at_call 30
  refine (typ_any r wr false HW.out.ps (HF.out.suf HS.out)).mono ?_
  rintro e w27 hp
  obtain ⟨n_t,k_t,t_t,v_t,a_t,l_t,c_t,β27,r27,rfl,HR_t,HN_t,HZ_t,HS_t,HL,hS,hW,hG⟩:=HW.out.okN HS.out hp
  have HO_l:=ħ HM_l.out.lt
  have hsz:=ħ hG.size
  replace HM_l:=HW.out.kR HZ_l hG HM_l
  replace HW:=hW
  replace HS:=hS
  clear hG hp
  have HB_t:Hid (wr.heap.size≤w27.heap.size):=hsz
  clear hsz
  replace HW:=HW.out.am w27.heap.size HN_t
  replace HN_t:=HW.out.nA HN_t
  replace HM_l:=HW.out.rA HM_l
  replace HB_t:Hid (wr.heap.size≤(w27.alloc (.cells #[.int .i64 k_t,.string t_t,.int .i64 v_t,.slice a_t l_t c_t] 24)).heap.size):=by exact Nat.le_trans HB_t.out (by simp)
  go_wp2_with fail
  generalize w27.alloc _=w28 at *
  replace HB_t:Hid (wr.heap.size≤w28.drew.heap.size):=by exact HB_t.out
  replace HN_t:=ħ ((Mv.quiet (grown_drew w28)).nd HN_t.out)
  replace HM_l:=ħ ((Mv.quiet (grown_drew w28)).row HM_l.out)
  replace HW:=ħ (HW.out.quiet (grown_drew w28))
  refine wp_region_held_drew (S:=(fun w9=>∀ o,w9.cell? ⟨w27.heap.size,o,none⟩=(#[.int .i64 k_t,.string t_t,.int .i64 v_t,.slice a_t l_t c_t]:Array Value)[o]?)) (by kernel_rfl) (HW.out.c0) (fun hHd=>?_)
  generalize w28.drew=w29 at *
  refine tq 0 ?_
  simp only [qq]
  refine tq 2 ?_
  simp only [qq]
  refine wpAnyH_ready (rs:=[1,3,5]) (by kernel_rfl) (by simp) ?_
  refine AllReadyH.cons rfl (fun K hK=>?_) (AllReadyH.cons rfl (fun K hK=>?_) (AllReadyH.cons rfl (fun K hK=>?_) AllReadyH.nil))
  ·go_simp
   refine (HW.out.nm HS.out HF.out).mono ?_
   rintro e w30 ⟨x_f,β30,r30,rfl,HQ_f,HL,hS,hW,hG⟩
   replace HN_t:=HW.out.kN HZ_t hG HN_t
   replace HM_l:=HW.out.kR HZ_l hG HM_l
   replace HB_t:Hid (wr.heap.size≤w30.heap.size):=by exact Nat.le_trans HB_t.out (hG.size)
   replace HW:=hW
   replace HS:=hS
   clear hG
   refine hK.out _ _ (HW.out.c0) (fun hHd=>?_)
   clear hK K
   try simp only [qq]
   refine rq2 3 5 (fun K hK=>?_) fun K hK=>?_
   ·have HBq:=HB_t
    replace HW:=HW.out.am w30.heap.size HN_t
    replace HN_t:=HW.out.nA HN_t
    replace HM_l:=HW.out.rA HM_l
    replace HB_t:Hid (wr.heap.size≤(w30.alloc (.cells #[.int .i64 k_t,.string t_t,.int .i64 v_t,.slice a_t l_t c_t] 24)).heap.size):=by exact Nat.le_trans HB_t.out (by simp)
    go_simp
    refine hK.out _ _ (HW.out.c1) (fun hHd=>?_)
    clear hK K
    try simp only [qq]
    generalize w30.alloc _=w31 at *
    refine tq 4 ?_
    simp only [qq]
    refine rq 5 fun K hK=>?_
    replace HW:=HW.out.az w31.heap.size
    replace HN_t:=HW.out.nA HN_t
    replace HM_l:=HW.out.rA HM_l
    replace HB_t:Hid (wr.heap.size≤(w31.alloc (.cells #[.int .i64 0,.string ⟨#[]⟩,.int .i64 0,.slice none 0 0] 24)).heap.size):=by exact Nat.le_trans HB_t.out (by simp)
    go_simp
    refine hK.out _ _ (HW.out.c2) (fun hHd=>?_)
    clear hK K
    try simp only [qq]
    generalize w31.alloc _=w32 at *
    refine rq 6 fun K hK=>?_
    have HM_a:=ħ (Wr.one [(w31.heap.size,#[.int .i64 0,.string ⟨#[]⟩,.int .i64 0,.slice none 0 0],24)] [(w27.heap.size,#[.int .i64 k_t,.string t_t,.int .i64 v_t,.slice a_t l_t c_t],24),(w3.heap.size,#[.int .i64 2,.string (str x_s),.int .i64 0,.slice a0 n0 c0],24),(w.heap.size,#[.int .i64 0,.string ⟨#[]⟩,.int .i64 0,.slice none 0 0],24)] HW.out (s:=wr.heap.size) HBq.out HN_t.out)
    have HZ_a:=HZ_t
    clear HN_t HZ_t
    replace HM_a:Hid (RowN w32 (Av wr.heap.size [(w31.heap.size,#[.int .i64 0,.string ⟨#[]⟩,.int .i64 0,.slice none 0 0],24),(w27.heap.size,#[.int .i64 k_t,.string t_t,.int .i64 v_t,.slice a_t l_t c_t],24),(w3.heap.size,#[.int .i64 2,.string (str x_s),.int .i64 0,.slice a0 n0 c0],24),(w.heap.size,#[.int .i64 0,.string ⟨#[]⟩,.int .i64 0,.slice none 0 0],24)]) (.slice (some ⟨w30.heap.size,0,none⟩) 1 1) [n_t]):=by exact HM_a
    replace HM_l:=(Mv.d1 _).R HM_l
    replace HW:=ħ HW.out.d1
    have HN_y:=ħ (HM_a.out.node 3 x_f 0)
    have HZ_y:=HZ_a
    clear HM_a HZ_a
    have hc33:=HW.out.c0
    have hf34:=HW.out.f0
    replace HW:=ħ (HW.out.s0 (.int .i64 3) (.string (str x_f)) (.int .i64 0) ((.slice (some ⟨w30.heap.size,0,none⟩) 1 1)))
    replace HN_y:=HW.out.ms0.N HN_y
    replace HM_l:=HW.out.ms0.R HM_l
    replace HB_t:Hid (wr.heap.size≤((((w32.setCell ⟨w31.heap.size,0,none⟩ (.int .i64 3)).setCell ⟨w31.heap.size,1,none⟩ (.string (str x_f))).setCell ⟨w31.heap.size,2,none⟩ (.int .i64 0)).setCell ⟨w31.heap.size,3,none⟩ ((.slice (some ⟨w30.heap.size,0,none⟩) 1 1))).heap.size):=by exact Nat.le_trans HB_t.out (by simp [World.setCell])
    go_simp
    refine hK.out _ _ (HW.out.c1) (fun hHd=>?_)
    clear hK K
    try simp only [qq]
    generalize (((w32.setCell _ _).setCell _ _).setCell _ _).setCell _ _=w35 at *
    clear hc33 hf34
    refine wpAnyH_done (by kernel_rfl) ?_ _
    clear HB_t HBq
    replace HN_y:=(Mv.d1 _).N HN_y
    replace HM_l:=(Mv.d1 _).R HM_l
    replace HW:=ħ HW.out.d1
    go_wp2_with fail
    go_at_call 29
    refine (HW.out.mu HS.out (s:=sSEMI) (by decide)).mono ?_
    rintro e w36 ⟨mv36,β36,r36,rfl,HQ2,HL,hS,hW,hG⟩
    replace HN_y:=HW.out.kN HZ_y hG HN_y
    replace HM_l:=HW.out.kR HZ_l hG HM_l
    replace HW:=hW
    replace HS:=hS
    clear hG
    have HFA:Hid (FA (tk ts) x_s x_f l n_t r _ _):=fi_all HJ.out HR_t.out HQ_f.out HQ2.out
    have HSr:Hid (r36 <:+ r):=HQ2.out.suf.trans (HQ_f.out.suf.trans HS_t.out)
    have hc37:=HW.out.c0
    have hc38:=HW.out.c1
    have hc39:=HW.out.c2
    replace HW:=HW.out.al w36.heap.size #[.int .i64 3,.string (str x_f),.int .i64 0,(.slice (some ⟨w30.heap.size,0,none⟩) 1 1)]
    replace HN_y:=HW.out.nA HN_y
    replace HM_l:=HW.out.rA HM_l
    have hc40:=HW.out.c0
    have hc41:=HW.out.c1
    have hc42:=HW.out.c2
    have hc43:=HW.out.c3
    go_wp2_with (at_builtin;refine app_l0 _ _ rfl rfl HW.out HM_l.out HN_y.out HZ_l.out HZ_y.out HO_l.out (by have:=HG_l.out;omega) ⟨rfl,rfl,rfl,rfl⟩ ?e1 ?e2 ?_;(case e1=>rfl);(case e2=>rfl);skip)
    intro g44 c44 w44 hW hM hG
    clear HM_l HN_y HZ_l HZ_y HO_l
    replace HW:=ħ hW
    have HM_l2:=ħ hM
    have HZ_l2:=zz w
    clear hW hM hG
    have hc45:=HW.out.c1
    have hf46:=HW.out.f1
    replace HW:=ħ (HW.out.p13 ((.slice (some ⟨g44,0,none⟩) (l.length+1) c44)))
    replace HM_l2:=HW.out.mp13.R HM_l2
    go_wp2_with fail
    generalize w44.setCell _ _=w47 at *
    clear hc45 hf46
    by_cases hq:Eat β36 r36 sRB
    ·have HEe:=ħ hq
     clear hq
     go_at_call 27
     refine (HW.out.eatY HS.out (s:=sRB) (by decide) HEe.out).mono ?_
     rintro e w48 ⟨rfl,HL,hS,hW,hG⟩
     replace HM_l2:=HW.out.kR HZ_l2 hG HM_l2
     replace HW:=hW
     replace HS:=hS
     clear hG
     have HN_z:=ħ (HM_l2.out.node 2 x_s 0)
     have HZ_z:=HZ_l2
     clear HM_l2 HZ_l2
     have hc49:=HW.out.c0
     have hc50:=HW.out.c1
     have hc51:=HW.out.c2
     have hf52:=HW.out.f2
     replace HW:=ħ (HW.out.s2 (.int .i64 2) (.string (str x_s)) (.int .i64 0) ((.slice (some ⟨g44,0,none⟩) (l.length+1) c44)))
     replace HN_z:=HW.out.ms2.N HN_z
     go_wp2_with fail
     exact HW.out.e HW.out.b2 HS HZ_z HN_z (fa_yes HFA.out HEe.out HL0.out)
    have HEe:=ħ hq
    clear hq
    go_at_call 27
    refine (HW.out.eatN (s:=sRB) HEe.out).mono ?_
    rintro e w56 ⟨rfl,hW,hG⟩
    replace HM_l2:=HW.out.kR HZ_l2 hG HM_l2
    replace HW:=hW
    clear hG
    go_wp2_with fail
    replace HM_l2:=(Mv.d0 _).R HM_l2
    replace HW:=ħ HW.out.d0
    go_roundw
    case rel=>exact ⟨_,_,_,_,_,_,HW,HM_l2,HS,HL,fa_li HFA.out HLi.out,fa_no HFA.out HEe.out⟩
    case measure=>rw [HW.out.ps.leftR,HMu.out];exact less_left HSr.out.length_le (fa_prog HFA.out)
   replace HW:=HW.out.az w30.heap.size
   replace HN_t:=HW.out.nA HN_t
   replace HM_l:=HW.out.rA HM_l
   replace HB_t:Hid (wr.heap.size≤(w30.alloc (.cells #[.int .i64 0,.string ⟨#[]⟩,.int .i64 0,.slice none 0 0] 24)).heap.size):=by exact Nat.le_trans HB_t.out (by simp)
   go_simp
   refine hK.out _ _ (HW.out.c1) (fun hHd=>?_)
   clear hK K
   try simp only [qq]
   generalize w30.alloc _=w57 at *
   refine rq 3 fun K hK=>?_
   have HBq:=HB_t
   replace HW:=HW.out.am w57.heap.size HN_t
   replace HN_t:=HW.out.nA HN_t
   replace HM_l:=HW.out.rA HM_l
   replace HB_t:Hid (wr.heap.size≤(w57.alloc (.cells #[.int .i64 k_t,.string t_t,.int .i64 v_t,.slice a_t l_t c_t] 24)).heap.size):=by exact Nat.le_trans HB_t.out (by simp)
   go_simp
   refine hK.out _ _ (HW.out.c2) (fun hHd=>?_)
   clear hK K
   try simp only [qq]
   generalize w57.alloc _=w58 at *
   refine tq 4 ?_
   simp only [qq]
   refine rq 6 fun K hK=>?_
   have HM_a:=ħ (Wr.one [] [(w30.heap.size,#[.int .i64 0,.string ⟨#[]⟩,.int .i64 0,.slice none 0 0],24),(w27.heap.size,#[.int .i64 k_t,.string t_t,.int .i64 v_t,.slice a_t l_t c_t],24),(w3.heap.size,#[.int .i64 2,.string (str x_s),.int .i64 0,.slice a0 n0 c0],24),(w.heap.size,#[.int .i64 0,.string ⟨#[]⟩,.int .i64 0,.slice none 0 0],24)] HW.out (s:=wr.heap.size) HBq.out HN_t.out)
   have HZ_a:=HZ_t
   clear HN_t HZ_t
   replace HM_a:Hid (RowN w58 (Av wr.heap.size [(w30.heap.size,#[.int .i64 0,.string ⟨#[]⟩,.int .i64 0,.slice none 0 0],24),(w27.heap.size,#[.int .i64 k_t,.string t_t,.int .i64 v_t,.slice a_t l_t c_t],24),(w3.heap.size,#[.int .i64 2,.string (str x_s),.int .i64 0,.slice a0 n0 c0],24),(w.heap.size,#[.int .i64 0,.string ⟨#[]⟩,.int .i64 0,.slice none 0 0],24)]) (.slice (some ⟨w57.heap.size,0,none⟩) 1 1) [n_t]):=by exact HM_a
   replace HM_l:=(Mv.d0 _).R HM_l
   replace HW:=ħ HW.out.d0
   have HN_y:=ħ (HM_a.out.node 3 x_f 0)
   have HZ_y:=HZ_a
   clear HM_a HZ_a
   have hc59:=HW.out.c0
   have hf60:=HW.out.f0
   replace HW:=ħ (HW.out.s0 (.int .i64 3) (.string (str x_f)) (.int .i64 0) ((.slice (some ⟨w57.heap.size,0,none⟩) 1 1)))
   replace HN_y:=HW.out.ms0.N HN_y
   replace HM_l:=HW.out.ms0.R HM_l
   replace HB_t:Hid (wr.heap.size≤((((w58.setCell ⟨w30.heap.size,0,none⟩ (.int .i64 3)).setCell ⟨w30.heap.size,1,none⟩ (.string (str x_f))).setCell ⟨w30.heap.size,2,none⟩ (.int .i64 0)).setCell ⟨w30.heap.size,3,none⟩ ((.slice (some ⟨w57.heap.size,0,none⟩) 1 1))).heap.size):=by exact Nat.le_trans HB_t.out (by simp [World.setCell])
   go_simp
   refine hK.out _ _ (HW.out.c1) (fun hHd=>?_)
   clear hK K
   try simp only [qq]
   generalize (((w58.setCell _ _).setCell _ _).setCell _ _).setCell _ _=w61 at *
   clear hc59 hf60
   refine wpAnyH_done (by kernel_rfl) ?_ _
   clear HB_t HBq
   replace HN_y:=(Mv.d1 _).N HN_y
   replace HM_l:=(Mv.d1 _).R HM_l
   replace HW:=ħ HW.out.d1
   go_wp2_with fail
   go_at_call 29
   refine (HW.out.mu HS.out (s:=sSEMI) (by decide)).mono ?_
   rintro e w62 ⟨mv62,β62,r62,rfl,HQ2,HL,hS,hW,hG⟩
   replace HN_y:=HW.out.kN HZ_y hG HN_y
   replace HM_l:=HW.out.kR HZ_l hG HM_l
   replace HW:=hW
   replace HS:=hS
   clear hG
   have HFA:Hid (FA (tk ts) x_s x_f l n_t r _ _):=fi_all HJ.out HR_t.out HQ_f.out HQ2.out
   have HSr:Hid (r62 <:+ r):=HQ2.out.suf.trans (HQ_f.out.suf.trans HS_t.out)
   have hc63:=HW.out.c0
   have hc64:=HW.out.c1
   have hc65:=HW.out.c2
   replace HW:=HW.out.al w62.heap.size #[.int .i64 3,.string (str x_f),.int .i64 0,(.slice (some ⟨w57.heap.size,0,none⟩) 1 1)]
   replace HN_y:=HW.out.nA HN_y
   replace HM_l:=HW.out.rA HM_l
   have hc66:=HW.out.c0
   have hc67:=HW.out.c1
   have hc68:=HW.out.c2
   have hc69:=HW.out.c3
   go_wp2_with (at_builtin;refine app_l0 _ _ rfl rfl HW.out HM_l.out HN_y.out HZ_l.out HZ_y.out HO_l.out (by have:=HG_l.out;omega) ⟨rfl,rfl,rfl,rfl⟩ ?e1 ?e2 ?_;(case e1=>rfl);(case e2=>rfl);skip)
   intro g70 c70 w70 hW hM hG
   clear HM_l HN_y HZ_l HZ_y HO_l
   replace HW:=ħ hW
   have HM_l2:=ħ hM
   have HZ_l2:=zz w
   clear hW hM hG
   have hc71:=HW.out.c1
   have hf72:=HW.out.f1
   replace HW:=ħ (HW.out.p13 ((.slice (some ⟨g70,0,none⟩) (l.length+1) c70)))
   replace HM_l2:=HW.out.mp13.R HM_l2
   go_wp2_with fail
   generalize w70.setCell _ _=w73 at *
   clear hc71 hf72
   by_cases hq:Eat β62 r62 sRB
   ·have HEe:=ħ hq
    clear hq
    go_at_call 27
    refine (HW.out.eatY HS.out (s:=sRB) (by decide) HEe.out).mono ?_
    rintro e w74 ⟨rfl,HL,hS,hW,hG⟩
    replace HM_l2:=HW.out.kR HZ_l2 hG HM_l2
    replace HW:=hW
    replace HS:=hS
    clear hG
    have HN_z:=ħ (HM_l2.out.node 2 x_s 0)
    have HZ_z:=HZ_l2
    clear HM_l2 HZ_l2
    have hc75:=HW.out.c0
    have hc76:=HW.out.c1
    have hc77:=HW.out.c2
    have hf78:=HW.out.f2
    replace HW:=ħ (HW.out.s2 (.int .i64 2) (.string (str x_s)) (.int .i64 0) ((.slice (some ⟨g70,0,none⟩) (l.length+1) c70)))
    replace HN_z:=HW.out.ms2.N HN_z
    go_wp2_with fail
    exact HW.out.e HW.out.b2 HS HZ_z HN_z (fa_yes HFA.out HEe.out HL0.out)
   have HEe:=ħ hq
   clear hq
   go_at_call 27
   refine (HW.out.eatN (s:=sRB) HEe.out).mono ?_
   rintro e w82 ⟨rfl,hW,hG⟩
   replace HM_l2:=HW.out.kR HZ_l2 hG HM_l2
   replace HW:=hW
   clear hG
   go_wp2_with fail
   replace HM_l2:=(Mv.d0 _).R HM_l2
   replace HW:=ħ HW.out.d0
   go_roundw
   case rel=>exact ⟨_,_,_,_,_,_,HW,HM_l2,HS,HL,fa_li HFA.out HLi.out,fa_no HFA.out HEe.out⟩
   case measure=>rw [HW.out.ps.leftR,HMu.out];exact less_left HSr.out.length_le (fa_prog HFA.out)
  ·have HBq:=HB_t
   replace HW:=HW.out.am w29.heap.size HN_t
   replace HN_t:=HW.out.nA HN_t
   replace HM_l:=HW.out.rA HM_l
   replace HB_t:Hid (wr.heap.size≤(w29.alloc (.cells #[.int .i64 k_t,.string t_t,.int .i64 v_t,.slice a_t l_t c_t] 24)).heap.size):=by exact Nat.le_trans HB_t.out (by simp)
   go_simp
   refine hK.out _ _ (HW.out.c1) (fun hHd=>?_)
   clear hK K
   try simp only [qq]
   generalize w29.alloc _=w83 at *
   refine rq2 1 5 (fun K hK=>?_) fun K hK=>?_
   ·go_simp
    refine (HW.out.nm HS.out HF.out).mono ?_
    rintro e w84 ⟨x_f,β84,r84,rfl,HQ_f,HL,hS,hW,hG⟩
    replace HN_t:=HW.out.kN HZ_t hG HN_t
    replace HM_l:=HW.out.kR HZ_l hG HM_l
    replace HB_t:Hid (wr.heap.size≤w84.heap.size):=by exact Nat.le_trans HB_t.out (hG.size)
    replace HW:=hW
    replace HS:=hS
    clear hG
    refine hK.out _ _ (HW.out.c1) (fun hHd=>?_)
    clear hK K
    try simp only [qq]
    refine tq 4 ?_
    simp only [qq]
    refine rq 5 fun K hK=>?_
    replace HW:=HW.out.az w84.heap.size
    replace HN_t:=HW.out.nA HN_t
    replace HM_l:=HW.out.rA HM_l
    replace HB_t:Hid (wr.heap.size≤(w84.alloc (.cells #[.int .i64 0,.string ⟨#[]⟩,.int .i64 0,.slice none 0 0] 24)).heap.size):=by exact Nat.le_trans HB_t.out (by simp)
    go_simp
    refine hK.out _ _ (HW.out.c2) (fun hHd=>?_)
    clear hK K
    try simp only [qq]
    generalize w84.alloc _=w85 at *
    refine rq 6 fun K hK=>?_
    have HM_a:=ħ (Wr.one [(w84.heap.size,#[.int .i64 0,.string ⟨#[]⟩,.int .i64 0,.slice none 0 0],24)] [(w27.heap.size,#[.int .i64 k_t,.string t_t,.int .i64 v_t,.slice a_t l_t c_t],24),(w3.heap.size,#[.int .i64 2,.string (str x_s),.int .i64 0,.slice a0 n0 c0],24),(w.heap.size,#[.int .i64 0,.string ⟨#[]⟩,.int .i64 0,.slice none 0 0],24)] HW.out (s:=wr.heap.size) HBq.out HN_t.out)
    have HZ_a:=HZ_t
    clear HN_t HZ_t
    replace HM_a:Hid (RowN w85 (Av wr.heap.size [(w84.heap.size,#[.int .i64 0,.string ⟨#[]⟩,.int .i64 0,.slice none 0 0],24),(w27.heap.size,#[.int .i64 k_t,.string t_t,.int .i64 v_t,.slice a_t l_t c_t],24),(w3.heap.size,#[.int .i64 2,.string (str x_s),.int .i64 0,.slice a0 n0 c0],24),(w.heap.size,#[.int .i64 0,.string ⟨#[]⟩,.int .i64 0,.slice none 0 0],24)]) (.slice (some ⟨w29.heap.size,0,none⟩) 1 1) [n_t]):=by exact HM_a
    replace HM_l:=(Mv.d1 _).R HM_l
    replace HW:=ħ HW.out.d1
    have HN_y:=ħ (HM_a.out.node 3 x_f 0)
    have HZ_y:=HZ_a
    clear HM_a HZ_a
    have hc86:=HW.out.c0
    have hf87:=HW.out.f0
    replace HW:=ħ (HW.out.s0 (.int .i64 3) (.string (str x_f)) (.int .i64 0) ((.slice (some ⟨w29.heap.size,0,none⟩) 1 1)))
    replace HN_y:=HW.out.ms0.N HN_y
    replace HM_l:=HW.out.ms0.R HM_l
    replace HB_t:Hid (wr.heap.size≤((((w85.setCell ⟨w84.heap.size,0,none⟩ (.int .i64 3)).setCell ⟨w84.heap.size,1,none⟩ (.string (str x_f))).setCell ⟨w84.heap.size,2,none⟩ (.int .i64 0)).setCell ⟨w84.heap.size,3,none⟩ ((.slice (some ⟨w29.heap.size,0,none⟩) 1 1))).heap.size):=by exact Nat.le_trans HB_t.out (by simp [World.setCell])
    go_simp
    refine hK.out _ _ (HW.out.c1) (fun hHd=>?_)
    clear hK K
    try simp only [qq]
    generalize (((w85.setCell _ _).setCell _ _).setCell _ _).setCell _ _=w88 at *
    clear hc86 hf87
    refine wpAnyH_done (by kernel_rfl) ?_ _
    clear HB_t HBq
    replace HN_y:=(Mv.d1 _).N HN_y
    replace HM_l:=(Mv.d1 _).R HM_l
    replace HW:=ħ HW.out.d1
    go_wp2_with fail
    go_at_call 29
    refine (HW.out.mu HS.out (s:=sSEMI) (by decide)).mono ?_
    rintro e w89 ⟨mv89,β89,r89,rfl,HQ2,HL,hS,hW,hG⟩
    replace HN_y:=HW.out.kN HZ_y hG HN_y
    replace HM_l:=HW.out.kR HZ_l hG HM_l
    replace HW:=hW
    replace HS:=hS
    clear hG
    have HFA:Hid (FA (tk ts) x_s x_f l n_t r _ _):=fi_all HJ.out HR_t.out HQ_f.out HQ2.out
    have HSr:Hid (r89 <:+ r):=HQ2.out.suf.trans (HQ_f.out.suf.trans HS_t.out)
    have hc90:=HW.out.c0
    have hc91:=HW.out.c1
    have hc92:=HW.out.c2
    replace HW:=HW.out.al w89.heap.size #[.int .i64 3,.string (str x_f),.int .i64 0,(.slice (some ⟨w29.heap.size,0,none⟩) 1 1)]
    replace HN_y:=HW.out.nA HN_y
    replace HM_l:=HW.out.rA HM_l
    have hc93:=HW.out.c0
    have hc94:=HW.out.c1
    have hc95:=HW.out.c2
    have hc96:=HW.out.c3
    go_wp2_with (at_builtin;refine app_l0 _ _ rfl rfl HW.out HM_l.out HN_y.out HZ_l.out HZ_y.out HO_l.out (by have:=HG_l.out;omega) ⟨rfl,rfl,rfl,rfl⟩ ?e1 ?e2 ?_;(case e1=>rfl);(case e2=>rfl);skip)
    intro g97 c97 w97 hW hM hG
    clear HM_l HN_y HZ_l HZ_y HO_l
    replace HW:=ħ hW
    have HM_l2:=ħ hM
    have HZ_l2:=zz w
    clear hW hM hG
    have hc98:=HW.out.c1
    have hf99:=HW.out.f1
    replace HW:=ħ (HW.out.p13 ((.slice (some ⟨g97,0,none⟩) (l.length+1) c97)))
    replace HM_l2:=HW.out.mp13.R HM_l2
    go_wp2_with fail
    generalize w97.setCell _ _=w100 at *
    clear hc98 hf99
    by_cases hq:Eat β89 r89 sRB
    ·have HEe:=ħ hq
     clear hq
     go_at_call 27
     refine (HW.out.eatY HS.out (s:=sRB) (by decide) HEe.out).mono ?_
     rintro e w101 ⟨rfl,HL,hS,hW,hG⟩
     replace HM_l2:=HW.out.kR HZ_l2 hG HM_l2
     replace HW:=hW
     replace HS:=hS
     clear hG
     have HN_z:=ħ (HM_l2.out.node 2 x_s 0)
     have HZ_z:=HZ_l2
     clear HM_l2 HZ_l2
     have hc102:=HW.out.c0
     have hc103:=HW.out.c1
     have hc104:=HW.out.c2
     have hf105:=HW.out.f2
     replace HW:=ħ (HW.out.s2 (.int .i64 2) (.string (str x_s)) (.int .i64 0) ((.slice (some ⟨g97,0,none⟩) (l.length+1) c97)))
     replace HN_z:=HW.out.ms2.N HN_z
     go_wp2_with fail
     exact HW.out.e HW.out.b2 HS HZ_z HN_z (fa_yes HFA.out HEe.out HL0.out)
    have HEe:=ħ hq
    clear hq
    go_at_call 27
    refine (HW.out.eatN (s:=sRB) HEe.out).mono ?_
    rintro e w109 ⟨rfl,hW,hG⟩
    replace HM_l2:=HW.out.kR HZ_l2 hG HM_l2
    replace HW:=hW
    clear hG
    go_wp2_with fail
    replace HM_l2:=(Mv.d0 _).R HM_l2
    replace HW:=ħ HW.out.d0
    go_roundw
    case rel=>exact ⟨_,_,_,_,_,_,HW,HM_l2,HS,HL,fa_li HFA.out HLi.out,fa_no HFA.out HEe.out⟩
    case measure=>rw [HW.out.ps.leftR,HMu.out];exact less_left HSr.out.length_le (fa_prog HFA.out)
   replace HW:=HW.out.az w83.heap.size
   replace HN_t:=HW.out.nA HN_t
   replace HM_l:=HW.out.rA HM_l
   replace HB_t:Hid (wr.heap.size≤(w83.alloc (.cells #[.int .i64 0,.string ⟨#[]⟩,.int .i64 0,.slice none 0 0] 24)).heap.size):=by exact Nat.le_trans HB_t.out (by simp)
   go_simp
   refine hK.out _ _ (HW.out.c2) (fun hHd=>?_)
   clear hK K
   try simp only [qq]
   generalize w83.alloc _=w110 at *
   refine rq 1 fun K hK=>?_
   go_simp
   refine (HW.out.nm HS.out HF.out).mono ?_
   rintro e w111 ⟨x_f,β111,r111,rfl,HQ_f,HL,hS,hW,hG⟩
   replace HN_t:=HW.out.kN HZ_t hG HN_t
   replace HM_l:=HW.out.kR HZ_l hG HM_l
   replace HB_t:Hid (wr.heap.size≤w111.heap.size):=by exact Nat.le_trans HB_t.out (hG.size)
   replace HW:=hW
   replace HS:=hS
   clear hG
   refine hK.out _ _ (HW.out.c2) (fun hHd=>?_)
   clear hK K
   try simp only [qq]
   refine tq 4 ?_
   simp only [qq]
   refine rq 6 fun K hK=>?_
   have HM_a:=ħ (Wr.one [(w83.heap.size,#[.int .i64 0,.string ⟨#[]⟩,.int .i64 0,.slice none 0 0],24)] [(w27.heap.size,#[.int .i64 k_t,.string t_t,.int .i64 v_t,.slice a_t l_t c_t],24),(w3.heap.size,#[.int .i64 2,.string (str x_s),.int .i64 0,.slice a0 n0 c0],24),(w.heap.size,#[.int .i64 0,.string ⟨#[]⟩,.int .i64 0,.slice none 0 0],24)] HW.out (s:=wr.heap.size) HBq.out HN_t.out)
   have HZ_a:=HZ_t
   clear HN_t HZ_t
   replace HM_a:Hid (RowN w111 (Av wr.heap.size [(w83.heap.size,#[.int .i64 0,.string ⟨#[]⟩,.int .i64 0,.slice none 0 0],24),(w27.heap.size,#[.int .i64 k_t,.string t_t,.int .i64 v_t,.slice a_t l_t c_t],24),(w3.heap.size,#[.int .i64 2,.string (str x_s),.int .i64 0,.slice a0 n0 c0],24),(w.heap.size,#[.int .i64 0,.string ⟨#[]⟩,.int .i64 0,.slice none 0 0],24)]) (.slice (some ⟨w29.heap.size,0,none⟩) 1 1) [n_t]):=by exact HM_a
   replace HM_l:=(Mv.d1 _).R HM_l
   replace HW:=ħ HW.out.d1
   have HN_y:=ħ (HM_a.out.node 3 x_f 0)
   have HZ_y:=HZ_a
   clear HM_a HZ_a
   have hc112:=HW.out.c0
   have hf113:=HW.out.f0
   replace HW:=ħ (HW.out.s0 (.int .i64 3) (.string (str x_f)) (.int .i64 0) ((.slice (some ⟨w29.heap.size,0,none⟩) 1 1)))
   replace HN_y:=HW.out.ms0.N HN_y
   replace HM_l:=HW.out.ms0.R HM_l
   replace HB_t:Hid (wr.heap.size≤((((w111.setCell ⟨w83.heap.size,0,none⟩ (.int .i64 3)).setCell ⟨w83.heap.size,1,none⟩ (.string (str x_f))).setCell ⟨w83.heap.size,2,none⟩ (.int .i64 0)).setCell ⟨w83.heap.size,3,none⟩ ((.slice (some ⟨w29.heap.size,0,none⟩) 1 1))).heap.size):=by exact Nat.le_trans HB_t.out (by simp [World.setCell])
   go_simp
   refine hK.out _ _ (HW.out.c1) (fun hHd=>?_)
   clear hK K
   try simp only [qq]
   generalize (((w111.setCell _ _).setCell _ _).setCell _ _).setCell _ _=w114 at *
   clear hc112 hf113
   refine wpAnyH_done (by kernel_rfl) ?_ _
   clear HB_t HBq
   replace HN_y:=(Mv.d1 _).N HN_y
   replace HM_l:=(Mv.d1 _).R HM_l
   replace HW:=ħ HW.out.d1
   go_wp2_with fail
   go_at_call 29
   refine (HW.out.mu HS.out (s:=sSEMI) (by decide)).mono ?_
   rintro e w115 ⟨mv115,β115,r115,rfl,HQ2,HL,hS,hW,hG⟩
   replace HN_y:=HW.out.kN HZ_y hG HN_y
   replace HM_l:=HW.out.kR HZ_l hG HM_l
   replace HW:=hW
   replace HS:=hS
   clear hG
   have HFA:Hid (FA (tk ts) x_s x_f l n_t r _ _):=fi_all HJ.out HR_t.out HQ_f.out HQ2.out
   have HSr:Hid (r115 <:+ r):=HQ2.out.suf.trans (HQ_f.out.suf.trans HS_t.out)
   have hc116:=HW.out.c0
   have hc117:=HW.out.c1
   have hc118:=HW.out.c2
   replace HW:=HW.out.al w115.heap.size #[.int .i64 3,.string (str x_f),.int .i64 0,(.slice (some ⟨w29.heap.size,0,none⟩) 1 1)]
   replace HN_y:=HW.out.nA HN_y
   replace HM_l:=HW.out.rA HM_l
   have hc119:=HW.out.c0
   have hc120:=HW.out.c1
   have hc121:=HW.out.c2
   have hc122:=HW.out.c3
   go_wp2_with (at_builtin;refine app_l0 _ _ rfl rfl HW.out HM_l.out HN_y.out HZ_l.out HZ_y.out HO_l.out (by have:=HG_l.out;omega) ⟨rfl,rfl,rfl,rfl⟩ ?e1 ?e2 ?_;(case e1=>rfl);(case e2=>rfl);skip)
   intro g123 c123 w123 hW hM hG
   clear HM_l HN_y HZ_l HZ_y HO_l
   replace HW:=ħ hW
   have HM_l2:=ħ hM
   have HZ_l2:=zz w
   clear hW hM hG
   have hc124:=HW.out.c1
   have hf125:=HW.out.f1
   replace HW:=ħ (HW.out.p13 ((.slice (some ⟨g123,0,none⟩) (l.length+1) c123)))
   replace HM_l2:=HW.out.mp13.R HM_l2
   go_wp2_with fail
   generalize w123.setCell _ _=w126 at *
   clear hc124 hf125
   by_cases hq:Eat β115 r115 sRB
   ·have HEe:=ħ hq
    clear hq
    go_at_call 27
    refine (HW.out.eatY HS.out (s:=sRB) (by decide) HEe.out).mono ?_
    rintro e w127 ⟨rfl,HL,hS,hW,hG⟩
    replace HM_l2:=HW.out.kR HZ_l2 hG HM_l2
    replace HW:=hW
    replace HS:=hS
    clear hG
    have HN_z:=ħ (HM_l2.out.node 2 x_s 0)
    have HZ_z:=HZ_l2
    clear HM_l2 HZ_l2
    have hc128:=HW.out.c0
    have hc129:=HW.out.c1
    have hc130:=HW.out.c2
    have hf131:=HW.out.f2
    replace HW:=ħ (HW.out.s2 (.int .i64 2) (.string (str x_s)) (.int .i64 0) ((.slice (some ⟨g123,0,none⟩) (l.length+1) c123)))
    replace HN_z:=HW.out.ms2.N HN_z
    go_wp2_with fail
    exact HW.out.e HW.out.b2 HS HZ_z HN_z (fa_yes HFA.out HEe.out HL0.out)
   have HEe:=ħ hq
   clear hq
   go_at_call 27
   refine (HW.out.eatN (s:=sRB) HEe.out).mono ?_
   rintro e w135 ⟨rfl,hW,hG⟩
   replace HM_l2:=HW.out.kR HZ_l2 hG HM_l2
   replace HW:=hW
   clear hG
   go_wp2_with fail
   replace HM_l2:=(Mv.d0 _).R HM_l2
   replace HW:=ħ HW.out.d0
   go_roundw
   case rel=>exact ⟨_,_,_,_,_,_,HW,HM_l2,HS,HL,fa_li HFA.out HLi.out,fa_no HFA.out HEe.out⟩
   case measure=>rw [HW.out.ps.leftR,HMu.out];exact less_left HSr.out.length_le (fa_prog HFA.out)
  replace HW:=HW.out.az w29.heap.size
  replace HN_t:=HW.out.nA HN_t
  replace HM_l:=HW.out.rA HM_l
  replace HB_t:Hid (wr.heap.size≤(w29.alloc (.cells #[.int .i64 0,.string ⟨#[]⟩,.int .i64 0,.slice none 0 0] 24)).heap.size):=by exact Nat.le_trans HB_t.out (by simp)
  go_simp
  refine hK.out _ _ (HW.out.c1) (fun hHd=>?_)
  clear hK K
  try simp only [qq]
  generalize w29.alloc _=w136 at *
  refine rq2 1 3 (fun K hK=>?_) fun K hK=>?_
  ·go_simp
   refine (HW.out.nm HS.out HF.out).mono ?_
   rintro e w137 ⟨x_f,β137,r137,rfl,HQ_f,HL,hS,hW,hG⟩
   replace HN_t:=HW.out.kN HZ_t hG HN_t
   replace HM_l:=HW.out.kR HZ_l hG HM_l
   replace HB_t:Hid (wr.heap.size≤w137.heap.size):=by exact Nat.le_trans HB_t.out (hG.size)
   replace HW:=hW
   replace HS:=hS
   clear hG
   refine hK.out _ _ (HW.out.c1) (fun hHd=>?_)
   clear hK K
   try simp only [qq]
   refine rq 3 fun K hK=>?_
   have HBq:=HB_t
   replace HW:=HW.out.am w137.heap.size HN_t
   replace HN_t:=HW.out.nA HN_t
   replace HM_l:=HW.out.rA HM_l
   replace HB_t:Hid (wr.heap.size≤(w137.alloc (.cells #[.int .i64 k_t,.string t_t,.int .i64 v_t,.slice a_t l_t c_t] 24)).heap.size):=by exact Nat.le_trans HB_t.out (by simp)
   go_simp
   refine hK.out _ _ (HW.out.c2) (fun hHd=>?_)
   clear hK K
   try simp only [qq]
   generalize w137.alloc _=w138 at *
   refine tq 4 ?_
   simp only [qq]
   refine rq 6 fun K hK=>?_
   have HM_a:=ħ (Wr.one [] [(w29.heap.size,#[.int .i64 0,.string ⟨#[]⟩,.int .i64 0,.slice none 0 0],24),(w27.heap.size,#[.int .i64 k_t,.string t_t,.int .i64 v_t,.slice a_t l_t c_t],24),(w3.heap.size,#[.int .i64 2,.string (str x_s),.int .i64 0,.slice a0 n0 c0],24),(w.heap.size,#[.int .i64 0,.string ⟨#[]⟩,.int .i64 0,.slice none 0 0],24)] HW.out (s:=wr.heap.size) HBq.out HN_t.out)
   have HZ_a:=HZ_t
   clear HN_t HZ_t
   replace HM_a:Hid (RowN w138 (Av wr.heap.size [(w29.heap.size,#[.int .i64 0,.string ⟨#[]⟩,.int .i64 0,.slice none 0 0],24),(w27.heap.size,#[.int .i64 k_t,.string t_t,.int .i64 v_t,.slice a_t l_t c_t],24),(w3.heap.size,#[.int .i64 2,.string (str x_s),.int .i64 0,.slice a0 n0 c0],24),(w.heap.size,#[.int .i64 0,.string ⟨#[]⟩,.int .i64 0,.slice none 0 0],24)]) (.slice (some ⟨w137.heap.size,0,none⟩) 1 1) [n_t]):=by exact HM_a
   replace HM_l:=(Mv.d0 _).R HM_l
   replace HW:=ħ HW.out.d0
   have HN_y:=ħ (HM_a.out.node 3 x_f 0)
   have HZ_y:=HZ_a
   clear HM_a HZ_a
   have hc139:=HW.out.c0
   have hf140:=HW.out.f0
   replace HW:=ħ (HW.out.s0 (.int .i64 3) (.string (str x_f)) (.int .i64 0) ((.slice (some ⟨w137.heap.size,0,none⟩) 1 1)))
   replace HN_y:=HW.out.ms0.N HN_y
   replace HM_l:=HW.out.ms0.R HM_l
   replace HB_t:Hid (wr.heap.size≤((((w138.setCell ⟨w29.heap.size,0,none⟩ (.int .i64 3)).setCell ⟨w29.heap.size,1,none⟩ (.string (str x_f))).setCell ⟨w29.heap.size,2,none⟩ (.int .i64 0)).setCell ⟨w29.heap.size,3,none⟩ ((.slice (some ⟨w137.heap.size,0,none⟩) 1 1))).heap.size):=by exact Nat.le_trans HB_t.out (by simp [World.setCell])
   go_simp
   refine hK.out _ _ (HW.out.c1) (fun hHd=>?_)
   clear hK K
   try simp only [qq]
   generalize (((w138.setCell _ _).setCell _ _).setCell _ _).setCell _ _=w141 at *
   clear hc139 hf140
   refine wpAnyH_done (by kernel_rfl) ?_ _
   clear HB_t HBq
   replace HN_y:=(Mv.d1 _).N HN_y
   replace HM_l:=(Mv.d1 _).R HM_l
   replace HW:=ħ HW.out.d1
   go_wp2_with fail
   go_at_call 29
   refine (HW.out.mu HS.out (s:=sSEMI) (by decide)).mono ?_
   rintro e w142 ⟨mv142,β142,r142,rfl,HQ2,HL,hS,hW,hG⟩
   replace HN_y:=HW.out.kN HZ_y hG HN_y
   replace HM_l:=HW.out.kR HZ_l hG HM_l
   replace HW:=hW
   replace HS:=hS
   clear hG
   have HFA:Hid (FA (tk ts) x_s x_f l n_t r _ _):=fi_all HJ.out HR_t.out HQ_f.out HQ2.out
   have HSr:Hid (r142 <:+ r):=HQ2.out.suf.trans (HQ_f.out.suf.trans HS_t.out)
   have hc143:=HW.out.c0
   have hc144:=HW.out.c1
   have hc145:=HW.out.c2
   replace HW:=HW.out.al w142.heap.size #[.int .i64 3,.string (str x_f),.int .i64 0,(.slice (some ⟨w137.heap.size,0,none⟩) 1 1)]
   replace HN_y:=HW.out.nA HN_y
   replace HM_l:=HW.out.rA HM_l
   have hc146:=HW.out.c0
   have hc147:=HW.out.c1
   have hc148:=HW.out.c2
   have hc149:=HW.out.c3
   go_wp2_with (at_builtin;refine app_l0 _ _ rfl rfl HW.out HM_l.out HN_y.out HZ_l.out HZ_y.out HO_l.out (by have:=HG_l.out;omega) ⟨rfl,rfl,rfl,rfl⟩ ?e1 ?e2 ?_;(case e1=>rfl);(case e2=>rfl);skip)
   intro g150 c150 w150 hW hM hG
   clear HM_l HN_y HZ_l HZ_y HO_l
   replace HW:=ħ hW
   have HM_l2:=ħ hM
   have HZ_l2:=zz w
   clear hW hM hG
   have hc151:=HW.out.c1
   have hf152:=HW.out.f1
   replace HW:=ħ (HW.out.p13 ((.slice (some ⟨g150,0,none⟩) (l.length+1) c150)))
   replace HM_l2:=HW.out.mp13.R HM_l2
   go_wp2_with fail
   generalize w150.setCell _ _=w153 at *
   clear hc151 hf152
   by_cases hq:Eat β142 r142 sRB
   ·have HEe:=ħ hq
    clear hq
    go_at_call 27
    refine (HW.out.eatY HS.out (s:=sRB) (by decide) HEe.out).mono ?_
    rintro e w154 ⟨rfl,HL,hS,hW,hG⟩
    replace HM_l2:=HW.out.kR HZ_l2 hG HM_l2
    replace HW:=hW
    replace HS:=hS
    clear hG
    have HN_z:=ħ (HM_l2.out.node 2 x_s 0)
    have HZ_z:=HZ_l2
    clear HM_l2 HZ_l2
    have hc155:=HW.out.c0
    have hc156:=HW.out.c1
    have hc157:=HW.out.c2
    have hf158:=HW.out.f2
    replace HW:=ħ (HW.out.s2 (.int .i64 2) (.string (str x_s)) (.int .i64 0) ((.slice (some ⟨g150,0,none⟩) (l.length+1) c150)))
    replace HN_z:=HW.out.ms2.N HN_z
    go_wp2_with fail
    exact HW.out.e HW.out.b2 HS HZ_z HN_z (fa_yes HFA.out HEe.out HL0.out)
   have HEe:=ħ hq
   clear hq
   go_at_call 27
   refine (HW.out.eatN (s:=sRB) HEe.out).mono ?_
   rintro e w162 ⟨rfl,hW,hG⟩
   replace HM_l2:=HW.out.kR HZ_l2 hG HM_l2
   replace HW:=hW
   clear hG
   go_wp2_with fail
   replace HM_l2:=(Mv.d0 _).R HM_l2
   replace HW:=ħ HW.out.d0
   go_roundw
   case rel=>exact ⟨_,_,_,_,_,_,HW,HM_l2,HS,HL,fa_li HFA.out HLi.out,fa_no HFA.out HEe.out⟩
   case measure=>rw [HW.out.ps.leftR,HMu.out];exact less_left HSr.out.length_le (fa_prog HFA.out)
  have HBq:=HB_t
  replace HW:=HW.out.am w136.heap.size HN_t
  replace HN_t:=HW.out.nA HN_t
  replace HM_l:=HW.out.rA HM_l
  replace HB_t:Hid (wr.heap.size≤(w136.alloc (.cells #[.int .i64 k_t,.string t_t,.int .i64 v_t,.slice a_t l_t c_t] 24)).heap.size):=by exact Nat.le_trans HB_t.out (by simp)
  go_simp
  refine hK.out _ _ (HW.out.c2) (fun hHd=>?_)
  clear hK K
  try simp only [qq]
  generalize w136.alloc _=w163 at *
  refine rq 1 fun K hK=>?_
  go_simp
  refine (HW.out.nm HS.out HF.out).mono ?_
  rintro e w164 ⟨x_f,β164,r164,rfl,HQ_f,HL,hS,hW,hG⟩
  replace HN_t:=HW.out.kN HZ_t hG HN_t
  replace HM_l:=HW.out.kR HZ_l hG HM_l
  replace HB_t:Hid (wr.heap.size≤w164.heap.size):=by exact Nat.le_trans HB_t.out (hG.size)
  replace HW:=hW
  replace HS:=hS
  clear hG
  refine hK.out _ _ (HW.out.c2) (fun hHd=>?_)
  clear hK K
  try simp only [qq]
  refine tq 4 ?_
  simp only [qq]
  refine rq 6 fun K hK=>?_
  have HM_a:=ħ (Wr.one [] [(w29.heap.size,#[.int .i64 0,.string ⟨#[]⟩,.int .i64 0,.slice none 0 0],24),(w27.heap.size,#[.int .i64 k_t,.string t_t,.int .i64 v_t,.slice a_t l_t c_t],24),(w3.heap.size,#[.int .i64 2,.string (str x_s),.int .i64 0,.slice a0 n0 c0],24),(w.heap.size,#[.int .i64 0,.string ⟨#[]⟩,.int .i64 0,.slice none 0 0],24)] HW.out (s:=wr.heap.size) HBq.out HN_t.out)
  have HZ_a:=HZ_t
  clear HN_t HZ_t
  replace HM_a:Hid (RowN w164 (Av wr.heap.size [(w29.heap.size,#[.int .i64 0,.string ⟨#[]⟩,.int .i64 0,.slice none 0 0],24),(w27.heap.size,#[.int .i64 k_t,.string t_t,.int .i64 v_t,.slice a_t l_t c_t],24),(w3.heap.size,#[.int .i64 2,.string (str x_s),.int .i64 0,.slice a0 n0 c0],24),(w.heap.size,#[.int .i64 0,.string ⟨#[]⟩,.int .i64 0,.slice none 0 0],24)]) (.slice (some ⟨w136.heap.size,0,none⟩) 1 1) [n_t]):=by exact HM_a
  replace HM_l:=(Mv.d0 _).R HM_l
  replace HW:=ħ HW.out.d0
  have HN_y:=ħ (HM_a.out.node 3 x_f 0)
  have HZ_y:=HZ_a
  clear HM_a HZ_a
  have hc165:=HW.out.c0
  have hf166:=HW.out.f0
  replace HW:=ħ (HW.out.s0 (.int .i64 3) (.string (str x_f)) (.int .i64 0) ((.slice (some ⟨w136.heap.size,0,none⟩) 1 1)))
  replace HN_y:=HW.out.ms0.N HN_y
  replace HM_l:=HW.out.ms0.R HM_l
  replace HB_t:Hid (wr.heap.size≤((((w164.setCell ⟨w29.heap.size,0,none⟩ (.int .i64 3)).setCell ⟨w29.heap.size,1,none⟩ (.string (str x_f))).setCell ⟨w29.heap.size,2,none⟩ (.int .i64 0)).setCell ⟨w29.heap.size,3,none⟩ ((.slice (some ⟨w136.heap.size,0,none⟩) 1 1))).heap.size):=by exact Nat.le_trans HB_t.out (by simp [World.setCell])
  go_simp
  refine hK.out _ _ (HW.out.c1) (fun hHd=>?_)
  clear hK K
  try simp only [qq]
  generalize (((w164.setCell _ _).setCell _ _).setCell _ _).setCell _ _=w167 at *
  clear hc165 hf166
  refine wpAnyH_done (by kernel_rfl) ?_ _
  clear HB_t HBq
  replace HN_y:=(Mv.d1 _).N HN_y
  replace HM_l:=(Mv.d1 _).R HM_l
  replace HW:=ħ HW.out.d1
  go_wp2_with fail
  go_at_call 29
  refine (HW.out.mu HS.out (s:=sSEMI) (by decide)).mono ?_
  rintro e w168 ⟨mv168,β168,r168,rfl,HQ2,HL,hS,hW,hG⟩
  replace HN_y:=HW.out.kN HZ_y hG HN_y
  replace HM_l:=HW.out.kR HZ_l hG HM_l
  replace HW:=hW
  replace HS:=hS
  clear hG
  have HFA:Hid (FA (tk ts) x_s x_f l n_t r _ _):=fi_all HJ.out HR_t.out HQ_f.out HQ2.out
  have HSr:Hid (r168 <:+ r):=HQ2.out.suf.trans (HQ_f.out.suf.trans HS_t.out)
  have hc169:=HW.out.c0
  have hc170:=HW.out.c1
  have hc171:=HW.out.c2
  replace HW:=HW.out.al w168.heap.size #[.int .i64 3,.string (str x_f),.int .i64 0,(.slice (some ⟨w136.heap.size,0,none⟩) 1 1)]
  replace HN_y:=HW.out.nA HN_y
  replace HM_l:=HW.out.rA HM_l
  have hc172:=HW.out.c0
  have hc173:=HW.out.c1
  have hc174:=HW.out.c2
  have hc175:=HW.out.c3
  go_wp2_with (at_builtin;refine app_l0 _ _ rfl rfl HW.out HM_l.out HN_y.out HZ_l.out HZ_y.out HO_l.out (by have:=HG_l.out;omega) ⟨rfl,rfl,rfl,rfl⟩ ?e1 ?e2 ?_;(case e1=>rfl);(case e2=>rfl);skip)
  intro g176 c176 w176 hW hM hG
  clear HM_l HN_y HZ_l HZ_y HO_l
  replace HW:=ħ hW
  have HM_l2:=ħ hM
  have HZ_l2:=zz w
  clear hW hM hG
  have hc177:=HW.out.c1
  have hf178:=HW.out.f1
  replace HW:=ħ (HW.out.p13 ((.slice (some ⟨g176,0,none⟩) (l.length+1) c176)))
  replace HM_l2:=HW.out.mp13.R HM_l2
  go_wp2_with fail
  generalize w176.setCell _ _=w179 at *
  clear hc177 hf178
  by_cases hq:Eat β168 r168 sRB
  ·have HEe:=ħ hq
   clear hq
   go_at_call 27
   refine (HW.out.eatY HS.out (s:=sRB) (by decide) HEe.out).mono ?_
   rintro e w180 ⟨rfl,HL,hS,hW,hG⟩
   replace HM_l2:=HW.out.kR HZ_l2 hG HM_l2
   replace HW:=hW
   replace HS:=hS
   clear hG
   have HN_z:=ħ (HM_l2.out.node 2 x_s 0)
   have HZ_z:=HZ_l2
   clear HM_l2 HZ_l2
   have hc181:=HW.out.c0
   have hc182:=HW.out.c1
   have hc183:=HW.out.c2
   have hf184:=HW.out.f2
   replace HW:=ħ (HW.out.s2 (.int .i64 2) (.string (str x_s)) (.int .i64 0) ((.slice (some ⟨g176,0,none⟩) (l.length+1) c176)))
   replace HN_z:=HW.out.ms2.N HN_z
   go_wp2_with fail
   exact HW.out.e HW.out.b2 HS HZ_z HN_z (fa_yes HFA.out HEe.out HL0.out)
  have HEe:=ħ hq
  clear hq
  go_at_call 27
  refine (HW.out.eatN (s:=sRB) HEe.out).mono ?_
  rintro e w188 ⟨rfl,hW,hG⟩
  replace HM_l2:=HW.out.kR HZ_l2 hG HM_l2
  replace HW:=hW
  clear hG
  go_wp2_with fail
  replace HM_l2:=(Mv.d0 _).R HM_l2
  replace HW:=ħ HW.out.d0
  go_roundw
  case rel=>exact ⟨_,_,_,_,_,_,HW,HM_l2,HS,HL,fa_li HFA.out HLi.out,fa_no HFA.out HEe.out⟩
  case measure=>rw [HW.out.ps.leftR,HMu.out];exact less_left HSr.out.length_le (fa_prog HFA.out)
end Go.Proofs.YthcfianhdkolhaaGreatDoor.Y.Z
namespace Go.Proofs.YthcfianhdkolhaaGreatDoor.Y.Z
open Go.RowKit Go.Proofs.YthcfianhdkolhaaGreatDoor.T Go.Proofs.YthcfianhdkolhaaGreatDoor.S
open Go.Proofs.YthcfianhdkolhaaGreatDoor.X (Tok)
set_option linter.unusedVariables false
set_option linter.unusedSimpArgs false
set_option maxRecDepth 100000
set_option maxHeartbeats 8000000
variable {w w' : World} {b g : Nat} {K ts : List Tok} {β : Bool}
theorem decl_ext (g0:¬ hd (tk ts)=sSTRUCT) (gy:hd (tk ts)=sEXTERN):Gd 14 #[.pointer (some ⟨b,0,none⟩)] .decl b g K ts:=by
 intro w h hF
 have HW:Hid (Wr w w b g K false ts []):=Wr.start h
 have HS:=su ts
 have HF:=ħ hF
 have HK:Hid (ts.length≤4000):=h.short
 have H_g0:=ħ g0
 clear g0
 have H_gy:=ħ gy
 clear gy
 clear h hF
 go_enter Tryz.func14,Tryz.ntmps14
 replace HW:=HW.out.az w.heap.size
 go_wp2_with fail
 generalize w.alloc _=w1 at *
 go_at_call 27
 refine (HW.out.eatN (s:=sSTRUCT) (fun e=>H_g0.out e.2)).mono ?_
 rintro e w2 ⟨rfl,hW,-⟩
 replace HW:=hW
 go_wp2_with fail
 go_at_call 27
 refine (HW.out.eatY HS.out (s:=sEXTERN) (by decide) ⟨rfl,H_gy.out⟩).mono ?_
 rintro e w3 ⟨rfl,HL,hS,hW,-⟩
 replace HW:=hW
 replace HS:=hS
 go_wp2_with fail
 go_at_call 30
 refine (typ_any ts.tail w3 false HW.out.ps (HF.out.suf HS.out)).mono ?_
 rintro e w4 hp
 obtain ⟨n_t,k_t,t_t,v_t,a_t,l_t,c_t,β4,r4,rfl,HR_t,HN_t,HZ_t,HS_t,HL,hS,hW,-⟩:=HW.out.okN HS.out hp
 replace HW:=hW
 replace HS:=hS
 clear hp
 replace HW:=HW.out.am w4.heap.size HN_t
 replace HN_t:=HW.out.nA HN_t
 go_wp2_with fail
 generalize w4.alloc _=w5 at *
 go_at_call 28
 refine (HW.out.nm HS.out HF.out).mono ?_
 rintro e w6 ⟨x_s,β6,r6,rfl,HQ_s,HL,hS,hW,hG⟩
 replace HN_t:=HW.out.kN HZ_t hG HN_t
 replace HW:=hW
 replace HS:=hS
 clear hG
 cases β6 with
 | true=>
  obtain ⟨ppz,paz,pcz,hx1,hx2,hx3⟩:=(HW.out.alloc' w6.heap.size (by simp) #[.int .i64 0,.string (str x_s),.int .i64 0,.slice none 0 0] 24).ps.blk
  have hcz:=cells_at hx2
  clear hx1 hx2 hx3
  have hcy:=(HW.out.alloc' w6.heap.size (by simp) #[.int .i64 5,.string (str x_s),.int .i64 0,.slice none 0 0] 24).c1
  replace HW:=HW.out.al w6.heap.size #[.int .i64 5,.string (str x_s),.int .i64 0,.slice (some ⟨(w6.heap.size+1),0,none⟩) 1 1]
  replace HN_t:=HW.out.nA HN_t
  replace HW:=HW.out.am (w6.heap.size+1) HN_t
  replace HN_t:=HW.out.nA HN_t
  have HM_a:=ħ (Wr.o0 HW.out (HN_t.out.less HZ_t.out))
  have HZ_a:=zz w
  clear HN_t HZ_t
  replace HW:=ħ HW.out.d0
  go_wp2_with fail
  generalize (w6.alloc _).alloc _=w7 at *
  clear hcz hcy
  go_at_call 29
  refine (HW.out.mu HS.out (s:=sSEMI) (by decide)).mono ?_
  rintro e w8 ⟨mv8,β8,r8,rfl,HQ9,HL,hS,hW,hG⟩
  replace HM_a:=HW.out.kR HZ_a hG HM_a
  replace HW:=hW
  replace HS:=hS
  clear hG
  obtain ⟨rfl,rfl⟩:=HQ9.out.bad
  have HN_z:=ħ (HM_a.out.node 5 x_s 0)
  have HZ_z:=HZ_a
  clear HM_a HZ_a
  have hc9:=HW.out.c0
  have hc10:=HW.out.c1
  have hc11:=HW.out.c2
  have hf12:=HW.out.f2
  replace HW:=ħ (HW.out.s2 (.int .i64 5) (.string (str x_s)) (.int .i64 0) ((.slice (some ⟨(w6.heap.size+1),0,none⟩) 1 1)))
  replace HN_z:=HW.out.ms2.N HN_z
  go_wp2_with fail
  exact HW.out.e HW.out.b2 HS HZ_z HN_z (md_ext_no H_g0.out H_gy.out HR_t.out HQ_s.out rfl)
 | false=>
  replace HW:=HW.out.al w6.heap.size #[.int .i64 0,.string (str x_s),.int .i64 0,.slice none 0 0]
  replace HN_t:=HW.out.nA HN_t
  obtain ⟨pp16,pa16,pc16,hx1,hx2,hx3⟩:=HW.out.ps.blk
  have hc16:=cells_at hx2
  clear hx1 hx2 hx3
  go_wp2_with fail
  generalize w6.alloc _=w17 at *
  clear hc16
  go_at_call 31
  refine (HW.out.tx 0 (by omega)).mono ?_
  rintro e w18 ⟨rfl,hW,hG⟩
  replace HN_t:=(Mv.quiet hG).N HN_t
  replace HW:=hW
  clear hG
  rw [List.drop_zero]
  by_cases hq:hd (tk r6)=sLP
  ·have HQp:=ħ hq
   have hq1:((str (hd (tk r6))).toList == [40])=true:=tx_yes hq
   clear hq
   go_wp2_with fail
   clear hq1
   replace HN_t:Hid (NdV w18 (fun j=>Av w3.heap.size [(w6.heap.size,#[.int .i64 0,.string (str x_s),.int .i64 0,.slice none 0 0],24),(w4.heap.size,#[.int .i64 k_t,.string t_t,.int .i64 v_t,.slice a_t l_t c_t],24),(w.heap.size,#[.int .i64 0,.string ⟨#[]⟩,.int .i64 0,.slice none 0 0],24)] j∧j<w18.heap.size) n_t (.agg #[.int .i64 k_t,.string t_t,.int .i64 v_t,.slice a_t l_t c_t])):=by exact HN_t.out.move (fun j hj hl=>⟨rfl,hj,hl⟩)
   go_at_call 32
   refine (rows1_any r6 w18 false HW.out.ps (HF.out.suf HS.out)).mono ?_
   rintro e w19 hp
   obtain ⟨l_l,v_l,d_l,β19,r19,rfl,HR_l,HG_l,HI_l,HM_l,HZ_l,HS_l,HL,hS,hW,hG⟩:=HW.out.okR HS.out hp
   replace HN_t:=ħ (NdV.bothz HN_t.out (Mv.call (Nat.lt_of_lt_of_le HW.out.bl HZ_t.out) hG _))
   replace HW:=hW
   replace HS:=hS
   clear hG hp
   have hc20:=HW.out.c1
   have hc21:=HW.out.c0
   have hf22:=HW.out.f0
   replace HW:=ħ (HW.out.p00 (.int .i64 4))
   replace HN_t:=ħ (NdV.bothz HN_t.out (HW.out.mp00))
   replace HM_l:=HW.out.mp00.R HM_l
   have hc23:=HW.out.c1
   replace HW:=HW.out.am w19.heap.size HN_t
   replace HN_t:=ħ (NdV.bothz HN_t.out (HW.out.ma (by simp)))
   replace HM_l:=HW.out.rA HM_l
   have hc24:=HW.out.c1
   have hc25:=HW.out.c2
   go_wp2_with (at_builtin;refine app_b0 _ _ rfl rfl HW.out HM_l.out HN_t.out HZ_l.out HZ_t.out (by have:=HG_l.out;omega) ⟨rfl,rfl,rfl,rfl⟩ ?e1 ?e2 ?_;(case e1=>rfl);(case e2=>rfl);skip)
   intro g26 c26 w26 hW hM hG
   clear HM_l HN_t HZ_l HZ_t
   replace HW:=ħ hW
   have HM_k:=ħ hM
   have HGk:Hid ((l_l++[n_t]).length≤4001):=by have:=HG_l.out;show _≤_;rw [List.length_append,List.length_singleton];omega
   clear hM
   generalize hkk:l_l++[n_t]=kk at *
   have HKK:=ħ hkk
   clear hkk
   have HZ_k:=zz w
   clear hW hG
   have hc27:=HW.out.c0
   have hf28:=HW.out.f0
   replace HW:=ħ (HW.out.p03 ((.slice (some ⟨g26,0,none⟩) (l_l.length+1) c26)))
   replace HM_k:=HW.out.mp03.R HM_k
   cases d_l with
   | false=>
    go_wp2_with fail
    generalize w26.setCell _ _=w29 at *
    clear hc27 hf28
    go_at_call 29
    refine (HW.out.mu HS.out (s:=sSEMI) (by decide)).mono ?_
    rintro e w30 ⟨mv30,β30,r30,rfl,HQ9,HL,hS,hW,hG⟩
    replace HM_k:=HW.out.kR HZ_k hG HM_k
    replace HW:=hW
    replace HS:=hS
    clear hG
    replace HM_k:=(Mv.d1 _).R HM_k
    replace HW:=ħ HW.out.d1
    have HN_z:=ħ (HM_k.out.node 4 x_s 0)
    have HZ_z:=HZ_k
    clear HM_k HZ_k
    have hc31:=HW.out.c0
    have hc32:=HW.out.c1
    have hf33:=HW.out.f1
    replace HW:=ħ (HW.out.s1 (.int .i64 4) (.string (str x_s)) (.int .i64 0) ((.slice (some ⟨g26,0,none⟩) (l_l.length+1) c26)))
    replace HN_z:=HW.out.ms1.N HN_z
    go_wp2_with fail
    exact HW.out.e HW.out.b1 HS HZ_z HN_z (by rw [← HKK.out];exact md_ext_fn H_g0.out H_gy.out HR_t.out HQ_s.out HQp.out HR_l.out HQ9.out)
   | true=>
    have hc37:=HW.out.c0
    have hf38:=HW.out.f0
    replace HW:=ħ (HW.out.p02 (.int .i64 1))
    replace HM_k:=HW.out.mp02.R HM_k
    go_wp2_with fail
    generalize (w26.setCell _ _).setCell _ _=w39 at *
    clear hc27 hf28 hc37 hf38
    go_at_call 29
    refine (HW.out.mu HS.out (s:=sSEMI) (by decide)).mono ?_
    rintro e w40 ⟨mv40,β40,r40,rfl,HQ9,HL,hS,hW,hG⟩
    replace HM_k:=HW.out.kR HZ_k hG HM_k
    replace HW:=hW
    replace HS:=hS
    clear hG
    replace HM_k:=(Mv.d1 _).R HM_k
    replace HW:=ħ HW.out.d1
    have HN_z:=ħ (HM_k.out.node 4 x_s 1)
    have HZ_z:=HZ_k
    clear HM_k HZ_k
    have hc41:=HW.out.c0
    have hc42:=HW.out.c1
    have hf43:=HW.out.f1
    replace HW:=ħ (HW.out.s1 (.int .i64 4) (.string (str x_s)) (.int .i64 1) ((.slice (some ⟨g26,0,none⟩) (l_l.length+1) c26)))
    replace HN_z:=HW.out.ms1.N HN_z
    go_wp2_with fail
    exact HW.out.e HW.out.b1 HS HZ_z HN_z (by rw [← HKK.out];exact md_ext_fn H_g0.out H_gy.out HR_t.out HQ_s.out HQp.out HR_l.out HQ9.out)
  have HQp:=ħ hq
  have hq1:((str (hd (tk r6))).toList == [40])=false:=tx_no hq
  clear hq
  have hc47:=HW.out.c1
  have hc48:=HW.out.c0
  have hf49:=HW.out.f0
  replace HW:=ħ (HW.out.p00 (.int .i64 5))
  replace HN_t:=HW.out.mp00.N HN_t
  have hc50:=HW.out.c1
  replace HW:=HW.out.am w18.heap.size HN_t
  replace HN_t:=HW.out.nA HN_t
  have HM_a:=ħ (Wr.o0 HW.out (HN_t.out.less HZ_t.out))
  have HZ_a:=zz w
  clear HN_t HZ_t
  replace HW:=ħ HW.out.d0
  have hc51:=HW.out.c0
  have hf52:=HW.out.f0
  replace HW:=ħ (HW.out.p03 (.slice (some ⟨w18.heap.size,0,none⟩) 1 1))
  replace HM_a:=HW.out.mp03.R HM_a
  go_wp2_with fail
  generalize ((w18.setCell _ _).alloc _).setCell _ _=w53 at *
  clear hq1 hc47 hc48 hf49 hc50 hc51 hf52
  go_at_call 29
  refine (HW.out.mu HS.out (s:=sSEMI) (by decide)).mono ?_
  rintro e w54 ⟨mv54,β54,r54,rfl,HQ9,HL,hS,hW,hG⟩
  replace HM_a:=HW.out.kR HZ_a hG HM_a
  replace HW:=hW
  replace HS:=hS
  clear hG
  have HN_z:=ħ (HM_a.out.node 5 x_s 0)
  have HZ_z:=HZ_a
  clear HM_a HZ_a
  have hc55:=HW.out.c0
  have hc56:=HW.out.c1
  have hc57:=HW.out.c2
  have hf58:=HW.out.f2
  replace HW:=ħ (HW.out.s2 (.int .i64 5) (.string (str x_s)) (.int .i64 0) ((.slice (some ⟨w18.heap.size,0,none⟩) 1 1)))
  replace HN_z:=HW.out.ms2.N HN_z
  go_wp2_with fail
  exact HW.out.e HW.out.b2 HS HZ_z HN_z (md_ext_var H_g0.out H_gy.out HR_t.out HQ_s.out HQp.out HQ9.out)
end Go.Proofs.YthcfianhdkolhaaGreatDoor.Y.Z
