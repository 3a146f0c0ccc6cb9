/- PbC -/
import Derived.Test.YthcfianhdkolhaaGreatDoorShelf
import Derived.Test.YthcfianhdkolhaaGreatDoorPbB
namespace Go.Proofs.YthcfianhdkolhaaGreatDoor.Y
open Go.RowKit Go.Proofs.YthcfianhdkolhaaGreatDoor.X Go.Proofs.YthcfianhdkolhaaGreatDoor.T Go.Proofs.YthcfianhdkolhaaGreatDoor.S
set_option maxRecDepth 100000
set_option maxHeartbeats 2000000
set_option linter.unusedVariables false
set_option linter.unusedSimpArgs false
variable {w w' : World} {b g : Nat} {m : Value} {ts : List Tok} {t : Tok}
theorem r_bound0 {l:Nat} (hl:l≤2) {ts r:List Tk} (a:R (.bound (l+1)) ts (.no r)):R (.bound l) ts (.no r):=by
 obtain ⟨n,e⟩:=a
 exact ⟨n+1,by simp [P,F,show ¬ 2<l by omega,andN,e]⟩
theorem r_bound1 {l:Nat} (hl:l≤2) {ts r:List Tk} {x:Nd} {q:Res} (a:R (.bound (l+1)) ts (.ok (.nd x) r)) (k:R (.boundL l x) r q):R (.bound l) ts q:=by
 obtain ⟨n,e1,e2⟩:=both a k
 exact ⟨n+1,by simp [P,F,show ¬ 2<l by omega,andN,e1,e2]⟩
theorem r_bL0 {l:Nat} {x:Nd} {ts:List Tk} (h:¬ (sign (hd ts)).1=(l:Int)):R (.boundL l x) ts (.ok (.nd x) ts):=⟨1,by simp [P,F,h,okN]⟩
theorem r_bL1 {l:Nat} {x:Nd} {ts r:List Tk} {op:Int} (h:sign (hd ts)=((l:Int),op)) (a:R (.bound (l+1)) ts.tail (.no r)):R (.boundL l x) ts (.no r):=by
 obtain ⟨n,e⟩:=a
 exact ⟨n+1,by simp [P,F,h,andN,e]⟩
theorem r_bL2 {l:Nat} (hl:l≠0) {x y:Nd} {ts r:List Tk} {op:Int} {q:Res} (h:sign (hd ts)=((l:Int),op)) (a:R (.bound (l+1)) ts.tail (.ok (.nd y) r)) (k:R (.boundL l (.mk 32 [] op [x,y])) r q):R (.boundL l x) ts q:=by
 obtain ⟨n,e1,e2⟩:=both a k
 exact ⟨n+1,by simp [P,F,h,andN,e1,e2,hl]⟩
theorem r_bL3 {x y:Nd} {ts r:List Tk} {op:Int} (h:sign (hd ts)=(0,op)) (a:R (.bound 1) ts.tail (.ok (.nd y) r)):R (.boundL 0 x) ts (.ok (.nd (.mk 32 [] op [x,y])) r):=by
 obtain ⟨n,e1⟩:=a
 exact ⟨n+1,by simp [P,F,h,andN,e1,okN]⟩
theorem r_expr {ts:List Tk} {q:Res} (a:R (.bound 0) ts q):R .expr ts q:=by
 obtain ⟨n,e1⟩:=a
 exact ⟨n+1,by simp [P,F,e1]⟩
theorem r_b3 {ts:List Tk} {q:Res} (a:R .unary ts q):R (.bound 3) ts q:=by
 obtain ⟨n,e1⟩:=a
 exact ⟨n+1,by simp [P,F,e1]⟩
theorem row_sum (h:Ps w b g m ts) (hT:Two w b m) (hGl:T.Gl w) (hb5:4<b) (hgl:g<w.heap.size) (hF:Fits ts) (hlen:ts.length≤4000) (hMe:Meth 164 (.bound 2) b g m ts) (hLt:Later 164 (.bound 2) b g m ts):Calls Tryz.prog 163 #[.pointer (some ⟨b,0,none⟩),.func (.func 164) #[.pointer (some ⟨b,0,none⟩)] #[],.int .i64 1] w (PostN (.bound 1) w b g m ts):=by
 have HW:Hid (Wd w w b g m ts []):=Wd.start h hT hGl hb5 hgl
 have HS:Hid (ts <:+ ts):=List.suffix_refl _
 have HF:Hid (Fits ts):=hF
 have HLn:Hid (ts.length≤4000):=hlen
 have HMe:=hide hMe
 have HLt:=hide hLt
 clear hMe hLt
 clear h hT hGl hgl hF hlen
 go_enter Tryz.func163,Tryz.ntmps163
 replace HW:=hide (HW.out.alloc' w.heap.size (by simp) #[.int .i64 0,.string ⟨#[]⟩,.int .i64 0,.slice none 0 0] 24)
 go_wp2_with fail
 generalize w.alloc _=w1 at *
 go_at_call 164
 refine (HMe.out w1 HW.out.ps HW.out.two HW.out.glo HW.out.glt (HF.out.suf HS.out) (Nat.le_trans HS.out.length_le HLn.out)).mono ?_
 rintro e w2 hp
 obtain ⟨r2,n_x,k_x,t_x,v_x,a_x,l_x,c_x,rfl,HR_x,HN_x,HZ_x,HL,HSx,HLs2,hS,hW,hG⟩|⟨r,hR,rfl,h1,h2⟩:=HW.out.okN HS.out hp
 rotate_left
 ·exact ⟨rfl,h1,_,h2,Or.inr ⟨r_bound0 (by omega) hR,rfl⟩⟩
 replace HW:=hW
 replace HS:=hS
 clear hG hp
 replace HW:=hide (HW.out.alloc' w2.heap.size (by simp) #[.int .i64 k_x,.string t_x,.int .i64 v_x,.slice a_x l_x c_x] 24)
 replace HN_x:=hide ((HW.out.ma (by simp)).nd HN_x.out)
 go_wp2_with fail
 generalize w2.alloc _=w3 at *
 go_loopw [] (fun wr=>∃ (r:List Tok) (n:Nd) (k0:Int) (t0:ByteArray) (v0:Int) (a0:Option Addr) (l0 c0:Nat),Hid (Wd w wr b g m r [(w2.heap.size,#[.int .i64 k0,.string t0,.int .i64 v0,.slice a0 l0 c0],24),(w.heap.size,#[.int .i64 0,.string ⟨#[]⟩,.int .i64 0,.slice none 0 0],24)])∧Hid (NdV wr (Av w.heap.size [(w2.heap.size,#[.int .i64 k0,.string t0,.int .i64 v0,.slice a0 l0 c0],24),(w.heap.size,#[.int .i64 0,.string ⟨#[]⟩,.int .i64 0,.slice none 0 0],24)]) n (.agg #[.int .i64 k0,.string t0,.int .i64 v0,.slice a0 l0 c0]))∧Hid (r <:+ ts)∧Hid (r.length<ts.length)∧Hid (∀ res,R (.boundL 1 n) (tk r) res→R (.bound 1) (tk ts) res)) (fun wr=>leftOf b wr)
 case atStart=>exact ⟨_,_,_,_,_,_,_,_,HW,hide (HN_x.out.less HZ_x.out),HS,HL,fun res hr=>r_bound1 (by omega) HR_x.out hr⟩
 case round=>
  obtain ⟨r,n,k0,t0,v0,a0,l0,c0,HW,HN_n,HS,HL,HI⟩:=hrel
  have HZ_n:Hid (w.heap.size≤w.heap.size):=Nat.le_refl _
  have hmu:=HW.out.ps.leftOf
  have HMu:=hide hmu
  clear hmu
  go_wp2_with fail
  go_at_call 154
  refine (operator_any HW.out.ps HW.out.glo 1).mono ?_
  rintro e w21 ⟨hG21,⟨j,hj,hh,rfl,hP21⟩|⟨hno,rfl,hP21⟩⟩
  ·have HSg:Hid (sign (hd (tk r))=(((1:Nat):Int),(opr j).2.1)):=(sign_hit (HF.out.suf HS.out) hj hh).1
   have HL:Hid (r.tail.length<ts.length):=Nat.lt_of_lt_of_le (hd_lt rfl (sign_hit (HF.out.suf HS.out) hj hh).2) HS.out.length_le
   have HLs:Hid (r.tail.length<r.length):=hd_lt rfl (sign_hit (HF.out.suf HS.out) hj hh).2
   replace HN_n:=hide ((Mv.call (Nat.lt_of_lt_of_le HW.out.bl HZ_n.out) hG21 _).nd HN_n.out)
   replace HW:=hide (HW.out.call hG21 hP21)
   replace HS:=hide ((List.tail_suffix _).trans HS.out)
   clear hG21 hP21 hh
   generalize (opr j).2.1=op at *
   clear hj j
   go_wp2_with fail
   replace HN_n:=hide ((Mv.quiet (grown_drew w21)).nd HN_n.out)
   replace HW:=hide (HW.out.quiet (grown_drew w21))
   refine wp_region_held_drew (S:=(fun _=>True)) (by kernel_rfl) trivial fun hHd=>?_
   generalize w21.drew=w22 at *
   refine tq 0 ?_
   simp only [qq]
   refine tq 2 ?_
   simp only [qq]
   refine rq2 1 3 (fun K hK=>?_) fun K hK=>?_
   ·have hc23:=HW.out.c0
    go_simp
    clear hc23
    refine hK.out _ _ trivial fun hHd=>?_
    clear hK K
    try simp only [qq]
    refine rq 3 fun K hK=>?_
    go_simp
    refine (HLt.out r.tail HS.out HL.out w22 HW.out.ps HW.out.two HW.out.glo HW.out.glt (HF.out.suf HS.out) (Nat.le_trans HS.out.length_le HLn.out)).mono ?_
    rintro e w24 hp
    obtain ⟨r24,n_y,k_y,t_y,v_y,a_y,l_y,c_y,rfl,HR_y,HN_y,HZ_y,HL,HSy,HLs2,hS,hW,hG⟩|⟨r,hR,rfl,h1,h2⟩:=HW.out.okN HS.out hp
    rotate_left
    ·exact ⟨rfl,h1,_,h2,Or.inr ⟨HI.out _ (r_bL1 HSg.out (by rw [← tk_tail];exact hR)),rfl⟩⟩
    replace HN_n:=hide ((Mv.call (Nat.lt_of_lt_of_le HW.out.bl HZ_n.out) hG _).nd HN_n.out)
    replace HW:=hW
    replace HS:=hS
    clear hG hp
    refine hK.out _ _ trivial fun hHd=>?_
    clear hK K
    try simp only [qq]
    refine rq 4 fun K hK=>?_
    go_simp
    refine (operation_any w24 (Av w.heap.size [(w2.heap.size,#[.int .i64 k0,.string t0,.int .i64 v0,.slice a0 l0 c0],24),(w.heap.size,#[.int .i64 0,.string ⟨#[]⟩,.int .i64 0,.slice none 0 0],24)]) n n_y (.agg #[.int .i64 k0,.string t0,.int .i64 v0,.slice a0 l0 c0]) (.agg #[.int .i64 k_y,.string t_y,.int .i64 v_y,.slice a_y l_y c_y]) op (HN_n.out.less HZ_n.out) (HN_y.out.less HZ_y.out)).mono ?_
    rintro e w25 ⟨hG25,vv,rfl,hN⟩
    obtain ⟨k_z,t_z,v_z,a_z,l_z,c_z,rfl⟩:=hN.form
    have HN_z:=hide (HW.out.mixed HW.out.grown.size hN)
    have HZ_z:Hid (w.heap.size≤w.heap.size):=Nat.le_refl _
    clear HN_n HN_y HZ_n HZ_y
    replace HW:=hide (HW.out.quiet hG25)
    clear hG25 hN
    refine hK.out _ _ trivial fun hHd=>?_
    clear hK K
    try simp only [qq]
    refine rq 5 fun K hK=>?_
    have hc26:=HW.out.c0
    have hf27:=HW.out.f0
    replace HW:=hide (HW.out.s0 (.int .i64 k_z) (.string t_z) (.int .i64 v_z) (.slice a_z l_z c_z))
    replace HN_z:=hide ((HW.out.ms0).nd HN_z.out)
    go_simp
    refine hK.out _ _ trivial fun hHd=>?_
    clear hK K
    try simp only [qq]
    generalize (((w25.setCell _ _).setCell _ _).setCell _ _).setCell _ _=w28 at *
    clear hc26 hf27
    refine wpAnyH_done (by kernel_rfl) ?_ _
    go_wp2_with fail
    go_roundw
    case rel=>exact ⟨_,_,_,_,_,_,_,_,HW,HN_z,HS,HL,fun res hr=>HI.out res (r_bL2 (by decide) HSg.out (by rw [← tk_tail];exact HR_y.out) hr)⟩
    case measure=>rw [HW.out.ps.leftOf,HMu.out];exact Nat.lt_of_le_of_lt HSy.out.length_le HLs.out
   ·go_simp
    refine (HLt.out r.tail HS.out HL.out w22 HW.out.ps HW.out.two HW.out.glo HW.out.glt (HF.out.suf HS.out) (Nat.le_trans HS.out.length_le HLn.out)).mono ?_
    rintro e w29 hp
    obtain ⟨r29,n_y,k_y,t_y,v_y,a_y,l_y,c_y,rfl,HR_y,HN_y,HZ_y,HL,HSy,HLs2,hS,hW,hG⟩|⟨r,hR,rfl,h1,h2⟩:=HW.out.okN HS.out hp
    rotate_left
    ·exact ⟨rfl,h1,_,h2,Or.inr ⟨HI.out _ (r_bL1 HSg.out (by rw [← tk_tail];exact hR)),rfl⟩⟩
    replace HN_n:=hide ((Mv.call (Nat.lt_of_lt_of_le HW.out.bl HZ_n.out) hG _).nd HN_n.out)
    replace HW:=hW
    replace HS:=hS
    clear hG hp
    refine hK.out _ _ trivial fun hHd=>?_
    clear hK K
    try simp only [qq]
    refine rq 1 fun K hK=>?_
    have hc30:=HW.out.c0
    go_simp
    clear hc30
    refine hK.out _ _ trivial fun hHd=>?_
    clear hK K
    try simp only [qq]
    refine rq 4 fun K hK=>?_
    go_simp
    refine (operation_any w29 (Av w.heap.size [(w2.heap.size,#[.int .i64 k0,.string t0,.int .i64 v0,.slice a0 l0 c0],24),(w.heap.size,#[.int .i64 0,.string ⟨#[]⟩,.int .i64 0,.slice none 0 0],24)]) n n_y (.agg #[.int .i64 k0,.string t0,.int .i64 v0,.slice a0 l0 c0]) (.agg #[.int .i64 k_y,.string t_y,.int .i64 v_y,.slice a_y l_y c_y]) op (HN_n.out.less HZ_n.out) (HN_y.out.less HZ_y.out)).mono ?_
    rintro e w31 ⟨hG31,vv,rfl,hN⟩
    obtain ⟨k_z,t_z,v_z,a_z,l_z,c_z,rfl⟩:=hN.form
    have HN_z:=hide (HW.out.mixed HW.out.grown.size hN)
    have HZ_z:Hid (w.heap.size≤w.heap.size):=Nat.le_refl _
    clear HN_n HN_y HZ_n HZ_y
    replace HW:=hide (HW.out.quiet hG31)
    clear hG31 hN
    refine hK.out _ _ trivial fun hHd=>?_
    clear hK K
    try simp only [qq]
    refine rq 5 fun K hK=>?_
    have hc32:=HW.out.c0
    have hf33:=HW.out.f0
    replace HW:=hide (HW.out.s0 (.int .i64 k_z) (.string t_z) (.int .i64 v_z) (.slice a_z l_z c_z))
    replace HN_z:=hide ((HW.out.ms0).nd HN_z.out)
    go_simp
    refine hK.out _ _ trivial fun hHd=>?_
    clear hK K
    try simp only [qq]
    generalize (((w31.setCell _ _).setCell _ _).setCell _ _).setCell _ _=w34 at *
    clear hc32 hf33
    refine wpAnyH_done (by kernel_rfl) ?_ _
    go_wp2_with fail
    go_roundw
    case rel=>exact ⟨_,_,_,_,_,_,_,_,HW,HN_z,HS,HL,fun res hr=>HI.out res (r_bL2 (by decide) HSg.out (by rw [← tk_tail];exact HR_y.out) hr)⟩
    case measure=>rw [HW.out.ps.leftOf,HMu.out];exact Nat.lt_of_le_of_lt HSy.out.length_le HLs.out
  ·have HSg:Hid (¬ (sign (hd (tk r))).1=((1:Nat):Int)):=sign_none (HF.out.suf HS.out) (by decide) hno
   replace HN_n:=hide ((Mv.call (Nat.lt_of_lt_of_le HW.out.bl HZ_n.out) hG21 _).nd HN_n.out)
   replace HW:=hide (HW.out.call hG21 hP21)
   clear hG21 hP21 hno
   have hc35:=HW.out.c0
   have hc36:=HW.out.c1
   have hf37:=HW.out.f1
   replace HW:=hide (HW.out.s1 (.int .i64 k0) (.string t0) (.int .i64 v0) (.slice a0 l0 c0))
   replace HN_n:=hide ((HW.out.ms1).nd HN_n.out)
   have hc38:=HW.out.c1
   have hl39:=HW.out.l1
   go_wp2_with fail
   generalize (((w21.setCell _ _).setCell _ _).setCell _ _).setCell _ _=w40 at *
   refine bodyPost_ret (v:=(.agg #[.int .i64 k0,.string t0,.int .i64 v0,.slice a0 l0 c0])) (by simp [results,Tryz.results163,go_sem,hc38,hl39]) rfl ?_
   exact HW.out.post HS.out (HI.out _ (r_bL0 HSg.out)) HL.out HZ_n.out HN_n.out
theorem row_product (h:Ps w b g m ts) (hT:Two w b m) (hGl:T.Gl w) (hb5:4<b) (hgl:g<w.heap.size) (hF:Fits ts) (hlen:ts.length≤4000) (hMe:Meth 173 (.bound 3) b g m ts) (hLt:Later 173 (.bound 3) b g m ts):Calls Tryz.prog 163 #[.pointer (some ⟨b,0,none⟩),.func (.func 173) #[.pointer (some ⟨b,0,none⟩)] #[],.int .i64 2] w (PostN (.bound 2) w b g m ts):=by
 have HW:Hid (Wd w w b g m ts []):=Wd.start h hT hGl hb5 hgl
 have HS:Hid (ts <:+ ts):=List.suffix_refl _
 have HF:Hid (Fits ts):=hF
 have HLn:Hid (ts.length≤4000):=hlen
 have HMe:=hide hMe
 have HLt:=hide hLt
 clear hMe hLt
 clear h hT hGl hgl hF hlen
 go_enter Tryz.func163,Tryz.ntmps163
 replace HW:=hide (HW.out.alloc' w.heap.size (by simp) #[.int .i64 0,.string ⟨#[]⟩,.int .i64 0,.slice none 0 0] 24)
 go_wp2_with fail
 generalize w.alloc _=w1 at *
 go_at_call 173
 refine (HMe.out w1 HW.out.ps HW.out.two HW.out.glo HW.out.glt (HF.out.suf HS.out) (Nat.le_trans HS.out.length_le HLn.out)).mono ?_
 rintro e w2 hp
 obtain ⟨r2,n_x,k_x,t_x,v_x,a_x,l_x,c_x,rfl,HR_x,HN_x,HZ_x,HL,HSx,HLs2,hS,hW,hG⟩|⟨r,hR,rfl,h1,h2⟩:=HW.out.okN HS.out hp
 rotate_left
 ·exact ⟨rfl,h1,_,h2,Or.inr ⟨r_bound0 (by omega) hR,rfl⟩⟩
 replace HW:=hW
 replace HS:=hS
 clear hG hp
 replace HW:=hide (HW.out.alloc' w2.heap.size (by simp) #[.int .i64 k_x,.string t_x,.int .i64 v_x,.slice a_x l_x c_x] 24)
 replace HN_x:=hide ((HW.out.ma (by simp)).nd HN_x.out)
 go_wp2_with fail
 generalize w2.alloc _=w3 at *
 go_loopw [] (fun wr=>∃ (r:List Tok) (n:Nd) (k0:Int) (t0:ByteArray) (v0:Int) (a0:Option Addr) (l0 c0:Nat),Hid (Wd w wr b g m r [(w2.heap.size,#[.int .i64 k0,.string t0,.int .i64 v0,.slice a0 l0 c0],24),(w.heap.size,#[.int .i64 0,.string ⟨#[]⟩,.int .i64 0,.slice none 0 0],24)])∧Hid (NdV wr (Av w.heap.size [(w2.heap.size,#[.int .i64 k0,.string t0,.int .i64 v0,.slice a0 l0 c0],24),(w.heap.size,#[.int .i64 0,.string ⟨#[]⟩,.int .i64 0,.slice none 0 0],24)]) n (.agg #[.int .i64 k0,.string t0,.int .i64 v0,.slice a0 l0 c0]))∧Hid (r <:+ ts)∧Hid (r.length<ts.length)∧Hid (∀ res,R (.boundL 2 n) (tk r) res→R (.bound 2) (tk ts) res)) (fun wr=>leftOf b wr)
 case atStart=>exact ⟨_,_,_,_,_,_,_,_,HW,hide (HN_x.out.less HZ_x.out),HS,HL,fun res hr=>r_bound1 (by omega) HR_x.out hr⟩
 case round=>
  obtain ⟨r,n,k0,t0,v0,a0,l0,c0,HW,HN_n,HS,HL,HI⟩:=hrel
  have HZ_n:Hid (w.heap.size≤w.heap.size):=Nat.le_refl _
  have hmu:=HW.out.ps.leftOf
  have HMu:=hide hmu
  clear hmu
  go_wp2_with fail
  go_at_call 154
  refine (operator_any HW.out.ps HW.out.glo 2).mono ?_
  rintro e w21 ⟨hG21,⟨j,hj,hh,rfl,hP21⟩|⟨hno,rfl,hP21⟩⟩
  ·have HSg:Hid (sign (hd (tk r))=(((2:Nat):Int),(opr j).2.1)):=(sign_hit (HF.out.suf HS.out) hj hh).1
   have HL:Hid (r.tail.length<ts.length):=Nat.lt_of_lt_of_le (hd_lt rfl (sign_hit (HF.out.suf HS.out) hj hh).2) HS.out.length_le
   have HLs:Hid (r.tail.length<r.length):=hd_lt rfl (sign_hit (HF.out.suf HS.out) hj hh).2
   replace HN_n:=hide ((Mv.call (Nat.lt_of_lt_of_le HW.out.bl HZ_n.out) hG21 _).nd HN_n.out)
   replace HW:=hide (HW.out.call hG21 hP21)
   replace HS:=hide ((List.tail_suffix _).trans HS.out)
   clear hG21 hP21 hh
   generalize (opr j).2.1=op at *
   clear hj j
   go_wp2_with fail
   replace HN_n:=hide ((Mv.quiet (grown_drew w21)).nd HN_n.out)
   replace HW:=hide (HW.out.quiet (grown_drew w21))
   refine wp_region_held_drew (S:=(fun _=>True)) (by kernel_rfl) trivial fun hHd=>?_
   generalize w21.drew=w22 at *
   refine tq 0 ?_
   simp only [qq]
   refine tq 2 ?_
   simp only [qq]
   refine rq2 1 3 (fun K hK=>?_) fun K hK=>?_
   ·have hc23:=HW.out.c0
    go_simp
    clear hc23
    refine hK.out _ _ trivial fun hHd=>?_
    clear hK K
    try simp only [qq]
    refine rq 3 fun K hK=>?_
    go_simp
    refine (HLt.out r.tail HS.out HL.out w22 HW.out.ps HW.out.two HW.out.glo HW.out.glt (HF.out.suf HS.out) (Nat.le_trans HS.out.length_le HLn.out)).mono ?_
    rintro e w24 hp
    obtain ⟨r24,n_y,k_y,t_y,v_y,a_y,l_y,c_y,rfl,HR_y,HN_y,HZ_y,HL,HSy,HLs2,hS,hW,hG⟩|⟨r,hR,rfl,h1,h2⟩:=HW.out.okN HS.out hp
    rotate_left
    ·exact ⟨rfl,h1,_,h2,Or.inr ⟨HI.out _ (r_bL1 HSg.out (by rw [← tk_tail];exact hR)),rfl⟩⟩
    replace HN_n:=hide ((Mv.call (Nat.lt_of_lt_of_le HW.out.bl HZ_n.out) hG _).nd HN_n.out)
    replace HW:=hW
    replace HS:=hS
    clear hG hp
    refine hK.out _ _ trivial fun hHd=>?_
    clear hK K
    try simp only [qq]
    refine rq 4 fun K hK=>?_
    go_simp
    refine (operation_any w24 (Av w.heap.size [(w2.heap.size,#[.int .i64 k0,.string t0,.int .i64 v0,.slice a0 l0 c0],24),(w.heap.size,#[.int .i64 0,.string ⟨#[]⟩,.int .i64 0,.slice none 0 0],24)]) n n_y (.agg #[.int .i64 k0,.string t0,.int .i64 v0,.slice a0 l0 c0]) (.agg #[.int .i64 k_y,.string t_y,.int .i64 v_y,.slice a_y l_y c_y]) op (HN_n.out.less HZ_n.out) (HN_y.out.less HZ_y.out)).mono ?_
    rintro e w25 ⟨hG25,vv,rfl,hN⟩
    obtain ⟨k_z,t_z,v_z,a_z,l_z,c_z,rfl⟩:=hN.form
    have HN_z:=hide (HW.out.mixed HW.out.grown.size hN)
    have HZ_z:Hid (w.heap.size≤w.heap.size):=Nat.le_refl _
    clear HN_n HN_y HZ_n HZ_y
    replace HW:=hide (HW.out.quiet hG25)
    clear hG25 hN
    refine hK.out _ _ trivial fun hHd=>?_
    clear hK K
    try simp only [qq]
    refine rq 5 fun K hK=>?_
    have hc26:=HW.out.c0
    have hf27:=HW.out.f0
    replace HW:=hide (HW.out.s0 (.int .i64 k_z) (.string t_z) (.int .i64 v_z) (.slice a_z l_z c_z))
    replace HN_z:=hide ((HW.out.ms0).nd HN_z.out)
    go_simp
    refine hK.out _ _ trivial fun hHd=>?_
    clear hK K
    try simp only [qq]
    generalize (((w25.setCell _ _).setCell _ _).setCell _ _).setCell _ _=w28 at *
    clear hc26 hf27
    refine wpAnyH_done (by kernel_rfl) ?_ _
    go_wp2_with fail
    go_roundw
    case rel=>exact ⟨_,_,_,_,_,_,_,_,HW,HN_z,HS,HL,fun res hr=>HI.out res (r_bL2 (by decide) HSg.out (by rw [← tk_tail];exact HR_y.out) hr)⟩
    case measure=>rw [HW.out.ps.leftOf,HMu.out];exact Nat.lt_of_le_of_lt HSy.out.length_le HLs.out
   ·go_simp
    refine (HLt.out r.tail HS.out HL.out w22 HW.out.ps HW.out.two HW.out.glo HW.out.glt (HF.out.suf HS.out) (Nat.le_trans HS.out.length_le HLn.out)).mono ?_
    rintro e w29 hp
    obtain ⟨r29,n_y,k_y,t_y,v_y,a_y,l_y,c_y,rfl,HR_y,HN_y,HZ_y,HL,HSy,HLs2,hS,hW,hG⟩|⟨r,hR,rfl,h1,h2⟩:=HW.out.okN HS.out hp
    rotate_left
    ·exact ⟨rfl,h1,_,h2,Or.inr ⟨HI.out _ (r_bL1 HSg.out (by rw [← tk_tail];exact hR)),rfl⟩⟩
    replace HN_n:=hide ((Mv.call (Nat.lt_of_lt_of_le HW.out.bl HZ_n.out) hG _).nd HN_n.out)
    replace HW:=hW
    replace HS:=hS
    clear hG hp
    refine hK.out _ _ trivial fun hHd=>?_
    clear hK K
    try simp only [qq]
    refine rq 1 fun K hK=>?_
    have hc30:=HW.out.c0
    go_simp
    clear hc30
    refine hK.out _ _ trivial fun hHd=>?_
    clear hK K
    try simp only [qq]
    refine rq 4 fun K hK=>?_
    go_simp
    refine (operation_any w29 (Av w.heap.size [(w2.heap.size,#[.int .i64 k0,.string t0,.int .i64 v0,.slice a0 l0 c0],24),(w.heap.size,#[.int .i64 0,.string ⟨#[]⟩,.int .i64 0,.slice none 0 0],24)]) n n_y (.agg #[.int .i64 k0,.string t0,.int .i64 v0,.slice a0 l0 c0]) (.agg #[.int .i64 k_y,.string t_y,.int .i64 v_y,.slice a_y l_y c_y]) op (HN_n.out.less HZ_n.out) (HN_y.out.less HZ_y.out)).mono ?_
    rintro e w31 ⟨hG31,vv,rfl,hN⟩
    obtain ⟨k_z,t_z,v_z,a_z,l_z,c_z,rfl⟩:=hN.form
    have HN_z:=hide (HW.out.mixed HW.out.grown.size hN)
    have HZ_z:Hid (w.heap.size≤w.heap.size):=Nat.le_refl _
    clear HN_n HN_y HZ_n HZ_y
    replace HW:=hide (HW.out.quiet hG31)
    clear hG31 hN
    refine hK.out _ _ trivial fun hHd=>?_
    clear hK K
    try simp only [qq]
    refine rq 5 fun K hK=>?_
    have hc32:=HW.out.c0
    have hf33:=HW.out.f0
    replace HW:=hide (HW.out.s0 (.int .i64 k_z) (.string t_z) (.int .i64 v_z) (.slice a_z l_z c_z))
    replace HN_z:=hide ((HW.out.ms0).nd HN_z.out)
    go_simp
    refine hK.out _ _ trivial fun hHd=>?_
    clear hK K
    try simp only [qq]
    generalize (((w31.setCell _ _).setCell _ _).setCell _ _).setCell _ _=w34 at *
    clear hc32 hf33
    refine wpAnyH_done (by kernel_rfl) ?_ _
    go_wp2_with fail
    go_roundw
    case rel=>exact ⟨_,_,_,_,_,_,_,_,HW,HN_z,HS,HL,fun res hr=>HI.out res (r_bL2 (by decide) HSg.out (by rw [← tk_tail];exact HR_y.out) hr)⟩
    case measure=>rw [HW.out.ps.leftOf,HMu.out];exact Nat.lt_of_le_of_lt HSy.out.length_le HLs.out
  ·have HSg:Hid (¬ (sign (hd (tk r))).1=((2:Nat):Int)):=sign_none (HF.out.suf HS.out) (by decide) hno
   replace HN_n:=hide ((Mv.call (Nat.lt_of_lt_of_le HW.out.bl HZ_n.out) hG21 _).nd HN_n.out)
   replace HW:=hide (HW.out.call hG21 hP21)
   clear hG21 hP21 hno
   have hc35:=HW.out.c0
   have hc36:=HW.out.c1
   have hf37:=HW.out.f1
   replace HW:=hide (HW.out.s1 (.int .i64 k0) (.string t0) (.int .i64 v0) (.slice a0 l0 c0))
   replace HN_n:=hide ((HW.out.ms1).nd HN_n.out)
   have hc38:=HW.out.c1
   have hl39:=HW.out.l1
   go_wp2_with fail
   generalize (((w21.setCell _ _).setCell _ _).setCell _ _).setCell _ _=w40 at *
   refine bodyPost_ret (v:=(.agg #[.int .i64 k0,.string t0,.int .i64 v0,.slice a0 l0 c0])) (by simp [results,Tryz.results163,go_sem,hc38,hl39]) rfl ?_
   exact HW.out.post HS.out (HI.out _ (r_bL0 HSg.out)) HL.out HZ_n.out HN_n.out
theorem sum_any (h:Ps w b g m ts) (hT:Two w b m) (hGl:T.Gl w) (hb5:4<b) (hgl:g<w.heap.size) (hF:Fits ts) (hlen:ts.length≤4000) (hMe:Meth 164 (.bound 2) b g m ts) (hLt:Later 164 (.bound 2) b g m ts):Calls Tryz.prog 153 #[.pointer (some ⟨b,0,none⟩)] w (PostN (.bound 1) w b g m ts):=by
 have HW:Hid (Wd w w b g m ts []):=Wd.start h hT hGl hb5 hgl
 have HS:Hid (ts <:+ ts):=List.suffix_refl _
 have HF:Hid (Fits ts):=hF
 have HLn:Hid (ts.length≤4000):=hlen
 have HMe:=hide hMe
 have HLt:=hide hLt
 clear hMe hLt
 clear h hT hGl hgl hF hlen
 go_enter Tryz.func153,Tryz.ntmps153
 replace HW:=hide (HW.out.alloc' w.heap.size (by simp) #[.int .i64 0,.string ⟨#[]⟩,.int .i64 0,.slice none 0 0] 24)
 go_wp2_with fail
 generalize w.alloc _=w1 at *
 go_at_call 163
 refine (row_sum HW.out.ps HW.out.two HW.out.glo hb5 HW.out.glt HF.out HLn.out HMe.out HLt.out).mono ?_
 rintro e w2 hp
 obtain ⟨r2,n_x,k_x,t_x,v_x,a_x,l_x,c_x,rfl,HR_x,HN_x,HZ_x,HL,HSx,HLs2,hS,hW,hG⟩|⟨r,hR,rfl,h1,h2⟩:=HW.out.okN HS.out hp
 rotate_left
 ·exact ⟨rfl,h1,_,h2,Or.inr ⟨hR,rfl⟩⟩
 replace HW:=hW
 replace HS:=hS
 clear hG hp
 have hc3:=HW.out.c0
 have hf4:=HW.out.f0
 replace HW:=hide (HW.out.s0 (.int .i64 k_x) (.string t_x) (.int .i64 v_x) (.slice a_x l_x c_x))
 replace HN_x:=hide ((HW.out.ms0).nd HN_x.out)
 have hc5:=HW.out.c0
 have hl6:=HW.out.l0
 go_wp2_with fail
 generalize (((w2.setCell _ _).setCell _ _).setCell _ _).setCell _ _=w7 at *
 refine bodyPost_ret (v:=(.agg #[.int .i64 k_x,.string t_x,.int .i64 v_x,.slice a_x l_x c_x])) (by simp [results,Tryz.results153,go_sem,hc5,hl6]) rfl ?_
 exact HW.out.post HS.out (HR_x.out) HL.out HZ_x.out HN_x.out
theorem product_any (h:Ps w b g m ts) (hT:Two w b m) (hGl:T.Gl w) (hb5:4<b) (hgl:g<w.heap.size) (hF:Fits ts) (hlen:ts.length≤4000) (hMe:Meth 173 (.bound 3) b g m ts) (hLt:Later 173 (.bound 3) b g m ts):Calls Tryz.prog 164 #[.pointer (some ⟨b,0,none⟩)] w (PostN (.bound 2) w b g m ts):=by
 have HW:Hid (Wd w w b g m ts []):=Wd.start h hT hGl hb5 hgl
 have HS:Hid (ts <:+ ts):=List.suffix_refl _
 have HF:Hid (Fits ts):=hF
 have HLn:Hid (ts.length≤4000):=hlen
 have HMe:=hide hMe
 have HLt:=hide hLt
 clear hMe hLt
 clear h hT hGl hgl hF hlen
 go_enter Tryz.func164,Tryz.ntmps164
 replace HW:=hide (HW.out.alloc' w.heap.size (by simp) #[.int .i64 0,.string ⟨#[]⟩,.int .i64 0,.slice none 0 0] 24)
 go_wp2_with fail
 generalize w.alloc _=w1 at *
 go_at_call 163
 refine (row_product HW.out.ps HW.out.two HW.out.glo hb5 HW.out.glt HF.out HLn.out HMe.out HLt.out).mono ?_
 rintro e w2 hp
 obtain ⟨r2,n_x,k_x,t_x,v_x,a_x,l_x,c_x,rfl,HR_x,HN_x,HZ_x,HL,HSx,HLs2,hS,hW,hG⟩|⟨r,hR,rfl,h1,h2⟩:=HW.out.okN HS.out hp
 rotate_left
 ·exact ⟨rfl,h1,_,h2,Or.inr ⟨hR,rfl⟩⟩
 replace HW:=hW
 replace HS:=hS
 clear hG hp
 have hc3:=HW.out.c0
 have hf4:=HW.out.f0
 replace HW:=hide (HW.out.s0 (.int .i64 k_x) (.string t_x) (.int .i64 v_x) (.slice a_x l_x c_x))
 replace HN_x:=hide ((HW.out.ms0).nd HN_x.out)
 have hc5:=HW.out.c0
 have hl6:=HW.out.l0
 go_wp2_with fail
 generalize (((w2.setCell _ _).setCell _ _).setCell _ _).setCell _ _=w7 at *
 refine bodyPost_ret (v:=(.agg #[.int .i64 k_x,.string t_x,.int .i64 v_x,.slice a_x l_x c_x])) (by simp [results,Tryz.results164,go_sem,hc5,hl6]) rfl ?_
 exact HW.out.post HS.out (HR_x.out) HL.out HZ_x.out HN_x.out
theorem expr_any (h:Ps w b g m ts) (hT:Two w b m) (hGl:T.Gl w) (hb5:4<b) (hgl:g<w.heap.size) (hF:Fits ts) (hlen:ts.length≤4000) (hMe:Meth 153 (.bound 1) b g m ts) (hLt:Later 153 (.bound 1) b g m ts):Calls Tryz.prog 143 #[.pointer (some ⟨b,0,none⟩)] w (PostN .expr w b g m ts):=by
 have HW:Hid (Wd w w b g m ts []):=Wd.start h hT hGl hb5 hgl
 have HS:Hid (ts <:+ ts):=List.suffix_refl _
 have HF:Hid (Fits ts):=hF
 have HLn:Hid (ts.length≤4000):=hlen
 have HMe:=hide hMe
 have HLt:=hide hLt
 clear hMe hLt
 clear h hT hGl hgl hF hlen
 go_enter Tryz.func143,Tryz.ntmps143
 replace HW:=hide (HW.out.alloc' w.heap.size (by simp) #[.int .i64 0,.string ⟨#[]⟩,.int .i64 0,.slice none 0 0] 24)
 go_wp2_with fail
 generalize w.alloc _=w1 at *
 go_at_call 153
 refine (HMe.out w1 HW.out.ps HW.out.two HW.out.glo HW.out.glt (HF.out.suf HS.out) (Nat.le_trans HS.out.length_le HLn.out)).mono ?_
 rintro e w2 hp
 obtain ⟨r2,n_x,k_x,t_x,v_x,a_x,l_x,c_x,rfl,HR_x,HN_x,HZ_x,HL,HSx,HLs2,hS,hW,hG⟩|⟨r,hR,rfl,h1,h2⟩:=HW.out.okN HS.out hp
 rotate_left
 ·exact ⟨rfl,h1,_,h2,Or.inr ⟨r_expr (r_bound0 (by omega) hR),rfl⟩⟩
 replace HW:=hW
 replace HS:=hS
 clear hG hp
 replace HW:=hide (HW.out.alloc' w2.heap.size (by simp) #[.int .i64 k_x,.string t_x,.int .i64 v_x,.slice a_x l_x c_x] 24)
 replace HN_x:=hide ((HW.out.ma (by simp)).nd HN_x.out)
 go_wp2_with fail
 generalize w2.alloc _=w3 at *
 go_at_call 154
 refine (operator_any HW.out.ps HW.out.glo 0).mono ?_
 rintro e w4 ⟨hG4,⟨j,hj,hh,rfl,hP4⟩|⟨hno,rfl,hP4⟩⟩
 ·have HSg:Hid (sign (hd (tk r2))=(((0:Nat):Int),(opr j).2.1)):=(sign_hit (HF.out.suf HS.out) hj hh).1
  have HL:Hid (r2.tail.length<ts.length):=Nat.lt_of_lt_of_le (hd_lt rfl (sign_hit (HF.out.suf HS.out) hj hh).2) HS.out.length_le
  have HLs:Hid (r2.tail.length<r2.length):=hd_lt rfl (sign_hit (HF.out.suf HS.out) hj hh).2
  replace HN_x:=hide ((Mv.call (Nat.lt_of_lt_of_le HW.out.bl HZ_x.out) hG4 _).nd HN_x.out)
  replace HW:=hide (HW.out.call hG4 hP4)
  replace HS:=hide ((List.tail_suffix _).trans HS.out)
  clear hG4 hP4 hh
  generalize (opr j).2.1=op at *
  clear hj j
  go_wp2_with fail
  replace HN_x:=hide ((Mv.quiet (grown_drew w4)).nd HN_x.out)
  replace HW:=hide (HW.out.quiet (grown_drew w4))
  refine wp_region_held_drew (S:=(fun _=>True)) (by kernel_rfl) trivial fun hHd=>?_
  generalize w4.drew=w5 at *
  refine tq 0 ?_
  simp only [qq]
  refine tq 2 ?_
  simp only [qq]
  refine rq2 1 3 (fun K hK=>?_) fun K hK=>?_
  ·have hc6:=HW.out.c0
   go_simp
   clear hc6
   refine hK.out _ _ trivial fun hHd=>?_
   clear hK K
   try simp only [qq]
   refine rq 3 fun K hK=>?_
   go_simp
   refine (HLt.out r2.tail HS.out HL.out w5 HW.out.ps HW.out.two HW.out.glo HW.out.glt (HF.out.suf HS.out) (Nat.le_trans HS.out.length_le HLn.out)).mono ?_
   rintro e w7 hp
   obtain ⟨r7,n_y,k_y,t_y,v_y,a_y,l_y,c_y,rfl,HR_y,HN_y,HZ_y,HL,HSy,HLs2,hS,hW,hG⟩|⟨r,hR,rfl,h1,h2⟩:=HW.out.okN HS.out hp
   rotate_left
   ·exact ⟨rfl,h1,_,h2,Or.inr ⟨r_expr (r_bound1 (by omega) HR_x.out (r_bL1 HSg.out (by rw [← tk_tail];exact hR))),rfl⟩⟩
   replace HN_x:=hide ((Mv.call (Nat.lt_of_lt_of_le HW.out.bl HZ_x.out) hG _).nd HN_x.out)
   replace HW:=hW
   replace HS:=hS
   clear hG hp
   refine hK.out _ _ trivial fun hHd=>?_
   clear hK K
   try simp only [qq]
   refine rq 4 fun K hK=>?_
   go_simp
   refine (operation_any w7 (Av w.heap.size [(w2.heap.size,#[.int .i64 k_x,.string t_x,.int .i64 v_x,.slice a_x l_x c_x],24),(w.heap.size,#[.int .i64 0,.string ⟨#[]⟩,.int .i64 0,.slice none 0 0],24)]) n_x n_y (.agg #[.int .i64 k_x,.string t_x,.int .i64 v_x,.slice a_x l_x c_x]) (.agg #[.int .i64 k_y,.string t_y,.int .i64 v_y,.slice a_y l_y c_y]) op (HN_x.out.less HZ_x.out) (HN_y.out.less HZ_y.out)).mono ?_
   rintro e w8 ⟨hG8,vv,rfl,hN⟩
   obtain ⟨k_z,t_z,v_z,a_z,l_z,c_z,rfl⟩:=hN.form
   have HN_z:=hide (HW.out.mixed HW.out.grown.size hN)
   have HZ_z:Hid (w.heap.size≤w.heap.size):=Nat.le_refl _
   clear HN_x HN_y HZ_x HZ_y
   replace HW:=hide (HW.out.quiet hG8)
   clear hG8 hN
   refine hK.out _ _ trivial fun hHd=>?_
   clear hK K
   try simp only [qq]
   refine rq 5 fun K hK=>?_
   have hc9:=HW.out.c0
   have hf10:=HW.out.f0
   replace HW:=hide (HW.out.s0 (.int .i64 k_z) (.string t_z) (.int .i64 v_z) (.slice a_z l_z c_z))
   replace HN_z:=hide ((HW.out.ms0).nd HN_z.out)
   go_simp
   refine hK.out _ _ trivial fun hHd=>?_
   clear hK K
   try simp only [qq]
   generalize (((w8.setCell _ _).setCell _ _).setCell _ _).setCell _ _=w11 at *
   clear hc9 hf10
   refine wpAnyH_done (by kernel_rfl) ?_ _
   have hc12:=HW.out.c0
   have hc13:=HW.out.c1
   have hf14:=HW.out.f1
   replace HW:=hide (HW.out.s1 (.int .i64 k_z) (.string t_z) (.int .i64 v_z) (.slice a_z l_z c_z))
   replace HN_z:=hide ((HW.out.ms1).nd HN_z.out)
   have hc15:=HW.out.c1
   have hl16:=HW.out.l1
   go_wp2_with fail
   generalize (((w11.setCell _ _).setCell _ _).setCell _ _).setCell _ _=w17 at *
   refine bodyPost_ret (v:=(.agg #[.int .i64 k_z,.string t_z,.int .i64 v_z,.slice a_z l_z c_z])) (by simp [results,Tryz.results143,go_sem,hc15,hl16]) rfl ?_
   exact HW.out.post HS.out (r_expr (r_bound1 (by omega) HR_x.out (r_bL3 HSg.out (by rw [← tk_tail];exact HR_y.out)))) HL.out HZ_z.out HN_z.out
  ·go_simp
   refine (HLt.out r2.tail HS.out HL.out w5 HW.out.ps HW.out.two HW.out.glo HW.out.glt (HF.out.suf HS.out) (Nat.le_trans HS.out.length_le HLn.out)).mono ?_
   rintro e w18 hp
   obtain ⟨r18,n_y,k_y,t_y,v_y,a_y,l_y,c_y,rfl,HR_y,HN_y,HZ_y,HL,HSy,HLs2,hS,hW,hG⟩|⟨r,hR,rfl,h1,h2⟩:=HW.out.okN HS.out hp
   rotate_left
   ·exact ⟨rfl,h1,_,h2,Or.inr ⟨r_expr (r_bound1 (by omega) HR_x.out (r_bL1 HSg.out (by rw [← tk_tail];exact hR))),rfl⟩⟩
   replace HN_x:=hide ((Mv.call (Nat.lt_of_lt_of_le HW.out.bl HZ_x.out) hG _).nd HN_x.out)
   replace HW:=hW
   replace HS:=hS
   clear hG hp
   refine hK.out _ _ trivial fun hHd=>?_
   clear hK K
   try simp only [qq]
   refine rq 1 fun K hK=>?_
   have hc19:=HW.out.c0
   go_simp
   clear hc19
   refine hK.out _ _ trivial fun hHd=>?_
   clear hK K
   try simp only [qq]
   refine rq 4 fun K hK=>?_
   go_simp
   refine (operation_any w18 (Av w.heap.size [(w2.heap.size,#[.int .i64 k_x,.string t_x,.int .i64 v_x,.slice a_x l_x c_x],24),(w.heap.size,#[.int .i64 0,.string ⟨#[]⟩,.int .i64 0,.slice none 0 0],24)]) n_x n_y (.agg #[.int .i64 k_x,.string t_x,.int .i64 v_x,.slice a_x l_x c_x]) (.agg #[.int .i64 k_y,.string t_y,.int .i64 v_y,.slice a_y l_y c_y]) op (HN_x.out.less HZ_x.out) (HN_y.out.less HZ_y.out)).mono ?_
   rintro e w20 ⟨hG20,vv,rfl,hN⟩
   obtain ⟨k_z,t_z,v_z,a_z,l_z,c_z,rfl⟩:=hN.form
   have HN_z:=hide (HW.out.mixed HW.out.grown.size hN)
   have HZ_z:Hid (w.heap.size≤w.heap.size):=Nat.le_refl _
   clear HN_x HN_y HZ_x HZ_y
   replace HW:=hide (HW.out.quiet hG20)
   clear hG20 hN
   refine hK.out _ _ trivial fun hHd=>?_
   clear hK K
   try simp only [qq]
   refine rq 5 fun K hK=>?_
   have hc21:=HW.out.c0
   have hf22:=HW.out.f0
   replace HW:=hide (HW.out.s0 (.int .i64 k_z) (.string t_z) (.int .i64 v_z) (.slice a_z l_z c_z))
   replace HN_z:=hide ((HW.out.ms0).nd HN_z.out)
   go_simp
   refine hK.out _ _ trivial fun hHd=>?_
   clear hK K
   try simp only [qq]
   generalize (((w20.setCell _ _).setCell _ _).setCell _ _).setCell _ _=w23 at *
   clear hc21 hf22
   refine wpAnyH_done (by kernel_rfl) ?_ _
   have hc24:=HW.out.c0
   have hc25:=HW.out.c1
   have hf26:=HW.out.f1
   replace HW:=hide (HW.out.s1 (.int .i64 k_z) (.string t_z) (.int .i64 v_z) (.slice a_z l_z c_z))
   replace HN_z:=hide ((HW.out.ms1).nd HN_z.out)
   have hc27:=HW.out.c1
   have hl28:=HW.out.l1
   go_wp2_with fail
   generalize (((w23.setCell _ _).setCell _ _).setCell _ _).setCell _ _=w29 at *
   refine bodyPost_ret (v:=(.agg #[.int .i64 k_z,.string t_z,.int .i64 v_z,.slice a_z l_z c_z])) (by simp [results,Tryz.results143,go_sem,hc27,hl28]) rfl ?_
   exact HW.out.post HS.out (r_expr (r_bound1 (by omega) HR_x.out (r_bL3 HSg.out (by rw [← tk_tail];exact HR_y.out)))) HL.out HZ_z.out HN_z.out
 ·have HSg:Hid (¬ (sign (hd (tk r2))).1=((0:Nat):Int)):=sign_none (HF.out.suf HS.out) (by decide) hno
  replace HN_x:=hide ((Mv.call (Nat.lt_of_lt_of_le HW.out.bl HZ_x.out) hG4 _).nd HN_x.out)
  replace HW:=hide (HW.out.call hG4 hP4)
  clear hG4 hP4 hno
  have hc30:=HW.out.c0
  have hc31:=HW.out.c1
  have hf32:=HW.out.f1
  replace HW:=hide (HW.out.s1 (.int .i64 k_x) (.string t_x) (.int .i64 v_x) (.slice a_x l_x c_x))
  replace HN_x:=hide ((HW.out.ms1).nd HN_x.out)
  have hc33:=HW.out.c1
  have hl34:=HW.out.l1
  go_wp2_with fail
  generalize (((w4.setCell _ _).setCell _ _).setCell _ _).setCell _ _=w35 at *
  refine bodyPost_ret (v:=(.agg #[.int .i64 k_x,.string t_x,.int .i64 v_x,.slice a_x l_x c_x])) (by simp [results,Tryz.results143,go_sem,hc33,hl34]) rfl ?_
  exact HW.out.post HS.out (r_expr (r_bound1 (by omega) HR_x.out (r_bL0 HSg.out))) HL.out HZ_x.out HN_x.out
end Go.Proofs.YthcfianhdkolhaaGreatDoor.Y
