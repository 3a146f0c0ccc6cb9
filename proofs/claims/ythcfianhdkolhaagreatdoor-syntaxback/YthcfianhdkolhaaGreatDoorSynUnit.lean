/- SynBack SynExpr SynUnit -/
import Derived.Test.YthcfianhdkolhaaGreatDoorSynRule
namespace Go.Proofs.YthcfianhdkolhaaGreatDoor.S
set_option linter.unusedVariables false
set_option linter.unusedSimpArgs false
theorem hd_app {a:List Tk} (h:a≠[]) (b:List Tk):hd (a++b)=hd a:=by
 cases a with
 | nil=>exact absurd rfl h
 | cons t r=>rfl
theorem hd_wd (s:List UInt8) (r:List Tk):hd (wd s::r)=s:=by show Tk.txt _=s;unfold Tk.txt;rw [if_neg (show ¬ ((1:Int)=2∨(1:Int)=3) by decide)]
theorem hd_sg (s:List UInt8) (r:List Tk):hd (sg s::r)=s:=by show Tk.txt _=s;unfold Tk.txt;rw [if_neg (show ¬ ((4:Int)=2∨(4:Int)=3) by decide)]
abbrev OkH (s:List UInt8):Prop:=s≠sRP∧s≠sDOTS∧s≠sRB
theorem back_rowsL (w:Nat) (tok:Nd→List Tk) (dots:Bool) (hw:dots=true→w<2):∀ (m:List Nd) (l:List Nd) (rest:List Tk),(m≠[]∨dots=true) →
  (∀ x,x∈m→tok x≠[]∧OkH (hd (tok x))∧∀ r,(hd r=sCOMMA∨hd r=sRP)→R (.item w) (tok x++r) (.ok (.nd x) r)) →
  R (.rowsL w l) (joinT (m.map tok++(if dots=true then [[sg sDOTS]] else []))++(sg sRP::rest)) (.ok (.row (l++m) dots) rest)
 | [],l,rest,hne,_=>by
  cases dots with
  | false=>simp at hne
  | true=>
   have h1:hd ([sg sDOTS]++(sg sRP::rest))=sDOTS:=hd_sg _ _
   have:=r_rowsD (w:=w) (l:=l) (hw rfl) h1 (hd_sg _ _)
   simpa [joinT] using this
 | [x],l,rest,_,hx=>by
  obtain ⟨h1,h2,h3⟩:=hx x (by simp)
  cases dots with
  | false=>
   have e:joinT ([x].map tok++(if false=true then [[sg sDOTS]] else []))=tok x:=by simp [joinT]
   rw [e]
   refine r_rowsE (by rw [hd_app h1];exact h2.2.1) (h3 _ (Or.inr (hd_sg _ _))) (hd_sg _ _)
  | true=>
   have e:joinT ([x].map tok++(if true=true then [[sg sDOTS]] else []))++(sg sRP::rest)=tok x++(sg sCOMMA::sg sDOTS::sg sRP::rest):=by simp [joinT]
   rw [e]
   refine r_rowsM (by rw [hd_app h1];exact h2.2.1) (h3 _ (Or.inl (hd_sg _ _))) (hd_sg _ _) ?_
   exact r_rowsD (hw rfl) (hd_sg _ _) (hd_sg _ _)
 | x::y::m,l,rest,_,hx=>by
  obtain ⟨h1,h2,h3⟩:=hx x (by simp)
  have e:joinT ((x::y::m).map tok++(if dots=true then [[sg sDOTS]] else []))++(sg sRP::rest)=tok x++(sg sCOMMA::(joinT ((y::m).map tok++(if dots=true then [[sg sDOTS]] else []))++(sg sRP::rest))):=by simp [joinT]
  rw [e]
  refine r_rowsM (by rw [hd_app h1];exact h2.2.1) (h3 _ (Or.inl (hd_sg _ _))) (hd_sg _ _) ?_
  have:=back_rowsL w tok dots hw (y::m) (l++[x]) rest (Or.inl (by simp)) (fun z hz=>hx z (by simp [List.mem_cons.1 hz]))
  simpa using this
theorem joinT_hd (tok:Nd→List Tk) (dots:Bool) (m:List Nd) (hne:m≠[]∨dots=true) (hx:∀ x,x∈m→tok x≠[]∧OkH (hd (tok x))) (b:List Tk):hd (joinT (m.map tok++(if dots=true then [[sg sDOTS]] else []))++b)≠sRP:=by
 cases m with
 | nil=>
  rcases hne with h|h
  ·exact absurd rfl h
  ·subst h
   show hd (sg sDOTS::_)≠_
   rw [hd_sg]
   decide
 | cons x r=>
  obtain ⟨h1,h2⟩:=hx x (by simp)
  have:∃ u,joinT ((x::r).map tok++(if dots=true then [[sg sDOTS]] else []))=tok x++u:=by
   cases r with
   | nil=>cases dots<;>simp [joinT]
   | cons y r=>exact ⟨_,rfl⟩
  obtain ⟨u,e⟩:=this
  rw [e,List.append_assoc,hd_app h1]
  exact h2.1
theorem back_rows (w:Nat) (tok:Nd→List Tk) (dots:Bool) (hw:dots=true→w<2) (m:List Nd) (rest:List Tk)
  (hx:∀ x,x∈m→tok x≠[]∧OkH (hd (tok x))∧∀ r,(hd r=sCOMMA∨hd r=sRP)→R (.item w) (tok x++r) (.ok (.nd x) r)):
  R (.rows w) (rowT (m.map tok) dots++rest) (.ok (.row m dots) rest):=by
 unfold rowT
 by_cases hne:m≠[]∨dots=true
 ·refine r_rows w (hd_sg _ _) ?_ ?_
  ·show hd ((joinT _++[sg sRP])++rest)≠_
   rw [List.append_assoc]
   exact joinT_hd tok dots m hne (fun x h=>⟨(hx x h).1,(hx x h).2.1⟩) _
  ·have:=back_rowsL w tok dots hw m [] rest hne hx
   show R _ ((joinT _++[sg sRP])++rest) _
   rw [List.append_assoc]
   simpa using this
 ·have h1:m=[]:=by
   cases m with
   | nil=>rfl
   | cons a b=>exact absurd (Or.inl (by simp)) hne
  have h2:dots=false:=by
   cases dots with
   | false=>rfl
   | true=>exact absurd (Or.inr rfl) hne
  subst h1 h2
  exact r_rows0 w (hd_sg _ _) (hd_sg _ _)
theorem b2n_one (d:Bool):decide (b2n d=1)=d:=by cases d<;>rfl
theorem ty_hd {t:Nd} (h:IsTy t):shT t≠[]∧OkH (hd (shT t))∧(hd (shT t)=sINT∨hd (shT t)=sLONG∨hd (shT t)=sFN∨nameB (hd (shT t))=true):=by
 cases h with
 | int=>
  have e:shT (.mk 9 [] 0 [])=[wd sINT]:=by rw [shT_mk];simp [shK]
  rw [e,hd_wd]
  exact ⟨by simp,by decide,Or.inl rfl⟩
 | long=>
  have e:shT (.mk 10 [] 0 [])=[wd sLONG]:=by rw [shT_mk];simp [shK]
  rw [e,hd_wd]
  exact ⟨by simp,by decide,Or.inr (Or.inl rfl)⟩
 | named s hs=>
  have e:shT (.mk 11 s 0 [])=[wd s]:=by rw [shT_mk];simp [shK]
  rw [e,hd_wd]
  obtain ⟨a1,a2,a3,a4,a5,a6,a7,a8,a9,a10,a11,a12,a13,a14,a15,a16,a17,a18,a19,a20,_⟩:=name_ne hs
  exact ⟨by simp,⟨a15,a20,a17⟩,Or.inr (Or.inr (Or.inr hs))⟩
 | fn l d t hl ht=>
  have e:shT (.mk 12 [] (b2n d) (l++[t]))=wd sFN::(rowT (l.map shT) d++shT t):=by rw [shT_mk];simp [shK,lastT,b2n_one]
  rw [e,hd_wd]
  exact ⟨by simp,by decide,Or.inr (Or.inr (Or.inl rfl))⟩
theorem back_typ {t:Nd} (h:IsTy t):∀ rest,R .typ (shT t++rest) (.ok (.nd t) rest):=by
 induction h with
 | int=>intro rest;rw [shT_mk];exact r_int (hd_wd _ _)
 | long=>intro rest;rw [shT_mk];exact r_long (hd_wd _ _)
 | named s hs=>
  intro rest
  have e:shT (.mk 11 s 0 [])++rest=wd s::rest:=by rw [shT_mk];simp [shK]
  rw [e]
  have:=r_named (ts:=wd s::rest) (by rw [hd_wd];exact hs)
  rwa [hd_wd] at this
 | fn l d t hl ht ihl iht=>
  intro rest
  have e:shT (.mk 12 [] (b2n d) (l++[t]))++rest=wd sFN::(rowT (l.map shT) d++(shT t++rest)):=by rw [shT_mk];simp [shK,lastT,b2n_one]
  rw [e]
  exact r_fn (hd_wd _ _) (back_rows 0 shT d (fun _=>by omega) l _ (fun x hx=>⟨(ty_hd (hl x hx)).1,(ty_hd (hl x hx)).2.1,fun r _=>r_item0 (ihl x hx r)⟩)) (iht rest)
abbrev St (s:List UInt8):Prop:=s≠sDOT∧s≠sLP∧s≠sLB
structure Bk (e:Nd):Prop where
 ne:shT e≠[]
 ok:OkH (hd (shT e))
 post:bindN e=4→∀ rest,hd rest≠sLB→hd (shT e)≠sMINUS∧hd (shT e)≠sNOT∧∃ x r,R .first (shT e++rest) (.ok (.nd x) r)∧∀ res,R (.postL e) rest res→R (.postL x) r res
 una:bindN e=3→∀ rest,St (hd rest)→R .unary (shT e++rest) (.ok (.nd e) rest)
 bnd:∀ k:Nat,(k=1∨k=2)→bindN e=k→∀ rest,St (hd rest)→(sign (hd rest)).1≤k→∀ res,R (.boundL k e) rest res→R (.bound k) (shT e++rest) res
 zero:bindN e=0→∀ rest,St (hd rest)→(sign (hd rest)).1<0→R (.bound 0) (shT e++rest) (.ok (.nd e) rest)
 rng:bindN e=0∨bindN e=1∨bindN e=2∨bindN e=3∨bindN e=4
variable {e : Nd} {rest : List Tk}
theorem una_of (h:Bk e) (hb:3≤bindN e) (hs:St (hd rest)):R .unary (shT e++rest) (.ok (.nd e) rest):=by
 by_cases h3:bindN e=3
 ·exact h.una h3 rest hs
 ·have h4:bindN e=4:=by rcases h.rng with a|a|a|a|a<;>omega
  obtain ⟨m1,m2,x,r,f1,f2⟩:=h.post h4 rest hs.2.2
  exact r_unary (by rw [hd_app h.ne];exact m1) (by rw [hd_app h.ne];exact m2) f1 (f2 _ (r_postE hs.1 hs.2.1))
theorem up {ts r:List Tk} {x:Nd} (a:R .unary ts (.ok (.nd x) r)):∀ k:Nat,k≤3→(sign (hd r)).1<k→R (.bound k) ts (.ok (.nd x) r):=by
 have b3:=r_bound3 a
 have b2:(sign (hd r)).1<(2:Nat)→R (.bound 2) ts (.ok (.nd x) r):=fun h=>r_bound (k:=2) (by omega) b3 (r_stop (by omega))
 have b1:(sign (hd r)).1<(1:Nat)→R (.bound 1) ts (.ok (.nd x) r):=fun h=>r_bound (k:=1) (by omega) (b2 (by omega)) (r_stop (by omega))
 have b0:(sign (hd r)).1<(0:Nat)→R (.bound 0) ts (.ok (.nd x) r):=fun h=>r_bound (k:=0) (by omega) (b1 (by omega)) (r_stop (by omega))
 intro k hk h
 have:k=0∨k=1∨k=2∨k=3:=by omega
 rcases this with rfl|rfl|rfl|rfl
 ·exact b0 h
 ·exact b1 h
 ·exact b2 h
 ·exact b3
theorem lvl (h:Bk e) (k:Nat) (hk:k≤3) (hb:(k:Int)≤bindN e) (hs:St (hd rest)) (hg:(sign (hd rest)).1<k):R (.bound k) (shT e++rest) (.ok (.nd e) rest):=by
 rcases h.rng with b|b|b|b|b
 ·obtain rfl:k=0:=by omega
  exact h.zero b rest hs hg
 ·have b1:(sign (hd rest)).1<(1:Nat)→R (.bound 1) (shT e++rest) (.ok (.nd e) rest):=fun hh=>h.bnd 1 (Or.inl rfl) b rest hs (by omega) _ (r_stop (by omega))
  have:k=0∨k=1:=by omega
  rcases this with rfl|rfl
  ·exact r_bound (by omega) (b1 (by omega)) (r_stop (by omega))
  ·exact b1 hg
 ·have b2:(sign (hd rest)).1<(2:Nat)→R (.bound 2) (shT e++rest) (.ok (.nd e) rest):=fun hh=>h.bnd 2 (Or.inr rfl) b rest hs (by omega) _ (r_stop (by omega))
  have b1:(sign (hd rest)).1<(1:Nat)→R (.bound 1) (shT e++rest) (.ok (.nd e) rest):=fun hh=>r_bound (by omega) (b2 (by omega)) (r_stop (by omega))
  have:k=0∨k=1∨k=2:=by omega
  rcases this with rfl|rfl|rfl
  ·exact r_bound (by omega) (b1 (by omega)) (r_stop (by omega))
  ·exact b1 hg
  ·exact b2 hg
 ·exact up (una_of h (by omega) hs) k hk hg
 ·exact up (una_of h (by omega) hs) k hk hg
theorem cont (h:Bk e) (k:Nat) (hk:k=1∨k=2) (hb:(k:Int)≤bindN e) (hs:St (hd rest)) (hg:(sign (hd rest)).1≤k) (res:Res) (a:R (.boundL k e) rest res):R (.bound k) (shT e++rest) res:=by
 by_cases b:bindN e=k
 ·exact h.bnd k hk b rest hs hg res a
 ·exact r_bound (by omega) (lvl h (k+1) (by omega) (by omega) hs (by omega)) a
theorem st_rp (r:List Tk):St (hd (sg sRP::r))∧(sign (hd (sg sRP::r))).1<(0:Nat):=by rw [hd_sg];decide
theorem paren (h:Bk e):R .first (sg sLP::(shT e++[sg sRP])++rest) (.ok (.nd e) rest):=by
 have hex:R .expr (shT e++(sg sRP::rest)) (.ok (.nd e) (sg sRP::rest)):=r_expr (lvl h 0 (by omega) (by rcases h.rng with a|a|a|a|a<;>omega) (st_rp rest).1 (st_rp rest).2)
 have hr:=r_round (ts:=sg sLP::(shT e++(sg sRP::rest))) (hd_sg _ _) hex (hd_sg _ _)
 have e1:sg sLP::(shT e++[sg sRP])++rest=sg sLP::(shT e++(sg sRP::rest)):=by simp
 rw [e1]
 exact r_first_round (hd_sg _ _) hr
theorem z_at_ne (h:Bk e) (k:Int):atT (bindN e) k (shT e)≠[]∧OkH (hd (atT (bindN e) k (shT e))):=by
 unfold atT
 split
 ·exact ⟨by simp,by rw [hd_sg];decide⟩
 ·exact ⟨h.ne,h.ok⟩
theorem at_post (h:Bk e) (hl:hd rest≠sLB):hd (atT (bindN e) 4 (shT e))≠sMINUS∧hd (atT (bindN e) 4 (shT e))≠sNOT∧∃ x r,R .first (atT (bindN e) 4 (shT e)++rest) (.ok (.nd x) r)∧∀ res,R (.postL e) rest res→R (.postL x) r res:=by
 unfold atT
 split
 ·exact ⟨by rw [hd_sg];decide,by rw [hd_sg];decide,e,rest,paren h,fun _ a=>a⟩
 ·rename_i hb
  exact h.post (by rcases h.rng with a|a|a|a|a<;>omega) rest hl
theorem at_una (h:Bk e) (hs:St (hd rest)):R .unary (atT (bindN e) 3 (shT e)++rest) (.ok (.nd e) rest):=by
 unfold atT
 split
 ·exact r_unary (by show hd (sg sLP::_)≠_;rw [hd_sg];decide) (by show hd (sg sLP::_)≠_;rw [hd_sg];decide) (paren h) (r_postE hs.1 hs.2.1)
 ·exact una_of h (by omega) hs
theorem at_lvl (h:Bk e) (k:Nat) (hk:k≤3) (hs:St (hd rest)) (hg:(sign (hd rest)).1<k):R (.bound k) (atT (bindN e) k (shT e)++rest) (.ok (.nd e) rest):=by
 unfold atT
 split
 ·exact up (r_unary (by show hd (sg sLP::_)≠_;rw [hd_sg];decide) (by show hd (sg sLP::_)≠_;rw [hd_sg];decide) (paren h) (r_postE hs.1 hs.2.1)) k hk hg
 ·exact lvl h k hk (by omega) hs hg
theorem at_cont (h:Bk e) (k:Nat) (hk:k=1∨k=2) (hs:St (hd rest)) (hg:(sign (hd rest)).1≤k) (res:Res) (a:R (.boundL k e) rest res):R (.bound k) (atT (bindN e) k (shT e)++rest) res:=by
 unfold atT
 split
 ·exact r_bound (by omega) (up (r_unary (by show hd (sg sLP::_)≠_;rw [hd_sg];decide) (by show hd (sg sLP::_)≠_;rw [hd_sg];decide) (paren h) (r_postE hs.1 hs.2.1)) (k+1) (by omega) (by omega)) a
 ·exact cont h k hk (by omega) hs hg res a
theorem bk_first (hb:bindN e=4) (hne:shT e≠[]) (hok:OkH (hd (shT e))) (hm:hd (shT e)≠sMINUS) (hn:hd (shT e)≠sNOT) (hf:∀ rest,hd rest≠sLB→R .first (shT e++rest) (.ok (.nd e) rest)):Bk e:=
 ⟨hne,hok,fun _ rest hl=>⟨hm,hn,e,rest,hf rest hl,fun _ a=>a⟩,fun h=>by omega,fun k hk h=>by omega,fun h=>by omega,by omega⟩
theorem b4 {k:Int} {s:List UInt8} {v:Int} {l:List Nd} (h1:k≠28) (h2:k≠29) (h3:k≠32):bindN (.mk k s v l)=4:=by simp [bindN,h1,h2,h3]
theorem back_makeL (s:List UInt8):∀ (m:List Nd) (l:List Nd) (rest:List Tk),m≠[]→(∀ x,x∈m→Bk x)→R (.makeL s l) (joinT (m.map shT)++(sg sRB::rest)) (.ok (.nd (.mk 27 s 0 (l++m))) rest)
 | [],_,_,h,_=>absurd rfl h
 | [x],l,rest,_,hx=>by
  have h:=hx x (by simp)
  refine r_makeE (r_expr (lvl h 0 (by omega) (by rcases h.rng with a|a|a|a|a<;>omega) ?_ ?_)) (hd_sg _ _)
  ·rw [hd_sg];decide
  ·rw [hd_sg];decide
 | x::y::m,l,rest,_,hx=>by
  have h:=hx x (by simp)
  have e:joinT ((x::y::m).map shT)++(sg sRB::rest)=shT x++(sg sCOMMA::(joinT ((y::m).map shT)++(sg sRB::rest))):=by simp [joinT]
  rw [e]
  refine r_makeM (r_expr (lvl h 0 (by omega) (by rcases h.rng with a|a|a|a|a<;>omega) ?_ ?_)) (hd_sg _ _) ?_
  ·rw [hd_sg];decide
  ·rw [hd_sg];decide
  ·have:=back_makeL s (y::m) (l++[x]) rest (by simp) (fun z hz=>hx z (by simp [List.mem_cons.1 hz]))
   simpa using this
theorem back_args (l:List Nd) (hl:∀ y,y∈l→Bk y) (rest:List Tk):R (.rows 2) (rowT (l.map shT) false++rest) (.ok (.row l false) rest):=
 back_rows 2 shT false (fun h=>by cases h) l rest (fun x hx=>by
  have h:=hl x hx
  refine ⟨h.ne,h.ok,fun r hr=>r_item2 (r_expr (lvl h 0 (by omega) (by rcases h.rng with a|a|a|a|a<;>omega) ?_ ?_))⟩
  ·rcases hr with hr|hr<;>rw [hr]<;>decide
  ·rcases hr with hr|hr<;>rw [hr]<;>decide)
theorem round_of {w:List UInt8} (h:Bk e):R .round ([sg sLP]++shT e++[sg sRP]++rest) (.ok (.nd e) rest):=by
 have hex:R .expr (shT e++(sg sRP::rest)) (.ok (.nd e) (sg sRP::rest)):=r_expr (lvl h 0 (by omega) (by rcases h.rng with a|a|a|a|a<;>omega) (st_rp rest).1 (st_rp rest).2)
 have hr:=r_round (ts:=sg sLP::(shT e++(sg sRP::rest))) (hd_sg _ _) hex (hd_sg _ _)
 simpa using hr
end Go.Proofs.YthcfianhdkolhaaGreatDoor.S
namespace Go.Proofs.YthcfianhdkolhaaGreatDoor.S
set_option linter.unusedVariables false
set_option linter.unusedSimpArgs false
theorem op_sign {v:Int} (h:isOp v):(sign (opSign v)).1=opBind v∧(sign (opSign v)).2=v∧St (opSign v)∧(opBind v=0∨opBind v=1∨opBind v=2):=by
 rcases h with rfl|rfl|rfl|rfl|rfl|rfl|rfl|rfl|rfl|rfl<;>decide
theorem numT_hd {kind v:Int} (hv:0≤v) (hk:kind=2∨kind=3):numT kind v≠[]∧hd (numT kind v)=[]:=by
 have e:numT kind v=[⟨kind,decN v.toNat⟩]:=by unfold numT;rw [if_neg (by omega)]
 rw [e]
 refine ⟨by simp,?_⟩
 show Tk.txt _=[]
 unfold Tk.txt
 rw [if_pos hk]
theorem bk_of {e:Nd} (h:IsEx e):Bk e:=by
 induction h with
 | num v h1 h2=>
  have e:shT (.mk 21 [] v [])=numT 2 v:=by rw [shT_mk];simp [shK]
  obtain ⟨n1,n2⟩:=numT_hd (kind:=2) h1 (Or.inl rfl)
  refine bk_first (b4 (by decide) (by decide) (by decide)) (by rw [e];exact n1) (by rw [e,n2];decide) (by rw [e,n2];decide) (by rw [e,n2];decide) (fun rest _=>?_)
  rw [e]
  have:=r_num (r:=rest) 2 v h1 (Or.inl rfl)
  simpa using this
 | long v h1 h2=>
  have e:shT (.mk 22 [] v [])=numT 3 v:=by rw [shT_mk];simp [shK]
  obtain ⟨n1,n2⟩:=numT_hd (kind:=3) h1 (Or.inr rfl)
  refine bk_first (b4 (by decide) (by decide) (by decide)) (by rw [e];exact n1) (by rw [e,n2];decide) (by rw [e,n2];decide) (by rw [e,n2];decide) (fun rest _=>?_)
  rw [e]
  have:=r_num (r:=rest) 3 v h1 (Or.inr rfl)
  simpa using this
 | name s hs=>
  have e:shT (.mk 23 s 0 [])=[wd s]:=by rw [shT_mk];simp [shK]
  obtain ⟨a1,a2,a3,a4,a5,a6,a7,a8,a9,a10,a11,a12,a13,a14,a15,a16,a17,a18,a19,a20,a21,a22,a23,a24,a25,a26⟩:=name_ne hs
  refine bk_first (b4 (by decide) (by decide) (by decide)) (by rw [e];simp) (by rw [e,hd_wd];exact ⟨a15,a20,a17⟩) (by rw [e,hd_wd];exact a23) (by rw [e,hd_wd];exact a24) (fun rest hl=>?_)
  rw [e]
  have:=r_name (ts:=wd s::rest) (by rw [hd_wd];exact hs) hl
  rwa [hd_wd] at this
 | addr s hs=>
  have e:shT (.mk 26 s 0 [])=[sg sAMP,wd s]:=by rw [shT_mk];simp [shK]
  refine bk_first (b4 (by decide) (by decide) (by decide)) (by rw [e];simp) (by rw [e,hd_sg];decide) (by rw [e,hd_sg];decide) (by rw [e,hd_sg];decide) (fun rest hl=>?_)
  rw [e]
  have:=r_addr (ts:=sg sAMP::wd s::rest) (hd_sg _ _) (by show nameB (hd (wd s::rest))=true;rw [hd_wd];exact hs)
  have e2:hd (sg sAMP::wd s::rest).tail=s:=hd_wd _ _
  rwa [e2] at this
 | count=>
  have e:shT (.mk 33 [] 0 [])=[wd sCOUNT]:=by rw [shT_mk];simp [shK]
  refine bk_first (b4 (by decide) (by decide) (by decide)) (by rw [e];simp) (by rw [e,hd_wd];decide) (by rw [e,hd_wd];decide) (by rw [e,hd_wd];decide) (fun rest hl=>?_)
  rw [e]
  exact r_count (hd_wd _ _)
 | toInt x hx ih=>
  have e:shT (.mk 30 [] 0 [x])=wd sINT::([sg sLP]++shT x++[sg sRP]):=by rw [shT_mk];simp [shK]
  refine bk_first (b4 (by decide) (by decide) (by decide)) (by rw [e];simp) (by rw [e,hd_wd];decide) (by rw [e,hd_wd];decide) (by rw [e,hd_wd];decide) (fun rest hl=>?_)
  rw [e]
  exact r_toInt (hd_wd _ _) (round_of (w:=[]) ih)
 | toLong x hx ih=>
  have e:shT (.mk 31 [] 0 [x])=wd sLONG::([sg sLP]++shT x++[sg sRP]):=by rw [shT_mk];simp [shK]
  refine bk_first (b4 (by decide) (by decide) (by decide)) (by rw [e];simp) (by rw [e,hd_wd];decide) (by rw [e,hd_wd];decide) (by rw [e,hd_wd];decide) (fun rest hl=>?_)
  rw [e]
  exact r_toLong (hd_wd _ _) (round_of (w:=[]) ih)
 | extra x hx ih=>
  have e:shT (.mk 34 [] 0 [x])=wd sEXTRA::([sg sLP]++shT x++[sg sRP]):=by rw [shT_mk];simp [shK]
  refine bk_first (b4 (by decide) (by decide) (by decide)) (by rw [e];simp) (by rw [e,hd_wd];decide) (by rw [e,hd_wd];decide) (by rw [e,hd_wd];decide) (fun rest hl=>?_)
  rw [e]
  exact r_extra (hd_wd _ _) (round_of (w:=[]) ih)
 | make s l hs hl ih=>
  have e:shT (.mk 27 s 0 l)=wd s::sg sLB::(joinT (l.map shT)++[sg sRB]):=by rw [shT_mk];simp [shK]
  obtain ⟨a1,a2,a3,a4,a5,a6,a7,a8,a9,a10,a11,a12,a13,a14,a15,a16,a17,a18,a19,a20,a21,a22,a23,a24,a25,a26⟩:=name_ne hs
  refine bk_first (b4 (by decide) (by decide) (by decide)) (by rw [e];simp) (by rw [e,hd_wd];exact ⟨a15,a20,a17⟩) (by rw [e,hd_wd];exact a23) (by rw [e,hd_wd];exact a24) (fun rest hlb=>?_)
  rw [e]
  have hn:nameB (hd (wd s::sg sLB::(joinT (l.map shT)++[sg sRB])++rest))=true:=by show nameB (hd (wd s::_))=true;rw [hd_wd];exact hs
  have e0:hd (wd s::sg sLB::(joinT (l.map shT)++[sg sRB])++rest)=s:=hd_wd _ _
  cases l with
  | nil=>
   have:=r_make0 (ts:=wd s::sg sLB::(joinT (([]:List Nd).map shT)++[sg sRB])++rest) hn (hd_sg _ _) (hd_sg _ _)
   rw [e0] at this
   simpa [joinT] using this
  | cons a r=>
   have ha:=ih a (by simp)
   have hne:hd (joinT ((a::r).map shT)++(sg sRB::rest))≠sRB:=by
    have:∃ u,joinT ((a::r).map shT)=shT a++u:=by
     cases r with
     | nil=>exact ⟨[],by simp [joinT]⟩
     | cons y r=>exact ⟨_,rfl⟩
    obtain ⟨u,eu⟩:=this
    rw [eu,List.append_assoc,hd_app ha.ne]
    exact ha.ok.2.2
   have hm:=back_makeL s (a::r) [] rest (by simp) (fun z hz=>ih z hz)
   have e2:wd s::sg sLB::(joinT ((a::r).map shT)++[sg sRB])++rest=wd s::sg sLB::(joinT ((a::r).map shT)++(sg sRB::rest)):=by simp
   rw [e2]
   refine r_make (by rw [hd_wd];exact hs) (hd_sg _ _) hne ?_
   rw [hd_wd]
   simpa using hm
 | dot s x hs hx ih=>
  have e:shT (.mk 24 s 0 [x])=atT (bindN x) 4 (shT x)++[sg sDOT,wd s]:=by rw [shT_mk];simp [shK,sh1]
  obtain ⟨n1,n2⟩:=z_at_ne ih 4
  have hne:shT (.mk 24 s 0 [x])≠[]:=by rw [e];simp
  have hh:hd (shT (.mk 24 s 0 [x]))=hd (atT (bindN x) 4 (shT x)):=by rw [e,hd_app n1]
  refine ⟨hne,by rw [hh];exact n2,fun _ rest hl=>?_,fun h=>?_,fun k hk h=>?_,fun h=>?_,Or.inr (Or.inr (Or.inr (Or.inr (b4 (by decide) (by decide) (by decide)))))⟩
  ·have e2:shT (.mk 24 s 0 [x])++rest=atT (bindN x) 4 (shT x)++(sg sDOT::wd s::rest):=by rw [e];simp
   obtain ⟨m1,m2,y,r,f1,f2⟩:=at_post (rest:=sg sDOT::wd s::rest) ih (by rw [hd_sg];decide)
   rw [hh,e2]
   refine ⟨m1,m2,y,r,f1,fun res a=>f2 res ?_⟩
   have e3:hd (sg sDOT::wd s::rest).tail=s:=hd_wd _ _
   refine r_dot (hd_sg _ _) (by rw [e3];exact hs) ?_
   rw [e3]
   exact a
  all_goals (rw [b4 (by decide) (by decide) (by decide)] at h;omega)
 | call x l hx hl ih ihl=>
  have e:shT (.mk 25 [] 0 (x::l))=atT (bindN x) 4 (shT x)++rowT (l.map shT) false:=by rw [shT_mk];simp [shK,shC]
  obtain ⟨n1,n2⟩:=z_at_ne ih 4
  have hne:shT (.mk 25 [] 0 (x::l))≠[]:=by rw [e];simp [n1]
  have hh:hd (shT (.mk 25 [] 0 (x::l)))=hd (atT (bindN x) 4 (shT x)):=by rw [e,hd_app n1]
  refine ⟨hne,by rw [hh];exact n2,fun _ rest hlb=>?_,fun h=>?_,fun k hk h=>?_,fun h=>?_,Or.inr (Or.inr (Or.inr (Or.inr (b4 (by decide) (by decide) (by decide)))))⟩
  ·have e2:shT (.mk 25 [] 0 (x::l))++rest=atT (bindN x) 4 (shT x)++(rowT (l.map shT) false++rest):=by rw [e];simp
   have e3:hd (rowT (l.map shT) false++rest)=sLP:=hd_sg _ _
   obtain ⟨m1,m2,y,r,f1,f2⟩:=at_post (rest:=rowT (l.map shT) false++rest) ih (by rw [e3];decide)
   rw [hh,e2]
   exact ⟨m1,m2,y,r,f1,fun res a=>f2 res (r_call e3 (back_args l ihl rest) a)⟩
  all_goals (rw [b4 (by decide) (by decide) (by decide)] at h;omega)
 | neg x hx ih=>
  have e:shT (.mk 28 [] 0 [x])=sg sMINUS::atT (bindN x) 3 (shT x):=by rw [shT_mk];simp [shK,sh1]
  have hb:bindN (.mk 28 [] 0 [x])=3:=by simp [bindN]
  refine ⟨by rw [e];simp,by rw [e,hd_sg];decide,fun h=>by omega,fun _ rest hs=>?_,fun k hk h=>by omega,fun h=>by omega,by omega⟩
  rw [e]
  exact r_neg (hd_sg _ _) (at_una ih hs)
 | not x hx ih=>
  have e:shT (.mk 29 [] 0 [x])=sg sNOT::atT (bindN x) 3 (shT x):=by rw [shT_mk];simp [shK,sh1]
  have hb:bindN (.mk 29 [] 0 [x])=3:=by simp [bindN]
  refine ⟨by rw [e];simp,by rw [e,hd_sg];decide,fun h=>by omega,fun _ rest hs=>?_,fun k hk h=>by omega,fun h=>by omega,by omega⟩
  rw [e]
  exact r_not (hd_sg _ _) (at_una ih hs)
 | op v a b hv ha hb iha ihb=>
  obtain ⟨s1,s2,s3,s4⟩:=op_sign hv
  have e:shT (.mk 32 [] v [a,b])=atT (bindN a) (max (opBind v) 1) (shT a)++(sg (opSign v)::atT (bindN b) (opBind v+1) (shT b)):=by rw [shT_mk];simp [shK,sh2]
  have hbn:bindN (.mk 32 [] v [a,b])=opBind v:=by simp [bindN]
  obtain ⟨n1,n2⟩:=z_at_ne iha (max (opBind v) 1)
  refine ⟨by rw [e];simp,by rw [e,hd_app n1];exact n2,fun h=>by omega,fun h=>by omega,fun k hk h rest hs hg res hr=>?_,fun h rest hs hg=>?_,by omega⟩
  ·have hk2:opBind v=k:=by omega
   have e2:shT (.mk 32 [] v [a,b])++rest=atT (bindN a) k (shT a)++(sg (opSign v)::(atT (bindN b) ((k+1:Nat):Int) (shT b)++rest)):=by
    rw [e,hk2,show max (k:Int) 1=k by omega]
    simp
   rw [e2]
   refine at_cont iha k hk (by rw [hd_sg];exact s3) (by rw [hd_sg,s1,hk2];exact Int.le_refl _) res ?_
   refine r_op (by omega) (by rw [hd_sg,s1,hk2]) (at_lvl ihb (k+1) (by omega) hs (by omega)) ?_
   rw [hd_sg,s2]
   exact hr
  ·have hk2:opBind v=0:=by omega
   have e2:shT (.mk 32 [] v [a,b])++rest=atT (bindN a) ((1:Nat):Int) (shT a)++(sg (opSign v)::(atT (bindN b) ((1:Nat):Int) (shT b)++rest)):=by
    rw [e,hk2,show max (0:Int) 1=1 from rfl]
    simp
   rw [e2]
   refine r_bound (k:=0) (by omega) (at_lvl iha 1 (by omega) (by rw [hd_sg];exact s3) (by rw [hd_sg,s1,hk2];decide)) ?_
   have:=r_op0 (ts:=sg (opSign v)::(atT (bindN b) ((1:Nat):Int) (shT b)++rest)) (x:=a) (by rw [hd_sg,s1,hk2]) (at_lvl ihb 1 (by omega) hs (by omega))
   rw [hd_sg,s2] at this
   exact this
theorem back_expr {e:Nd} (h:IsEx e) (rest:List Tk) (hs:St (hd rest)) (hg:(sign (hd rest)).1<0):R .expr (shT e++rest) (.ok (.nd e) rest):=by
 have b:=bk_of h
 exact r_expr (lvl b 0 (by omega) (by rcases b.rng with a|a|a|a|a<;>omega) hs hg)
end Go.Proofs.YthcfianhdkolhaaGreatDoor.S
namespace Go.Proofs.YthcfianhdkolhaaGreatDoor.S
set_option linter.unusedVariables false
set_option linter.unusedSimpArgs false
theorem end_sg (s:List UInt8) (h:s=sRP∨s=sSEMI∨s=sCOMMA∨s=sRB) (r:List Tk):St (hd (sg s::r))∧(sign (hd (sg s::r))).1<0:=by
 rw [hd_sg]
 rcases h with rfl|rfl|rfl|rfl<;>decide
theorem ex_semi {e:Nd} (h:IsEx e) (rest:List Tk):R .expr (shT e++(sg sSEMI::rest)) (.ok (.nd e) (sg sSEMI::rest)):=back_expr h _ (end_sg _ (Or.inr (Or.inl rfl)) rest).1 (end_sg _ (Or.inr (Or.inl rfl)) rest).2
def kindOf:Nd→Int
 | .mk k _ _ _=>k
theorem back_ca {x:Nd} (h:IsCa x):∃ s u c,shT x=wd s::u∧nameB s=true∧bindN x=4∧(∀ rest,nameB (hd rest)=false→nameB (hd (u++rest))=false) ∧
  (∀ rest res,R (.simpleL x c) rest res→R (.simpleL (.mk 23 s 0 []) false) (u++rest) res)∧(kindOf x=25→c=true):=by
 induction h with
 | name s hs=>
  have e:shT (.mk 23 s 0 [])=[wd s]:=by rw [shT_mk];simp [shK]
  exact ⟨s,[],false,e,hs,b4 (by decide) (by decide) (by decide),fun rest h=>h,fun rest res a=>a,fun h=>by simp [kindOf] at h⟩
 | dot s x hs hx ih=>
  obtain ⟨s0,u0,c0,e0,n0,b0,h0,k0,_⟩:=ih
  have e:shT (.mk 24 s 0 [x])=wd s0::(u0++[sg sDOT,wd s]):=by rw [shT_mk];simp [shK,sh1,atT,b0,e0]
  refine ⟨s0,u0++[sg sDOT,wd s],c0,e,n0,b4 (by decide) (by decide) (by decide),fun rest h=>?_,fun rest res a=>?_,fun h=>by simp [kindOf] at h⟩
  ·have:=h0 (sg sDOT::wd s::rest) (by rw [hd_sg];decide)
   simpa using this
  ·have e3:hd (sg sDOT::wd s::rest).tail=s:=hd_wd _ _
   have:=k0 (sg sDOT::wd s::rest) res (r_sdot (hd_sg _ _) (by rw [e3];exact hs) (by rw [e3];exact a))
   simpa using this
 | call x l hx hl ih=>
  obtain ⟨s0,u0,c0,e0,n0,b0,h0,k0,_⟩:=ih
  have e:shT (.mk 25 [] 0 (x::l))=wd s0::(u0++rowT (l.map shT) false):=by rw [shT_mk];simp [shK,shC,atT,b0,e0]
  refine ⟨s0,u0++rowT (l.map shT) false,true,e,n0,b4 (by decide) (by decide) (by decide),fun rest h=>?_,fun rest res a=>?_,fun _=>rfl⟩
  ·rw [List.append_assoc]
   exact h0 _ (by show nameB (hd (sg sLP::_))=false;rw [hd_sg];decide)
  ·rw [List.append_assoc]
   exact k0 _ res (r_scall (hd_sg _ _) (back_args l (fun y hy=>bk_of (hl y hy)) rest) a)
theorem back_pl {x:Nd} (h:IsPl x):∃ s u,shT x=wd s::u∧nameB s=true∧bindN x=4∧(∀ rest,nameB (hd rest)=false→nameB (hd (u++rest))=false) ∧
  (∀ rest res,R (.simpleL x false) rest res→R (.simpleL (.mk 23 s 0 []) false) (u++rest) res):=by
 induction h with
 | name s hs=>
  have e:shT (.mk 23 s 0 [])=[wd s]:=by rw [shT_mk];simp [shK]
  exact ⟨s,[],e,hs,b4 (by decide) (by decide) (by decide),fun rest h=>h,fun rest res a=>a⟩
 | dot s x hs hx ih=>
  obtain ⟨s0,u0,e0,n0,b0,h0,k0⟩:=ih
  have e:shT (.mk 24 s 0 [x])=wd s0::(u0++[sg sDOT,wd s]):=by rw [shT_mk];simp [shK,sh1,atT,b0,e0]
  refine ⟨s0,u0++[sg sDOT,wd s],e,n0,b4 (by decide) (by decide) (by decide),fun rest h=>?_,fun rest res a=>?_⟩
  ·have:=h0 (sg sDOT::wd s::rest) (by rw [hd_sg];decide)
   simpa using this
  ·have e3:hd (sg sDOT::wd s::rest).tail=s:=hd_wd _ _
   have:=k0 (sg sDOT::wd s::rest) res (r_sdot (hd_sg _ _) (by rw [e3];exact hs) (by rw [e3];exact a))
   simpa using this
structure Sk (x:Nd):Prop where
 ne:shT x≠[]
 rb:hd (shT x)≠sRB
 el:hd (shT x)≠sELSE
 go:∀ rest,hd rest≠sELSE→R .stat (shT x++rest) (.ok (.nd x) rest)
theorem back_blockL:∀ (m l:List Nd) (rest:List Tk),(∀ y,y∈m→Sk y)→R (.blockL l) ((m.map shT).flatten++(sg sRB::rest)) (.ok (.nd (.mk 13 [] 0 (l++m))) rest)
 | [],l,rest,_=>by
  have:=r_blockE (ts:=sg sRB::rest) (l:=l) (hd_sg _ _)
  simpa using this
 | x::m,l,rest,h=>by
  have hx:=h x (by simp)
  have hn:hd ((m.map shT).flatten++(sg sRB::rest))≠sELSE:=by
   cases m with
   | nil=>show hd (sg sRB::rest)≠_;rw [hd_sg];decide
   | cons y r=>
    have hy:=h y (by simp)
    simp only [List.map_cons,List.flatten_cons,List.append_assoc]
    rw [hd_app hy.ne]
    exact hy.el
  have e:((x::m).map shT).flatten++(sg sRB::rest)=shT x++((m.map shT).flatten++(sg sRB::rest)):=by simp
  rw [e]
  refine r_blockM (by rw [hd_app hx.ne];exact hx.rb) (hx.go _ hn) ?_
  have:=back_blockL m (l++[x]) rest (fun y hy=>h y (by simp [hy]))
  simpa using this
theorem sh_block (l:List Nd):shT (.mk 13 [] 0 l)=[sg sLB]++(l.map shT).flatten++[sg sRB]:=by rw [shT_mk];simp [shK]
theorem back_block (l:List Nd) (rest:List Tk) (h:∀ y,y∈l→Sk y):R .block (shT (.mk 13 [] 0 l)++rest) (.ok (.nd (.mk 13 [] 0 l)) rest):=by
 have e:shT (.mk 13 [] 0 l)++rest=sg sLB::((l.map shT).flatten++(sg sRB::rest)):=by rw [sh_block];simp
 rw [e]
 have:=back_blockL l [] rest h
 exact r_block (hd_sg _ _) (by simpa using this)
theorem back_stat {x:Nd} (h:IsSt x):Sk x:=by
 induction h with
 | var s t x hs ht hx=>
  obtain ⟨t1,t2,t3⟩:=ty_hd ht
  have e:∀ rest,shT (.mk 14 s 0 [t,x])++rest=shT t++(wd s::sg sEQ::(shT x++(sg sSEMI::rest))):=fun rest=>by rw [shT_mk];simp [shK,lastT]
  have e0:shT (.mk 14 s 0 [t,x])=shT t++(wd s::sg sEQ::(shT x++(sg sSEMI::[]))):=by have:=e [];simpa using this
  refine ⟨by rw [e0];simp [t1],by rw [e0,hd_app t1];exact t2.2.2,?_,fun rest _=>?_⟩
  ·rw [e0,hd_app t1]
   rcases t3 with h|h|h|h
   ·rw [h];decide
   ·rw [h];decide
   ·rw [h];decide
   ·exact (name_ne h).2.2.2.2.2.2.2.1
  ·rw [e]
   have hn:hd (wd s::sg sEQ::(shT x++(sg sSEMI::rest)))=s:=hd_wd _ _
   have h1:hd (shT t++(wd s::sg sEQ::(shT x++(sg sSEMI::rest))))=sINT∨hd (shT t++(wd s::sg sEQ::(shT x++(sg sSEMI::rest))))=sLONG∨hd (shT t++(wd s::sg sEQ::(shT x++(sg sSEMI::rest))))=sFN∨(nameB (hd (shT t++(wd s::sg sEQ::(shT x++(sg sSEMI::rest)))))=true∧nameB (hd (shT t++(wd s::sg sEQ::(shT x++(sg sSEMI::rest)))).tail)=true):=by
    cases ht with
    | int=>left;rw [shT_mk];exact hd_wd _ _
    | long=>right;left;rw [shT_mk];exact hd_wd _ _
    | named s' hs'=>
     right;right;right
     have e1:shT (.mk 11 s' 0 [])=[wd s']:=by rw [shT_mk];simp [shK]
     rw [e1]
     exact ⟨by show nameB (hd (wd s'::_))=true;rw [hd_wd];exact hs',by show nameB (hd (wd s::_))=true;rw [hd_wd];exact hs⟩
    | fn l d t' hl ht'=>
     right;right;left
     have e1:shT (.mk 12 [] (b2n d) (l++[t']))=wd sFN::(rowT (l.map shT) d++shT t'):=by rw [shT_mk];simp [shK,lastT,b2n_one]
     rw [e1]
     exact hd_wd _ _
   have:=r_var h1 (back_typ ht _) (by rw [hn];exact hs) (hd_sg _ _) (ex_semi hx rest) (hd_sg _ _)
   rw [hn] at this
   exact this
 | set p x hp hx=>
  obtain ⟨s,u,e0,n0,b0,h0,k0⟩:=back_pl hp
  have e:∀ rest,shT (.mk 15 [] 0 [p,x])++rest=wd s::(u++(sg sEQ::(shT x++(sg sSEMI::rest)))):=fun rest=>by rw [shT_mk];simp [shK,lastT,e0]
  have e1:shT (.mk 15 [] 0 [p,x])=wd s::(u++(sg sEQ::(shT x++[sg sSEMI]))):=by have:=e [];simpa using this
  obtain ⟨a1,a2,a3,a4,a5,a6,a7,a8,a9,a10,a11,a12,a13,a14,a15,a16,a17,_⟩:=name_ne n0
  refine ⟨by rw [e1];simp,by rw [e1,hd_wd];exact a17,by rw [e1,hd_wd];exact a8,fun rest _=>?_⟩
  rw [e]
  refine r_simple (ts:=wd s::(u++(sg sEQ::(shT x++(sg sSEMI::rest))))) (by rw [hd_wd];exact n0) (h0 _ (by rw [hd_sg];decide)) ?_ (hd_sg _ rest)
  rw [hd_wd]
  exact k0 _ _ (r_set (hd_sg _ _) (ex_semi hx rest))
 | do1 x l hx hl=>
  obtain ⟨s,u,c,e0,n0,b0,h0,k0,c0⟩:=back_ca (IsCa.call x l hx hl)
  obtain rfl:c=true:=c0 rfl
  have e:∀ rest,shT (.mk 20 [] 0 [.mk 25 [] 0 (x::l)])++rest=wd s::(u++(sg sSEMI::rest)):=fun rest=>by rw [shT_mk];simp [shK,e0]
  have e1:shT (.mk 20 [] 0 [.mk 25 [] 0 (x::l)])=wd s::(u++[sg sSEMI]):=by have:=e [];simpa using this
  obtain ⟨a1,a2,a3,a4,a5,a6,a7,a8,a9,a10,a11,a12,a13,a14,a15,a16,a17,_⟩:=name_ne n0
  refine ⟨by rw [e1];simp,by rw [e1,hd_wd];exact a17,by rw [e1,hd_wd];exact a8,fun rest _=>?_⟩
  rw [e]
  refine r_simple (ts:=wd s::(u++(sg sSEMI::rest))) (by rw [hd_wd];exact n0) (h0 _ (by rw [hd_sg];decide)) ?_ (hd_sg _ rest)
  rw [hd_wd]
  exact k0 _ _ (r_do (hd_sg _ _))
 | if1 c l hc hl ih=>
  have e:∀ rest,shT (.mk 16 [] 0 [c,.mk 13 [] 0 l])++rest=wd sIF::([sg sLP]++shT c++[sg sRP]++(shT (.mk 13 [] 0 l)++rest)):=fun rest=>by rw [shT_mk];simp [shK,shI]
  have e1:shT (.mk 16 [] 0 [c,.mk 13 [] 0 l])=wd sIF::([sg sLP]++shT c++[sg sRP]++shT (.mk 13 [] 0 l)):=by have:=e [];simpa using this
  refine ⟨by rw [e1];simp,by rw [e1,hd_wd];decide,by rw [e1,hd_wd];decide,fun rest hr=>?_⟩
  rw [e]
  exact r_if1 (hd_wd _ _) (round_of (w:=[]) (bk_of hc)) (back_block l rest ih) hr
 | if2 c l m hc hl hm ihl ihm=>
  have e:∀ rest,shT (.mk 16 [] 0 [c,.mk 13 [] 0 l,.mk 13 [] 0 m])++rest=wd sIF::([sg sLP]++shT c++[sg sRP]++(shT (.mk 13 [] 0 l)++(wd sELSE::(shT (.mk 13 [] 0 m)++rest)))):=fun rest=>by rw [shT_mk];simp [shK,shI]
  have e1:shT (.mk 16 [] 0 [c,.mk 13 [] 0 l,.mk 13 [] 0 m])=wd sIF::([sg sLP]++shT c++[sg sRP]++(shT (.mk 13 [] 0 l)++(wd sELSE::shT (.mk 13 [] 0 m)))):=by have:=e [];simpa using this
  refine ⟨by rw [e1];simp,by rw [e1,hd_wd];decide,by rw [e1,hd_wd];decide,fun rest hr=>?_⟩
  rw [e]
  exact r_if2 (hd_wd _ _) (round_of (w:=[]) (bk_of hc)) (back_block l _ ihl) (hd_wd _ _) (back_block m rest ihm)
 | while1 c l hc hl ih=>
  have e:∀ rest,shT (.mk 17 [] 0 [c,.mk 13 [] 0 l])++rest=wd sWHILE::([sg sLP]++shT c++[sg sRP]++(shT (.mk 13 [] 0 l)++rest)):=fun rest=>by rw [shT_mk];simp [shK,shW]
  have e1:shT (.mk 17 [] 0 [c,.mk 13 [] 0 l])=wd sWHILE::([sg sLP]++shT c++[sg sRP]++shT (.mk 13 [] 0 l)):=by have:=e [];simpa using this
  refine ⟨by rw [e1];simp,by rw [e1,hd_wd];decide,by rw [e1,hd_wd];decide,fun rest hr=>?_⟩
  rw [e]
  exact r_while (hd_wd _ _) (round_of (w:=[]) (bk_of hc)) (back_block l rest ih)
 | ret x hx=>
  have e:∀ rest,shT (.mk 18 [] 0 [x])++rest=wd sRET::(shT x++(sg sSEMI::rest)):=fun rest=>by rw [shT_mk];simp [shK]
  have e1:shT (.mk 18 [] 0 [x])=wd sRET::(shT x++[sg sSEMI]):=by have:=e [];simpa using this
  refine ⟨by rw [e1];simp,by rw [e1,hd_wd];decide,by rw [e1,hd_wd];decide,fun rest hr=>?_⟩
  rw [e]
  exact r_ret (hd_wd _ _) (ex_semi hx rest) (hd_sg _ _)
 | put x hx=>
  have e:∀ rest,shT (.mk 19 [] 0 [x])++rest=wd sPUT::([sg sLP]++shT x++[sg sRP]++(sg sSEMI::rest)):=fun rest=>by rw [shT_mk];simp [shK]
  have e1:shT (.mk 19 [] 0 [x])=wd sPUT::([sg sLP]++shT x++[sg sRP]++[sg sSEMI]):=by have:=e [];simpa using this
  refine ⟨by rw [e1];simp,by rw [e1,hd_wd];decide,by rw [e1,hd_wd];decide,fun rest hr=>?_⟩
  rw [e]
  exact r_put (hd_wd _ _) (round_of (w:=[]) (bk_of hx)) (hd_sg _ _)
end Go.Proofs.YthcfianhdkolhaaGreatDoor.S
