/- SynDecl SynCost SynBytes SynSpec -/
import Derived.Test.YthcfianhdkolhaaGreatDoorSynUnit
namespace Go.Proofs.YthcfianhdkolhaaGreatDoor.S
set_option linter.unusedVariables false
set_option linter.unusedSimpArgs false
theorem sh_param (s:List UInt8) (t:Nd):shT (.mk 8 s 0 [t])=shT t++[wd s]:=by rw [shT_mk];simp [shK]
theorem sh_field (s:List UInt8) (t:Nd):shT (.mk 3 s 0 [t])=shT t++[wd s,sg sSEMI]:=by rw [shT_mk];simp [shK]
theorem back_params (l:List Nd) (d:Bool) (rest:List Tk) (h:∀ y,y∈l→IsPa y):R (.rows 1) (rowT (l.map shT) d++rest) (.ok (.row l d) rest):=
 back_rows 1 shT d (fun _=>by omega) l rest (fun x hx=>by
  cases h x hx with
  | param s t hs ht=>
   obtain ⟨t1,t2,_⟩:=ty_hd ht
   rw [sh_param]
   refine ⟨by simp [t1],by rw [hd_app t1];exact t2,fun r _=>?_⟩
   have e:shT t++[wd s]++r=shT t++(wd s::r):=by simp
   rw [e]
   have:=r_item1 (back_typ ht (wd s::r)) (by rw [hd_wd];exact hs)
   rwa [hd_wd] at this)
theorem back_fieldsL (s:List UInt8):∀ (m l:List Nd) (rest:List Tk),m≠[]→(∀ y,y∈m→IsFi y)→R (.fieldsL s l) ((m.map shT).flatten++(sg sRB::rest)) (.ok (.nd (.mk 2 s 0 (l++m))) rest)
 | [],_,_,h,_=>absurd rfl h
 | [x],l,rest,_,h=>by
  cases h x (by simp) with
  | field f t hf ht=>
   have e:([.mk 3 f 0 [t]].map shT).flatten++(sg sRB::rest)=shT t++(wd f::sg sSEMI::sg sRB::rest):=by simp [sh_field]
   rw [e]
   have:=r_fieldE (s:=s) (l:=l) (back_typ ht (wd f::sg sSEMI::sg sRB::rest)) (by rw [hd_wd];exact hf) (hd_sg _ _) (hd_sg _ _)
   rwa [hd_wd] at this
 | x::y::m,l,rest,_,h=>by
  have hx:=h x (by simp)
  have hy:=h y (by simp)
  cases hx with
  | field f t hf ht=>
   have e:((.mk 3 f 0 [t]::y::m).map shT).flatten++(sg sRB::rest)=shT t++(wd f::sg sSEMI::(((y::m).map shT).flatten++(sg sRB::rest))):=by simp [sh_field]
   rw [e]
   have hn:hd (((y::m).map shT).flatten++(sg sRB::rest))≠sRB:=by
    cases hy with
    | field f' t' hf' ht'=>
     obtain ⟨t1,t2,_⟩:=ty_hd ht'
     have e2:(((.mk 3 f' 0 [t']:Nd)::m).map shT).flatten++(sg sRB::rest)=shT t'++(wd f'::sg sSEMI::((m.map shT).flatten++(sg sRB::rest))):=by simp [sh_field]
     rw [e2,hd_app t1]
     exact t2.2.2
   refine r_fieldM (back_typ ht _) (by rw [hd_wd];exact hf) (hd_sg _ _) hn ?_
   have:=back_fieldsL s (y::m) (l++[.mk 3 f 0 [t]]) rest (by simp) (fun z hz=>h z (by simp [List.mem_cons.1 hz]))
   rw [hd_wd]
   simpa using this
theorem ty_decl {t:Nd} (h:IsTy t):hd (shT t)≠sSTRUCT∧hd (shT t)≠sEXTERN∧hd (shT t)≠sSTATIC:=by
 obtain ⟨t1,t2,t3⟩:=ty_hd h
 rcases t3 with h|h|h|h
 ·rw [h];decide
 ·rw [h];decide
 ·rw [h];decide
 ·obtain ⟨a1,a2,a3,a4,a5,a6,_⟩:=name_ne h
  exact ⟨a4,a5,a6⟩
theorem stat_split (st:Bool) {t:Nd} (ht:IsTy t) (u:List Tk):hd ((if st=true then [wd sSTATIC] else [])++(shT t++u))≠sSTRUCT∧hd ((if st=true then [wd sSTATIC] else [])++(shT t++u))≠sEXTERN
  ∧ decide (hd ((if st=true then [wd sSTATIC] else [])++(shT t++u))=sSTATIC)=st
  ∧ (if hd ((if st=true then [wd sSTATIC] else [])++(shT t++u))=sSTATIC then ((if st=true then [wd sSTATIC] else [])++(shT t++u)).tail else ((if st=true then [wd sSTATIC] else [])++(shT t++u)))=shT t++u:=by
 obtain ⟨t1,_⟩:=ty_hd ht
 obtain ⟨d1,d2,d3⟩:=ty_decl ht
 cases st with
 | true=>
  have e:hd ((if true=true then [wd sSTATIC] else [])++(shT t++u))=sSTATIC:=hd_wd _ _
  rw [e]
  exact ⟨by decide,by decide,by decide,by rw [if_pos rfl];rfl⟩
 | false=>
  have e:hd ((if false=true then [wd sSTATIC] else [])++(shT t++u))=hd (shT t):=hd_app t1 u
  rw [e]
  refine ⟨d1,d2,decide_eq_false d3,?_⟩
  rw [if_neg d3]
  rfl
theorem num_read (kind v:Int) (rest:List Tk) (hk:kind=2∨kind=3):∃ w,number (if hd (numT kind v++rest)=sMINUS then (numT kind v++rest).tail else numT kind v++rest)=some (.ok (.nd (.mk (if kind=2 then 21 else 22) [] w [])) rest)∧(if hd (numT kind v++rest)=sMINUS then -w else w)=v:=by
 by_cases h:v<0
 ·have e:numT kind v++rest=sg sMINUS::⟨kind,decN (-v).toNat⟩::rest:=by unfold numT;rw [if_pos h];rfl
  rw [e,hd_sg,if_pos rfl]
  refine ⟨-v,?_,by rw [if_pos rfl];omega⟩
  have dv:digits (decN (-v).toNat) 0=-v:=by rw [digits_dec];omega
  rcases hk with rfl|rfl<;>simp [number,dv]
 ·have e:numT kind v++rest=⟨kind,decN v.toNat⟩::rest:=by unfold numT;rw [if_neg h];rfl
  have hh:hd (⟨kind,decN v.toNat⟩::rest)=[]:=by show Tk.txt _=[];unfold Tk.txt;rw [if_pos hk]
  rw [e,hh,if_neg (by decide)]
  refine ⟨v,?_,by rw [if_neg (by decide)]⟩
  have dv:digits (decN v.toNat) 0=v:=by rw [digits_dec];omega
  rcases hk with rfl|rfl<;>simp [number,dv]
theorem b2n_odd (st:Bool):((b2n st % 2=1) ↔ st=true):=by cases st<;>simp [b2n]
theorem b2n_two (st d:Bool):(((b2n st+2*b2n d) % 2=1) ↔ st=true)∧decide (2≤b2n st+2*b2n d)=d:=by cases st<;>cases d<;>simp [b2n]
theorem back_decl {x:Nd} (h:IsDe x):shT x≠[]∧∀ rest,R .decl (shT x++rest) (.ok (.nd x) rest):=by
 cases h with
 | struct1 s l hs hne hl=>
  have e:∀ rest,shT (.mk 2 s 0 l)++rest=wd sSTRUCT::wd s::sg sLB::((l.map shT).flatten++(sg sRB::rest)):=fun rest=>by rw [shT_mk];simp [shK]
  refine ⟨by have:=e [];rw [List.append_nil] at this;rw [this];simp,fun rest=>?_⟩
  rw [e]
  have en:hd (wd sSTRUCT::wd s::sg sLB::((l.map shT).flatten++(sg sRB::rest))).tail=s:=hd_wd _ _
  refine r_struct (hd_wd _ _) (by rw [en];exact hs) (hd_sg _ _) ?_
  rw [en]
  have:=back_fieldsL s l [] rest hne hl
  simpa using this
 | extern1 s l d t hs hl ht=>
  have e:∀ rest,shT (.mk 4 s (b2n d) (l++[t]))++rest=wd sEXTERN::(shT t++(wd s::(rowT (l.map shT) d++(sg sSEMI::rest)))):=fun rest=>by rw [shT_mk];simp [shK,lastT,b2n_one]
  refine ⟨by have:=e [];rw [List.append_nil] at this;rw [this];simp,fun rest=>?_⟩
  rw [e]
  have:=r_extern (ts:=wd sEXTERN::(shT t++(wd s::(rowT (l.map shT) d++(sg sSEMI::rest))))) (hd_wd _ _) (back_typ ht _) (by rw [hd_wd];exact hs) (hd_sg _ _) (back_params l d (sg sSEMI::rest) hl) (hd_sg _ _)
  rwa [hd_wd] at this
 | outside s t hs ht=>
  have e:∀ rest,shT (.mk 5 s 0 [t])++rest=wd sEXTERN::(shT t++(wd s::sg sSEMI::rest)):=fun rest=>by rw [shT_mk];simp [shK]
  refine ⟨by have:=e [];rw [List.append_nil] at this;rw [this];simp,fun rest=>?_⟩
  rw [e]
  have:=r_outside (ts:=wd sEXTERN::(shT t++(wd s::sg sSEMI::rest))) (hd_wd _ _) (back_typ ht _) (by rw [hd_wd];exact hs) (hd_sg _ _)
  rwa [hd_wd] at this
 | global s st t v hs ht h1 h2=>
  have e:∀ rest,shT (.mk 6 s (b2n st) [t,.mk 21 [] v []])++rest=(if st=true then [wd sSTATIC] else [])++(shT t++(wd s::sg sEQ::(numT 2 v++(sg sSEMI::rest)))):=fun rest=>by
   have e1:shT (.mk 21 [] v [])=numT 2 v:=by rw [shT_mk];simp [shK]
   rw [shT_mk];simp [shK,lastT,e1,b2n_odd]
  obtain ⟨t1,_⟩:=ty_hd ht
  refine ⟨by have:=e [];rw [List.append_nil] at this;rw [this];simp [t1],fun rest=>?_⟩
  rw [e]
  obtain ⟨p1,p2,p3,p4⟩:=stat_split st ht (wd s::sg sEQ::(numT 2 v++(sg sSEMI::rest)))
  obtain ⟨w,q1,q2⟩:=num_read 2 v (sg sSEMI::rest) (Or.inl rfl)
  have:=r_global st _ p1 p2 p3 p4 (back_typ ht _) (by rw [hd_wd];exact hs) (hd_sg _ _) q1 q2 (hd_sg _ _)
  rw [hd_wd] at this
  exact this
 | globalL s st t v hs ht h1 h2=>
  have e:∀ rest,shT (.mk 6 s (b2n st) [t,.mk 22 [] v []])++rest=(if st=true then [wd sSTATIC] else [])++(shT t++(wd s::sg sEQ::(numT 3 v++(sg sSEMI::rest)))):=fun rest=>by
   have e1:shT (.mk 22 [] v [])=numT 3 v:=by rw [shT_mk];simp [shK]
   rw [shT_mk];simp [shK,lastT,e1,b2n_odd]
  obtain ⟨t1,_⟩:=ty_hd ht
  refine ⟨by have:=e [];rw [List.append_nil] at this;rw [this];simp [t1],fun rest=>?_⟩
  rw [e]
  obtain ⟨p1,p2,p3,p4⟩:=stat_split st ht (wd s::sg sEQ::(numT 3 v++(sg sSEMI::rest)))
  obtain ⟨w,q1,q2⟩:=num_read 3 v (sg sSEMI::rest) (Or.inr rfl)
  have:=r_global st _ p1 p2 p3 p4 (back_typ ht _) (by rw [hd_wd];exact hs) (hd_sg _ _) q1 q2 (hd_sg _ _)
  rw [hd_wd] at this
  exact this
 | fun1 s st d l t b hs hl ht hb=>
  have e:∀ rest,shT (.mk 7 s (b2n st+2*b2n d) (l++[t]++[.mk 13 [] 0 b]))++rest=(if st=true then [wd sSTATIC] else [])++(shT t++(wd s::(rowT (l.map shT) d++(shT (.mk 13 [] 0 b)++rest)))):=fun rest=>by
   rw [shT_mk]
   have e1:((l++[t]++[Nd.mk 13 [] 0 b]).map shT).dropLast=(l++[t]).map shT:=by simp
   have e2:lastT ((l++[t]++[Nd.mk 13 [] 0 b]).map shT)=shT (.mk 13 [] 0 b):=by simp [lastT]
   have e3:((l++[t]).map shT).dropLast=l.map shT:=by simp
   have e4:lastT ((l++[t]).map shT)=shT t:=by simp [lastT]
   have e5:shK 7 s (b2n st+2*b2n d) (l++[t]++[Nd.mk 13 [] 0 b]) ((l++[t]++[Nd.mk 13 [] 0 b]).map shT)=(if (b2n st+2*b2n d) % 2=1 then [wd sSTATIC] else [])++(lastT ((l++[t]++[Nd.mk 13 [] 0 b]).map shT).dropLast++[wd s]++rowT ((l++[t]++[Nd.mk 13 [] 0 b]).map shT).dropLast.dropLast (decide (2≤b2n st+2*b2n d))++lastT ((l++[t]++[Nd.mk 13 [] 0 b]).map shT)):=by simp only [shK];rfl
   rw [e5,e1,e2,e3,e4,(b2n_two st d).2]
   simp only [(b2n_two st d).1]
   simp
  obtain ⟨t1,_⟩:=ty_hd ht
  refine ⟨by have:=e [];rw [List.append_nil] at this;rw [this];simp [t1],fun rest=>?_⟩
  rw [e]
  obtain ⟨p1,p2,p3,p4⟩:=stat_split st ht (wd s::(rowT (l.map shT) d++(shT (.mk 13 [] 0 b)++rest)))
  have:=r_fun st _ p1 p2 p3 p4 (back_typ ht _) (by rw [hd_wd];exact hs) (hd_sg _ _) (back_params l d _ hl) (back_block b rest (fun y hy=>back_stat (hb y hy)))
  rw [hd_wd] at this
  exact this
theorem back_unitL:∀ (m l:List Nd),(∀ y,y∈m→IsDe y)→R (.unitL l) ((m.map shT).flatten) (.ok (.nd (.mk 1 [] 0 (l++m))) [])
 | [],l,_=>by
  have:=r_unitE (l:=l)
  simpa using this
 | x::m,l,h=>by
  obtain ⟨h1,h2⟩:=back_decl (h x (by simp))
  have e:((x::m).map shT).flatten=shT x++(m.map shT).flatten:=by simp
  rw [e]
  refine r_unitM (by simp [h1]) (h2 _) ?_
  have:=back_unitL m (l++[x]) (fun y hy=>h y (by simp [hy]))
  simpa using this
theorem back_unit {n:Nd} (h:IsUn n):R (.unitL []) (shT n) (.ok (.nd n) []):=by
 cases h with
 | unit l hl=>
  have e:shT (.mk 1 [] 0 l)=(l.map shT).flatten:=by rw [shT_mk];simp [shK]
  rw [e]
  have:=back_unitL l [] hl
  simpa using this
end Go.Proofs.YthcfianhdkolhaaGreatDoor.S
namespace Go.Proofs.YthcfianhdkolhaaGreatDoor.S
set_option linter.unusedVariables false
set_option linter.unusedSimpArgs false
def Tk.raw (t:Tk):Nat:=t.text.length+(if t.kind=3 then 1 else 0)
def cost:List Tk→Nat
 | []=>0
 | t::r=>t.raw+cost r
theorem cost_app (a b:List Tk):cost (a++b)=cost a+cost b:=by
 induction a with
 | nil=>simp [cost]
 | cons t r ih=>simp only [List.cons_append,cost,ih];omega
def TkOk (t:Tk):Prop:=(t.kind=2→0≤digits t.text 0∧digits t.text 0≤2147483647∧(decN (digits t.text 0).toNat).length≤t.text.length)∧(t.kind=3→0≤digits t.text 0∧digits t.text 0≤9223372036854775807∧(decN (digits t.text 0).toNat).length≤t.text.length)
def Wf (ts:List Tk):Prop:=∀ t,t∈ts→TkOk t
theorem hd_cost {ts:List Tk} {s:List UInt8} (h:hd ts=s) (hs:s≠[]):cost ts=s.length+cost ts.tail∧(Wf ts→Wf ts.tail):=by
 cases ts with
 | nil=>exact absurd h.symm hs
 | cons t r=>
  refine ⟨?_,fun w x hx=>w x (by simp at hx ⊢;exact Or.inr hx)⟩
  have h':t.txt=s:=h
  unfold Tk.txt at h'
  split at h'
  ·exact absurd h'.symm hs
  ·rename_i hk
   subst h'
   have:¬ t.kind=3:=fun e=>hk (Or.inr e)
   simp [cost,Tk.raw,this]
def rs (x:Nd):Nat:=cost (shT x)
def rsAt (x:Nd) (k:Int):Nat:=cost (atT (bindN x) k (shT x))
theorem rsAt_le (x:Nd) (k:Int):rs x≤rsAt x k∧rsAt x k≤rs x+2:=by
 unfold rsAt rs atT
 split
 ·simp only [cost,cost_app,Tk.raw]
  simp
  omega
 ·omega
theorem rsAt_mono (x:Nd) {k m:Int} (h:k≤m):rsAt x k≤rsAt x m:=by
 unfold rsAt atT
 by_cases h1:bindN x<k
 ·rw [if_pos h1,if_pos (by omega)];exact Nat.le_refl _
 ·rw [if_neg h1]
  split
  ·simp only [cost,cost_app];omega
  ·exact Nat.le_refl _
theorem rsAt_eq {x:Nd} {k:Int} (h:k≤bindN x):rsAt x k=rs x:=by unfold rsAt rs atT;rw [if_neg (by omega)]
def S:List Nd→Nat
 | []=>0
 | x::r=>rs x+1+S r
theorem S_app (l:List Nd) (x:Nd):S (l++[x])=S l+rs x+1:=by
 induction l with
 | nil=>simp [S]
 | cons a r ih=>simp only [List.cons_append,S,ih];omega
def Z:List Nd→Nat
 | []=>0
 | x::r=>rs x+Z r
theorem Z_app (l:List Nd) (x:Nd):Z (l++[x])=Z l+rs x:=by
 induction l with
 | nil=>simp [Z]
 | cons a r ih=>simp only [List.cons_append,Z,ih];omega
theorem cost_flat (l:List Nd):cost (l.map shT).flatten=Z l:=by
 induction l with
 | nil=>rfl
 | cons a r ih=>simp only [List.map_cons,List.flatten_cons,cost_app,ih,Z,rs]
theorem cost_join (l:List Nd):cost (joinT (l.map shT))=S l - 1:=by
 induction l with
 | nil=>rfl
 | cons a r ih=>
  cases r with
  | nil=>simp [joinT,S,rs]
  | cons b r=>
   have e:joinT ((a::b::r).map shT)=shT a++(sg sCOMMA::joinT ((b::r).map shT)):=rfl
   rw [e,cost_app]
   simp only [cost,ih]
   have h1:(sg sCOMMA).raw=1:=rfl
   have h2:S (a::b::r)=rs a+1+S (b::r):=rfl
   have h3:1≤S (b::r):=by simp only [S];omega
   have h4:cost (shT a)=rs a:=rfl
   omega
theorem cost_joinD (l:List Nd):cost (joinT (l.map shT++[[sg sDOTS]]))=S l+3:=by
 induction l with
 | nil=>rfl
 | cons a r ih=>
  have e:joinT ((a::r).map shT++[[sg sDOTS]])=shT a++(sg sCOMMA::joinT (r.map shT++[[sg sDOTS]])):=by
   cases r with
   | nil=>rfl
   | cons b r=>rfl
  rw [e,cost_app]
  simp only [cost,ih]
  have h1:(sg sCOMMA).raw=1:=rfl
  have h2:S (a::r)=rs a+1+S r:=rfl
  have h4:cost (shT a)=rs a:=rfl
  omega
def rsRow (l:List Nd) (d:Bool):Nat:=cost (rowT (l.map shT) d)
theorem rsRow_eq (l:List Nd) (d:Bool):rsRow l d=if l=[]∧d=false then 2 else 1+S l+(if d=true then 4 else 0):=by
 unfold rsRow rowT
 have h1:(sg sLP).raw=1:=rfl
 have h2:(sg sRP).raw=1:=rfl
 cases d with
 | false=>
  simp only [Bool.false_eq_true,if_false,List.append_nil,cost,cost_app,cost_join,h1,h2]
  cases l with
  | nil=>simp [S]
  | cons a r=>
   rw [if_neg (by simp)]
   have:1≤S (a::r):=by simp only [S];omega
   omega
 | true=>
  simp only [if_true,cost,cost_app,cost_joinD,h1,h2]
  rw [if_neg (by simp)]
  omega
def Item (w:Nat) (x:Nd):Prop:=if w=0 then IsTy x else if w=1 then IsPa x else IsEx x
def opsOk (s:List UInt8) (k:Int):Prop:=isOp (sign s).2∧opBind (sign s).2=k∧opSign (sign s).2=s
theorem sign_ok {s:List UInt8} {k:Nat} (h:(sign s).1=k):opsOk s k∧s≠[]:=by
 unfold opsOk isOp
 unfold sign at h ⊢
 split at h
 ·rename_i e;subst e;simp only at h;have:k=0:=by omega
  subst this;decide
 split at h
 ·rename_i e1 e;subst e;simp only at h;have:k=0:=by omega
  subst this;decide
 split at h
 ·rename_i e1 e2 e;subst e;simp only at h;have:k=1:=by omega
  subst this;decide
 split at h
 ·rename_i e1 e2 e3 e;subst e;simp only at h;have:k=1:=by omega
  subst this;decide
 split at h
 ·rename_i e1 e2 e3 e4 e;subst e;simp only at h;have:k=1:=by omega
  subst this;decide
 split at h
 ·rename_i e1 e2 e3 e4 e5 e;subst e;simp only at h;have:k=1:=by omega
  subst this;decide
 split at h
 ·rename_i e1 e2 e3 e4 e5 e6 e;subst e;simp only at h;have:k=2:=by omega
  subst this;decide
 split at h
 ·rename_i e1 e2 e3 e4 e5 e6 e7 e;subst e;simp only at h;have:k=2:=by omega
  subst this;decide
 split at h
 ·rename_i e1 e2 e3 e4 e5 e6 e7 e8 e;subst e;simp only at h;have:k=2:=by omega
  subst this;decide
 split at h
 ·rename_i e1 e2 e3 e4 e5 e6 e7 e8 e9 e;subst e;simp only at h;have:k=2:=by omega
  subst this;decide
 ·simp only at h;omega
def Sp (g:G) (c:Nat) (v:V) (c':Nat):Prop:=
 match g,v with
 | .typ,.nd x=>IsTy x∧c'+rs x≤c
 | .rows w,.row l d=>(∀ x,x∈l→Item w x)∧(2≤w→d=false)∧c'+rsRow l d≤c
 | .rowsL w acc,.row l d=>(∀ x,x∈acc→Item w x)→(∀ x,x∈l→Item w x)∧(2≤w→d=false)∧(l≠[]∨d=true)∧c'+S l+(if d=true then 4 else 0)≤c+S acc
 | .item w,.nd x=>Item w x∧c'+rs x≤c
 | .expr,.nd x=>IsEx x∧c'+rs x≤c
 | .bound k,.nd x=>IsEx x∧c'+rsAt x (min k 3:Nat)≤c
 | .boundL k acc,.nd x=>k≤2→IsEx acc→IsEx x∧c'+rsAt x k≤c+rsAt acc (max (k:Int) 1)
 | .unary,.nd x=>IsEx x∧c'+rsAt x 3≤c
 | .postL acc,.nd x=>IsEx acc→IsEx x∧c'+rsAt x 4≤c+rsAt acc 4
 | .first,.nd x=>IsEx x∧c'+rsAt x 4≤c
 | .round,.nd x=>IsEx x∧c'+rs x+2≤c
 | .makeL s acc,.nd x=>nameB s=true→(∀ y,y∈acc→IsEx y)→IsEx x∧bindN x=4∧c'+rs x≤c+s.length+1+S acc
 | .block,.nd x=>(∃ l,x=.mk 13 [] 0 l∧∀ y,y∈l→IsSt y)∧c'+rs x≤c
 | .blockL acc,.nd x=>(∀ y,y∈acc→IsSt y)→(∃ l,x=.mk 13 [] 0 l∧∀ y,y∈l→IsSt y)∧c'+rs x≤c+1+Z acc
 | .stat,.nd x=>IsSt x∧c'+rs x≤c
 | .simpleL acc calls,.nd x=>IsCa acc→(calls=false→IsPl acc)→IsSt x∧c'+rs x≤c+rs acc+1
 | .decl,.nd x=>IsDe x∧c'+rs x≤c
 | .fieldsL s acc,.nd x=>nameB s=true→(∀ y,y∈acc→IsFi y)→IsDe x∧c'+rs x≤c+7+s.length+Z acc
 | .unitL acc,.nd x=>(∀ y,y∈acc→IsDe y)→IsUn x∧c'+rs x≤c+Z acc
 | _,_=>False
theorem andN_ok {x:O} {f:Nd→List Tk→O} {v:V} {r:List Tk} (h:andN x f=some (.ok v r)):∃ a s,x=some (.ok (.nd a) s)∧f a s=some (.ok v r):=by
 unfold andN at h
 split at h
 ·exact ⟨_,_,rfl,h⟩
 ·cases h
 ·cases h
theorem andR_ok {x:O} {f:List Nd→Bool→List Tk→O} {v:V} {r:List Tk} (h:andR x f=some (.ok v r)):∃ l d s,x=some (.ok (.row l d) s)∧f l d s=some (.ok v r):=by
 unfold andR at h
 split at h
 ·exact ⟨_,_,_,rfl,h⟩
 ·cases h
 ·cases h
theorem must_ok {s:List UInt8} {ts:List Tk} {f:List Tk→O} {v:V} {r:List Tk} (h:must s ts f=some (.ok v r)):hd ts=s∧f ts.tail=some (.ok v r):=by
 unfold must at h
 split at h
 ·rename_i e;exact ⟨e,h⟩
 ·cases h
theorem name_ok {ts:List Tk} {f:List UInt8→List Tk→O} {v:V} {r:List Tk} (h:name ts f=some (.ok v r)):nameB (hd ts)=true∧f (hd ts) ts.tail=some (.ok v r):=by
 unfold name at h
 split at h
 ·rename_i e;exact ⟨e,h⟩
 ·cases h
theorem okN_ok {x:Nd} {ts:List Tk} {v:V} {r:List Tk} (h:okN x ts=some (.ok v r)):v=.nd x∧r=ts:=by
 unfold okN at h
 cases h
 exact ⟨rfl,rfl⟩
theorem name_cost {ts:List Tk} (h:nameB (hd ts)=true):cost ts=(hd ts).length+cost ts.tail∧(Wf ts→Wf ts.tail):=hd_cost rfl (by obtain ⟨a1,a2,a3,a4,a5,a6,a7,a8,a9,a10,a11,a12,a13,a14,a15,a16,a17,a18,a19,a20,a21,a22,a23,a24,a25,a26⟩:=name_ne h;exact a26)
end Go.Proofs.YthcfianhdkolhaaGreatDoor.S
namespace Go.Proofs.YthcfianhdkolhaaGreatDoor.S
set_option linter.unusedVariables false
set_option linter.unusedSimpArgs false
variable (s : List UInt8) (t x a b c : Nd) (l m : List Nd) (d st : Bool) (v : Int)
theorem rs_int:rs (.mk 9 [] 0 [])=3:=by simp [rs,shT_mk,shK,cost,Tk.raw]
theorem rs_long:rs (.mk 10 [] 0 [])=4:=by simp [rs,shT_mk,shK,cost,Tk.raw]
theorem rs_named:rs (.mk 11 s 0 [])=s.length:=by simp [rs,shT_mk,shK,cost,Tk.raw]
theorem rs_fn:rs (.mk 12 [] (b2n d) (l++[t]))=2+rsRow l d+rs t:=by
 simp [rs,shT_mk,shK,cost,cost_app,Tk.raw,lastT,b2n_one,rsRow]
 omega
theorem rs_param:rs (.mk 8 s 0 [t])=rs t+s.length:=by simp [rs,sh_param,cost,cost_app,Tk.raw]
theorem rs_field:rs (.mk 3 s 0 [t])=rs t+s.length+1:=by simp [rs,sh_field,cost,cost_app,Tk.raw];omega
theorem rs_num (h:0≤v):rs (.mk 21 [] v [])=(decN v.toNat).length:=by
 have:¬ v<0:=by omega
 simp [rs,shT_mk,shK,numT,this,cost,Tk.raw]
theorem rs_lnum (h:0≤v):rs (.mk 22 [] v [])=(decN v.toNat).length+1:=by
 have:¬ v<0:=by omega
 simp [rs,shT_mk,shK,numT,this,cost,Tk.raw]
theorem rs_numN (h:v<0):rs (.mk 21 [] v [])=1+(decN (-v).toNat).length:=by
 simp [rs,shT_mk,shK,numT,h,cost,Tk.raw]
theorem rs_lnumN (h:v<0):rs (.mk 22 [] v [])=1+((decN (-v).toNat).length+1):=by
 simp [rs,shT_mk,shK,numT,h,cost,Tk.raw]
theorem rs_name:rs (.mk 23 s 0 [])=s.length:=by simp [rs,shT_mk,shK,cost,Tk.raw]
theorem rs_dot:rs (.mk 24 s 0 [x])=rsAt x 4+1+s.length:=by simp [rs,rsAt,shT_mk,shK,sh1,cost,cost_app,Tk.raw];omega
theorem rs_call:rs (.mk 25 [] 0 (x::l))=rsAt x 4+rsRow l false:=by simp [rs,rsAt,rsRow,shT_mk,shK,shC,cost,cost_app,Tk.raw]
theorem rs_addr:rs (.mk 26 s 0 [])=1+s.length:=by simp [rs,shT_mk,shK,cost,Tk.raw]
theorem rs_make:rs (.mk 27 s 0 l)=s.length+1+(S l - 1)+1:=by simp [rs,shT_mk,shK,cost,cost_app,cost_join,Tk.raw];omega
theorem rs_neg:rs (.mk 28 [] 0 [x])=1+rsAt x 3:=by simp [rs,rsAt,shT_mk,shK,sh1,cost,cost_app,Tk.raw]
theorem rs_not:rs (.mk 29 [] 0 [x])=1+rsAt x 3:=by simp [rs,rsAt,shT_mk,shK,sh1,cost,cost_app,Tk.raw]
theorem rs_toInt:rs (.mk 30 [] 0 [x])=rs x+5:=by simp [rs,shT_mk,shK,cost,cost_app,Tk.raw];omega
theorem rs_toLong:rs (.mk 31 [] 0 [x])=rs x+6:=by simp [rs,shT_mk,shK,cost,cost_app,Tk.raw];omega
theorem rs_extra:rs (.mk 34 [] 0 [x])=rs x+7:=by simp [rs,shT_mk,shK,cost,cost_app,Tk.raw];omega
theorem rs_count:rs (.mk 33 [] 0 [])=5:=by simp [rs,shT_mk,shK,cost,Tk.raw]
theorem rs_op:rs (.mk 32 [] v [a,b])=rsAt a (max (opBind v) 1)+(opSign v).length+rsAt b (opBind v+1):=by simp [rs,rsAt,shT_mk,shK,sh2,cost,cost_app,Tk.raw];omega
theorem rs_block:rs (.mk 13 [] 0 l)=Z l+2:=by simp [rs,sh_block,cost,cost_app,cost_flat,Tk.raw];omega
theorem rs_var:rs (.mk 14 s 0 [t,x])=rs t+s.length+1+rs x+1:=by simp [rs,shT_mk,shK,lastT,cost,cost_app,Tk.raw];omega
theorem rs_set:rs (.mk 15 [] 0 [a,x])=rs a+1+rs x+1:=by simp [rs,shT_mk,shK,lastT,cost,cost_app,Tk.raw];omega
theorem rs_if1:rs (.mk 16 [] 0 [c,a])=4+rs c+rs a:=by simp [rs,shT_mk,shK,shI,cost,cost_app,Tk.raw];omega
theorem rs_if2:rs (.mk 16 [] 0 [c,a,b])=8+rs c+rs a+rs b:=by simp [rs,shT_mk,shK,shI,cost,cost_app,Tk.raw];omega
theorem rs_while:rs (.mk 17 [] 0 [c,a])=7+rs c+rs a:=by simp [rs,shT_mk,shK,shW,cost,cost_app,Tk.raw];omega
theorem rs_ret:rs (.mk 18 [] 0 [x])=7+rs x:=by simp [rs,shT_mk,shK,cost,cost_app,Tk.raw];omega
theorem rs_put:rs (.mk 19 [] 0 [x])=6+rs x:=by simp [rs,shT_mk,shK,cost,cost_app,Tk.raw];omega
theorem rs_do:rs (.mk 20 [] 0 [x])=rs x+1:=by simp [rs,shT_mk,shK,cost,cost_app,Tk.raw]
theorem rs_struct:rs (.mk 2 s 0 l)=8+s.length+Z l:=by simp [rs,shT_mk,shK,cost,cost_app,cost_flat,Tk.raw];omega
theorem rs_extern:rs (.mk 4 s (b2n d) (l++[t]))=7+rs t+s.length+rsRow l d:=by simp [rs,rsRow,shT_mk,shK,lastT,b2n_one,cost,cost_app,Tk.raw];omega
theorem rs_outside:rs (.mk 5 s 0 [t])=7+rs t+s.length:=by simp [rs,shT_mk,shK,cost,cost_app,Tk.raw];omega
theorem rs_global:rs (.mk 6 s (b2n st) [t,x])=(if st=true then 6 else 0)+rs t+s.length+rs x+2:=by
 cases st<;>simp [rs,shT_mk,shK,lastT,b2n,cost,cost_app,Tk.raw]<;>omega
theorem rs_fun:rs (.mk 7 s (b2n st+2*b2n d) (l++[t]++[x]))=(if st=true then 6 else 0)+rs t+s.length+rsRow l d+rs x:=by
 unfold rs rsRow
 rw [shT_mk]
 have e1:((l++[t]++[x]).map shT).dropLast=(l++[t]).map shT:=by simp
 have e2:lastT ((l++[t]++[x]).map shT)=shT x:=by simp [lastT]
 have e3:((l++[t]).map shT).dropLast=l.map shT:=by simp
 have e4:lastT ((l++[t]).map shT)=shT t:=by simp [lastT]
 have e5:shK 7 s (b2n st+2*b2n d) (l++[t]++[x]) ((l++[t]++[x]).map shT)=(if (b2n st+2*b2n d) % 2=1 then [wd sSTATIC] else [])++(lastT ((l++[t]++[x]).map shT).dropLast++[wd s]++rowT ((l++[t]++[x]).map shT).dropLast.dropLast (decide (2≤b2n st+2*b2n d))++lastT ((l++[t]++[x]).map shT)):=by simp only [shK];rfl
 rw [e5,e1,e2,e3,e4,(b2n_two st d).2]
 simp only [(b2n_two st d).1]
 cases st<;>simp [cost,cost_app,Tk.raw]<;>omega
theorem rs_unit:rs (.mk 1 [] 0 l)=Z l:=by simp [rs,shT_mk,shK,cost_flat]
end Go.Proofs.YthcfianhdkolhaaGreatDoor.S
namespace Go.Proofs.YthcfianhdkolhaaGreatDoor.S
set_option linter.unusedVariables false
set_option linter.unusedSimpArgs false
def Hp (p:G→List Tk→O):Prop:=∀ g ts v r,p g ts=some (.ok v r)→Wf ts→Wf r∧Sp g (cost ts) v (cost r)
variable {p : G → List Tk → O} {ts r : List Tk} {v : V}
def Pm (g:G) (ts:List Tk) (v:V) (r:List Tk):Prop:=Wf r∧Sp g (cost ts) v (cost r)
theorem f_typ (H:Hp p) (h:F p .typ ts=some (.ok v r)) (w:Wf ts):Pm .typ ts v r:=by
 simp only [F] at h
 split at h
 ·rename_i e
  obtain ⟨rfl,rfl⟩:=okN_ok h
  obtain ⟨c1,c2⟩:=hd_cost e (by decide)
  exact ⟨c2 w,IsTy.int,by rw [rs_int,c1];exact Nat.le_of_eq (by rw [Nat.add_comm];rfl)⟩
 split at h
 ·rename_i _ e
  obtain ⟨rfl,rfl⟩:=okN_ok h
  obtain ⟨c1,c2⟩:=hd_cost e (by decide)
  exact ⟨c2 w,IsTy.long,by rw [rs_long,c1];exact Nat.le_of_eq (by rw [Nat.add_comm];rfl)⟩
 split at h
 ·rename_i _ _ e
  obtain ⟨c1,c2⟩:=hd_cost e (by decide)
  obtain ⟨l,d,s,h1,h2⟩:=andR_ok h
  obtain ⟨w1,i1,i2,i3⟩:=H _ _ _ _ h1 (c2 w)
  obtain ⟨t,s2,h3,h4⟩:=andN_ok h2
  obtain ⟨w2,j1,j2⟩:=H _ _ _ _ h3 w1
  obtain ⟨rfl,rfl⟩:=okN_ok h4
  refine ⟨w2,IsTy.fn l d t (fun x hx=>i1 x hx) j1,?_⟩
  rw [rs_fn,c1]
  have:sFN.length=2:=rfl
  omega
 ·obtain ⟨h1,h2⟩:=name_ok h
  obtain ⟨rfl,rfl⟩:=okN_ok h2
  obtain ⟨c1,c2⟩:=name_cost h1
  exact ⟨c2 w,IsTy.named _ h1,by rw [rs_named,c1];omega⟩
theorem f_rows (H:Hp p) {wt:Nat} (h:F p (.rows wt) ts=some (.ok v r)) (w:Wf ts):Pm (.rows wt) ts v r:=by
 simp only [F] at h
 obtain ⟨e,h1⟩:=must_ok h
 obtain ⟨c1,c2⟩:=hd_cost e (by decide)
 have l1:sLP.length=1:=rfl
 split at h1
 ·rename_i e2
  cases h1
  obtain ⟨c3,c4⟩:=hd_cost e2 (by decide)
  have l2:sRP.length=1:=rfl
  refine ⟨c4 (c2 w),fun x hx=>by simp at hx,fun _=>rfl,?_⟩
  rw [rsRow_eq,if_pos ⟨rfl,rfl⟩]
  omega
 ·obtain ⟨w1,i⟩:=H _ _ _ _ h1 (c2 w)
  cases v with
  | nd x=>exact i.elim
  | row l d=>
   obtain ⟨i1,i2,i3,i4⟩:=i (fun x hx=>by simp at hx)
   refine ⟨w1,i1,i2,?_⟩
   rw [rsRow_eq,if_neg (by rcases i3 with a|a<;>simp [a])]
   have:S ([]:List Nd)=0:=rfl
   omega
theorem f_rowsL (H:Hp p) {wt:Nat} {acc:List Nd} (h:F p (.rowsL wt acc) ts=some (.ok v r)) (w:Wf ts):Pm (.rowsL wt acc) ts v r:=by
 simp only [F] at h
 split at h
 ·rename_i e
  obtain ⟨c1,c2⟩:=hd_cost e.2 (by decide)
  obtain ⟨e2,h1⟩:=must_ok h
  obtain ⟨c3,c4⟩:=hd_cost e2 (by decide)
  cases h1
  have l1:sDOTS.length=3:=rfl
  have l2:sRP.length=1:=rfl
  exact ⟨c4 (c2 w),fun ha=>⟨ha,fun h2=>by omega,Or.inr rfl,by rw [if_pos rfl];omega⟩⟩
 ·obtain ⟨x,s,h1,h2⟩:=andN_ok h
  obtain ⟨w1,i1,i2⟩:=H _ _ _ _ h1 w
  have ext:∀ (ha:∀ y,y∈acc→Item wt y),∀ y,y∈acc++[x]→Item wt y:=fun ha y hy=>by
   rcases List.mem_append.1 hy with hy|hy
   ·exact ha y hy
   ·simp at hy;subst hy;exact i1
  split at h2
  ·rename_i e
   obtain ⟨c1,c2⟩:=hd_cost e (by decide)
   obtain ⟨w2,j⟩:=H _ _ _ _ h2 (c2 w1)
   cases v with
   | nd x=>exact j.elim
   | row l d=>
    refine ⟨w2,fun ha=>?_⟩
    obtain ⟨j1,j2,j3,j4⟩:=j (ext ha)
    have l1:sCOMMA.length=1:=rfl
    rw [S_app] at j4
    exact ⟨j1,j2,j3,by omega⟩
  ·obtain ⟨e,h3⟩:=must_ok h2
   obtain ⟨c1,c2⟩:=hd_cost e (by decide)
   cases h3
   have l1:sRP.length=1:=rfl
   refine ⟨c2 w1,fun ha=>⟨ext ha,fun _=>rfl,Or.inl (by simp),?_⟩⟩
   rw [S_app]
   simp
   omega
theorem f_item (H:Hp p) {wt:Nat} (h:F p (.item wt) ts=some (.ok v r)) (w:Wf ts):Pm (.item wt) ts v r:=by
 simp only [F] at h
 split at h
 ·rename_i e
  subst e
  obtain ⟨w1,i⟩:=H _ _ _ _ h w
  cases v with
  | nd x=>exact ⟨w1,i.1,i.2⟩
  | row l d=>exact i.elim
 split at h
 ·rename_i _ e
  subst e
  obtain ⟨t,s,h1,h2⟩:=andN_ok h
  obtain ⟨w1,i1,i2⟩:=H _ _ _ _ h1 w
  obtain ⟨n1,h3⟩:=name_ok h2
  obtain ⟨rfl,rfl⟩:=okN_ok h3
  obtain ⟨c1,c2⟩:=name_cost n1
  exact ⟨c2 w1,IsPa.param _ _ n1 i1,by rw [rs_param];omega⟩
 ·rename_i e1 e2
  obtain ⟨w1,i⟩:=H _ _ _ _ h w
  cases v with
  | nd x=>exact ⟨w1,by unfold Item;rw [if_neg e1,if_neg e2];exact i.1,i.2⟩
  | row l d=>exact i.elim
theorem f_expr (H:Hp p) (h:F p .expr ts=some (.ok v r)) (w:Wf ts):Pm .expr ts v r:=by
 simp only [F] at h
 obtain ⟨w1,i⟩:=H _ _ _ _ h w
 cases v with
 | nd x=>exact ⟨w1,i.1,by have:=(rsAt_le x ((min 0 3:Nat):Int)).1;have:=i.2;omega⟩
 | row l d=>exact i.elim
theorem f_bound (H:Hp p) {k:Nat} (h:F p (.bound k) ts=some (.ok v r)) (w:Wf ts):Pm (.bound k) ts v r:=by
 simp only [F] at h
 split at h
 ·rename_i e
  obtain ⟨w1,i⟩:=H _ _ _ _ h w
  cases v with
  | nd x=>
   refine ⟨w1,i.1,?_⟩
   have:min k 3=3:=by omega
   rw [this]
   exact i.2
  | row l d=>exact i.elim
 ·rename_i e
  obtain ⟨x,s,h1,h2⟩:=andN_ok h
  obtain ⟨w1,i1,i2⟩:=H _ _ _ _ h1 w
  obtain ⟨w2,j⟩:=H _ _ _ _ h2 w1
  cases v with
  | nd y=>
   obtain ⟨j1,j2⟩:=j (by omega) i1
   refine ⟨w2,j1,?_⟩
   have e1:min (k+1) 3=k+1:=by omega
   have e2:min k 3=k:=by omega
   rw [e1] at i2
   rw [e2]
   have:=rsAt_mono x (show max (k:Int) 1≤((k+1:Nat):Int) by omega)
   omega
  | row l d=>exact j.elim
theorem f_boundL (H:Hp p) {k:Nat} {acc:Nd} (h:F p (.boundL k acc) ts=some (.ok v r)) (w:Wf ts):Pm (.boundL k acc) ts v r:=by
 simp only [F] at h
 split at h
 ·rename_i e
  obtain ⟨⟨o1,o2,o3⟩,o4⟩:=sign_ok e
  obtain ⟨c1,c2⟩:=hd_cost (rfl:hd ts=hd ts) o4
  obtain ⟨y,s,h1,h2⟩:=andN_ok h
  obtain ⟨w1,i1,i2⟩:=H _ _ _ _ h1 (c2 w)
  have hrs:rs (.mk 32 [] (sign (hd ts)).2 [acc,y])=rsAt acc (max (k:Int) 1)+(hd ts).length+rsAt y ((k+1:Nat):Int):=by
   rw [rs_op,o2,o3]
   rfl
  have hbn:bindN (.mk 32 [] (sign (hd ts)).2 [acc,y])=k:=by simp [bindN,o2]
  split at h2
  ·rename_i e0
   subst e0
   obtain ⟨rfl,rfl⟩:=okN_ok h2
   refine ⟨w1,fun hk ha=>⟨IsEx.op _ _ _ o1 ha i1,?_⟩⟩
   rw [rsAt_eq (by rw [hbn];exact Int.le_refl _),hrs]
   have e1:min (0+1) 3=0+1:=by omega
   rw [e1] at i2
   omega
  ·rename_i e0
   obtain ⟨w2,j⟩:=H _ _ _ _ h2 w1
   cases v with
   | nd z=>
    refine ⟨w2,fun hk ha=>?_⟩
    obtain ⟨j1,j2⟩:=j hk (IsEx.op _ _ _ o1 ha i1)
    refine ⟨j1,?_⟩
    rw [rsAt_eq (x:=.mk 32 [] (sign (hd ts)).2 [acc,y]) (k:=max (k:Int) 1) (by rw [hbn];omega),hrs] at j2
    have e1:min (k+1) 3=k+1:=by omega
    rw [e1] at i2
    omega
   | row l d=>exact j.elim
 ·obtain ⟨rfl,rfl⟩:=okN_ok h
  refine ⟨w,fun hk ha=>⟨ha,?_⟩⟩
  have:=rsAt_mono acc (show (k:Int)≤max (k:Int) 1 by omega)
  omega
theorem f_unary (H:Hp p) (h:F p .unary ts=some (.ok v r)) (w:Wf ts):Pm .unary ts v r:=by
 simp only [F] at h
 split at h
 ·rename_i e
  obtain ⟨c1,c2⟩:=hd_cost e (by decide)
  obtain ⟨x,s,h1,h2⟩:=andN_ok h
  obtain ⟨w1,i1,i2⟩:=H _ _ _ _ h1 (c2 w)
  obtain ⟨rfl,rfl⟩:=okN_ok h2
  refine ⟨w1,IsEx.neg x i1,?_⟩
  rw [rsAt_eq (by simp [bindN]),rs_neg]
  have:sMINUS.length=1:=rfl
  omega
 split at h
 ·rename_i _ e
  obtain ⟨c1,c2⟩:=hd_cost e (by decide)
  obtain ⟨x,s,h1,h2⟩:=andN_ok h
  obtain ⟨w1,i1,i2⟩:=H _ _ _ _ h1 (c2 w)
  obtain ⟨rfl,rfl⟩:=okN_ok h2
  refine ⟨w1,IsEx.not x i1,?_⟩
  rw [rsAt_eq (by simp [bindN]),rs_not]
  have:sNOT.length=1:=rfl
  omega
 ·obtain ⟨x,s,h1,h2⟩:=andN_ok h
  obtain ⟨w1,i1,i2⟩:=H _ _ _ _ h1 w
  obtain ⟨w2,j⟩:=H _ _ _ _ h2 w1
  cases v with
  | nd y=>
   obtain ⟨j1,j2⟩:=j i1
   refine ⟨w2,j1,?_⟩
   have:=rsAt_mono y (show (3:Int)≤4 by omega)
   omega
  | row l d=>exact j.elim
theorem f_postL (H:Hp p) {acc:Nd} (h:F p (.postL acc) ts=some (.ok v r)) (w:Wf ts):Pm (.postL acc) ts v r:=by
 simp only [F] at h
 split at h
 ·rename_i e
  obtain ⟨c1,c2⟩:=hd_cost e (by decide)
  obtain ⟨n1,h1⟩:=name_ok h
  obtain ⟨c3,c4⟩:=name_cost n1
  obtain ⟨w1,j⟩:=H _ _ _ _ h1 (c4 (c2 w))
  cases v with
  | nd y=>
   refine ⟨w1,fun ha=>?_⟩
   obtain ⟨j1,j2⟩:=j (IsEx.dot _ _ n1 ha)
   refine ⟨j1,?_⟩
   rw [rsAt_eq (x:=.mk 24 _ 0 [acc]) (by rw [b4 (by decide) (by decide) (by decide)];omega),rs_dot] at j2
   have:sDOT.length=1:=rfl
   omega
  | row l d=>exact j.elim
 split at h
 ·rename_i _ e
  obtain ⟨l,d,s,h1,h2⟩:=andR_ok h
  obtain ⟨w1,i1,i2,i3⟩:=H _ _ _ _ h1 w
  obtain ⟨w2,j⟩:=H _ _ _ _ h2 w1
  cases v with
  | nd y=>
   refine ⟨w2,fun ha=>?_⟩
   obtain ⟨j1,j2⟩:=j (IsEx.call _ _ ha (fun y hy=>by have:=i1 y hy;simpa [Item] using this))
   refine ⟨j1,?_⟩
   rw [rsAt_eq (x:=.mk 25 [] 0 (acc::l)) (by rw [b4 (by decide) (by decide) (by decide)];omega),rs_call] at j2
   rw [i2 (by omega)] at i3
   omega
  | row l d=>exact j.elim
 ·obtain ⟨rfl,rfl⟩:=okN_ok h
  exact ⟨w,fun ha=>⟨ha,Nat.le_refl _⟩⟩
theorem f_number {ts:List Tk} {v:V} {r:List Tk} (h:number ts=some (.ok v r)) (w:Wf ts):Wf r∧((∃ u,v=.nd (.mk 21 [] u [])∧0≤u∧u≤2147483647∧cost r+(decN u.toNat).length≤cost ts)∨(∃ u,v=.nd (.mk 22 [] u [])∧0≤u∧u≤9223372036854775807∧cost r+(decN u.toNat).length+1≤cost ts)):=by
 cases ts with
 | nil=>cases h
 | cons t q=>
  have hw:Wf q:=fun x hx=>w x (by simp [hx])
  have ht:=w t (by simp)
  simp only [number] at h
  split at h
  ·rename_i e
   cases h
   obtain ⟨a1,a2,a3⟩:=ht.1 e
   refine ⟨hw,Or.inl ⟨_,rfl,a1,a2,?_⟩⟩
   simp only [cost,Tk.raw]
   omega
  split at h
  ·rename_i _ e
   cases h
   obtain ⟨a1,a2,a3⟩:=ht.2 e
   refine ⟨hw,Or.inr ⟨_,rfl,a1,a2,?_⟩⟩
   simp only [cost,Tk.raw,e,if_true]
   omega
  ·cases h
theorem f_first (H:Hp p) (h:F p .first ts=some (.ok v r)) (w:Wf ts):Pm .first ts v r:=by
 simp only [F] at h
 split at h
 ·rename_i e
  obtain ⟨w1,j⟩:=H _ _ _ _ h w
  cases v with
  | nd y=>
   obtain ⟨j1,j2⟩:=j
   exact ⟨w1,j1,by have:=(rsAt_le y 4).2;omega⟩
  | row l d=>exact j.elim
 split at h
 ·rename_i _ e
  obtain ⟨c1,c2⟩:=hd_cost e (by decide)
  obtain ⟨n1,h1⟩:=name_ok h
  obtain ⟨c3,c4⟩:=name_cost n1
  obtain ⟨rfl,rfl⟩:=okN_ok h1
  refine ⟨c4 (c2 w),IsEx.addr _ n1,?_⟩
  rw [rsAt_eq (by rw [b4 (by decide) (by decide) (by decide)];omega),rs_addr]
  have:sAMP.length=1:=rfl
  omega
 split at h
 ·rename_i _ _ e
  obtain ⟨c1,c2⟩:=hd_cost e (by decide)
  obtain ⟨rfl,rfl⟩:=okN_ok h
  refine ⟨c2 w,IsEx.count,?_⟩
  rw [rsAt_eq (by rw [b4 (by decide) (by decide) (by decide)];omega),rs_count]
  have:sCOUNT.length=5:=rfl
  omega
 split at h
 ·rename_i _ _ _ e
  obtain ⟨c1,c2⟩:=hd_cost e (by decide)
  obtain ⟨x,s,h1,h2⟩:=andN_ok h
  obtain ⟨w1,i1,i2⟩:=H _ _ _ _ h1 (c2 w)
  obtain ⟨rfl,rfl⟩:=okN_ok h2
  refine ⟨w1,IsEx.toInt x i1,?_⟩
  rw [rsAt_eq (by rw [b4 (by decide) (by decide) (by decide)];omega),rs_toInt]
  have:sINT.length=3:=rfl
  omega
 split at h
 ·rename_i _ _ _ _ e
  obtain ⟨c1,c2⟩:=hd_cost e (by decide)
  obtain ⟨x,s,h1,h2⟩:=andN_ok h
  obtain ⟨w1,i1,i2⟩:=H _ _ _ _ h1 (c2 w)
  obtain ⟨rfl,rfl⟩:=okN_ok h2
  refine ⟨w1,IsEx.toLong x i1,?_⟩
  rw [rsAt_eq (by rw [b4 (by decide) (by decide) (by decide)];omega),rs_toLong]
  have:sLONG.length=4:=rfl
  omega
 split at h
 ·rename_i _ _ _ _ _ e
  obtain ⟨c1,c2⟩:=hd_cost e (by decide)
  obtain ⟨x,s,h1,h2⟩:=andN_ok h
  obtain ⟨w1,i1,i2⟩:=H _ _ _ _ h1 (c2 w)
  obtain ⟨rfl,rfl⟩:=okN_ok h2
  refine ⟨w1,IsEx.extra x i1,?_⟩
  rw [rsAt_eq (by rw [b4 (by decide) (by decide) (by decide)];omega),rs_extra]
  have:sEXTRA.length=5:=rfl
  omega
 split at h
 ·rename_i n1
  obtain ⟨c1,c2⟩:=name_cost n1
  split at h
  ·rename_i e
   obtain ⟨c3,c4⟩:=hd_cost e (by decide)
   have l1:sLB.length=1:=rfl
   split at h
   ·rename_i e2
    obtain ⟨c5,c6⟩:=hd_cost e2 (by decide)
    have l2:sRB.length=1:=rfl
    obtain ⟨rfl,rfl⟩:=okN_ok h
    refine ⟨c6 (c4 (c2 w)),IsEx.make _ _ n1 (fun y hy=>by simp at hy),?_⟩
    rw [rsAt_eq (by rw [b4 (by decide) (by decide) (by decide)];omega),rs_make]
    have:S ([]:List Nd)=0:=rfl
    omega
   ·obtain ⟨w1,j⟩:=H _ _ _ _ h (c4 (c2 w))
    cases v with
    | nd y=>
     obtain ⟨j1,j2,j3⟩:=j n1 (fun y hy=>by simp at hy)
     refine ⟨w1,j1,?_⟩
     rw [rsAt_eq (by omega)]
     have:S ([]:List Nd)=0:=rfl
     omega
    | row l d=>exact j.elim
  ·obtain ⟨rfl,rfl⟩:=okN_ok h
   refine ⟨c2 w,IsEx.name _ n1,?_⟩
   rw [rsAt_eq (by rw [b4 (by decide) (by decide) (by decide)];omega),rs_name]
   omega
 ·obtain ⟨w1,i⟩:=f_number h w
  rcases i with ⟨u,rfl,u1,u2,u3⟩|⟨u,rfl,u1,u2,u3⟩
  ·refine ⟨w1,IsEx.num u u1 u2,?_⟩
   rw [rsAt_eq (by rw [b4 (by decide) (by decide) (by decide)];omega),rs_num u u1]
   exact u3
  ·refine ⟨w1,IsEx.long u u1 u2,?_⟩
   rw [rsAt_eq (by rw [b4 (by decide) (by decide) (by decide)];omega),rs_lnum u u1]
   omega
theorem f_round (H:Hp p) (h:F p .round ts=some (.ok v r)) (w:Wf ts):Pm .round ts v r:=by
 simp only [F] at h
 obtain ⟨e,h1⟩:=must_ok h
 obtain ⟨c1,c2⟩:=hd_cost e (by decide)
 obtain ⟨x,s,h2,h3⟩:=andN_ok h1
 obtain ⟨w1,i1,i2⟩:=H _ _ _ _ h2 (c2 w)
 obtain ⟨e2,h4⟩:=must_ok h3
 obtain ⟨c3,c4⟩:=hd_cost e2 (by decide)
 obtain ⟨rfl,rfl⟩:=okN_ok h4
 have l1:sLP.length=1:=rfl
 have l2:sRP.length=1:=rfl
 exact ⟨c4 w1,i1,by omega⟩
theorem f_makeL (H:Hp p) {s:List UInt8} {acc:List Nd} (h:F p (.makeL s acc) ts=some (.ok v r)) (w:Wf ts):Pm (.makeL s acc) ts v r:=by
 simp only [F] at h
 obtain ⟨x,q,h1,h2⟩:=andN_ok h
 obtain ⟨w1,i1,i2⟩:=H _ _ _ _ h1 w
 have ext:∀ (ha:∀ y,y∈acc→IsEx y),∀ y,y∈acc++[x]→IsEx y:=fun ha y hy=>by
  rcases List.mem_append.1 hy with hy|hy
  ·exact ha y hy
  ·simp at hy;subst hy;exact i1
 split at h2
 ·rename_i e
  obtain ⟨c1,c2⟩:=hd_cost e (by decide)
  obtain ⟨w2,j⟩:=H _ _ _ _ h2 (c2 w1)
  cases v with
  | nd z=>
   refine ⟨w2,fun hs ha=>?_⟩
   obtain ⟨j1,j2,j3⟩:=j hs (ext ha)
   rw [S_app] at j3
   have l1:sCOMMA.length=1:=rfl
   exact ⟨j1,j2,by omega⟩
  | row l d=>exact j.elim
 ·obtain ⟨e,h3⟩:=must_ok h2
  obtain ⟨c1,c2⟩:=hd_cost e (by decide)
  obtain ⟨rfl,rfl⟩:=okN_ok h3
  refine ⟨c2 w1,fun hs ha=>⟨IsEx.make s _ hs (ext ha),b4 (by decide) (by decide) (by decide),?_⟩⟩
  rw [rs_make,S_app]
  have l1:sRB.length=1:=rfl
  omega
end Go.Proofs.YthcfianhdkolhaaGreatDoor.S
