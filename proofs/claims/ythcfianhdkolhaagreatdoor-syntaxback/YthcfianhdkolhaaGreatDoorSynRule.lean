/- SynLen SynRule -/
import Derived.Test.YthcfianhdkolhaaGreatDoorSynTb
import Derived.Lib.Join
import Derived.Test.YthcfianhdkolhaaGreatDoorSynIsU
namespace Go.Proofs.YthcfianhdkolhaaGreatDoor.S
set_option linter.unusedVariables false
set_option linter.unusedSimpArgs false
theorem lb_one (d:Bool):decide (b2n d=1)=d:=by cases d<;>decide
theorem lb_odd (st:Bool):((b2n st % 2=1) ↔ st=true):=by cases st<;>simp [b2n]
theorem lb_two (st d:Bool):(((b2n st+2*b2n d) % 2=1) ↔ st=true)∧decide (2≤b2n st+2*b2n d)=d:=by cases st<;>cases d<;>simp [b2n]
theorem lb_block (l:List Nd):shT (.mk 13 [] 0 l)=[sg sLB]++(l.map shT).flatten++[sg sRB]:=by rw [shT_mk];simp [shK]
theorem lb_param (s:List UInt8) (t:Nd):shT (.mk 8 s 0 [t])=shT t++[wd s]:=by rw [shT_mk];simp [shK]
theorem lb_field (s:List UInt8) (t:Nd):shT (.mk 3 s 0 [t])=shT t++[wd s,sg sSEMI]:=by rw [shT_mk];simp [shK]
def TkG (t:Tk):Prop:=(rawT t).length≤22
def wordB (s:List UInt8):Bool:=decide (s.length≤16)
theorem g_word {s:List UInt8} (h:wordB s=true):TkG (wd s):=by
 have h':s.length≤16:=of_decide_eq_true h
 show (rawT (wd s)).length≤22
 rw [raw_wd]
 omega
theorem name_word {s:List UInt8} (h:nameB s=true):wordB s=true:=by
 unfold nameB at h
 simp only [Bool.and_eq_true,decide_eq_true_eq] at h
 exact decide_eq_true h.1.1.2
theorem g_name {s:List UInt8} (h:nameB s=true):TkG (wd s):=g_word (name_word h)
def signs:List (List UInt8):=[sLP,sRP,sLB,sRB,sSEMI,sCOMMA,sDOTS,sDOT,sEQ,sMINUS,sNOT,sAMP,sSAME,sLESS,sPLUS,sOR,sXOR,sMUL,sDIV,sREM]
theorem g_sg {s:List UInt8} (h:signs.contains s=true):TkG (sg s):=by
 rw [List.contains_iff_mem] at h
 have hall:(signs.all fun s=>decide (s.length≤16))=true:=by decide
 have:=of_decide_eq_true (List.all_eq_true.1 hall s h)
 show (rawT (sg s)).length≤22
 rw [raw_sg]
 omega
theorem dec_short:∀ (k n:Nat),n<10 ^ k→1≤k→(decN n).length≤k
 | 0,n,h,h1=>by omega
 | k+1,n,h,h1=>by
  unfold decN
  split
  ·simp
  ·rename_i h10
   by_cases hk:k=0
   ·subst hk;omega
   ·have:=dec_short k (n / 10) (by rw [Nat.pow_succ] at h;omega) (by omega)
    rw [List.length_append]
    simp
    omega
theorem g_dec {k:Int} {n:Nat} (h:n≤9223372036854775807):TkG ⟨k,decN n⟩:=by
 have h1:=dec_short 19 n (by have h19:(10:Nat) ^ 19=10000000000000000000:=(by decide);omega) (by omega)
 show (rawT ⟨k,decN n⟩).length≤22
 unfold rawT
 split
 ·rw [List.length_append];simp only [List.length_cons,List.length_nil];omega
 ·simp only;omega
theorem g_numA {k v:Int} (h1:-9223372036854775807≤v) (h2:v≤9223372036854775807):∀ t,t∈numT k v→TkG t:=by
 intro t ht
 unfold numT at ht
 split at ht
 ·simp at ht
  rcases ht with rfl|rfl
  ·exact g_sg (by decide)
  ·exact g_dec (by omega)
 ·simp at ht
  subst ht
  exact g_dec (by omega)
theorem g_numT {v:Int} (h1:-2147483647≤v) (h2:v≤2147483647):∀ t,t∈numT 2 v→TkG t:=g_numA (by omega) (by omega)
theorem g_numL {v:Int} (h1:-9223372036854775807≤v) (h2:v≤9223372036854775807):∀ t,t∈numT 3 v→TkG t:=g_numA h1 h2
def Al (l:List Tk):Prop:=∀ t,t∈l→TkG t
theorem al_nil:Al []:=fun t h=>by simp at h
theorem al_cons {t:Tk} {l:List Tk} (h:TkG t) (k:Al l):Al (t::l):=fun x hx=>by
 rcases List.mem_cons.1 hx with rfl|hx
 ·exact h
 ·exact k x hx
theorem al_app {a b:List Tk} (h:Al a) (k:Al b):Al (a++b):=fun x hx=>by
 rcases List.mem_append.1 hx with hx|hx
 ·exact h x hx
 ·exact k x hx
theorem al_at {b k:Int} {x:List Tk} (h:Al x):Al (atT b k x):=by
 unfold atT
 split
 ·exact al_cons (g_sg (by decide)) (al_app h (al_cons (g_sg (by decide)) al_nil))
 ·exact h
theorem al_join:∀ (l:List (List Tk)),(∀ x,x∈l→Al x)→Al (joinT l)
 | [],_=>al_nil
 | [x],h=>h x (by simp)
 | x::y::r,h=>al_app (h x (by simp)) (al_cons (g_sg (by decide)) (al_join (y::r) (fun z hz=>h z (by simp [List.mem_cons.1 hz]))))
theorem al_row {l:List Nd} {d:Bool} (h:∀ x,x∈l→Al (shT x)):Al (rowT (l.map shT) d):=by
 unfold rowT
 refine al_cons (g_sg (by decide)) (al_app (al_join _ (fun x hx=>?_)) (al_cons (g_sg (by decide)) al_nil))
 rcases List.mem_append.1 hx with hx|hx
 ·obtain ⟨y,hy,rfl⟩:=List.mem_map.1 hx
  exact h y hy
 ·split at hx
  ·simp at hx
   subst hx
   exact al_cons (g_sg (by decide)) al_nil
  ·simp at hx
theorem al_flat {l:List Nd} (h:∀ x,x∈l→Al (shT x)):Al (l.map shT).flatten:=fun t ht=>by
 obtain ⟨x,hx,ht⟩:=List.mem_flatten.1 ht
 obtain ⟨y,hy,rfl⟩:=List.mem_map.1 hx
 exact h y hy t ht
theorem al_ty {t:Nd} (h:IsTy t):Al (shT t):=by
 induction h with
 | int=>rw [shT_mk];exact al_cons (g_word (by decide)) al_nil
 | long=>rw [shT_mk];exact al_cons (g_word (by decide)) al_nil
 | named s hs=>
  have e:shT (.mk 11 s 0 [])=[wd s]:=by rw [shT_mk];simp [shK]
  rw [e]
  exact al_cons (g_name hs) al_nil
 | fn l d t hl ht ihl iht=>
  have e:shT (.mk 12 [] (b2n d) (l++[t]))=wd sFN::(rowT (l.map shT) d++shT t):=by rw [shT_mk];simp [shK,lastT,lb_one]
  rw [e]
  exact al_cons (g_word (by decide)) (al_app (al_row ihl) iht)
theorem op_in {v:Int} (h:isOp v):signs.contains (opSign v)=true:=by
 rcases h with rfl|rfl|rfl|rfl|rfl|rfl|rfl|rfl|rfl|rfl<;>decide
theorem al_ex {e:Nd} (h:IsEx e):Al (shT e):=by
 induction h with
 | num v h1 h2=>
  have e:shT (.mk 21 [] v [])=numT 2 v:=by rw [shT_mk];simp [shK]
  rw [e];exact g_numT (by omega) h2
 | long v h1 h2=>
  have e:shT (.mk 22 [] v [])=numT 3 v:=by rw [shT_mk];simp [shK]
  rw [e];exact g_numL (by omega) h2
 | name s hs=>
  have e:shT (.mk 23 s 0 [])=[wd s]:=by rw [shT_mk];simp [shK]
  rw [e];exact al_cons (g_name hs) al_nil
 | addr s hs=>
  have e:shT (.mk 26 s 0 [])=[sg sAMP,wd s]:=by rw [shT_mk];simp [shK]
  rw [e];exact al_cons (g_sg (by decide)) (al_cons (g_name hs) al_nil)
 | count=>rw [shT_mk];exact al_cons (g_word (by decide)) al_nil
 | toInt x hx ih=>
  have e:shT (.mk 30 [] 0 [x])=wd sINT::sg sLP::(shT x++[sg sRP]):=by rw [shT_mk];simp [shK]
  rw [e];exact al_cons (g_word (by decide)) (al_cons (g_sg (by decide)) (al_app ih (al_cons (g_sg (by decide)) al_nil)))
 | toLong x hx ih=>
  have e:shT (.mk 31 [] 0 [x])=wd sLONG::sg sLP::(shT x++[sg sRP]):=by rw [shT_mk];simp [shK]
  rw [e];exact al_cons (g_word (by decide)) (al_cons (g_sg (by decide)) (al_app ih (al_cons (g_sg (by decide)) al_nil)))
 | extra x hx ih=>
  have e:shT (.mk 34 [] 0 [x])=wd sEXTRA::sg sLP::(shT x++[sg sRP]):=by rw [shT_mk];simp [shK]
  rw [e];exact al_cons (g_word (by decide)) (al_cons (g_sg (by decide)) (al_app ih (al_cons (g_sg (by decide)) al_nil)))
 | make s l hs hl ih=>
  have e:shT (.mk 27 s 0 l)=wd s::sg sLB::(joinT (l.map shT)++[sg sRB]):=by rw [shT_mk];simp [shK]
  rw [e]
  refine al_cons (g_name hs) (al_cons (g_sg (by decide)) (al_app (al_join _ (fun x hx=>?_)) (al_cons (g_sg (by decide)) al_nil)))
  obtain ⟨y,hy,rfl⟩:=List.mem_map.1 hx
  exact ih y hy
 | dot s x hs hx ih=>
  have e:shT (.mk 24 s 0 [x])=atT (bindN x) 4 (shT x)++[sg sDOT,wd s]:=by rw [shT_mk];simp [shK,sh1]
  rw [e];exact al_app (al_at ih) (al_cons (g_sg (by decide)) (al_cons (g_name hs) al_nil))
 | call x l hx hl ih ihl=>
  have e:shT (.mk 25 [] 0 (x::l))=atT (bindN x) 4 (shT x)++rowT (l.map shT) false:=by rw [shT_mk];simp [shK,shC]
  rw [e];exact al_app (al_at ih) (al_row ihl)
 | neg x hx ih=>
  have e:shT (.mk 28 [] 0 [x])=sg sMINUS::atT (bindN x) 3 (shT x):=by rw [shT_mk];simp [shK,sh1]
  rw [e];exact al_cons (g_sg (by decide)) (al_at ih)
 | not x hx ih=>
  have e:shT (.mk 29 [] 0 [x])=sg sNOT::atT (bindN x) 3 (shT x):=by rw [shT_mk];simp [shK,sh1]
  rw [e];exact al_cons (g_sg (by decide)) (al_at ih)
 | op v a b hv ha hb iha ihb=>
  have e:shT (.mk 32 [] v [a,b])=atT (bindN a) (max (opBind v) 1) (shT a)++(sg (opSign v)::atT (bindN b) (opBind v+1) (shT b)):=by rw [shT_mk];simp [shK,sh2]
  rw [e];exact al_app (al_at iha) (al_cons (g_sg (op_in hv)) (al_at ihb))
theorem al_pl {x:Nd} (h:IsPl x):Al (shT x):=by
 induction h with
 | name s hs=>exact al_ex (IsEx.name s hs)
 | dot s x hs hx ih=>
  have e:shT (.mk 24 s 0 [x])=atT (bindN x) 4 (shT x)++[sg sDOT,wd s]:=by rw [shT_mk];simp [shK,sh1]
  rw [e];exact al_app (al_at ih) (al_cons (g_sg (by decide)) (al_cons (g_name hs) al_nil))
theorem al_ca {x:Nd} (h:IsCa x):Al (shT x):=by
 induction h with
 | name s hs=>exact al_ex (IsEx.name s hs)
 | dot s x hs hx ih=>
  have e:shT (.mk 24 s 0 [x])=atT (bindN x) 4 (shT x)++[sg sDOT,wd s]:=by rw [shT_mk];simp [shK,sh1]
  rw [e];exact al_app (al_at ih) (al_cons (g_sg (by decide)) (al_cons (g_name hs) al_nil))
 | call x l hx hl ih=>
  have e:shT (.mk 25 [] 0 (x::l))=atT (bindN x) 4 (shT x)++rowT (l.map shT) false:=by rw [shT_mk];simp [shK,shC]
  rw [e];exact al_app (al_at ih) (al_row (fun y hy=>al_ex (hl y hy)))
theorem al_block {l:List Nd} (h:∀ y,y∈l→Al (shT y)):Al (shT (.mk 13 [] 0 l)):=by
 rw [lb_block]
 exact al_app (al_app (al_cons (g_sg (by decide)) al_nil) (al_flat h)) (al_cons (g_sg (by decide)) al_nil)
theorem al_st {x:Nd} (h:IsSt x):Al (shT x):=by
 induction h with
 | var s t x hs ht hx=>
  have e:shT (.mk 14 s 0 [t,x])=shT t++(wd s::sg sEQ::(shT x++[sg sSEMI])):=by rw [shT_mk];simp [shK,lastT]
  rw [e];exact al_app (al_ty ht) (al_cons (g_name hs) (al_cons (g_sg (by decide)) (al_app (al_ex hx) (al_cons (g_sg (by decide)) al_nil))))
 | set p x hp hx=>
  have e:shT (.mk 15 [] 0 [p,x])=shT p++(sg sEQ::(shT x++[sg sSEMI])):=by rw [shT_mk];simp [shK,lastT]
  rw [e];exact al_app (al_pl hp) (al_cons (g_sg (by decide)) (al_app (al_ex hx) (al_cons (g_sg (by decide)) al_nil)))
 | if1 c l hc hl ih=>
  have e:shT (.mk 16 [] 0 [c,.mk 13 [] 0 l])=wd sIF::sg sLP::(shT c++(sg sRP::shT (.mk 13 [] 0 l))):=by rw [shT_mk];simp [shK,shI]
  rw [e];exact al_cons (g_word (by decide)) (al_cons (g_sg (by decide)) (al_app (al_ex hc) (al_cons (g_sg (by decide)) (al_block ih))))
 | if2 c l m hc hl hm ihl ihm=>
  have e:shT (.mk 16 [] 0 [c,.mk 13 [] 0 l,.mk 13 [] 0 m])=wd sIF::sg sLP::(shT c++(sg sRP::(shT (.mk 13 [] 0 l)++(wd sELSE::shT (.mk 13 [] 0 m))))):=by rw [shT_mk];simp [shK,shI]
  rw [e];exact al_cons (g_word (by decide)) (al_cons (g_sg (by decide)) (al_app (al_ex hc) (al_cons (g_sg (by decide)) (al_app (al_block ihl) (al_cons (g_word (by decide)) (al_block ihm))))))
 | while1 c l hc hl ih=>
  have e:shT (.mk 17 [] 0 [c,.mk 13 [] 0 l])=wd sWHILE::sg sLP::(shT c++(sg sRP::shT (.mk 13 [] 0 l))):=by rw [shT_mk];simp [shK,shW]
  rw [e];exact al_cons (g_word (by decide)) (al_cons (g_sg (by decide)) (al_app (al_ex hc) (al_cons (g_sg (by decide)) (al_block ih))))
 | ret x hx=>
  have e:shT (.mk 18 [] 0 [x])=wd sRET::(shT x++[sg sSEMI]):=by rw [shT_mk];simp [shK]
  rw [e];exact al_cons (g_word (by decide)) (al_app (al_ex hx) (al_cons (g_sg (by decide)) al_nil))
 | put x hx=>
  have e:shT (.mk 19 [] 0 [x])=wd sPUT::sg sLP::(shT x++[sg sRP,sg sSEMI]):=by rw [shT_mk];simp [shK]
  rw [e];exact al_cons (g_word (by decide)) (al_cons (g_sg (by decide)) (al_app (al_ex hx) (al_cons (g_sg (by decide)) (al_cons (g_sg (by decide)) al_nil))))
 | do1 x l hx hl=>
  have e:shT (.mk 20 [] 0 [.mk 25 [] 0 (x::l)])=shT (.mk 25 [] 0 (x::l))++[sg sSEMI]:=by rw [shT_mk];simp [shK]
  rw [e];exact al_app (al_ca (IsCa.call x l hx hl)) (al_cons (g_sg (by decide)) al_nil)
theorem al_pa {x:Nd} (h:IsPa x):Al (shT x):=by
 cases h with
 | param s t hs ht=>rw [lb_param];exact al_app (al_ty ht) (al_cons (g_name hs) al_nil)
theorem al_fi {x:Nd} (h:IsFi x):Al (shT x):=by
 cases h with
 | field s t hs ht=>rw [lb_field];exact al_app (al_ty ht) (al_cons (g_name hs) (al_cons (g_sg (by decide)) al_nil))
theorem al_static (st:Bool):Al (if st=true then [wd sSTATIC] else []):=by
 cases st
 ·exact al_nil
 ·exact al_cons (g_word (by decide)) al_nil
theorem al_de {x:Nd} (h:IsDe x):Al (shT x):=by
 cases h with
 | struct1 s l hs hne hl=>
  have e:shT (.mk 2 s 0 l)=wd sSTRUCT::wd s::sg sLB::((l.map shT).flatten++[sg sRB]):=by rw [shT_mk];simp [shK]
  rw [e];exact al_cons (g_word (by decide)) (al_cons (g_name hs) (al_cons (g_sg (by decide)) (al_app (al_flat (fun y hy=>al_fi (hl y hy))) (al_cons (g_sg (by decide)) al_nil))))
 | extern1 s l d t hs hl ht=>
  have e:shT (.mk 4 s (b2n d) (l++[t]))=wd sEXTERN::(shT t++(wd s::(rowT (l.map shT) d++[sg sSEMI]))):=by rw [shT_mk];simp [shK,lastT,lb_one]
  rw [e];exact al_cons (g_word (by decide)) (al_app (al_ty ht) (al_cons (g_name hs) (al_app (al_row (fun y hy=>al_pa (hl y hy))) (al_cons (g_sg (by decide)) al_nil))))
 | outside s t hs ht=>
  have e:shT (.mk 5 s 0 [t])=wd sEXTERN::(shT t++[wd s,sg sSEMI]):=by rw [shT_mk];simp [shK]
  rw [e];exact al_cons (g_word (by decide)) (al_app (al_ty ht) (al_cons (g_name hs) (al_cons (g_sg (by decide)) al_nil)))
 | global s st t v hs ht h1 h2=>
  have e:shT (.mk 6 s (b2n st) [t,.mk 21 [] v []])=(if st=true then [wd sSTATIC] else [])++(shT t++(wd s::sg sEQ::(numT 2 v++[sg sSEMI]))):=by
   have e1:shT (.mk 21 [] v [])=numT 2 v:=by rw [shT_mk];simp [shK]
   rw [shT_mk];simp [shK,lastT,e1,lb_odd]
  rw [e];exact al_app (al_static st) (al_app (al_ty ht) (al_cons (g_name hs) (al_cons (g_sg (by decide)) (al_app (g_numT h1 h2) (al_cons (g_sg (by decide)) al_nil)))))
 | globalL s st t v hs ht h1 h2=>
  have e:shT (.mk 6 s (b2n st) [t,.mk 22 [] v []])=(if st=true then [wd sSTATIC] else [])++(shT t++(wd s::sg sEQ::(numT 3 v++[sg sSEMI]))):=by
   have e1:shT (.mk 22 [] v [])=numT 3 v:=by rw [shT_mk];simp [shK]
   rw [shT_mk];simp [shK,lastT,e1,lb_odd]
  rw [e];exact al_app (al_static st) (al_app (al_ty ht) (al_cons (g_name hs) (al_cons (g_sg (by decide)) (al_app (g_numL h1 h2) (al_cons (g_sg (by decide)) al_nil)))))
 | fun1 s st d l t b hs hl ht hb=>
  have e:shT (.mk 7 s (b2n st+2*b2n d) (l++[t]++[.mk 13 [] 0 b]))=(if st=true then [wd sSTATIC] else [])++(shT t++(wd s::(rowT (l.map shT) d++shT (.mk 13 [] 0 b)))):=by
   rw [shT_mk]
   have e1:((l++[t]++[Nd.mk 13 [] 0 b]).map shT).dropLast=(l++[t]).map shT:=by simp
   have e2:lastT ((l++[t]++[Nd.mk 13 [] 0 b]).map shT)=shT (.mk 13 [] 0 b):=by simp [lastT]
   have e3:((l++[t]).map shT).dropLast=l.map shT:=by simp
   have e4:lastT ((l++[t]).map shT)=shT t:=by simp [lastT]
   have e5:shK 7 s (b2n st+2*b2n d) (l++[t]++[Nd.mk 13 [] 0 b]) ((l++[t]++[Nd.mk 13 [] 0 b]).map shT)=(if (b2n st+2*b2n d) % 2=1 then [wd sSTATIC] else [])++(lastT ((l++[t]++[Nd.mk 13 [] 0 b]).map shT).dropLast++[wd s]++rowT ((l++[t]++[Nd.mk 13 [] 0 b]).map shT).dropLast.dropLast (decide (2≤b2n st+2*b2n d))++lastT ((l++[t]++[Nd.mk 13 [] 0 b]).map shT)):=by simp only [shK];rfl
   rw [e5,e1,e2,e3,e4,(lb_two st d).2]
   simp only [(lb_two st d).1]
   simp
  rw [e];exact al_app (al_static st) (al_app (al_ty ht) (al_cons (g_name hs) (al_app (al_row (fun y hy=>al_pa (hl y hy))) (al_block (fun y hy=>al_st (hb y hy))))))
theorem al_un {x:Nd} (h:IsUn x):Al (shT x):=by
 cases h with
 | unit l hl=>
  have e:shT (.mk 1 [] 0 l)=(l.map shT).flatten:=by rw [shT_mk];simp [shK]
  rw [e]
  exact al_flat (fun y hy=>al_de (hl y hy))
theorem inter_len (sep:List UInt8):∀ (xs:List (List UInt8)) (m:Nat),(∀ x,x∈xs→x.length≤m)→(sep.intercalate xs).length≤xs.length*(m+sep.length)
 | [],m,h=>by simp [List.intercalate]
 | [a],m,h=>by
  have:=h a (by simp)
  simp [List.intercalate]
  omega
 | a::b::r,m,h=>by
  have ih:=inter_len sep (b::r) m (fun x hx=>h x (by simp only [List.mem_cons] at hx ⊢;exact Or.inr hx))
  have ha:=h a (by simp)
  simp only [List.intercalate,List.intersperse_cons_cons,List.flatten_cons,List.length_append] at ih ⊢
  rw [show (a::b::r).length=(b::r).length+1 from rfl,Nat.add_mul]
  omega
def shownT (n:Nd):List UInt8:=Lib.join (txs (shT n)) [32]
theorem shown_len {n:Nd} (h:IsUn n) (hc:cnt n≤700) (hd:dpt n≤16):(shownT n).length≤9200000000000:=by
 have h1:=inter_len [32] (txs (shT n)) 22 (fun x hx=>by
  obtain ⟨t,ht,rfl⟩:=List.mem_map.1 hx
  exact al_un h t ht)
 rw [txs_len] at h1
 have h2:=sh_tb n
 have h3:=tb_fits hc hd
 have h4:(shT n).length*(22+[(32:UInt8)].length)≤400000000000*23:=Nat.mul_le_mul_right _ (by omega)
 show ([32].intercalate (txs (shT n))).length≤_
 omega
end Go.Proofs.YthcfianhdkolhaaGreatDoor.S
namespace Go.Proofs.YthcfianhdkolhaaGreatDoor.S
set_option linter.unusedVariables false
set_option linter.unusedSimpArgs false
variable {ts r r' : List Tk} {x y : Nd} {res : Res} {l : List Nd} {d : Bool} {s : List UInt8}
theorem r2 {g1 g2:G} {t1 t2:List Tk} {q1 q2:Res} (h1:R g1 t1 q1) (h2:R g2 t2 q2):∃ n,P n g1 t1=some q1∧P n g2 t2=some q2:=by
 obtain ⟨n,e1⟩:=h1
 obtain ⟨m,e2⟩:=h2
 exact ⟨max n m,P_le (Nat.le_max_left n m) e1,P_le (Nat.le_max_right n m) e2⟩
theorem r3 {g1 g2 g3:G} {t1 t2 t3:List Tk} {q1 q2 q3:Res} (h1:R g1 t1 q1) (h2:R g2 t2 q2) (h3:R g3 t3 q3):∃ n,P n g1 t1=some q1∧P n g2 t2=some q2∧P n g3 t3=some q3:=by
 obtain ⟨n,e1,e2⟩:=r2 h1 h2
 obtain ⟨m,e3⟩:=h3
 exact ⟨max n m,P_le (Nat.le_max_left n m) e1,P_le (Nat.le_max_left n m) e2,P_le (Nat.le_max_right n m) e3⟩
-- rows
theorem r_rows0 (w:Nat) (h:hd ts=sLP) (k:hd ts.tail=sRP):R (.rows w) ts (.ok (.row [] false) ts.tail.tail):=⟨1,by simp [P,F,must,h,k]⟩
theorem r_rows (w:Nat) (h:hd ts=sLP) (k:hd ts.tail≠sRP) (a:R (.rowsL w []) ts.tail res):R (.rows w) ts res:=by
 obtain ⟨n,e⟩:=a
 exact ⟨n+1,by simp [P,F,must,h,k,e]⟩
theorem r_rowsD {w:Nat} (hw:w<2) (h:hd ts=sDOTS) (k:hd ts.tail=sRP):R (.rowsL w l) ts (.ok (.row l true) ts.tail.tail):=⟨1,by simp [P,F,must,h,k,hw]⟩
theorem r_rowsM {w:Nat} (h:hd ts≠sDOTS) (a:R (.item w) ts (.ok (.nd x) r)) (k:hd r=sCOMMA) (b:R (.rowsL w (l++[x])) r.tail res):R (.rowsL w l) ts res:=by
 obtain ⟨n,e1,e2⟩:=r2 a b
 exact ⟨n+1,by simp [P,F,h,e1,andN,k,e2]⟩
theorem r_rowsE {w:Nat} (h:hd ts≠sDOTS) (a:R (.item w) ts (.ok (.nd x) r)) (k:hd r=sRP):R (.rowsL w l) ts (.ok (.row (l++[x]) false) r.tail):=by
 obtain ⟨n,e1⟩:=a
 exact ⟨n+1,by simp [P,F,h,e1,andN,k,must]⟩
theorem r_item0 (a:R .typ ts res):R (.item 0) ts res:=by
 obtain ⟨n,e⟩:=a
 exact ⟨n+1,by simp [P,F,e]⟩
theorem r_item1 (a:R .typ ts (.ok (.nd x) r)) (k:nameB (hd r)=true):R (.item 1) ts (.ok (.nd (.mk 8 (hd r) 0 [x])) r.tail):=by
 obtain ⟨n,e⟩:=a
 exact ⟨n+1,by simp [P,F,e,andN,name,k,okN]⟩
theorem r_item2 (a:R .expr ts res):R (.item 2) ts res:=by
 obtain ⟨n,e⟩:=a
 exact ⟨n+1,by simp [P,F,e]⟩
-- types
theorem r_int (h:hd ts=sINT):R .typ ts (.ok (.nd (.mk 9 [] 0 [])) ts.tail):=⟨1,by simp [P,F,h,okN]⟩
theorem r_long (h:hd ts=sLONG):R .typ ts (.ok (.nd (.mk 10 [] 0 [])) ts.tail):=⟨1,by simp [P,F,h,okN]⟩
theorem r_fn (h:hd ts=sFN) (a:R (.rows 0) ts.tail (.ok (.row l d) r)) (b:R .typ r (.ok (.nd x) r')):R .typ ts (.ok (.nd (.mk 12 [] (b2n d) (l++[x]))) r'):=by
 obtain ⟨n,e1,e2⟩:=r2 a b
 exact ⟨n+1,by simp [P,F,h,e1,e2,andN,andR,okN]⟩
theorem name_ne (h:nameB s=true):s≠sINT∧s≠sLONG∧s≠sFN∧s≠sSTRUCT∧s≠sEXTERN∧s≠sSTATIC∧s≠sIF∧s≠sELSE∧s≠sWHILE∧s≠sRET∧s≠sPUT∧s≠sCOUNT∧s≠sEXTRA∧s≠sLP∧s≠sRP∧s≠sLB∧s≠sRB∧s≠sSEMI∧s≠sCOMMA∧s≠sDOTS∧s≠sDOT∧s≠sEQ∧s≠sMINUS∧s≠sNOT∧s≠sAMP∧s≠[]:=by
 refine ⟨?_,?_,?_,?_,?_,?_,?_,?_,?_,?_,?_,?_,?_,?_,?_,?_,?_,?_,?_,?_,?_,?_,?_,?_,?_,?_⟩<;>(rintro rfl;revert h;decide)
theorem r_named (h:nameB (hd ts)=true):R .typ ts (.ok (.nd (.mk 11 (hd ts) 0 [])) ts.tail):=by
 obtain ⟨a1,a2,a3,_⟩:=name_ne h
 exact ⟨1,by simp [P,F,a1,a2,a3,name,h,okN]⟩
-- expressions
theorem r_expr (a:R (.bound 0) ts res):R .expr ts res:=by
 obtain ⟨n,e⟩:=a
 exact ⟨n+1,by simp [P,F,e]⟩
theorem r_bound3 (a:R .unary ts res):R (.bound 3) ts res:=by
 obtain ⟨n,e⟩:=a
 exact ⟨n+1,by simp [P,F,e]⟩
theorem r_bound {k:Nat} (hk:k≤2) (a:R (.bound (k+1)) ts (.ok (.nd x) r)) (b:R (.boundL k x) r res):R (.bound k) ts res:=by
 obtain ⟨n,e1,e2⟩:=r2 a b
 have:¬ 2<k:=by omega
 exact ⟨n+1,by simp [P,F,this,e1,andN,e2]⟩
theorem r_stop {k:Nat} (h:(sign (hd ts)).1≠k):R (.boundL k x) ts (.ok (.nd x) ts):=⟨1,by simp [P,F,h,okN]⟩
theorem r_op0 (h:(sign (hd ts)).1=0) (a:R (.bound 1) ts.tail (.ok (.nd y) r)):R (.boundL 0 x) ts (.ok (.nd (.mk 32 [] (sign (hd ts)).2 [x,y])) r):=by
 obtain ⟨n,e1⟩:=a
 exact ⟨n+1,by simp [P,F,h,e1,andN,okN]⟩
theorem r_op {k:Nat} (hk:k≠0) (h:(sign (hd ts)).1=k) (a:R (.bound (k+1)) ts.tail (.ok (.nd y) r)) (b:R (.boundL k (.mk 32 [] (sign (hd ts)).2 [x,y])) r res):R (.boundL k x) ts res:=by
 obtain ⟨n,e1,e2⟩:=r2 a b
 exact ⟨n+1,by simp [P,F,h,e1,andN,e2,hk]⟩
theorem r_neg (h:hd ts=sMINUS) (a:R .unary ts.tail (.ok (.nd x) r)):R .unary ts (.ok (.nd (.mk 28 [] 0 [x])) r):=by
 obtain ⟨n,e1⟩:=a
 exact ⟨n+1,by simp [P,F,h,e1,andN,okN]⟩
theorem r_not (h:hd ts=sNOT) (a:R .unary ts.tail (.ok (.nd x) r)):R .unary ts (.ok (.nd (.mk 29 [] 0 [x])) r):=by
 obtain ⟨n,e1⟩:=a
 exact ⟨n+1,by simp [P,F,h,e1,andN,okN]⟩
theorem r_unary (h:hd ts≠sMINUS) (h':hd ts≠sNOT) (a:R .first ts (.ok (.nd x) r)) (b:R (.postL x) r res):R .unary ts res:=by
 obtain ⟨n,e1,e2⟩:=r2 a b
 exact ⟨n+1,by simp [P,F,h,h',e1,andN,e2]⟩
theorem r_postE (h:hd ts≠sDOT) (h':hd ts≠sLP):R (.postL x) ts (.ok (.nd x) ts):=⟨1,by simp [P,F,h,h',okN]⟩
theorem r_dot (h:hd ts=sDOT) (k:nameB (hd ts.tail)=true) (a:R (.postL (.mk 24 (hd ts.tail) 0 [x])) ts.tail.tail res):R (.postL x) ts res:=by
 obtain ⟨n,e1⟩:=a
 exact ⟨n+1,by simp [P,F,h,name,k,e1]⟩
theorem r_call (h:hd ts=sLP) (a:R (.rows 2) ts (.ok (.row l d) r)) (b:R (.postL (.mk 25 [] 0 (x::l))) r res):R (.postL x) ts res:=by
 obtain ⟨n,e1,e2⟩:=r2 a b
 exact ⟨n+1,by simp [P,F,h,andR,e1,e2]⟩
theorem r_round (h:hd ts=sLP) (a:R .expr ts.tail (.ok (.nd x) r)) (k:hd r=sRP):R .round ts (.ok (.nd x) r.tail):=by
 obtain ⟨n,e1⟩:=a
 exact ⟨n+1,by simp [P,F,must,h,andN,e1,k,okN]⟩
theorem r_first_round (h:hd ts=sLP) (a:R .round ts res):R .first ts res:=by
 obtain ⟨n,e1⟩:=a
 exact ⟨n+1,by simp [P,F,h,e1]⟩
theorem r_addr (h:hd ts=sAMP) (k:nameB (hd ts.tail)=true):R .first ts (.ok (.nd (.mk 26 (hd ts.tail) 0 [])) ts.tail.tail):=⟨1,by simp [P,F,h,name,k,okN]⟩
theorem r_count (h:hd ts=sCOUNT):R .first ts (.ok (.nd (.mk 33 [] 0 [])) ts.tail):=⟨1,by simp [P,F,h,okN]⟩
theorem r_toInt (h:hd ts=sINT) (a:R .round ts.tail (.ok (.nd x) r)):R .first ts (.ok (.nd (.mk 30 [] 0 [x])) r):=by
 obtain ⟨n,e1⟩:=a
 exact ⟨n+1,by simp [P,F,h,andN,e1,okN]⟩
theorem r_toLong (h:hd ts=sLONG) (a:R .round ts.tail (.ok (.nd x) r)):R .first ts (.ok (.nd (.mk 31 [] 0 [x])) r):=by
 obtain ⟨n,e1⟩:=a
 exact ⟨n+1,by simp [P,F,h,andN,e1,okN]⟩
theorem r_extra (h:hd ts=sEXTRA) (a:R .round ts.tail (.ok (.nd x) r)):R .first ts (.ok (.nd (.mk 34 [] 0 [x])) r):=by
 obtain ⟨n,e1⟩:=a
 exact ⟨n+1,by simp [P,F,h,andN,e1,okN]⟩
theorem r_name (h:nameB (hd ts)=true) (k:hd ts.tail≠sLB):R .first ts (.ok (.nd (.mk 23 (hd ts) 0 [])) ts.tail):=by
 obtain ⟨a1,a2,a3,a4,a5,a6,a7,a8,a9,a10,a11,a12,a13,a14,a15,a16,a17,a18,a19,a20,a21,a22,a23,a24,a25,a26⟩:=name_ne h
 exact ⟨1,by simp [P,F,a1,a2,a12,a13,a14,a25,h,k,okN]⟩
theorem r_make0 (h:nameB (hd ts)=true) (k:hd ts.tail=sLB) (k':hd ts.tail.tail=sRB):R .first ts (.ok (.nd (.mk 27 (hd ts) 0 [])) ts.tail.tail.tail):=by
 obtain ⟨a1,a2,a3,a4,a5,a6,a7,a8,a9,a10,a11,a12,a13,a14,a15,a16,a17,a18,a19,a20,a21,a22,a23,a24,a25,a26⟩:=name_ne h
 exact ⟨1,by simp [P,F,a1,a2,a12,a13,a14,a25,h,k,k',okN]⟩
theorem r_make (h:nameB (hd ts)=true) (k:hd ts.tail=sLB) (k':hd ts.tail.tail≠sRB) (a:R (.makeL (hd ts) []) ts.tail.tail res):R .first ts res:=by
 obtain ⟨a1,a2,a3,a4,a5,a6,a7,a8,a9,a10,a11,a12,a13,a14,a15,a16,a17,a18,a19,a20,a21,a22,a23,a24,a25,a26⟩:=name_ne h
 obtain ⟨n,e1⟩:=a
 exact ⟨n+1,by simp [P,F,a1,a2,a12,a13,a14,a25,h,k,k',e1]⟩
theorem r_makeM (a:R .expr ts (.ok (.nd x) r)) (k:hd r=sCOMMA) (b:R (.makeL s (l++[x])) r.tail res):R (.makeL s l) ts res:=by
 obtain ⟨n,e1,e2⟩:=r2 a b
 exact ⟨n+1,by simp [P,F,e1,andN,k,e2]⟩
theorem r_makeE (a:R .expr ts (.ok (.nd x) r)) (k:hd r=sRB):R (.makeL s l) ts (.ok (.nd (.mk 27 s 0 (l++[x]))) r.tail):=by
 obtain ⟨n,e1⟩:=a
 exact ⟨n+1,by simp [P,F,e1,andN,k,must,okN]⟩
theorem r_num (kind:Int) (v:Int) (hv:0≤v) (hk:kind=2∨kind=3):R .first (numT kind v++r) (.ok (.nd (.mk (if kind=2 then 21 else 22) [] v [])) r):=by
 have e:numT kind v++r=⟨kind,decN v.toNat⟩::r:=by unfold numT;rw [if_neg (by omega)];rfl
 rw [e]
 have hh:hd (⟨kind,decN v.toNat⟩::r)=[]:=by show Tk.txt _=[];unfold Tk.txt;rw [if_pos hk]
 have dv:digits (decN v.toNat) 0=v:=by rw [digits_dec];omega
 refine ⟨1,?_⟩
 show F (P 0) .first _=_
 simp only [F,hh]
 rcases hk with rfl|rfl<;>simp [number,dv,nameB]
-- blocks and statements
theorem r_block (h:hd ts=sLB) (a:R (.blockL []) ts.tail res):R .block ts res:=by
 obtain ⟨n,e1⟩:=a
 exact ⟨n+1,by simp [P,F,must,h,e1]⟩
theorem r_blockE (h:hd ts=sRB):R (.blockL l) ts (.ok (.nd (.mk 13 [] 0 l)) ts.tail):=⟨1,by simp [P,F,h,okN]⟩
theorem r_blockM (h:hd ts≠sRB) (a:R .stat ts (.ok (.nd x) r)) (b:R (.blockL (l++[x])) r res):R (.blockL l) ts res:=by
 obtain ⟨n,e1,e2⟩:=r2 a b
 exact ⟨n+1,by simp [P,F,h,e1,andN,e2]⟩
theorem r_if1 (h:hd ts=sIF) (a:R .round ts.tail (.ok (.nd x) r)) (b:R .block r (.ok (.nd y) r')) (k:hd r'≠sELSE):R .stat ts (.ok (.nd (.mk 16 [] 0 [x,y])) r'):=by
 obtain ⟨n,e1,e2⟩:=r2 a b
 exact ⟨n+1,by simp [P,F,h,e1,andN,e2,k,okN]⟩
theorem r_if2 {z:Nd} {q:List Tk} (h:hd ts=sIF) (a:R .round ts.tail (.ok (.nd x) r)) (b:R .block r (.ok (.nd y) r')) (k:hd r'=sELSE) (c:R .block r'.tail (.ok (.nd z) q)):R .stat ts (.ok (.nd (.mk 16 [] 0 [x,y,z])) q):=by
 obtain ⟨n,e1,e2,e3⟩:=r3 a b c
 exact ⟨n+1,by simp [P,F,h,e1,andN,e2,k,e3,okN]⟩
theorem r_while (h:hd ts=sWHILE) (a:R .round ts.tail (.ok (.nd x) r)) (b:R .block r (.ok (.nd y) r')):R .stat ts (.ok (.nd (.mk 17 [] 0 [x,y])) r'):=by
 obtain ⟨n,e1,e2⟩:=r2 a b
 exact ⟨n+1,by simp [P,F,h,e1,andN,e2,okN]⟩
theorem r_ret (h:hd ts=sRET) (a:R .expr ts.tail (.ok (.nd x) r)) (k:hd r=sSEMI):R .stat ts (.ok (.nd (.mk 18 [] 0 [x])) r.tail):=by
 obtain ⟨n,e1⟩:=a
 exact ⟨n+1,by simp [P,F,h,e1,andN,must,k,okN]⟩
theorem r_put (h:hd ts=sPUT) (a:R .round ts.tail (.ok (.nd x) r)) (k:hd r=sSEMI):R .stat ts (.ok (.nd (.mk 19 [] 0 [x])) r.tail):=by
 obtain ⟨n,e1⟩:=a
 exact ⟨n+1,by simp [P,F,h,e1,andN,must,k,okN]⟩
theorem r_var (h:hd ts=sINT∨hd ts=sLONG∨hd ts=sFN∨(nameB (hd ts)=true∧nameB (hd ts.tail)=true)) (a:R .typ ts (.ok (.nd x) r)) (k:nameB (hd r)=true) (k':hd r.tail=sEQ) (b:R .expr r.tail.tail (.ok (.nd y) r')) (k'':hd r'=sSEMI):
  R .stat ts (.ok (.nd (.mk 14 (hd r) 0 [x,y])) r'.tail):=by
 obtain ⟨n,e1,e2⟩:=r2 a b
 have hne:hd ts≠sIF∧hd ts≠sWHILE∧hd ts≠sRET∧hd ts≠sPUT:=by
  rcases h with h|h|h|h
  ·rw [h];decide
  ·rw [h];decide
  ·rw [h];decide
  ·obtain ⟨a1,a2,a3,a4,a5,a6,a7,a8,a9,a10,a11,_⟩:=name_ne h.1
   exact ⟨a7,a9,a10,a11⟩
 refine ⟨n+1,?_⟩
 show F (P n) .stat ts=_
 simp only [F]
 rw [if_neg hne.1,if_neg hne.2.1,if_neg hne.2.2.1,if_neg hne.2.2.2,if_pos h]
 simp [e1,andN,name,k,must,k',e2,k'',okN]
theorem r_simple (h:nameB (hd ts)=true) (h':nameB (hd ts.tail)=false) (a:R (.simpleL (.mk 23 (hd ts) 0 []) false) ts.tail (.ok (.nd x) r)) (k:hd r=sSEMI):R .stat ts (.ok (.nd x) r.tail):=by
 obtain ⟨n,e1⟩:=a
 obtain ⟨a1,a2,a3,a4,a5,a6,a7,a8,a9,a10,a11,_⟩:=name_ne h
 exact ⟨n+1,by simp [P,F,a1,a2,a3,a7,a9,a10,a11,h',name,h,e1,andN,must,k,okN]⟩
theorem r_sdot {c:Bool} (h:hd ts=sDOT) (k:nameB (hd ts.tail)=true) (a:R (.simpleL (.mk 24 (hd ts.tail) 0 [x]) c) ts.tail.tail res):R (.simpleL x c) ts res:=by
 obtain ⟨n,e1⟩:=a
 rcases x with ⟨kk,tt,vv,ks⟩
 exact ⟨n+1,by simp [P,F,h,name,k,e1]⟩
theorem r_scall {c:Bool} (h:hd ts=sLP) (a:R (.rows 2) ts (.ok (.row l d) r)) (b:R (.simpleL (.mk 25 [] 0 (x::l)) true) r res):R (.simpleL x c) ts res:=by
 obtain ⟨n,e1,e2⟩:=r2 a b
 rcases x with ⟨kk,tt,vv,ks⟩
 exact ⟨n+1,by simp [P,F,h,andR,e1,e2]⟩
theorem r_set (h:hd ts=sEQ) (a:R .expr ts.tail (.ok (.nd y) r)):R (.simpleL x false) ts (.ok (.nd (.mk 15 [] 0 [x,y])) r):=by
 obtain ⟨n,e1⟩:=a
 rcases x with ⟨kk,tt,vv,ks⟩
 exact ⟨n+1,by simp [P,F,h,must,andN,e1,okN]⟩
theorem r_do {tx:List UInt8} {v:Int} (h:hd ts=sSEMI):R (.simpleL (.mk 25 tx v l) true) ts (.ok (.nd (.mk 20 [] 0 [.mk 25 tx v l])) ts):=⟨1,by simp [P,F,h,okN]⟩
-- declarations
theorem r_fieldM (a:R .typ ts (.ok (.nd x) r)) (k:nameB (hd r)=true) (k':hd r.tail=sSEMI) (k'':hd r.tail.tail≠sRB) (b:R (.fieldsL s (l++[.mk 3 (hd r) 0 [x]])) r.tail.tail res):R (.fieldsL s l) ts res:=by
 obtain ⟨n,e1,e2⟩:=r2 a b
 exact ⟨n+1,by simp [P,F,e1,andN,name,k,must,k',k'',e2]⟩
theorem r_fieldE (a:R .typ ts (.ok (.nd x) r)) (k:nameB (hd r)=true) (k':hd r.tail=sSEMI) (k'':hd r.tail.tail=sRB):R (.fieldsL s l) ts (.ok (.nd (.mk 2 s 0 (l++[.mk 3 (hd r) 0 [x]]))) r.tail.tail.tail):=by
 obtain ⟨n,e1⟩:=a
 exact ⟨n+1,by simp [P,F,e1,andN,name,k,must,k',k'',okN]⟩
theorem r_struct (h:hd ts=sSTRUCT) (k:nameB (hd ts.tail)=true) (k':hd ts.tail.tail=sLB) (a:R (.fieldsL (hd ts.tail) []) ts.tail.tail.tail res):R .decl ts res:=by
 obtain ⟨n,e1⟩:=a
 exact ⟨n+1,by simp [P,F,h,name,k,must,k',e1]⟩
theorem r_extern (h:hd ts=sEXTERN) (a:R .typ ts.tail (.ok (.nd x) r)) (k:nameB (hd r)=true) (k':hd r.tail=sLP) (b:R (.rows 1) r.tail (.ok (.row l d) r')) (k'':hd r'=sSEMI):R .decl ts (.ok (.nd (.mk 4 (hd r) (b2n d) (l++[x]))) r'.tail):=by
 obtain ⟨n,e1,e2⟩:=r2 a b
 exact ⟨n+1,by simp [P,F,h,e1,andN,andR,name,k,must,k',e2,k'',okN]⟩
theorem r_outside (h:hd ts=sEXTERN) (a:R .typ ts.tail (.ok (.nd x) r)) (k:nameB (hd r)=true) (k':hd r.tail=sSEMI):R .decl ts (.ok (.nd (.mk 5 (hd r) 0 [x])) r.tail.tail):=by
 obtain ⟨n,e1⟩:=a
 exact ⟨n+1,by simp [P,F,h,e1,andN,andR,name,k,must,k',okN]⟩
theorem r_fun (st:Bool) (u:List Tk) (h:hd ts≠sSTRUCT) (h':hd ts≠sEXTERN) (hst:decide (hd ts=sSTATIC)=st) (hu:(if hd ts=sSTATIC then ts.tail else ts)=u) (a:R .typ u (.ok (.nd x) r)) (k:nameB (hd r)=true) (k':hd r.tail=sLP) (b:R (.rows 1) r.tail (.ok (.row l d) r')) {z:Nd} {q:List Tk} (c:R .block r' (.ok (.nd z) q)):
  R .decl ts (.ok (.nd (.mk 7 (hd r) (b2n st+2*b2n d) (l++[x]++[z]))) q):=by
 obtain ⟨n,e1,e2,e3⟩:=r3 a b c
 refine ⟨n+1,?_⟩
 show F (P n) .decl ts=_
 simp only [F]
 rw [if_neg h,if_neg h',hu,hst]
 simp [e1,andN,andR,name,k,k',e2,e3,okN]
theorem r_global (st:Bool) (u:List Tk) (h:hd ts≠sSTRUCT) (h':hd ts≠sEXTERN) (hst:decide (hd ts=sSTATIC)=st) (hu:(if hd ts=sSTATIC then ts.tail else ts)=u) (a:R .typ u (.ok (.nd x) r)) (k:nameB (hd r)=true) (k':hd r.tail=sEQ)
  {kk:Int} {tx:List UInt8} {v w:Int} {ks:List Nd} {q:List Tk} (c:number (if hd r.tail.tail=sMINUS then r.tail.tail.tail else r.tail.tail)=some (.ok (.nd (.mk kk tx v ks)) q)) (hw:(if hd r.tail.tail=sMINUS then -v else v)=w) (k'':hd q=sSEMI):
  R .decl ts (.ok (.nd (.mk 6 (hd r) (b2n st) [x,.mk kk tx w ks])) q.tail):=by
 obtain ⟨n,e1⟩:=a
 refine ⟨n+1,?_⟩
 show F (P n) .decl ts=_
 simp only [F]
 rw [if_neg h,if_neg h',hu,hst]
 have hne:hd r.tail≠sLP:=by rw [k'];decide
 simp [e1,andN,andR,name,k,hne,must,k',okN]
 rw [c]
 simp [k'',hw]
theorem r_unitE:R (.unitL l) [] (.ok (.nd (.mk 1 [] 0 l)) []):=⟨1,by simp [P,F,okN]⟩
theorem r_unitM (h:ts≠[]) (a:R .decl ts (.ok (.nd x) r)) (b:R (.unitL (l++[x])) r res):R (.unitL l) ts res:=by
 obtain ⟨n,e1,e2⟩:=r2 a b
 cases ts with
 | nil=>exact absurd rfl h
 | cons t q=>exact ⟨n+1,by simp [P,F,e1,andN,e2]⟩
end Go.Proofs.YthcfianhdkolhaaGreatDoor.S
