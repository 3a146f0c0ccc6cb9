/- SynBase SynGram SynShow SynIs SynIsU -/
import Derived.WalkKit
namespace Go.Proofs.YthcfianhdkolhaaGreatDoor.S
def letB (c:Nat):Bool:=(decide (97≤c) && decide (c≤122)) || (decide (65≤c) && decide (c≤90))
def digB (c:Nat):Bool:=decide (48≤c) && decide (c≤57)
def signB (s:List UInt8) (i:Nat):Bool:=match s[i]? with|some c=>letB c.toNat || (decide (i≠0) && (digB c.toNat || decide (c.toNat=95)))|none=>false
def reserved:List (List UInt8):=[[98,114,101,97,107],[99,111,117,110,116],[101,108,115,101],[101,120,116,101,114,110],[101,120,116,114,97],[102,110],[105,102],[105,110,116],[108,111,110,103],[112,117,116],[114,101,116,117,114,110],[115,116,97,116,105,99],[115,116,114,117,99,116],[119,104,105,108,101]]
def nameB (s:List UInt8):Bool:=decide (1≤s.length) && decide (s.length≤16) && ((List.range s.length).all fun i=>signB s i) && !(reserved.contains s)
end Go.Proofs.YthcfianhdkolhaaGreatDoor.S
namespace Go.Proofs.YthcfianhdkolhaaGreatDoor.S
set_option linter.unusedVariables false
set_option linter.unusedSimpArgs false
abbrev sINT:List UInt8:=[105,110,116]
abbrev sLONG:List UInt8:=[108,111,110,103]
abbrev sFN:List UInt8:=[102,110]
abbrev sSTRUCT:List UInt8:=[115,116,114,117,99,116]
abbrev sEXTERN:List UInt8:=[101,120,116,101,114,110]
abbrev sSTATIC:List UInt8:=[115,116,97,116,105,99]
abbrev sIF:List UInt8:=[105,102]
abbrev sELSE:List UInt8:=[101,108,115,101]
abbrev sWHILE:List UInt8:=[119,104,105,108,101]
abbrev sRET:List UInt8:=[114,101,116,117,114,110]
abbrev sPUT:List UInt8:=[112,117,116]
abbrev sCOUNT:List UInt8:=[99,111,117,110,116]
abbrev sEXTRA:List UInt8:=[101,120,116,114,97]
abbrev sLP:List UInt8:=[40]
abbrev sRP:List UInt8:=[41]
abbrev sLB:List UInt8:=[123]
abbrev sRB:List UInt8:=[125]
abbrev sSEMI:List UInt8:=[59]
abbrev sCOMMA:List UInt8:=[44]
abbrev sDOTS:List UInt8:=[46,46,46]
abbrev sDOT:List UInt8:=[46]
abbrev sEQ:List UInt8:=[61]
abbrev sMINUS:List UInt8:=[45]
abbrev sNOT:List UInt8:=[33]
abbrev sAMP:List UInt8:=[38]
abbrev sSAME:List UInt8:=[61,61]
abbrev sLESS:List UInt8:=[60]
abbrev sPLUS:List UInt8:=[43]
abbrev sOR:List UInt8:=[124]
abbrev sXOR:List UInt8:=[94]
abbrev sMUL:List UInt8:=[42]
abbrev sDIV:List UInt8:=[47]
abbrev sREM:List UInt8:=[37]
structure Tk where
 kind:Int
 text:List UInt8
inductive Nd where
 | mk (kind:Int) (text:List UInt8) (num:Int) (kids:List Nd)
def Tk.txt (t:Tk):List UInt8:=if t.kind=2∨t.kind=3 then [] else t.text
def hd:List Tk→List UInt8
 | []=>[]
 | t::_=>t.txt
inductive V where
 | nd (x:Nd)
 | row (l:List Nd) (dots:Bool)
inductive Res where
 | ok (v:V) (r:List Tk)
 | no (r:List Tk)
abbrev O:=Option Res
def andN (x:O) (f:Nd→List Tk→O):O:=match x with|some (.ok (.nd a) r)=>f a r|some (.no r)=>some (.no r)|_=>none
def andR (x:O) (f:List Nd→Bool→List Tk→O):O:=match x with|some (.ok (.row l d) r)=>f l d r|some (.no r)=>some (.no r)|_=>none
def must (s:List UInt8) (ts:List Tk) (f:List Tk→O):O:=if hd ts=s then f ts.tail else some (.no ts)
def name (ts:List Tk) (f:List UInt8→List Tk→O):O:=if nameB (hd ts)=true then f (hd ts) ts.tail else some (.no ts)
def digits:List UInt8→Int→Int
 | [],a=>a
 | c::r,a=>digits r (10*a+(c.toNat:Int) - 48)
def number:List Tk→O
 | []=>some (.no [])
 | t::r=>if t.kind=2 then some (.ok (.nd (.mk 21 [] (digits t.text 0) [])) r) else if t.kind=3 then some (.ok (.nd (.mk 22 [] (digits t.text 0) [])) r) else some (.no (t::r))
def sign (s:List UInt8):Int × Int:=
 if s=sSAME then (0,12) else if s=sLESS then (0,10) else if s=sPLUS then (1,1) else if s=sMINUS then (1,2) else if s=sOR then (1,8) else if s=sXOR then (1,9)
 else if s=sMUL then (2,3) else if s=sDIV then (2,5) else if s=sREM then (2,6) else if s=sAMP then (2,7) else (-1,0)
inductive G where
 | typ|rows (what:Nat)|rowsL (what:Nat) (acc:List Nd)|item (what:Nat)
 | expr|bound (least:Nat)|boundL (least:Nat) (acc:Nd)|unary|postL (acc:Nd)|first|round|makeL (s:List UInt8) (acc:List Nd)
 | block|blockL (acc:List Nd)|stat|simpleL (acc:Nd) (calls:Bool)|decl|fieldsL (s:List UInt8) (acc:List Nd)|unitL (acc:List Nd)
def okN (x:Nd) (r:List Tk):O:=some (.ok (.nd x) r)
def b2n (b:Bool):Int:=if b then 1 else 0
def F (p:G→List Tk→O):G→List Tk→O
 | .typ,ts=>
  if hd ts=sINT then okN (.mk 9 [] 0 []) ts.tail else if hd ts=sLONG then okN (.mk 10 [] 0 []) ts.tail
  else if hd ts=sFN then andR (p (.rows 0) ts.tail) fun l d r=>andN (p .typ r) fun t r=>okN (.mk 12 [] (b2n d) (l++[t])) r
  else name ts fun s r=>okN (.mk 11 s 0 []) r
 | .rows what,ts=>must sLP ts fun r=>if hd r=sRP then some (.ok (.row [] false) r.tail) else p (.rowsL what []) r
 | .rowsL what acc,ts=>
  if what<2∧hd ts=sDOTS then must sRP ts.tail fun r=>some (.ok (.row acc true) r)
  else andN (p (.item what) ts) fun x r=>if hd r=sCOMMA then p (.rowsL what (acc++[x])) r.tail else must sRP r fun r=>some (.ok (.row (acc++[x]) false) r)
 | .item what,ts=>if what=0 then p .typ ts else if what=1 then andN (p .typ ts) fun t r=>name r fun s r=>okN (.mk 8 s 0 [t]) r else p .expr ts
 | .expr,ts=>p (.bound 0) ts
 | .bound least,ts=>if 2<least then p .unary ts else andN (p (.bound (least+1)) ts) fun x r=>p (.boundL least x) r
 | .boundL least acc,ts=>
  if (sign (hd ts)).1=least then andN (p (.bound (least+1)) ts.tail) fun y r=>if least=0 then okN (.mk 32 [] (sign (hd ts)).2 [acc,y]) r else p (.boundL least (.mk 32 [] (sign (hd ts)).2 [acc,y])) r
  else okN acc ts
 | .unary,ts=>
  if hd ts=sMINUS then andN (p .unary ts.tail) fun x r=>okN (.mk 28 [] 0 [x]) r else if hd ts=sNOT then andN (p .unary ts.tail) fun x r=>okN (.mk 29 [] 0 [x]) r
  else andN (p .first ts) fun x r=>p (.postL x) r
 | .postL acc,ts=>
  if hd ts=sDOT then name ts.tail fun s r=>p (.postL (.mk 24 s 0 [acc])) r
  else if hd ts=sLP then andR (p (.rows 2) ts) fun l _ r=>p (.postL (.mk 25 [] 0 (acc::l))) r else okN acc ts
 | .first,ts=>
  if hd ts=sLP then p .round ts else if hd ts=sAMP then name ts.tail fun s r=>okN (.mk 26 s 0 []) r else if hd ts=sCOUNT then okN (.mk 33 [] 0 []) ts.tail
  else if hd ts=sINT then andN (p .round ts.tail) fun x r=>okN (.mk 30 [] 0 [x]) r else if hd ts=sLONG then andN (p .round ts.tail) fun x r=>okN (.mk 31 [] 0 [x]) r
  else if hd ts=sEXTRA then andN (p .round ts.tail) fun x r=>okN (.mk 34 [] 0 [x]) r
  else if nameB (hd ts)=true then
   if hd ts.tail=sLB then if hd ts.tail.tail=sRB then okN (.mk 27 (hd ts) 0 []) ts.tail.tail.tail else p (.makeL (hd ts) []) ts.tail.tail else okN (.mk 23 (hd ts) 0 []) ts.tail
  else number ts
 | .round,ts=>must sLP ts fun r=>andN (p .expr r) fun x r=>must sRP r fun r=>okN x r
 | .makeL s acc,ts=>andN (p .expr ts) fun x r=>if hd r=sCOMMA then p (.makeL s (acc++[x])) r.tail else must sRB r fun r=>okN (.mk 27 s 0 (acc++[x])) r
 | .block,ts=>must sLB ts fun r=>p (.blockL []) r
 | .blockL acc,ts=>if hd ts=sRB then okN (.mk 13 [] 0 acc) ts.tail else andN (p .stat ts) fun x r=>p (.blockL (acc++[x])) r
 | .stat,ts=>
  if hd ts=sIF then andN (p .round ts.tail) fun c r=>andN (p .block r) fun b r=>if hd r=sELSE then andN (p .block r.tail) fun o r=>okN (.mk 16 [] 0 [c,b,o]) r else okN (.mk 16 [] 0 [c,b]) r
  else if hd ts=sWHILE then andN (p .round ts.tail) fun c r=>andN (p .block r) fun b r=>okN (.mk 17 [] 0 [c,b]) r
  else if hd ts=sRET then andN (p .expr ts.tail) fun x r=>must sSEMI r fun r=>okN (.mk 18 [] 0 [x]) r
  else if hd ts=sPUT then andN (p .round ts.tail) fun x r=>must sSEMI r fun r=>okN (.mk 19 [] 0 [x]) r
  else if hd ts=sINT∨hd ts=sLONG∨hd ts=sFN∨(nameB (hd ts)=true∧nameB (hd ts.tail)=true) then andN (p .typ ts) fun t r=>name r fun s r=>must sEQ r fun r=>andN (p .expr r) fun x r=>must sSEMI r fun r=>okN (.mk 14 s 0 [t,x]) r
  else name ts fun s r=>andN (p (.simpleL (.mk 23 s 0 []) false) r) fun x r=>must sSEMI r fun r=>okN x r
 | .simpleL acc calls,ts=>
  if hd ts=sDOT then name ts.tail fun s r=>p (.simpleL (.mk 24 s 0 [acc]) calls) r
  else if hd ts=sLP then andR (p (.rows 2) ts) fun l _ r=>p (.simpleL (.mk 25 [] 0 (acc::l)) true) r
  else if calls=false then must sEQ ts fun r=>andN (p .expr r) fun x r=>okN (.mk 15 [] 0 [acc,x]) r
  else match acc with|.mk k _ _ _=>if k=25 then okN (.mk 20 [] 0 [acc]) ts else some (.no ts)
 | .fieldsL s acc,ts=>andN (p .typ ts) fun t r=>name r fun f r=>must sSEMI r fun r=>if hd r=sRB then okN (.mk 2 s 0 (acc++[.mk 3 f 0 [t]])) r.tail else p (.fieldsL s (acc++[.mk 3 f 0 [t]])) r
 | .decl,ts=>
  if hd ts=sSTRUCT then name ts.tail fun s r=>must sLB r fun r=>p (.fieldsL s []) r
  else if hd ts=sEXTERN then andN (p .typ ts.tail) fun t r=>name r fun s r=>
   if hd r=sLP then andR (p (.rows 1) r) fun l d r=>must sSEMI r fun r=>okN (.mk 4 s (b2n d) (l++[t])) r else must sSEMI r fun r=>okN (.mk 5 s 0 [t]) r
  else andN (p .typ (if hd ts=sSTATIC then ts.tail else ts)) fun t r=>name r fun s r=>
   if hd r=sLP then andR (p (.rows 1) r) fun l d r=>andN (p .block r) fun b r=>okN (.mk 7 s (b2n (decide (hd ts=sSTATIC))+2*b2n d) (l++[t]++[b])) r
   else must sEQ r fun r=>andN (number (if hd r=sMINUS then r.tail else r)) fun k r'=>match k with|.mk kk x v q=>must sSEMI r' fun r'=>okN (.mk 6 s (b2n (decide (hd ts=sSTATIC))) [t,.mk kk x (if hd r=sMINUS then -v else v) q]) r'
 | .unitL acc,ts=>match ts with|[]=>okN (.mk 1 [] 0 acc) []|t::r=>andN (p .decl (t::r)) fun d r=>p (.unitL (acc++[d])) r
def P:Nat→G→List Tk→O
 | 0,_,_=>none
 | n+1,g,ts=>F (P n) g ts
def R (g:G) (ts:List Tk) (r:Res):Prop:=∃ n,P n g ts=some r
theorem andN_mono {x y:O} {f g:Nd→List Tk→O} {r:Res} (h:∀ q,x=some q→y=some q) (k:∀ a s q,f a s=some q→g a s=some q) (e:andN x f=some r):andN y g=some r:=by
 cases x with
 | none=>cases e
 | some q=>
  rw [h q rfl]
  rcases q with ⟨v,s⟩|s
  ·cases v with
   | nd a=>exact k _ _ _ e
   | row l d=>cases e
  ·exact e
theorem andR_mono {x y:O} {f g:List Nd→Bool→List Tk→O} {r:Res} (h:∀ q,x=some q→y=some q) (k:∀ l d s q,f l d s=some q→g l d s=some q) (e:andR x f=some r):andR y g=some r:=by
 cases x with
 | none=>cases e
 | some q=>
  rw [h q rfl]
  rcases q with ⟨v,s⟩|s
  ·cases v with
   | nd a=>cases e
   | row l d=>exact k _ _ _ _ e
  ·exact e
theorem must_mono {s:List UInt8} {ts:List Tk} {f g:List Tk→O} {r:Res} (k:∀ t q,f t=some q→g t=some q) (e:must s ts f=some r):must s ts g=some r:=by
 unfold must at *
 split
 ·rename_i h;rw [if_pos h] at e;exact k _ _ e
 ·rename_i h;rw [if_neg h] at e;exact e
theorem name_mono {ts:List Tk} {f g:List UInt8→List Tk→O} {r:Res} (k:∀ s t q,f s t=some q→g s t=some q) (e:name ts f=some r):name ts g=some r:=by
 unfold name at *
 split
 ·rename_i h;rw [if_pos h] at e;exact k _ _ _ e
 ·rename_i h;rw [if_neg h] at e;exact e
theorem ite_mono {c:Prop} [Decidable c] {a b x y:O} {r:Res} (h1:a=some r→x=some r) (h2:b=some r→y=some r) (e:(if c then a else b)=some r):(if c then x else y)=some r:=by
 split
 ·rename_i h;rw [if_pos h] at e;exact h1 e
 ·rename_i h;rw [if_neg h] at e;exact h2 e
theorem F_mono {p q:G→List Tk→O} (h:∀ g ts r,p g ts=some r→q g ts=some r) (g:G) (ts:List Tk) (r:Res):F p g ts=some r→F q g ts=some r:=by
 have iN:=@andN_mono
 have iR:=@andR_mono
 have iM:=@must_mono
 have iA:=@name_mono
 cases g<;>simp only [F]
 case simpleL acc calls=>
  rcases acc with ⟨k,x,v,kids⟩
  repeat' first|exact id|exact h _ _ _|apply ite_mono|apply andN_mono|apply andR_mono|apply must_mono|apply name_mono|intro _
 case unitL acc=>
  cases ts
  all_goals repeat' first|exact id|exact h _ _ _|apply ite_mono|apply andN_mono|apply andR_mono|apply must_mono|apply name_mono|intro _
 case decl=>
  repeat' first|exact id|exact h _ _ _|apply ite_mono|apply andN_mono|apply andR_mono|apply must_mono|apply name_mono|intro a
 all_goals repeat' first|exact id|exact h _ _ _|apply ite_mono|apply andN_mono|apply andR_mono|apply must_mono|apply name_mono|intro _
theorem P_succ {n:Nat}:∀ {g:G} {ts:List Tk} {r:Res},P n g ts=some r→P (n+1) g ts=some r:=by
 induction n with
 | zero=>intro g ts r h;cases h
 | succ n ih=>intro g ts r h;exact F_mono (fun g ts r=>ih) g ts r h
theorem P_le {n m:Nat} (h:n≤m) {g:G} {ts:List Tk} {r:Res} (e:P n g ts=some r):P m g ts=some r:=by
 induction h with
 | refl=>exact e
 | step _ ih=>exact P_succ ih
theorem R_one {g:G} {ts:List Tk} {r s:Res} (h:R g ts r) (k:R g ts s):r=s:=by
 obtain ⟨n,e1⟩:=h
 obtain ⟨m,e2⟩:=k
 have f1:=P_le (Nat.le_max_left n m) e1
 have f2:=P_le (Nat.le_max_right n m) e2
 rw [f1] at f2
 cases f2
 rfl
end Go.Proofs.YthcfianhdkolhaaGreatDoor.S
namespace Go.Proofs.YthcfianhdkolhaaGreatDoor.S
set_option linter.unusedVariables false
set_option linter.unusedSimpArgs false
abbrev wd (s:List UInt8):Tk:=⟨1,s⟩
abbrev sg (s:List UInt8):Tk:=⟨4,s⟩
def opBind (v:Int):Int:=if v=12∨v=10 then 0 else if v=1∨v=2∨v=8∨v=9 then 1 else if v=3∨v=5∨v=6∨v=7 then 2 else -1
def opSign (v:Int):List UInt8:=if v=12 then sSAME else if v=10 then sLESS else if v=1 then sPLUS else if v=2 then sMINUS else if v=8 then sOR else if v=9 then sXOR else if v=3 then sMUL else if v=5 then sDIV else if v=6 then sREM else if v=7 then sAMP else []
def bindN:Nd→Int
 | .mk k _ v _=>if k=28∨k=29 then 3 else if k=32 then opBind v else 4
def atT (b least:Int) (x:List Tk):List Tk:=if b<least then sg sLP::(x++[sg sRP]) else x
def joinT:List (List Tk)→List Tk
 | []=>[]
 | [x]=>x
 | x::y::r=>x++(sg sCOMMA::joinT (y::r))
def rowT (ts:List (List Tk)) (dots:Bool):List Tk:=sg sLP::(joinT (ts++(if dots=true then [[sg sDOTS]] else []))++[sg sRP])
def decN (n:Nat):List UInt8:=if h:n<10 then [UInt8.ofNat (48+n)] else decN (n / 10)++[UInt8.ofNat (48+n % 10)]
 termination_by n
 decreasing_by omega
def numT (kind:Int) (v:Int):List Tk:=if v<0 then [sg sMINUS,⟨kind,decN (-v).toNat⟩] else [⟨kind,decN v.toNat⟩]
def lastT (ts:List (List Tk)):List Tk:=ts.getLast?.getD []
def sh1 (kids:List Nd) (ts:List (List Tk)) (f:Nd→List Tk→List Tk):List Tk:=match kids,ts with|[a],[x]=>f a x|_,_=>[]
def sh2 (kids:List Nd) (ts:List (List Tk)) (f:Nd→List Tk→Nd→List Tk→List Tk):List Tk:=match kids,ts with|[a,b],[x,y]=>f a x b y|_,_=>[]
def shC (kids:List Nd) (ts:List (List Tk)) (f:Nd→List Tk→List (List Tk)→List Tk):List Tk:=match kids,ts with|a::_,x::r=>f a x r|_,_=>[]
def shI (ts:List (List Tk)):List Tk:=match ts with|[c,b]=>[wd sIF,sg sLP]++c++[sg sRP]++b|[c,b,o]=>[wd sIF,sg sLP]++c++[sg sRP]++b++[wd sELSE]++o|_=>[]
def shW (ts:List (List Tk)):List Tk:=match ts with|[c,b]=>[wd sWHILE,sg sLP]++c++[sg sRP]++b|_=>[]
def shK (kind:Int) (text:List UInt8) (num:Int) (kids:List Nd) (ts:List (List Tk)):List Tk:=
 if kind=1 then ts.flatten
 else if kind=2 then [wd sSTRUCT,wd text,sg sLB]++ts.flatten++[sg sRB]
 else if kind=3 then ts.flatten++[wd text,sg sSEMI]
 else if kind=4 then [wd sEXTERN]++lastT ts++[wd text]++rowT ts.dropLast (decide (num=1))++[sg sSEMI]
 else if kind=5 then [wd sEXTERN]++ts.flatten++[wd text,sg sSEMI]
 else if kind=6 then (if num % 2=1 then [wd sSTATIC] else [])++(ts.headD []++[wd text,sg sEQ]++lastT ts++[sg sSEMI])
 else if kind=7 then (if num % 2=1 then [wd sSTATIC] else [])++(lastT ts.dropLast++[wd text]++rowT ts.dropLast.dropLast (decide (2≤num))++lastT ts)
 else if kind=8 then ts.flatten++[wd text]
 else if kind=9 then [wd sINT]
 else if kind=10 then [wd sLONG]
 else if kind=11 then [wd text]
 else if kind=12 then [wd sFN]++rowT ts.dropLast (decide (num=1))++lastT ts
 else if kind=13 then [sg sLB]++ts.flatten++[sg sRB]
 else if kind=14 then ts.headD []++[wd text,sg sEQ]++lastT ts++[sg sSEMI]
 else if kind=15 then ts.headD []++[sg sEQ]++lastT ts++[sg sSEMI]
 else if kind=16 then shI ts
 else if kind=17 then shW ts
 else if kind=18 then [wd sRET]++ts.flatten++[sg sSEMI]
 else if kind=19 then [wd sPUT,sg sLP]++ts.flatten++[sg sRP,sg sSEMI]
 else if kind=20 then ts.flatten++[sg sSEMI]
 else if kind=21 then numT 2 num
 else if kind=22 then numT 3 num
 else if kind=23 then [wd text]
 else if kind=24 then sh1 kids ts fun a x=>atT (bindN a) 4 x++[sg sDOT,wd text]
 else if kind=25 then shC kids ts fun a x r=>atT (bindN a) 4 x++rowT r false
 else if kind=26 then [sg sAMP,wd text]
 else if kind=27 then [wd text,sg sLB]++joinT ts++[sg sRB]
 else if kind=28 then sh1 kids ts fun a x=>sg sMINUS::atT (bindN a) 3 x
 else if kind=29 then sh1 kids ts fun a x=>sg sNOT::atT (bindN a) 3 x
 else if kind=30 then [wd sINT,sg sLP]++ts.flatten++[sg sRP]
 else if kind=31 then [wd sLONG,sg sLP]++ts.flatten++[sg sRP]
 else if kind=32 then sh2 kids ts fun a x b y=>atT (bindN a) (max (opBind num) 1) x++(sg (opSign num)::atT (bindN b) (opBind num+1) y)
 else if kind=33 then [wd sCOUNT]
 else if kind=34 then [wd sEXTRA,sg sLP]++ts.flatten++[sg sRP]
 else []
mutual
def shT:Nd→List Tk
 | .mk kind text num kids=>shK kind text num kids (shL kids)
def shL:List Nd→List (List Tk)
 | []=>[]
 | k::r=>shT k::shL r
end
theorem shL_map (l:List Nd):shL l=l.map shT:=by
 induction l with
 | nil=>simp [shL]
 | cons a r ih=>simp [shL,ih]
theorem shT_mk (kind:Int) (text:List UInt8) (num:Int) (kids:List Nd):shT (.mk kind text num kids)=shK kind text num kids (kids.map shT):=by rw [shT,shL_map]
inductive IsTy:Nd→Prop
 | int:IsTy (.mk 9 [] 0 [])
 | long:IsTy (.mk 10 [] 0 [])
 | named (s:List UInt8):nameB s=true→IsTy (.mk 11 s 0 [])
 | fn (l:List Nd) (d:Bool) (t:Nd):(∀ x,x∈l→IsTy x)→IsTy t→IsTy (.mk 12 [] (b2n d) (l++[t]))
def isOp (v:Int):Prop:=v=12∨v=10∨v=1∨v=2∨v=8∨v=9∨v=3∨v=5∨v=6∨v=7
inductive IsEx:Nd→Prop
 | num (v:Int):0≤v→v≤2147483647→IsEx (.mk 21 [] v [])
 | long (v:Int):0≤v→v≤9223372036854775807→IsEx (.mk 22 [] v [])
 | name (s:List UInt8):nameB s=true→IsEx (.mk 23 s 0 [])
 | dot (s:List UInt8) (x:Nd):nameB s=true→IsEx x→IsEx (.mk 24 s 0 [x])
 | call (x:Nd) (l:List Nd):IsEx x→(∀ y,y∈l→IsEx y)→IsEx (.mk 25 [] 0 (x::l))
 | addr (s:List UInt8):nameB s=true→IsEx (.mk 26 s 0 [])
 | make (s:List UInt8) (l:List Nd):nameB s=true→(∀ y,y∈l→IsEx y)→IsEx (.mk 27 s 0 l)
 | neg (x:Nd):IsEx x→IsEx (.mk 28 [] 0 [x])
 | not (x:Nd):IsEx x→IsEx (.mk 29 [] 0 [x])
 | toInt (x:Nd):IsEx x→IsEx (.mk 30 [] 0 [x])
 | toLong (x:Nd):IsEx x→IsEx (.mk 31 [] 0 [x])
 | op (v:Int) (a b:Nd):isOp v→IsEx a→IsEx b→IsEx (.mk 32 [] v [a,b])
 | count:IsEx (.mk 33 [] 0 [])
 | extra (x:Nd):IsEx x→IsEx (.mk 34 [] 0 [x])
inductive IsPl:Nd→Prop
 | name (s:List UInt8):nameB s=true→IsPl (.mk 23 s 0 [])
 | dot (s:List UInt8) (x:Nd):nameB s=true→IsPl x→IsPl (.mk 24 s 0 [x])
inductive IsCa:Nd→Prop
 | name (s:List UInt8):nameB s=true→IsCa (.mk 23 s 0 [])
 | dot (s:List UInt8) (x:Nd):nameB s=true→IsCa x→IsCa (.mk 24 s 0 [x])
 | call (x:Nd) (l:List Nd):IsCa x→(∀ y,y∈l→IsEx y)→IsCa (.mk 25 [] 0 (x::l))
inductive IsSt:Nd→Prop
 | var (s:List UInt8) (t x:Nd):nameB s=true→IsTy t→IsEx x→IsSt (.mk 14 s 0 [t,x])
 | set (p x:Nd):IsPl p→IsEx x→IsSt (.mk 15 [] 0 [p,x])
 | if1 (c:Nd) (l:List Nd):IsEx c→(∀ y,y∈l→IsSt y)→IsSt (.mk 16 [] 0 [c,.mk 13 [] 0 l])
 | if2 (c:Nd) (l m:List Nd):IsEx c→(∀ y,y∈l→IsSt y)→(∀ y,y∈m→IsSt y)→IsSt (.mk 16 [] 0 [c,.mk 13 [] 0 l,.mk 13 [] 0 m])
 | while1 (c:Nd) (l:List Nd):IsEx c→(∀ y,y∈l→IsSt y)→IsSt (.mk 17 [] 0 [c,.mk 13 [] 0 l])
 | ret (x:Nd):IsEx x→IsSt (.mk 18 [] 0 [x])
 | put (x:Nd):IsEx x→IsSt (.mk 19 [] 0 [x])
 | do1 (x:Nd) (l:List Nd):IsCa x→(∀ y,y∈l→IsEx y)→IsSt (.mk 20 [] 0 [.mk 25 [] 0 (x::l)])
inductive IsPa:Nd→Prop
 | param (s:List UInt8) (t:Nd):nameB s=true→IsTy t→IsPa (.mk 8 s 0 [t])
inductive IsFi:Nd→Prop
 | field (s:List UInt8) (t:Nd):nameB s=true→IsTy t→IsFi (.mk 3 s 0 [t])
inductive IsDe:Nd→Prop
 | struct1 (s:List UInt8) (l:List Nd):nameB s=true→l≠[]→(∀ y,y∈l→IsFi y)→IsDe (.mk 2 s 0 l)
 | extern1 (s:List UInt8) (l:List Nd) (d:Bool) (t:Nd):nameB s=true→(∀ y,y∈l→IsPa y)→IsTy t→IsDe (.mk 4 s (b2n d) (l++[t]))
 | outside (s:List UInt8) (t:Nd):nameB s=true→IsTy t→IsDe (.mk 5 s 0 [t])
 | global (s:List UInt8) (st:Bool) (t:Nd) (v:Int):nameB s=true→IsTy t→-2147483647≤v→v≤2147483647→IsDe (.mk 6 s (b2n st) [t,.mk 21 [] v []])
 | globalL (s:List UInt8) (st:Bool) (t:Nd) (v:Int):nameB s=true→IsTy t→-9223372036854775807≤v→v≤9223372036854775807→IsDe (.mk 6 s (b2n st) [t,.mk 22 [] v []])
 | fun1 (s:List UInt8) (st d:Bool) (l:List Nd) (t:Nd) (b:List Nd):nameB s=true→(∀ y,y∈l→IsPa y)→IsTy t→(∀ y,y∈b→IsSt y)→IsDe (.mk 7 s (b2n st+2*b2n d) (l++[t]++[.mk 13 [] 0 b]))
inductive IsUn:Nd→Prop
 | unit (l:List Nd):(∀ y,y∈l→IsDe y)→IsUn (.mk 1 [] 0 l)
theorem digits_app (a b:List UInt8) (v:Int):digits (a++b) v=digits b (digits a v):=by
 induction a generalizing v with
 | nil=>rfl
 | cons c r ih=>exact ih _
theorem dig_of (n:Nat) (h:n<10):((UInt8.ofNat (48+n)).toNat:Int) - 48=n:=by
 rw [UInt8.toNat_ofNat',Nat.mod_eq_of_lt (by omega)]
 omega
theorem digits_dec (n:Nat):digits (decN n) 0=n:=by
 induction n using Nat.strongRecOn with
 | ind n ih=>
  unfold decN
  split
  ·rename_i h
   show 10*(0:Int)+((UInt8.ofNat (48+n)).toNat:Int) - 48=n
   have:=dig_of n h
   omega
  ·rename_i h
   rw [digits_app,ih (n / 10) (by omega)]
   show 10*((n / 10:Nat):Int)+((UInt8.ofNat (48+n % 10)).toNat:Int) - 48=n
   have:=dig_of (n % 10) (by omega)
   omega
end Go.Proofs.YthcfianhdkolhaaGreatDoor.S
namespace Go.Proofs.YthcfianhdkolhaaGreatDoor.S
set_option linter.unusedVariables false
set_option linter.unusedSimpArgs false
def Nd.kind:Nd→Int|.mk k _ _ _=>k
def Nd.text:Nd→List UInt8|.mk _ t _ _=>t
def Nd.num:Nd→Int|.mk _ _ v _=>v
def Nd.kids:Nd→List Nd|.mk _ _ _ l=>l
theorem Nd.ind {P:Nd→Prop} (h:∀ k t v kids,(∀ x,x∈kids→P x)→P (.mk k t v kids)):∀ n,P n
 | .mk k t v kids=>h k t v kids (fun x hx=>Nd.ind h x)
 termination_by n=>SizeOf.sizeOf n
 decreasing_by
 have:=List.sizeOf_lt_of_mem hx
 simp
 omega
inductive Lg:Nd→Prop
 | mk (k:Int) (t:List UInt8) (v:Int) (kids:List Nd):-9223372036854775808≤v→v≤9223372036854775807→(∀ x,x∈kids→Lg x)→Lg (.mk k t v kids)
def clsN (k:Int):Int:=if k=2∨(4≤k∧k≤7) then 1 else if 9≤k∧k≤12 then 2 else if 14≤k∧k≤20 then 3 else if 21≤k∧k≤34 then 4 else 5
def wantN (kind:Int) (n i:Nat):Int × Int:=
 if kind=1 then (1,0) else if kind=2 then (5,3) else if kind=3∨kind=5∨kind=8∨kind=12 then (2,0)
 else if kind=4 then (if i+1=n then (2,0) else (5,8))
 else if kind=6 then (if i=0 then (2,0) else (4,-1))
 else if kind=7 then (if i+1=n then (5,13) else if i+2=n then (2,0) else (5,8))
 else if kind=13 then (3,0)
 else if kind=14 then (if i=0 then (2,0) else (4,0))
 else if kind=16∨kind=17 then (if i=0 then (4,0) else (5,13))
 else (4,0)
def shpN (kind:Int):Option (Bool × Int × Int × Int):=
 if kind=1∨kind=13 then some (false,0,0,-1)
 else if kind=2 then some (true,0,1,-1)
 else if kind=3∨kind=5∨kind=8∨kind=24 then some (true,0,1,1)
 else if kind=4 then some (true,1,1,-1)
 else if kind=6 then some (true,1,2,2)
 else if kind=7 then some (true,3,2,-1)
 else if kind=9∨kind=10∨kind=33 then some (false,0,0,0)
 else if kind=11∨kind=23∨kind=26 then some (true,0,0,0)
 else if kind=12 then some (false,1,1,-1)
 else if kind=14 then some (true,0,2,2)
 else if kind=15∨kind=17 then some (false,0,2,2)
 else if kind=16 then some (false,0,2,3)
 else if kind=18∨kind=19∨kind=20∨kind=28∨kind=29∨kind=30∨kind=31∨kind=34 then some (false,0,1,1)
 else if kind=21∨kind=22 then some (false,-1,0,0)
 else if kind=25 then some (false,0,1,-1)
 else if kind=27 then some (true,0,0,-1)
 else if kind=32 then some (false,12,2,2)
 else none
mutual
def baseN (calls:Bool):Nd→Int
 | .mk kind _ _ kids=>if kind=24∨(calls=true∧kind=25) then baseL calls kind kids else kind
def baseL (calls:Bool) (kind:Int):List Nd→Int
 | []=>kind
 | k::_=>baseN calls k
end
def neg64 (v:Int):Int:=if v=-9223372036854775808 then v else -v
def absN (free:Bool) (v:Int):Int:=if free=true∧v<0 then neg64 v else v
def kid0 (kids:List Nd):Nd:=kids.headD (.mk 0 [] 0 [])
def cntB (c:Nat) (least most:Int):Bool:=decide (least≤c∧(0≤most→(c:Int)≤most))
def txtB (t:Bool) (text:List UInt8):Bool:=if t=true then nameB text else decide (text=[])
def numB (kind v mx:Int):Bool:=decide (0≤v∧(0≤mx→v≤mx)∧(kind=21→v≤2147483647))
def locN (kind:Int) (text:List UInt8) (num:Int) (kids:List Nd) (free:Bool):Bool:=
 match shpN kind with
 | none=>false
 | some (t,mx,least,most)=>cntB kids.length least most && txtB t text && numB kind (absN free num) mx &&
   decide (kind=32→opSign num≠[]) && decide (kind=15→baseN false (kid0 kids)=23) && decide (kind=20→(kid0 kids).kind=25∧baseN true (kid0 kids)=23)
def kidB (kind:Int) (n i:Nat) (k:Int):Bool:=decide (clsN k=(wantN kind n i).1∧(0<(wantN kind n i).2→k=(wantN kind n i).2)∧((wantN kind n i).2<0→k=21∨k=22))
def freeB (kind:Int) (n i:Nat):Bool:=decide ((wantN kind n i).2<0)
mutual
def isN:Nd→Bool→Bool
 | .mk kind text num kids,free=>locN kind text num kids free && isL kind kids.length 0 kids
def isL (kind:Int) (n:Nat):Nat→List Nd→Bool
 | _,[]=>true
 | i,k::r=>kidB kind n i k.kind && isN k (freeB kind n i) && isL kind n (i+1) r
end
theorem isL_iff (kind:Int) (n:Nat):∀ (l:List Nd) (i:Nat),isL kind n i l=true ↔ ∀ j (hj:j<l.length),kidB kind n (i+j) l[j].kind=true∧isN l[j] (freeB kind n (i+j))=true
 | [],i=>by simp [isL]
 | k::r,i=>by
  rw [isL,Bool.and_eq_true,Bool.and_eq_true,isL_iff kind n r (i+1)]
  constructor
  ·rintro ⟨⟨h1,h2⟩,h3⟩ j hj
   cases j with
   | zero=>exact ⟨h1,h2⟩
   | succ j=>
    have:=h3 j (by simpa using hj)
    rw [show i+(j+1)=i+1+j by omega]
    exact this
  ·intro h
   refine ⟨h 0 (by simp),fun j hj=>?_⟩
   have:=h (j+1) (by simpa using hj)
   rw [show i+(j+1)=i+1+j by omega] at this
   exact this
theorem isN_iff (kind:Int) (text:List UInt8) (num:Int) (kids:List Nd) (free:Bool):isN (.mk kind text num kids) free=true ↔ locN kind text num kids free=true∧∀ j (hj:j<kids.length),kidB kind kids.length j kids[j].kind=true∧isN kids[j] (freeB kind kids.length j)=true:=by
 rw [isN,Bool.and_eq_true,isL_iff]
 simp only [Nat.zero_add]
end Go.Proofs.YthcfianhdkolhaaGreatDoor.S
namespace Go.Proofs.YthcfianhdkolhaaGreatDoor.S
set_option linter.unusedVariables false
set_option linter.unusedSimpArgs false
theorem kids_all {kind:Int} {kids:List Nd} {p:Nd→Prop} (h:∀ j (hj:j<kids.length),p kids[j]):∀ x,x∈kids→p x:=fun x hx=>by
 obtain ⟨j,hj,rfl⟩:=List.getElem_of_mem hx
 exact h j hj
theorem last_form {kids:List Nd} (h:1≤kids.length):∃ l t,kids=l++[t]:=by
 have hne:kids≠[]:=by intro e;subst e;simp at h
 exact ⟨kids.dropLast,kids.getLast hne,(List.dropLast_concat_getLast hne).symm⟩
theorem last2_form {kids:List Nd} (h:2≤kids.length):∃ l t b,kids=l++[t]++[b]:=by
 obtain ⟨m,b,rfl⟩:=last_form (kids:=kids) (by omega)
 obtain ⟨l,t,rfl⟩:=last_form (kids:=m) (by simp at h;omega)
 exact ⟨l,t,b,rfl⟩
theorem one_form {kids:List Nd} (h:kids.length=1):∃ a,kids=[a]:=by
 match kids,h with
 | [a],_=>exact ⟨a,rfl⟩
theorem two_form {kids:List Nd} (h:kids.length=2):∃ a b,kids=[a,b]:=by
 match kids,h with
 | [a,b],_=>exact ⟨a,b,rfl⟩
theorem three_form {kids:List Nd} (h:kids.length=3):∃ a b c,kids=[a,b,c]:=by
 match kids,h with
 | [a,b,c],_=>exact ⟨a,b,c,rfl⟩
theorem ex_pl {p:Nd} (h:IsEx p):baseN false p=23→IsPl p:=by
 induction h with
 | name s hs=>exact fun _=>IsPl.name s hs
 | dot s x hs _ ih=>exact fun e=>IsPl.dot s x hs (ih (by simpa [baseN,baseL] using e))
 | _=>intro e;simp [baseN] at e
theorem ex_ca {p:Nd} (h:IsEx p):baseN true p=23→IsCa p:=by
 induction h with
 | name s hs=>exact fun _=>IsCa.name s hs
 | dot s x hs _ ih=>exact fun e=>IsCa.dot s x hs (ih (by simpa [baseN,baseL] using e))
 | call x l _ hl ih _=>exact fun e=>IsCa.call x l (ih (by simpa [baseN,baseL] using e)) hl
 | _=>intro e;simp [baseN] at e
theorem pl_ex {p:Nd} (h:IsPl p):IsEx p∧baseN false p=23:=by
 induction h with
 | name s hs=>exact ⟨IsEx.name s hs,by simp [baseN]⟩
 | dot s x hs _ ih=>exact ⟨IsEx.dot s x hs ih.1,by simpa [baseN,baseL] using ih.2⟩
theorem ca_ex {p:Nd} (h:IsCa p):IsEx p∧baseN true p=23:=by
 induction h with
 | name s hs=>exact ⟨IsEx.name s hs,by simp [baseN]⟩
 | dot s x hs _ ih=>exact ⟨IsEx.dot s x hs ih.1,by simpa [baseN,baseL] using ih.2⟩
 | call x l _ hl ih=>exact ⟨IsEx.call x l ih.1 hl,by simpa [baseN,baseL] using ih.2⟩
theorem cls_ty {k:Int}:clsN k=2 ↔ k=9∨k=10∨k=11∨k=12:=by
 unfold clsN;repeat' split
 all_goals omega
theorem cls_ex {k:Int}:clsN k=4 ↔ k=21∨k=22∨k=23∨k=24∨k=25∨k=26∨k=27∨k=28∨k=29∨k=30∨k=31∨k=32∨k=33∨k=34:=by
 unfold clsN;repeat' split
 all_goals omega
theorem cls_st {k:Int}:clsN k=3 ↔ k=14∨k=15∨k=16∨k=17∨k=18∨k=19∨k=20:=by
 unfold clsN;repeat' split
 all_goals omega
theorem cls_de {k:Int}:clsN k=1 ↔ k=2∨k=4∨k=5∨k=6∨k=7:=by
 unfold clsN;repeat' split
 all_goals omega
theorem op_of {v:Int}:opSign v≠[] ↔ isOp v:=by
 unfold opSign isOp
 repeat' split
 all_goals simp_all
theorem b2n_of {v:Int} (h0:0≤v) (h1:v≤1):∃ d,v=b2n d:=by
 have:v=0∨v=1:=by omega
 rcases this with rfl|rfl
 ·exact ⟨false,rfl⟩
 ·exact ⟨true,rfl⟩
theorem b2n_of2 {v:Int} (h0:0≤v) (h1:v≤3):∃ st d,v=b2n st+2*b2n d:=by
 have:v=0∨v=1∨v=2∨v=3:=by omega
 rcases this with rfl|rfl|rfl|rfl
 ·exact ⟨false,false,rfl⟩
 ·exact ⟨true,false,rfl⟩
 ·exact ⟨false,true,rfl⟩
 ·exact ⟨true,true,rfl⟩
theorem loc_iff {kind:Int} {text:List UInt8} {num:Int} {kids:List Nd} {free t:Bool} {mx least most:Int} (hs:shpN kind=some (t,mx,least,most)):locN kind text num kids free=true ↔
  (least≤kids.length∧(0≤most→(kids.length:Int)≤most))∧txtB t text=true∧(0≤absN free num∧(0≤mx→absN free num≤mx)∧(kind=21→absN free num≤2147483647))∧(kind=32→opSign num≠[])∧(kind=15→baseN false (kid0 kids)=23)∧(kind=20→(kid0 kids).kind=25∧baseN true (kid0 kids)=23):=by
 unfold locN
 rw [hs]
 simp only [cntB,numB,Bool.and_eq_true,decide_eq_true_eq,and_assoc]
theorem abs_f (v:Int):absN false v=v:=by simp [absN]
theorem nil_of {kids:List Nd} (h:(kids.length:Int)≤0):kids=[]:=List.eq_nil_of_length_eq_zero (by omega)
theorem txt_f {s:List UInt8} (h:txtB false s=true):s=[]:=by simpa [txtB] using h
theorem txt_t {s:List UInt8} (h:txtB true s=true):nameB s=true:=by simpa [txtB] using h
theorem kid_of {kind:Int} {n i:Nat} {k:Int} (h:kidB kind n i k=true):clsN k=(wantN kind n i).1∧(0<(wantN kind n i).2→k=(wantN kind n i).2)∧((wantN kind n i).2<0→k=21∨k=22):=of_decide_eq_true h
theorem kid_cls {kind:Int} {n i:Nat} {x:Nd} {c:Int} (hw:wantN kind n i=(c,0)) (h:kidB kind n i x.kind=true∧isN x (freeB kind n i)=true):clsN x.kind=c∧isN x false=true:=by
 have h1:=(kid_of h.1).1
 have h2:=h.2
 rw [hw] at h1
 unfold freeB at h2
 rw [hw] at h2
 exact ⟨h1,h2⟩
theorem is_ty:∀ n,isN n false=true→clsN n.kind=2→IsTy n:=by
 refine Nd.ind fun k t v kids ih h hc=>?_
 rw [isN_iff] at h
 obtain ⟨h1,h2⟩:=h
 have hc':k=9∨k=10∨k=11∨k=12:=cls_ty.1 hc
 rcases hc' with rfl|rfl|rfl|rfl
 ·obtain ⟨⟨c1,c2⟩,tx,⟨n1,n2,n3⟩,-⟩:=(loc_iff (t:=false) (mx:=0) (least:=0) (most:=0) (by rfl)).1 h1
  rw [abs_f] at n1 n2
  obtain rfl:=nil_of (c2 (by decide))
  obtain rfl:=txt_f tx
  obtain rfl:v=0:=by omega
  exact IsTy.int
 ·obtain ⟨⟨c1,c2⟩,tx,⟨n1,n2,n3⟩,-⟩:=(loc_iff (t:=false) (mx:=0) (least:=0) (most:=0) (by rfl)).1 h1
  rw [abs_f] at n1 n2
  obtain rfl:=nil_of (c2 (by decide))
  obtain rfl:=txt_f tx
  obtain rfl:v=0:=by omega
  exact IsTy.long
 ·obtain ⟨⟨c1,c2⟩,tx,⟨n1,n2,n3⟩,-⟩:=(loc_iff (t:=true) (mx:=0) (least:=0) (most:=0) (by rfl)).1 h1
  rw [abs_f] at n1 n2
  obtain rfl:=nil_of (c2 (by decide))
  obtain rfl:v=0:=by omega
  exact IsTy.named t (txt_t tx)
 ·obtain ⟨⟨c1,c2⟩,tx,⟨n1,n2,n3⟩,-⟩:=(loc_iff (t:=false) (mx:=1) (least:=1) (most:=-1) (by rfl)).1 h1
  rw [abs_f] at n1 n2
  obtain rfl:=txt_f tx
  obtain ⟨d,rfl⟩:=b2n_of n1 (n2 (by decide))
  have hk:∀ x,x∈kids→IsTy x:=kids_all (kind:=0) fun j hj=>by
   obtain ⟨a1,a2⟩:=kid_cls (c:=2) (by rfl) (h2 j hj)
   exact ih _ (List.getElem_mem hj) a2 a1
  obtain ⟨l,t,rfl⟩:=last_form (kids:=kids) (by omega)
  exact IsTy.fn l d t (fun x hx=>hk x (by simp [hx])) (hk t (by simp))
theorem is_ex:∀ n,Lg n→isN n false=true→clsN n.kind=4→IsEx n:=by
 refine Nd.ind fun k t v kids ih0 hL h hc=>?_
 obtain ⟨_,_,_,_,g1,g2,g3⟩:=hL
 have ih:=fun x hx=>ih0 x hx (g3 x hx)
 rw [isN_iff] at h
 obtain ⟨h1,h2⟩:=h
 have hc':k=21∨k=22∨k=23∨k=24∨k=25∨k=26∨k=27∨k=28∨k=29∨k=30∨k=31∨k=32∨k=33∨k=34:=cls_ex.1 hc
 rcases hc' with rfl|rfl|rfl|rfl|rfl|rfl|rfl|rfl|rfl|rfl|rfl|rfl|rfl|rfl
 ·obtain ⟨⟨c1,c2⟩,tx,⟨n1,n2,n3⟩,o1,o2,o3⟩:=(loc_iff (t:=false) (mx:=-1) (least:=0) (most:=0) (by rfl)).1 h1
  rw [abs_f] at n1 n2 n3
  obtain rfl:=nil_of (c2 (by decide))
  obtain rfl:=txt_f tx
  exact IsEx.num v n1 (n3 rfl)
 ·obtain ⟨⟨c1,c2⟩,tx,⟨n1,n2,n3⟩,o1,o2,o3⟩:=(loc_iff (t:=false) (mx:=-1) (least:=0) (most:=0) (by rfl)).1 h1
  rw [abs_f] at n1 n2 n3
  obtain rfl:=nil_of (c2 (by decide))
  obtain rfl:=txt_f tx
  exact IsEx.long v n1 g2
 ·obtain ⟨⟨c1,c2⟩,tx,⟨n1,n2,n3⟩,o1,o2,o3⟩:=(loc_iff (t:=true) (mx:=0) (least:=0) (most:=0) (by rfl)).1 h1
  rw [abs_f] at n1 n2 n3
  obtain rfl:=nil_of (c2 (by decide))
  obtain rfl:v=0:=by omega
  exact IsEx.name t (txt_t tx)
 ·obtain ⟨⟨c1,c2⟩,tx,⟨n1,n2,n3⟩,o1,o2,o3⟩:=(loc_iff (t:=true) (mx:=0) (least:=1) (most:=1) (by rfl)).1 h1
  rw [abs_f] at n1 n2 n3
  obtain rfl:v=0:=by omega
  obtain ⟨a,rfl⟩:=one_form (kids:=kids) (by omega)
  have k0:=kid_cls (c:=4) (by rfl) (h2 0 (by simp))
  have i0:IsEx a:=ih a (by simp) k0.2 k0.1
  exact IsEx.dot t a (txt_t tx) i0
 ·obtain ⟨⟨c1,c2⟩,tx,⟨n1,n2,n3⟩,o1,o2,o3⟩:=(loc_iff (t:=false) (mx:=0) (least:=1) (most:=-1) (by rfl)).1 h1
  rw [abs_f] at n1 n2 n3
  obtain rfl:v=0:=by omega
  obtain rfl:=txt_f tx
  have hk:∀ x,x∈kids→IsEx x:=kids_all (kind:=0) fun j hj=>by
   obtain ⟨a1,a2⟩:=kid_cls (c:=4) (by rfl) (h2 j hj)
   exact ih _ (List.getElem_mem hj) a2 a1
  cases kids with
  | nil=>simp at c1
  | cons x l=>exact IsEx.call x l (hk x (by simp)) (fun y hy=>hk y (by simp [hy]))
 ·obtain ⟨⟨c1,c2⟩,tx,⟨n1,n2,n3⟩,o1,o2,o3⟩:=(loc_iff (t:=true) (mx:=0) (least:=0) (most:=0) (by rfl)).1 h1
  rw [abs_f] at n1 n2 n3
  obtain rfl:=nil_of (c2 (by decide))
  obtain rfl:v=0:=by omega
  exact IsEx.addr t (txt_t tx)
 ·obtain ⟨⟨c1,c2⟩,tx,⟨n1,n2,n3⟩,o1,o2,o3⟩:=(loc_iff (t:=true) (mx:=0) (least:=0) (most:=-1) (by rfl)).1 h1
  rw [abs_f] at n1 n2 n3
  obtain rfl:v=0:=by omega
  have hk:∀ x,x∈kids→IsEx x:=kids_all (kind:=0) fun j hj=>by
   obtain ⟨a1,a2⟩:=kid_cls (c:=4) (by rfl) (h2 j hj)
   exact ih _ (List.getElem_mem hj) a2 a1
  exact IsEx.make t kids (txt_t tx) hk
 ·obtain ⟨⟨c1,c2⟩,tx,⟨n1,n2,n3⟩,o1,o2,o3⟩:=(loc_iff (t:=false) (mx:=0) (least:=1) (most:=1) (by rfl)).1 h1
  rw [abs_f] at n1 n2 n3
  obtain rfl:v=0:=by omega
  obtain rfl:=txt_f tx
  obtain ⟨a,rfl⟩:=one_form (kids:=kids) (by omega)
  have k0:=kid_cls (c:=4) (by rfl) (h2 0 (by simp))
  have i0:IsEx a:=ih a (by simp) k0.2 k0.1
  exact IsEx.neg a i0
 ·obtain ⟨⟨c1,c2⟩,tx,⟨n1,n2,n3⟩,o1,o2,o3⟩:=(loc_iff (t:=false) (mx:=0) (least:=1) (most:=1) (by rfl)).1 h1
  rw [abs_f] at n1 n2 n3
  obtain rfl:v=0:=by omega
  obtain rfl:=txt_f tx
  obtain ⟨a,rfl⟩:=one_form (kids:=kids) (by omega)
  have k0:=kid_cls (c:=4) (by rfl) (h2 0 (by simp))
  have i0:IsEx a:=ih a (by simp) k0.2 k0.1
  exact IsEx.not a i0
 ·obtain ⟨⟨c1,c2⟩,tx,⟨n1,n2,n3⟩,o1,o2,o3⟩:=(loc_iff (t:=false) (mx:=0) (least:=1) (most:=1) (by rfl)).1 h1
  rw [abs_f] at n1 n2 n3
  obtain rfl:v=0:=by omega
  obtain rfl:=txt_f tx
  obtain ⟨a,rfl⟩:=one_form (kids:=kids) (by omega)
  have k0:=kid_cls (c:=4) (by rfl) (h2 0 (by simp))
  have i0:IsEx a:=ih a (by simp) k0.2 k0.1
  exact IsEx.toInt a i0
 ·obtain ⟨⟨c1,c2⟩,tx,⟨n1,n2,n3⟩,o1,o2,o3⟩:=(loc_iff (t:=false) (mx:=0) (least:=1) (most:=1) (by rfl)).1 h1
  rw [abs_f] at n1 n2 n3
  obtain rfl:v=0:=by omega
  obtain rfl:=txt_f tx
  obtain ⟨a,rfl⟩:=one_form (kids:=kids) (by omega)
  have k0:=kid_cls (c:=4) (by rfl) (h2 0 (by simp))
  have i0:IsEx a:=ih a (by simp) k0.2 k0.1
  exact IsEx.toLong a i0
 ·obtain ⟨⟨c1,c2⟩,tx,⟨n1,n2,n3⟩,o1,o2,o3⟩:=(loc_iff (t:=false) (mx:=12) (least:=2) (most:=2) (by rfl)).1 h1
  rw [abs_f] at n1 n2 n3
  obtain rfl:=txt_f tx
  obtain ⟨a,b,rfl⟩:=two_form (kids:=kids) (by omega)
  have k0:=kid_cls (c:=4) (by rfl) (h2 0 (by simp))
  have i0:IsEx a:=ih a (by simp) k0.2 k0.1
  have k1:=kid_cls (c:=4) (by rfl) (h2 1 (by simp))
  have i1:IsEx b:=ih b (by simp) k1.2 k1.1
  exact IsEx.op v a b (op_of.1 (o1 rfl)) i0 i1
 ·obtain ⟨⟨c1,c2⟩,tx,⟨n1,n2,n3⟩,o1,o2,o3⟩:=(loc_iff (t:=false) (mx:=0) (least:=0) (most:=0) (by rfl)).1 h1
  rw [abs_f] at n1 n2 n3
  obtain rfl:=nil_of (c2 (by decide))
  obtain rfl:v=0:=by omega
  obtain rfl:=txt_f tx
  exact IsEx.count
 ·obtain ⟨⟨c1,c2⟩,tx,⟨n1,n2,n3⟩,o1,o2,o3⟩:=(loc_iff (t:=false) (mx:=0) (least:=1) (most:=1) (by rfl)).1 h1
  rw [abs_f] at n1 n2 n3
  obtain rfl:v=0:=by omega
  obtain rfl:=txt_f tx
  obtain ⟨a,rfl⟩:=one_form (kids:=kids) (by omega)
  have k0:=kid_cls (c:=4) (by rfl) (h2 0 (by simp))
  have i0:IsEx a:=ih a (by simp) k0.2 k0.1
  exact IsEx.extra a i0
def IsBl (n:Nd):Prop:=∃ l,n=.mk 13 [] 0 l∧∀ y,y∈l→IsSt y
end Go.Proofs.YthcfianhdkolhaaGreatDoor.S
