/- SynBase SynGram SynShow SynIs SynIsU SynIsV SynCnt SynTb SynLen SynRule SynBack SynExpr SynUnit SynDecl SynCost SynBytes SynSpec SynSpec2 SynDig -/
import Derived.WalkKit
import Derived.Lib.Join
namespace Go.Proofs.YthcfianhdkolhaaGreatDoor
theorem ħ {p:Prop} (h:p):Go.RowKit.Hid p:=h
end Go.Proofs.YthcfianhdkolhaaGreatDoor
namespace Go.Proofs.YthcfianhdkolhaaGreatDoor.S
def letB (c:Nat):Bool:=(decide (97≤c) && decide (c≤122)) || (decide (65≤c) && decide (c≤90))
def digB (c:Nat):Bool:=decide (48≤c) && decide (c≤57)
def signB (s:List UInt8) (i:Nat):Bool:=match s[i]? with|some c=>letB c.toNat || (decide (i≠0) && (digB c.toNat || decide (c.toNat=95)))|none=>false
def reserved:List (List UInt8):=[[98,114,101,97,107],[99,111,117,110,116],[101,108,115,101],[101,120,116,101,114,110],[101,120,116,114,97],[102,110],[105,102],[105,110,116],[108,111,110,103],[112,117,116],[114,101,116,117,114,110],[115,116,97,116,105,99],[115,116,114,117,99,116],[119,104,105,108,101]]
def nameB (s:List UInt8):Bool:=decide (1≤s.length) && decide (s.length≤16) && ((List.range s.length).all fun i=>signB s i) && !(reserved.contains s)
end Go.Proofs.YthcfianhdkolhaaGreatDoor.S
namespace Go.Proofs.YthcfianhdkolhaaGreatDoor.S
set_option linter.unusedVariables false
set_option linter.unusedSimpArgs false
abbrev sINT:List UInt8:=[105,110,116]
abbrev sLONG:List UInt8:=[108,111,110,103]
abbrev sFN:List UInt8:=[102,110]
abbrev sSTRUCT:List UInt8:=[115,116,114,117,99,116]
abbrev sEXTERN:List UInt8:=[101,120,116,101,114,110]
abbrev sSTATIC:List UInt8:=[115,116,97,116,105,99]
abbrev sIF:List UInt8:=[105,102]
abbrev sELSE:List UInt8:=[101,108,115,101]
abbrev sWHILE:List UInt8:=[119,104,105,108,101]
abbrev sRET:List UInt8:=[114,101,116,117,114,110]
abbrev sPUT:List UInt8:=[112,117,116]
abbrev sCOUNT:List UInt8:=[99,111,117,110,116]
abbrev sEXTRA:List UInt8:=[101,120,116,114,97]
abbrev sLP:List UInt8:=[40]
abbrev sRP:List UInt8:=[41]
abbrev sLB:List UInt8:=[123]
abbrev sRB:List UInt8:=[125]
abbrev sSEMI:List UInt8:=[59]
abbrev sCOMMA:List UInt8:=[44]
abbrev sDOTS:List UInt8:=[46,46,46]
abbrev sDOT:List UInt8:=[46]
abbrev sEQ:List UInt8:=[61]
abbrev sMINUS:List UInt8:=[45]
abbrev sNOT:List UInt8:=[33]
abbrev sAMP:List UInt8:=[38]
abbrev sSAME:List UInt8:=[61,61]
abbrev sLESS:List UInt8:=[60]
abbrev sPLUS:List UInt8:=[43]
abbrev sOR:List UInt8:=[124]
abbrev sXOR:List UInt8:=[94]
abbrev sMUL:List UInt8:=[42]
abbrev sDIV:List UInt8:=[47]
abbrev sREM:List UInt8:=[37]
structure Tk where
 kind:Int
 text:List UInt8
inductive Nd where
 | mk (kind:Int) (text:List UInt8) (num:Int) (kids:List Nd)
def Tk.txt (t:Tk):List UInt8:=if t.kind=2∨t.kind=3 then [] else t.text
def hd:List Tk→List UInt8
 | []=>[]
 | t::_=>t.txt
inductive V where
 | nd (x:Nd)
 | row (l:List Nd) (dots:Bool)
inductive Res where
 | ok (v:V) (r:List Tk)
 | no (r:List Tk)
abbrev O:=Option Res
def andN (x:O) (f:Nd→List Tk→O):O:=match x with|some (.ok (.nd a) r)=>f a r|some (.no r)=>some (.no r)|_=>none
def andR (x:O) (f:List Nd→Bool→List Tk→O):O:=match x with|some (.ok (.row l d) r)=>f l d r|some (.no r)=>some (.no r)|_=>none
def must (s:List UInt8) (ts:List Tk) (f:List Tk→O):O:=if hd ts=s then f ts.tail else some (.no ts)
def name (ts:List Tk) (f:List UInt8→List Tk→O):O:=if nameB (hd ts)=true then f (hd ts) ts.tail else some (.no ts)
def digits:List UInt8→Int→Int
 | [],a=>a
 | c::r,a=>digits r (10*a+(c.toNat:Int) - 48)
def number:List Tk→O
 | []=>some (.no [])
 | t::r=>if t.kind=2 then some (.ok (.nd (.mk 21 [] (digits t.text 0) [])) r) else if t.kind=3 then some (.ok (.nd (.mk 22 [] (digits t.text 0) [])) r) else some (.no (t::r))
def sign (s:List UInt8):Int × Int:=
 if s=sSAME then (0,12) else if s=sLESS then (0,10) else if s=sPLUS then (1,1) else if s=sMINUS then (1,2) else if s=sOR then (1,8) else if s=sXOR then (1,9)
 else if s=sMUL then (2,3) else if s=sDIV then (2,5) else if s=sREM then (2,6) else if s=sAMP then (2,7) else (-1,0)
inductive G where
 | typ|rows (what:Nat)|rowsL (what:Nat) (acc:List Nd)|item (what:Nat)
 | expr|bound (least:Nat)|boundL (least:Nat) (acc:Nd)|unary|postL (acc:Nd)|first|round|makeL (s:List UInt8) (acc:List Nd)
 | block|blockL (acc:List Nd)|stat|simpleL (acc:Nd) (calls:Bool)|decl|fieldsL (s:List UInt8) (acc:List Nd)|unitL (acc:List Nd)
def okN (x:Nd) (r:List Tk):O:=some (.ok (.nd x) r)
def b2n (b:Bool):Int:=if b then 1 else 0
def F (p:G→List Tk→O):G→List Tk→O
 | .typ,ts=>
  if hd ts=sINT then okN (.mk 9 [] 0 []) ts.tail else if hd ts=sLONG then okN (.mk 10 [] 0 []) ts.tail
  else if hd ts=sFN then andR (p (.rows 0) ts.tail) fun l d r=>andN (p .typ r) fun t r=>okN (.mk 12 [] (b2n d) (l++[t])) r
  else name ts fun s r=>okN (.mk 11 s 0 []) r
 | .rows what,ts=>must sLP ts fun r=>if hd r=sRP then some (.ok (.row [] false) r.tail) else p (.rowsL what []) r
 | .rowsL what acc,ts=>
  if what<2∧hd ts=sDOTS then must sRP ts.tail fun r=>some (.ok (.row acc true) r)
  else andN (p (.item what) ts) fun x r=>if hd r=sCOMMA then p (.rowsL what (acc++[x])) r.tail else must sRP r fun r=>some (.ok (.row (acc++[x]) false) r)
 | .item what,ts=>if what=0 then p .typ ts else if what=1 then andN (p .typ ts) fun t r=>name r fun s r=>okN (.mk 8 s 0 [t]) r else p .expr ts
 | .expr,ts=>p (.bound 0) ts
 | .bound least,ts=>if 2<least then p .unary ts else andN (p (.bound (least+1)) ts) fun x r=>p (.boundL least x) r
 | .boundL least acc,ts=>
  if (sign (hd ts)).1=least then andN (p (.bound (least+1)) ts.tail) fun y r=>if least=0 then okN (.mk 32 [] (sign (hd ts)).2 [acc,y]) r else p (.boundL least (.mk 32 [] (sign (hd ts)).2 [acc,y])) r
  else okN acc ts
 | .unary,ts=>
  if hd ts=sMINUS then andN (p .unary ts.tail) fun x r=>okN (.mk 28 [] 0 [x]) r else if hd ts=sNOT then andN (p .unary ts.tail) fun x r=>okN (.mk 29 [] 0 [x]) r
  else andN (p .first ts) fun x r=>p (.postL x) r
 | .postL acc,ts=>
  if hd ts=sDOT then name ts.tail fun s r=>p (.postL (.mk 24 s 0 [acc])) r
  else if hd ts=sLP then andR (p (.rows 2) ts) fun l _ r=>p (.postL (.mk 25 [] 0 (acc::l))) r else okN acc ts
 | .first,ts=>
  if hd ts=sLP then p .round ts else if hd ts=sAMP then name ts.tail fun s r=>okN (.mk 26 s 0 []) r else if hd ts=sCOUNT then okN (.mk 33 [] 0 []) ts.tail
  else if hd ts=sINT then andN (p .round ts.tail) fun x r=>okN (.mk 30 [] 0 [x]) r else if hd ts=sLONG then andN (p .round ts.tail) fun x r=>okN (.mk 31 [] 0 [x]) r
  else if hd ts=sEXTRA then andN (p .round ts.tail) fun x r=>okN (.mk 34 [] 0 [x]) r
  else if nameB (hd ts)=true then
   if hd ts.tail=sLB then if hd ts.tail.tail=sRB then okN (.mk 27 (hd ts) 0 []) ts.tail.tail.tail else p (.makeL (hd ts) []) ts.tail.tail else okN (.mk 23 (hd ts) 0 []) ts.tail
  else number ts
 | .round,ts=>must sLP ts fun r=>andN (p .expr r) fun x r=>must sRP r fun r=>okN x r
 | .makeL s acc,ts=>andN (p .expr ts) fun x r=>if hd r=sCOMMA then p (.makeL s (acc++[x])) r.tail else must sRB r fun r=>okN (.mk 27 s 0 (acc++[x])) r
 | .block,ts=>must sLB ts fun r=>p (.blockL []) r
 | .blockL acc,ts=>if hd ts=sRB then okN (.mk 13 [] 0 acc) ts.tail else andN (p .stat ts) fun x r=>p (.blockL (acc++[x])) r
 | .stat,ts=>
  if hd ts=sIF then andN (p .round ts.tail) fun c r=>andN (p .block r) fun b r=>if hd r=sELSE then andN (p .block r.tail) fun o r=>okN (.mk 16 [] 0 [c,b,o]) r else okN (.mk 16 [] 0 [c,b]) r
  else if hd ts=sWHILE then andN (p .round ts.tail) fun c r=>andN (p .block r) fun b r=>okN (.mk 17 [] 0 [c,b]) r
  else if hd ts=sRET then andN (p .expr ts.tail) fun x r=>must sSEMI r fun r=>okN (.mk 18 [] 0 [x]) r
  else if hd ts=sPUT then andN (p .round ts.tail) fun x r=>must sSEMI r fun r=>okN (.mk 19 [] 0 [x]) r
  else if hd ts=sINT∨hd ts=sLONG∨hd ts=sFN∨(nameB (hd ts)=true∧nameB (hd ts.tail)=true) then andN (p .typ ts) fun t r=>name r fun s r=>must sEQ r fun r=>andN (p .expr r) fun x r=>must sSEMI r fun r=>okN (.mk 14 s 0 [t,x]) r
  else name ts fun s r=>andN (p (.simpleL (.mk 23 s 0 []) false) r) fun x r=>must sSEMI r fun r=>okN x r
 | .simpleL acc calls,ts=>
  if hd ts=sDOT then name ts.tail fun s r=>p (.simpleL (.mk 24 s 0 [acc]) calls) r
  else if hd ts=sLP then andR (p (.rows 2) ts) fun l _ r=>p (.simpleL (.mk 25 [] 0 (acc::l)) true) r
  else if calls=false then must sEQ ts fun r=>andN (p .expr r) fun x r=>okN (.mk 15 [] 0 [acc,x]) r
  else match acc with|.mk k _ _ _=>if k=25 then okN (.mk 20 [] 0 [acc]) ts else some (.no ts)
 | .fieldsL s acc,ts=>andN (p .typ ts) fun t r=>name r fun f r=>must sSEMI r fun r=>if hd r=sRB then okN (.mk 2 s 0 (acc++[.mk 3 f 0 [t]])) r.tail else p (.fieldsL s (acc++[.mk 3 f 0 [t]])) r
 | .decl,ts=>
  if hd ts=sSTRUCT then name ts.tail fun s r=>must sLB r fun r=>p (.fieldsL s []) r
  else if hd ts=sEXTERN then andN (p .typ ts.tail) fun t r=>name r fun s r=>
   if hd r=sLP then andR (p (.rows 1) r) fun l d r=>must sSEMI r fun r=>okN (.mk 4 s (b2n d) (l++[t])) r else must sSEMI r fun r=>okN (.mk 5 s 0 [t]) r
  else andN (p .typ (if hd ts=sSTATIC then ts.tail else ts)) fun t r=>name r fun s r=>
   if hd r=sLP then andR (p (.rows 1) r) fun l d r=>andN (p .block r) fun b r=>okN (.mk 7 s (b2n (decide (hd ts=sSTATIC))+2*b2n d) (l++[t]++[b])) r
   else must sEQ r fun r=>andN (number (if hd r=sMINUS then r.tail else r)) fun k r'=>match k with|.mk kk x v q=>must sSEMI r' fun r'=>okN (.mk 6 s (b2n (decide (hd ts=sSTATIC))) [t,.mk kk x (if hd r=sMINUS then -v else v) q]) r'
 | .unitL acc,ts=>match ts with|[]=>okN (.mk 1 [] 0 acc) []|t::r=>andN (p .decl (t::r)) fun d r=>p (.unitL (acc++[d])) r
def P:Nat→G→List Tk→O
 | 0,_,_=>none
 | n+1,g,ts=>F (P n) g ts
def R (g:G) (ts:List Tk) (r:Res):Prop:=∃ n,P n g ts=some r
theorem andN_mono {x y:O} {f g:Nd→List Tk→O} {r:Res} (h:∀ q,x=some q→y=some q) (k:∀ a s q,f a s=some q→g a s=some q) (e:andN x f=some r):andN y g=some r:=by
 cases x with
 | none=>cases e
 | some q=>
  rw [h q rfl]
  rcases q with ⟨v,s⟩|s
  ·cases v with
   | nd a=>exact k _ _ _ e
   | row l d=>cases e
  ·exact e
theorem andR_mono {x y:O} {f g:List Nd→Bool→List Tk→O} {r:Res} (h:∀ q,x=some q→y=some q) (k:∀ l d s q,f l d s=some q→g l d s=some q) (e:andR x f=some r):andR y g=some r:=by
 cases x with
 | none=>cases e
 | some q=>
  rw [h q rfl]
  rcases q with ⟨v,s⟩|s
  ·cases v with
   | nd a=>cases e
   | row l d=>exact k _ _ _ _ e
  ·exact e
theorem must_mono {s:List UInt8} {ts:List Tk} {f g:List Tk→O} {r:Res} (k:∀ t q,f t=some q→g t=some q) (e:must s ts f=some r):must s ts g=some r:=by
 unfold must at *
 split
 ·rename_i h;rw [if_pos h] at e;exact k _ _ e
 ·rename_i h;rw [if_neg h] at e;exact e
theorem name_mono {ts:List Tk} {f g:List UInt8→List Tk→O} {r:Res} (k:∀ s t q,f s t=some q→g s t=some q) (e:name ts f=some r):name ts g=some r:=by
 unfold name at *
 split
 ·rename_i h;rw [if_pos h] at e;exact k _ _ _ e
 ·rename_i h;rw [if_neg h] at e;exact e
theorem ite_mono {c:Prop} [Decidable c] {a b x y:O} {r:Res} (h1:a=some r→x=some r) (h2:b=some r→y=some r) (e:(if c then a else b)=some r):(if c then x else y)=some r:=by
 split
 ·rename_i h;rw [if_pos h] at e;exact h1 e
 ·rename_i h;rw [if_neg h] at e;exact h2 e
theorem F_mono {p q:G→List Tk→O} (h:∀ g ts r,p g ts=some r→q g ts=some r) (g:G) (ts:List Tk) (r:Res):F p g ts=some r→F q g ts=some r:=by
 have iN:=@andN_mono
 have iR:=@andR_mono
 have iM:=@must_mono
 have iA:=@name_mono
 cases g<;>simp only [F]
 case simpleL acc calls=>
  rcases acc with ⟨k,x,v,kids⟩
  repeat' first|exact id|exact h _ _ _|apply ite_mono|apply andN_mono|apply andR_mono|apply must_mono|apply name_mono|intro _
 case unitL acc=>
  cases ts
  all_goals repeat' first|exact id|exact h _ _ _|apply ite_mono|apply andN_mono|apply andR_mono|apply must_mono|apply name_mono|intro _
 case decl=>
  repeat' first|exact id|exact h _ _ _|apply ite_mono|apply andN_mono|apply andR_mono|apply must_mono|apply name_mono|intro a
 all_goals repeat' first|exact id|exact h _ _ _|apply ite_mono|apply andN_mono|apply andR_mono|apply must_mono|apply name_mono|intro _
theorem P_succ {n:Nat}:∀ {g:G} {ts:List Tk} {r:Res},P n g ts=some r→P (n+1) g ts=some r:=by
 induction n with
 | zero=>intro g ts r h;cases h
 | succ n ih=>intro g ts r h;exact F_mono (fun g ts r=>ih) g ts r h
theorem P_le {n m:Nat} (h:n≤m) {g:G} {ts:List Tk} {r:Res} (e:P n g ts=some r):P m g ts=some r:=by
 induction h with
 | refl=>exact e
 | step _ ih=>exact P_succ ih
theorem R_one {g:G} {ts:List Tk} {r s:Res} (h:R g ts r) (k:R g ts s):r=s:=by
 obtain ⟨n,e1⟩:=h
 obtain ⟨m,e2⟩:=k
 have f1:=P_le (Nat.le_max_left n m) e1
 have f2:=P_le (Nat.le_max_right n m) e2
 rw [f1] at f2
 cases f2
 rfl
abbrev wd (s:List UInt8):Tk:=⟨1,s⟩
abbrev sg (s:List UInt8):Tk:=⟨4,s⟩
def opBind (v:Int):Int:=if v=12∨v=10 then 0 else if v=1∨v=2∨v=8∨v=9 then 1 else if v=3∨v=5∨v=6∨v=7 then 2 else -1
def opSign (v:Int):List UInt8:=if v=12 then sSAME else if v=10 then sLESS else if v=1 then sPLUS else if v=2 then sMINUS else if v=8 then sOR else if v=9 then sXOR else if v=3 then sMUL else if v=5 then sDIV else if v=6 then sREM else if v=7 then sAMP else []
def bindN:Nd→Int
 | .mk k _ v _=>if k=28∨k=29 then 3 else if k=32 then opBind v else 4
def atT (b least:Int) (x:List Tk):List Tk:=if b<least then sg sLP::(x++[sg sRP]) else x
def joinT:List (List Tk)→List Tk
 | []=>[]
 | [x]=>x
 | x::y::r=>x++(sg sCOMMA::joinT (y::r))
def rowT (ts:List (List Tk)) (dots:Bool):List Tk:=sg sLP::(joinT (ts++(if dots=true then [[sg sDOTS]] else []))++[sg sRP])
def decN (n:Nat):List UInt8:=if h:n<10 then [UInt8.ofNat (48+n)] else decN (n / 10)++[UInt8.ofNat (48+n % 10)]
 termination_by n
 decreasing_by omega
def numT (kind:Int) (v:Int):List Tk:=if v<0 then [sg sMINUS,⟨kind,decN (-v).toNat⟩] else [⟨kind,decN v.toNat⟩]
def lastT (ts:List (List Tk)):List Tk:=ts.getLast?.getD []
def sh1 (kids:List Nd) (ts:List (List Tk)) (f:Nd→List Tk→List Tk):List Tk:=match kids,ts with|[a],[x]=>f a x|_,_=>[]
def sh2 (kids:List Nd) (ts:List (List Tk)) (f:Nd→List Tk→Nd→List Tk→List Tk):List Tk:=match kids,ts with|[a,b],[x,y]=>f a x b y|_,_=>[]
def shC (kids:List Nd) (ts:List (List Tk)) (f:Nd→List Tk→List (List Tk)→List Tk):List Tk:=match kids,ts with|a::_,x::r=>f a x r|_,_=>[]
def shI (ts:List (List Tk)):List Tk:=match ts with|[c,b]=>[wd sIF,sg sLP]++c++[sg sRP]++b|[c,b,o]=>[wd sIF,sg sLP]++c++[sg sRP]++b++[wd sELSE]++o|_=>[]
def shW (ts:List (List Tk)):List Tk:=match ts with|[c,b]=>[wd sWHILE,sg sLP]++c++[sg sRP]++b|_=>[]
def shK (kind:Int) (text:List UInt8) (num:Int) (kids:List Nd) (ts:List (List Tk)):List Tk:=
 if kind=1 then ts.flatten
 else if kind=2 then [wd sSTRUCT,wd text,sg sLB]++ts.flatten++[sg sRB]
 else if kind=3 then ts.flatten++[wd text,sg sSEMI]
 else if kind=4 then [wd sEXTERN]++lastT ts++[wd text]++rowT ts.dropLast (decide (num=1))++[sg sSEMI]
 else if kind=5 then [wd sEXTERN]++ts.flatten++[wd text,sg sSEMI]
 else if kind=6 then (if num % 2=1 then [wd sSTATIC] else [])++(ts.headD []++[wd text,sg sEQ]++lastT ts++[sg sSEMI])
 else if kind=7 then (if num % 2=1 then [wd sSTATIC] else [])++(lastT ts.dropLast++[wd text]++rowT ts.dropLast.dropLast (decide (2≤num))++lastT ts)
 else if kind=8 then ts.flatten++[wd text]
 else if kind=9 then [wd sINT]
 else if kind=10 then [wd sLONG]
 else if kind=11 then [wd text]
 else if kind=12 then [wd sFN]++rowT ts.dropLast (decide (num=1))++lastT ts
 else if kind=13 then [sg sLB]++ts.flatten++[sg sRB]
 else if kind=14 then ts.headD []++[wd text,sg sEQ]++lastT ts++[sg sSEMI]
 else if kind=15 then ts.headD []++[sg sEQ]++lastT ts++[sg sSEMI]
 else if kind=16 then shI ts
 else if kind=17 then shW ts
 else if kind=18 then [wd sRET]++ts.flatten++[sg sSEMI]
 else if kind=19 then [wd sPUT,sg sLP]++ts.flatten++[sg sRP,sg sSEMI]
 else if kind=20 then ts.flatten++[sg sSEMI]
 else if kind=21 then numT 2 num
 else if kind=22 then numT 3 num
 else if kind=23 then [wd text]
 else if kind=24 then sh1 kids ts fun a x=>atT (bindN a) 4 x++[sg sDOT,wd text]
 else if kind=25 then shC kids ts fun a x r=>atT (bindN a) 4 x++rowT r false
 else if kind=26 then [sg sAMP,wd text]
 else if kind=27 then [wd text,sg sLB]++joinT ts++[sg sRB]
 else if kind=28 then sh1 kids ts fun a x=>sg sMINUS::atT (bindN a) 3 x
 else if kind=29 then sh1 kids ts fun a x=>sg sNOT::atT (bindN a) 3 x
 else if kind=30 then [wd sINT,sg sLP]++ts.flatten++[sg sRP]
 else if kind=31 then [wd sLONG,sg sLP]++ts.flatten++[sg sRP]
 else if kind=32 then sh2 kids ts fun a x b y=>atT (bindN a) (max (opBind num) 1) x++(sg (opSign num)::atT (bindN b) (opBind num+1) y)
 else if kind=33 then [wd sCOUNT]
 else if kind=34 then [wd sEXTRA,sg sLP]++ts.flatten++[sg sRP]
 else []
mutual
def shT:Nd→List Tk
 | .mk kind text num kids=>shK kind text num kids (shL kids)
def shL:List Nd→List (List Tk)
 | []=>[]
 | k::r=>shT k::shL r
end
def Nd.text:Nd→List UInt8|.mk _ t _ _=>t
def Nd.num:Nd→Int|.mk _ _ v _=>v
theorem Nd.ind {P:Nd→Prop} (h:∀ k t v kids,(∀ x,x∈kids→P x)→P (.mk k t v kids)):∀ n,P n
 | .mk k t v kids=>h k t v kids (fun x hx=>Nd.ind h x)
 termination_by n=>SizeOf.sizeOf n
 decreasing_by
 have:=List.sizeOf_lt_of_mem hx
 simp
 omega
mutual
def cnt:Nd→Nat
 | .mk _ _ _ kids=>cntL kids+1
def cntL:List Nd→Nat
 | []=>0
 | k::r=>cnt k+cntL r
end
mutual
def dpt:Nd→Nat
 | .mk _ _ _ kids=>dptL kids+1
def dptL:List Nd→Nat
 | []=>0
 | k::r=>max (dpt k) (dptL r)
end
theorem cnt_mk (k:Int) (t:List UInt8) (v:Int) (l:List Nd):cnt (.mk k t v l)=cntL l+1:=by rw [cnt]
theorem dpt_mk (k:Int) (t:List UInt8) (v:Int) (l:List Nd):dpt (.mk k t v l)=dptL l+1:=by rw [dpt]
theorem cntL_cons (k:Nd) (r:List Nd):cntL (k::r)=cnt k+cntL r:=by rw [cntL]
theorem dptL_cons (k:Nd) (r:List Nd):dptL (k::r)=max (dpt k) (dptL r):=by rw [dptL]
theorem cntL_nil:cntL []=0:=by rw [cntL]
theorem dptL_nil:dptL []=0:=by rw [dptL]
theorem cntL_app (a b:List Nd):cntL (a++b)=cntL a+cntL b:=by
 induction a with
 | nil=>simp [cntL_nil]
 | cons x r ih=>simp only [List.cons_append,cntL_cons,ih];omega
theorem cnt_pos (n:Nd):1≤cnt n:=by cases n;rw [cnt_mk];omega
theorem dpt_pos (n:Nd):1≤dpt n:=by cases n;rw [dpt_mk];omega
end Go.Proofs.YthcfianhdkolhaaGreatDoor.S
namespace Go.Proofs.YthcfianhdkolhaaGreatDoor.S
set_option linter.unusedVariables false
set_option linter.unusedSimpArgs false
variable {ts r r' : List Tk} {x y : Nd} {res : Res} {l : List Nd} {d : Bool} {s : List UInt8}
theorem r2 {g1 g2:G} {t1 t2:List Tk} {q1 q2:Res} (h1:R g1 t1 q1) (h2:R g2 t2 q2):∃ n,P n g1 t1=some q1∧P n g2 t2=some q2:=by
 obtain ⟨n,e1⟩:=h1
 obtain ⟨m,e2⟩:=h2
 exact ⟨max n m,P_le (Nat.le_max_left n m) e1,P_le (Nat.le_max_right n m) e2⟩
theorem r3 {g1 g2 g3:G} {t1 t2 t3:List Tk} {q1 q2 q3:Res} (h1:R g1 t1 q1) (h2:R g2 t2 q2) (h3:R g3 t3 q3):∃ n,P n g1 t1=some q1∧P n g2 t2=some q2∧P n g3 t3=some q3:=by
 obtain ⟨n,e1,e2⟩:=r2 h1 h2
 obtain ⟨m,e3⟩:=h3
 exact ⟨max n m,P_le (Nat.le_max_left n m) e1,P_le (Nat.le_max_left n m) e2,P_le (Nat.le_max_right n m) e3⟩
-- rows
end Go.Proofs.YthcfianhdkolhaaGreatDoor.S
namespace Go.Proofs.YthcfianhdkolhaaGreatDoor.S
set_option linter.unusedVariables false
set_option linter.unusedSimpArgs false
variable {e : Nd} {rest : List Tk}
theorem b4 {k:Int} {s:List UInt8} {v:Int} {l:List Nd} (h1:k≠28) (h2:k≠29) (h3:k≠32):bindN (.mk k s v l)=4:=by simp [bindN,h1,h2,h3]
end Go.Proofs.YthcfianhdkolhaaGreatDoor.S
namespace Go.Proofs.YthcfianhdkolhaaGreatDoor.S
set_option linter.unusedVariables false
set_option linter.unusedSimpArgs false
def Tk.raw (t:Tk):Nat:=t.text.length+(if t.kind=3 then 1 else 0)
def cost:List Tk→Nat
 | []=>0
 | t::r=>t.raw+cost r
def TkOk (t:Tk):Prop:=(t.kind=2→0≤digits t.text 0∧digits t.text 0≤2147483647∧(decN (digits t.text 0).toNat).length≤t.text.length)∧(t.kind=3→0≤digits t.text 0∧digits t.text 0≤9223372036854775807∧(decN (digits t.text 0).toNat).length≤t.text.length)
def Wf (ts:List Tk):Prop:=∀ t,t∈ts→TkOk t
def rs (x:Nd):Nat:=cost (shT x)
def S:List Nd→Nat
 | []=>0
 | x::r=>rs x+1+S r
def Z:List Nd→Nat
 | []=>0
 | x::r=>rs x+Z r
end Go.Proofs.YthcfianhdkolhaaGreatDoor.S
namespace Go.Proofs.YthcfianhdkolhaaGreatDoor.S
set_option linter.unusedVariables false
set_option linter.unusedSimpArgs false
variable (s : List UInt8) (t x a b c : Nd) (l m : List Nd) (d st : Bool) (v : Int)
end Go.Proofs.YthcfianhdkolhaaGreatDoor.S
namespace Go.Proofs.YthcfianhdkolhaaGreatDoor.S
set_option linter.unusedVariables false
set_option linter.unusedSimpArgs false
variable {p : G → List Tk → O} {ts r : List Tk} {v : V}
end Go.Proofs.YthcfianhdkolhaaGreatDoor.S
namespace Go.Proofs.YthcfianhdkolhaaGreatDoor.S
set_option linter.unusedVariables false
set_option linter.unusedSimpArgs false
def AllD (s:List UInt8):Prop:=∀ c,c∈s→48≤c.toNat∧c.toNat≤57
def valN:List UInt8→Nat→Nat
 | [],a=>a
 | c::r,a=>valN r (10*a+(c.toNat - 48))
theorem digits_val:∀ (s:List UInt8) (a:Nat),AllD s→digits s a=valN s a
 | [],a,_=>rfl
 | c::r,a,h=>by
  have hc:=h c (by simp)
  show digits r (10*(a:Int)+(c.toNat:Int) - 48)=valN r (10*a+(c.toNat - 48))
  rw [← digits_val r _ (fun x hx=>h x (by simp [hx]))]
  congr 1
  omega
theorem val_app (a b:List UInt8) (v:Nat):valN (a++b) v=valN b (valN a v):=by
 induction a generalizing v with
 | nil=>rfl
 | cons c r ih=>exact ih _
theorem val_bounds:∀ (s:List UInt8) (a:Nat),AllD s→a*10 ^ s.length≤valN s a∧valN s a+1≤(a+1)*10 ^ s.length
 | [],a,_=>by simp [valN]
 | c::r,a,h=>by
  have hc:=h c (by simp)
  obtain ⟨h1,h2⟩:=val_bounds r (10*a+(c.toNat - 48)) (fun x hx=>h x (by simp [hx]))
  simp only [List.length_cons,valN,Nat.pow_succ]
  have e1:a*(10 ^ r.length*10)=10*a*10 ^ r.length:=by rw [Nat.mul_comm (10 ^ r.length) 10,← Nat.mul_assoc,Nat.mul_comm a 10]
  have e2:(a+1)*(10 ^ r.length*10)=(10*a+10)*10 ^ r.length:=by rw [Nat.mul_comm (10 ^ r.length) 10,← Nat.mul_assoc,Nat.mul_comm (a+1) 10,Nat.mul_add]
  have l1:10*a*10 ^ r.length≤(10*a+(c.toNat - 48))*10 ^ r.length:=Nat.mul_le_mul_right _ (by omega)
  have l2:(10*a+(c.toNat - 48)+1)*10 ^ r.length≤(10*a+10)*10 ^ r.length:=Nat.mul_le_mul_right _ (by omega)
  rw [e1,e2]
  exact ⟨Nat.le_trans l1 h1,Nat.le_trans h2 l2⟩
theorem val_lt {x y:List UInt8} {a b:Nat} (hx:AllD x) (hy:AllD y) (hl:x.length=y.length) (h:a<b):valN x a<valN y b:=by
 have h1:=(val_bounds x a hx).2
 have h2:=(val_bounds y b hy).1
 have h3:(a+1)*10 ^ x.length≤b*10 ^ y.length:=by rw [hl];exact Nat.mul_le_mul_right _ h
 omega
theorem less_val:∀ (x y:List UInt8) (a:Nat),AllD x→AllD y→x.length=y.length→(Op.bytesLess x y=true→valN x a<valN y a)∧(Op.bytesLess x y=false→valN y a≤valN x a)
 | [],[],a,_,_,_=>by simp [Op.bytesLess,valN]
 | [],d::y,_,_,_,h=>by simp at h
 | c::x,[],_,_,_,h=>by simp at h
 | c::x,d::y,a,hx,hy,h=>by
  have hl:x.length=y.length:=by simpa using h
  have hx':AllD x:=fun z hz=>hx z (by simp [hz])
  have hy':AllD y:=fun z hz=>hy z (by simp [hz])
  have hc:=hx c (by simp)
  have hd:=hy d (by simp)
  simp only [Op.bytesLess,valN]
  by_cases e:c<d
  ·have e':c.toNat<d.toNat:=UInt8.lt_iff_toNat_lt.1 e
   simp only [e,decide_true,Bool.true_or,true_implies,Bool.true_eq_false,false_implies,and_true]
   exact val_lt hx' hy' hl (by omega)
  ·by_cases e2:c=d
   ·subst e2
    have ih:=less_val x y (10*a+(c.toNat - 48)) hx' hy' hl
    simp only [e,decide_false,Bool.false_or,beq_self_eq_true,Bool.true_and]
    exact ih
   ·have e':d.toNat<c.toNat:=by
     have h1:¬ c.toNat<d.toNat:=fun q=>e (UInt8.lt_iff_toNat_lt.2 q)
     have h2:c.toNat≠d.toNat:=fun q=>e2 (UInt8.toNat_inj.1 q)
     omega
    have e3:(c == d)=false:=by simpa using e2
    simp only [e,decide_false,Bool.false_or,e3,Bool.false_and,Bool.false_eq_true,false_implies,true_implies,true_and]
    exact Nat.le_of_lt (val_lt hy' hx' hl.symm (by omega))
def NoZ (s:List UInt8):Prop:=1<s.length→∀ c,s.head?=some c→c.toNat≠48
theorem head_app {a b:List UInt8} (h:a≠[]):(a++b).head?=a.head?:=by
 cases a with
 | nil=>exact absurd rfl h
 | cons c r=>rfl
theorem val_one {s:List UInt8} (h:AllD s) (hne:s≠[]) (hz:∀ c,s.head?=some c→c.toNat≠48):10 ^ (s.length - 1)≤valN s 0:=by
 cases s with
 | nil=>exact absurd rfl hne
 | cons c r=>
  have hc:=h c (by simp)
  have h0:=hz c rfl
  have:=(val_bounds r (10*0+(c.toNat - 48)) (fun x hx=>h x (by simp [hx]))).1
  have h1:1*10 ^ r.length≤(10*0+(c.toNat - 48))*10 ^ r.length:=Nat.mul_le_mul_right _ (by omega)
  simp only [List.length_cons,Nat.add_sub_cancel,valN]
  omega
theorem dec_of_val:∀ (n:Nat) (s:List UInt8),s.length=n→AllD s→s≠[]→NoZ s→decN (valN s 0)=s:=by
 intro n
 induction n using Nat.strongRecOn with
 | ind n ih=>
  intro s hn hs hne hz
  obtain ⟨r,c,rfl⟩:∃ r c,s=r++[c]:=⟨s.dropLast,s.getLast hne,(List.dropLast_concat_getLast hne).symm⟩
  have hc:=hs c (by simp)
  have hr:AllD r:=fun x hx=>hs x (by simp [hx])
  have e:valN (r++[c]) 0=10*valN r 0+(c.toNat - 48):=by rw [val_app];rfl
  have eb:∀ k,k=c.toNat - 48→UInt8.ofNat (48+k)=c:=fun k hk=>by
   apply UInt8.toNat_inj.1
   rw [UInt8.toNat_ofNat',Nat.mod_eq_of_lt (by omega)]
   omega
  by_cases hr0:r=[]
  ·subst hr0
   rw [e]
   unfold decN
   rw [dif_pos (by simp [valN];omega)]
   rw [eb _ (by simp [valN])]
   rfl
  ·have hz2:∀ d,r.head?=some d→d.toNat≠48:=fun d hd=>by
    have hl:1<(r++[c]).length:=by
     have:0<r.length:=List.length_pos_iff.2 hr0
     simp
     omega
    exact hz hl d (by rw [head_app hr0];exact hd)
   have h1:=val_one hr hr0 hz2
   have h2:1≤10 ^ (r.length - 1):=Nat.pow_pos (by omega)
   rw [e]
   rw [decN,dif_neg (by omega)]
   have e1:(10*valN r 0+(c.toNat - 48)) / 10=valN r 0:=by omega
   have e2:(10*valN r 0+(c.toNat - 48)) % 10=c.toNat - 48:=by omega
   rw [e1,e2,ih r.length (by rw [← hn];simp) r rfl hr hr0 (fun _=>hz2),eb _ rfl]
end Go.Proofs.YthcfianhdkolhaaGreatDoor.S
