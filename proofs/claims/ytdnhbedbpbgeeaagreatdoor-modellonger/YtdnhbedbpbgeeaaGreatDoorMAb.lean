/- 1 -/
import Derived.Test.YtdnhbedbpbgeeaaGreatDoorMAa
import Derived.Deep.RegionWith
set_option maxRecDepth 100000
set_option maxHeartbeats 2000000
set_option linter.all false
namespace Go.Proofs.YtdnhbedbpbgeeaaGreatDoor.K
open Go.RowKit Go.Proofs.Tryz
variable {N c q n mb g z o3 : Nat} {e : TypeId} {S : Nd→Prop} {r : List Tok} {xs : List ByteArray} {v v0 v1 x0 x1 x2 x3 y0 y1 y2 y3 v2 : Value} {oi o o2 o0 o1 : Oper} {w : World} {x : ByteArray} {P : Program} {firm k k0 k1 : Int} {a b1 b2 b3 : Act}
variable {B : Bs} {w' : World} {L : List Rs} {b : Nat} {ts : List Tok} {t : Tok}
abbrev ptr (b:Nat):Value:=.pointer (some ⟨b,0,none⟩)
def asks:List ByteArray→List Tok→Q Unit
 | [],ts=>.ok () ts
 | x::xs,ts=>if tx ts=x then asks xs ts.tail else .no ts
theorem asks_app (ys:List ByteArray):∀{ts r},asks xs ts=.ok () r→asks (xs++ys) ts=asks ys r:=by
 induction xs with
 | nil=>intro ts r h;cases h;rfl
 | cons x xs ih=>
  intro ts r h;simp only[List.cons_append,asks] at h ⊢;split at h
  ·rw[if_pos (by assumption)];exact ih h
  cases h
theorem asks_no (ys:List ByteArray):∀{ts r},asks xs ts=.no r→asks (xs++ys) ts=.no r:=by
 induction xs with
 | nil=>intro ts r h;cases h
 | cons x xs ih=>
  intro ts r h;simp only[List.cons_append,asks] at h ⊢;split at h
  ·rw[if_pos (by assumption)];exact ih h
  rw[if_neg (by assumption)];exact h
def PN (S:Nd→Prop)(q:Q Nd)(N:Nat)(B:Bs)(b:Nat)(L:List Rs)(e:Ending)(w':World):Prop:=
 (∃r,q=.no r∧e=up r∧Fr B w' (.ps b r::L))∨(∃n r a kn c,q=.ok n r∧r.length<N∧S n∧e=.returned (.agg #[.int .i64 n.kind,.string n.text,.int .i64 n.num,.slice a kn c])∧Fr B w' (.ps b r::.el NdE (ndc n.kind n.text n.num a kn c) n::L))
theorem PN.yes {q : Q Nd} {n : Nd} {a : Option Addr} {kn : Nat} (hq:q=.ok n r) (hl:r.length<N) (hS:S n) (h:Fr B w' (.ps b r::.el NdE (ndc n.kind n.text n.num a kn c) n::L)):PN S q N B b L (.returned (.agg #[.int .i64 n.kind,.string n.text,.int .i64 n.num,.slice a kn c])) w':=Or.inr ⟨n,r,a,kn,c,hq,hl,hS,rfl,h⟩
theorem PN.no {q : Q Nd} (hq:q=.no r) (h:Fr B w' (.ps b r::L)):PN S q N B b L (up r) w':=Or.inl ⟨r,hq,rfl,h⟩
def PL (S:Nd→Prop)(q:Q (List Nd))(N:Nat)(B:Bs)(b:Nat)(L:List Rs)(e:Ending)(w':World):Prop:=
 (∃r,q=.no r∧e=up r∧Fr B w' (.ps b r::L))∨(∃l r v,q=.ok l r∧r.length<N∧l.length+r.length<N∧(∀x,x∈l→S x)∧e=.returned v∧Fr B w' (.ps b r::.els NdE v 52 4 l::L))
theorem PL.yes {q : Q (List Nd)} {l : List Nd} (hq:q=.ok l r) (hl:r.length<N) (hm:l.length+r.length<N) (hS:∀x,x∈l→S x) (h:Fr B w' (.ps b r::.els NdE v 52 4 l::L)):PL S q N B b L (.returned v) w':=Or.inr ⟨l,r,v,hq,hl,hm,hS,rfl,h⟩
theorem PL.no {q : Q (List Nd)} (hq:q=.no r) (h:Fr B w' (.ps b r::L)):PL S q N B b L (up r) w':=Or.inl ⟨r,hq,rfl,h⟩
def PO (S:Nd→Prop)(q:Q (List Nd × Int))(N:Nat)(B:Bs)(b:Nat)(L:List Rs)(e:Ending)(w':World):Prop:=
 (∃r,q=.no r∧e=up r∧Fr B w' (.ps b r::L))∨(∃l m r v,q=.ok (l,m) r∧r.length<N∧l.length+r.length<N∧(m=0∨m=1)∧(∀x,x∈l→S x)∧e=.returned (.tuple #[v,.int .i64 m])∧Fr B w' (.ps b r::.els NdE v 52 4 l::L))
def PT (k:Int)(S:Nd→Prop)(q:Q Nd)(N:Nat)(B:Bs)(b:Nat)(L:List Rs)(e:Ending)(w':World):Prop:=
 (∃r,q=.no r∧e=up r∧Fr B w' (.ps b r::L))∨(∃s t r g,q=.ok (.mk k s 0 [t]) r∧r.length<N∧S t∧e=.returned (.agg #[.int .i64 k,.string s,.int .i64 0,.slice (some ⟨g,0,none⟩) 1 1])∧Fr B w' (.ps b r::.els NdE (.slice (some ⟨g,0,none⟩) 1 1) 52 4 [t]::L))
theorem PT.no {q : Q Nd} (hq:q=.no r) (h:Fr B w' (.ps b r::L)):PT k S q N B b L (up r) w':=Or.inl ⟨r,hq,rfl,h⟩
theorem PT.nd {q : Q Nd} {e : Ending} (h:PT k S q N B b L e w'):PN (λ n=>∃s t,n=.mk k s 0 [t]∧S t) q N B b L e w':=by
 rcases h with⟨r,hq,rfl,hf⟩|⟨s,t,r,g,hq,hl,hS,rfl,hf⟩
 ·exact PN.no hq hf
 have h2:=hf.give 1 rfl;have h3:=h2.ndOf 1 rfl k s 0;exact PN.yes (n:=.mk k s 0 [t]) hq hl ⟨s,t,rfl,hS⟩ h3.swap.lose
theorem Fr.word (h:Fr B w (.ps b ts::L)) (x:ByteArray):Fr B (w.alloc (.cells #[.string x] 9)) (.ps b ts::.blk w.heap.size #[.string x] 9::L):=(h.alloc rfl _ _).swap
theorem Fr.box (h:Fr B w (.ps b ts::L)) (hq:w.heap.size=q) (cs:Array Value) (T:TypeId):Fr B (w.alloc (.cells cs T)) (.ps b ts::.blk q cs T::L):=(h.alloc hq _ _).swap
theorem ask_any (h:Fr B w (.ps b ts::L)) (xs:List ByteArray) (hx:∀x,x∈xs→x.size≠0) (a:Option Addr) (c:Nat) (ha:xs≠[]→∃(q i:Nat) (cs:Array Value),a=some ⟨q,0,none⟩∧L[i]?=some (Rs.blk q cs 9)∧cs=(xs.map Value.string).toArray) (hn:xs.length≤100):
  Calls prog 152 #[ptr b,.slice a xs.length c] w λ e w'=>(∃r,asks xs ts=.no r∧e=up r∧Fr B w' (.ps b r::L))∨(∃r,asks xs ts=.ok () r∧e=.returned (.tuple #[])∧Fr B w' (.ps b r::L)):=by
 have HP:=ah h;have HX:=ah hx;clear h hx;go_enter func152,ntmps152;go_wp2;go_loopw [8] (λ i wr=>∃j:Nat,j≤xs.length∧i=.int .i64 j∧∃r,Hid (asks (xs.take j) ts=.ok () r)∧Hid (Fr B wr (.ps b r::L))) (λ i _=>xs.length - (intOf i).toNat)
 case atStart=>exact⟨0,Nat.zero_le _,rfl,ts,rfl,HP⟩
 obtain⟨j,hj,rfl,r,HA,HPj⟩:=hrel;by_cases hlt:j<xs.length
 ·have hlt':(j:Int)<xs.length:=by omega
  have hidx:(0:Int)≤j∧(j:Int)<xs.length:=by omega
  obtain⟨q,i,cs,rfl,hi,hcs⟩:=ha (λ e=>by rw[e] at hlt;simp at hlt);have e0:wr.cell? ⟨q,j,none⟩=some (.string xs[j]):=(HPj.cell (i+1) hi j).trans (by subst hcs;simp [hlt]);have HT:=ah (aW HPj xs[j] (HX _ (List.getElem_mem hlt)));have HS:Hid (∀f,asks (xs.take (j+1)) ts=f ↔ asks [xs[j]] r=f):=λ f=>by
   rw[List.take_succ_eq_append_getElem hlt,asks_app _ HA.out]
  have HD:Hid (∀q,asks (xs.take (j+1)) ts=.no q→asks xs ts=.no q):=λ q hq=>by
   have:=asks_no (xs.drop (j+1)) hq;rwa [List.take_append_drop] at this
  clear hi hcs;by_cases hq:tx r=xs[j]
  ·rw[decide_eq_true hq,if_pos hq] at HT;have HS2:Hid (asks (xs.take (j+1)) ts=.ok () r.tail):=(HS _).2 (by simp [asks,hq]);clear hq;go_wp2_with fail;go_at_call 127;refine HT.mono ?_;rintro e w1 ⟨rfl,hP1⟩;have HP1:=ah hP1;clear hP1 HT;go_wp2;go_roundw
   case rel=>exact⟨j+1,by omega,by go_num,r.tail,HS2,HP1⟩
   case measure=>simp [intOf];omega
  rw[decide_eq_false hq,if_neg hq] at HT;have HS2:Hid (asks xs ts=.no r):=HD r ((HS _).2 (by simp [asks,hq]));clear hq;go_wp2_with fail;go_at_call 127;refine HT.mono ?_;rintro e w1 ⟨rfl,hP1⟩;have HP1:=ah hP1;clear hP1 HT;go_wp2_with fail;go_at_call 171;refine (giveUp_any HP1).mono ?_;rintro e w2 ⟨rfl,rfl⟩;exact⟨rfl,Or.inl ⟨r,HS2,rfl,HP1⟩⟩
 obtain rfl:j=xs.length:=by omega
 have hlt':¬ ((xs.length:Nat):Int)<xs.length:=by omega
 have HS2:Hid (asks xs ts=.ok () r):=by have:=HA.out;rwa [List.take_length] at this
 go_wp2;go_end0
 exact Or.inr ⟨r,HS2,rfl,HPj⟩
theorem ask1 (h:Fr B w (.ps b ts::.blk q #[.string x] 9::L)) (hx:x.size≠0:=by decide):Calls prog 152 #[ptr b,.slice (some ⟨q,0,none⟩) 1 1] w λ e w'=>(¬ tx ts=x∧e=up ts∧Fr B w' (.ps b ts::L))∨(tx ts=x∧e=.returned (.tuple #[])∧Fr B w' (.ps b ts.tail::L)):=by
 refine (ask_any h [x] (by simpa using hx) (some ⟨q,0,none⟩) 1 (λ_=>⟨q,0,_,rfl,rfl,rfl⟩) (by simp)).mono ?_;rintro e w1 (⟨r,h1,rfl,h2⟩|⟨r,h1,rfl,h2⟩)
 ·simp only[asks] at h1;split at h1
  ·cases h1
  cases h1;exact Or.inl ⟨by assumption,rfl,h2.tail2⟩
 simp only[asks] at h1;split at h1
 ·cases h1;exact Or.inr ⟨by assumption,rfl,h2.tail2⟩
 cases h1
theorem Fr.nd4 (h:Fr B w L) (i:Nat) {T : TypeId} (hi:L[i]?=some (.blk q #[x0,x1,x2,x3] T)) (y0 y1 y2 y3:Value):Fr B ((((w.setCell ⟨q,0,none⟩ y0).setCell ⟨q,1,none⟩ y1).setCell ⟨q,2,none⟩ y2).setCell ⟨q,3,none⟩ y3) (L.set i (.blk q #[y0,y1,y2,y3] T)):=by
 have hl:i<L.length:=(List.getElem?_eq_some_iff.1 hi).1;have h1:=h.set i hi 0 y0;have h2:=h1.set i (q:=q) (cs:=#[y0,x1,x2,x3]) (T:=T) (by rw[List.getElem?_set_self hl];rfl) 1 y1;have h3:=h2.set i (q:=q) (cs:=#[y0,y1,x2,x3]) (T:=T) (by rw[List.getElem?_set_self (by simpa using hl)];rfl) 2 y2;have h4:=h3.set i (q:=q) (cs:=#[y0,y1,y2,x3]) (T:=T) (by rw[List.getElem?_set_self (by simpa using hl)];rfl) 3 y3;simpa using h4
theorem rt52 {fn : Func} {t : Tmp} {c0 c1 c2 c3 : Value} {tmps : Array Value} (h:fn.results=#[.cell t 52]) (ht:tmps.getD t undef=.pointer (some ⟨q,0,none⟩)) (hb:w.heap[q]?=some (.cells #[c0,c1,c2,c3] 52 (0,0))):(results fn tmps).run prog w=.ok (.agg #[c0,c1,c2,c3]) w:=by
 have ht':tmps[t]?.getD undef=.pointer (some ⟨q,0,none⟩):=by simpa using ht
 have hc:=aA hb;have hl:=(Array.getElem?_eq_some_iff.1 hb).1;simp [results,h,asAddr,ht',loadVar,go_sem,hc,hl]
theorem fB:(prog.info? 52).map (λ i=>(i.zero,i.size,i.bytes))=some (some (.agg #[.int .i64 0,.string ⟨#[]⟩,.int .i64 0,.slice none 0 0]),4,56):=by kernel_rfl
abbrev ndz:Array Value:=#[.int .i64 0,.string ⟨#[]⟩,.int .i64 0,.slice none 0 0]
theorem node_any (h:Fr B w L) (k:Int) (a:Option Addr) (n c:Nat):Calls prog 186 #[.int .i64 k,.slice a n c] w λ e w'=>e=.returned (.agg #[.int .i64 k,.string ⟨#[]⟩,.int .i64 0,.slice a n c])∧Fr B w' L:=by
 have HG:=ah (h.alloc (q:=w.heap.size) rfl #[.int .i64 k,.string ⟨#[]⟩,.int .i64 0,.slice a n c] 52);clear h;go_enter func186,ntmps186;go_wp2;refine br (rt52 results186 rfl (HG.blkAt 0 rfl)) ?_;exact⟨rfl,HG.tail⟩
theorem ended_any (h:Fr B w (.ps b ts::L)) (k:Int) (s:ByteArray) (m:Int) (a:Option Addr) (n c:Nat):Calls prog 188 #[ptr b,.agg #[.int .i64 k,.string s,.int .i64 m,.slice a n c]] w λ e w'=>(¬ tx ts=wSEMI∧e=up ts∧Fr B w' (.ps b ts::L))∨(tx ts=wSEMI∧e=.returned (.agg #[.int .i64 k,.string s,.int .i64 m,.slice a n c])∧Fr B w' (.ps b ts.tail::L)):=by
 have HF:=ah ((h.box (q:=w.heap.size) rfl #[.int .i64 k,.string s,.int .i64 m,.slice a n c] 52).box (q:=w.heap.size+1) (by simp) ndz 52);clear h;go_enter func188,ntmps188;go_wp2_with fail;go_at_call 152;refine (ask1 (HF.box (q:=w.heap.size+1+1) (by simp) _ 9)).mono ?_;rintro e w1 (⟨hq,rfl,hf⟩|⟨hq,rfl,hf⟩)
 ·exact⟨rfl,Or.inl ⟨hq,rfl,hf.tail2.tail2⟩⟩
 have HG:=ah hf;have HQ:=ah hq;clear hf hq HF;have c0:=HG.cell 2 rfl;have c1:=HG.cell 1 rfl;have f1:=HG.frz 1 rfl;have HE:=ah (HG.nd4 1 rfl (.int .i64 k) (.string s) (.int .i64 m) (.slice a n c));go_wp2;refine br (rt52 results188 rfl (HE.blkAt 1 rfl)) ?_;exact Or.inr ⟨HQ,rfl,HE.tail2.tail2⟩
section
section
variable {ops : Array Oper} {Q : Exit → Act → World → Prop} {md : Region.Mode} {C : World → Prop} {bad : List Nat}
theorem wpAnyJ_pure {i : Nat} (hi:ops[i]?=some oi) (hsel:∀(j:Nat) (o:Oper) cs b,ops[j]?=some o→o.op≠.select cs b)
  (hQ:∀c a w,Q (.panic c) (a.put oi.dst v) w→Q (.panic c) a w) (hb:bad.contains i=true):
  ∀(fuel:Nat) (listed:Array Bool) (a:Act) (w:World),
   (∀j oj,ops[j]?=some oj→j≠i→listed.getD j true=false→(∀e∈oj.after,Region.binds md e=true→e.on≠i)→oi.apart ops oj=true) →
   i∈Region.ready md ops listed→YieldsIf P ops (λ_=>True) oi v a →
   aY P md ops Q C bad fuel (listed.setIfInBounds i true) (a.put oi.dst v) w→aY P md ops Q C bad (fuel+1) listed a w:=by
 intro fuel;have self:∀(fuel:Nat) (listed:Array Bool) (a:Act) (w:World),YieldsIf P ops (λ_=>True) oi v a→aY P md ops Q C bad fuel (listed.setIfInBounds i true) (a.put oi.dst v) w →
   wpOp P ops Q i (λ a' w'=>(bad.contains i=false→C w')∧aY P md ops Q C bad fuel (listed.setIfInBounds i true) a' w') a w:=λ fuel listed a w hy H=>
  hy.wpOp hi trivial ⟨λ h=>(by rw[hb] at h;cases h),H⟩
 induction fuel with
 | zero=>
  intro listed a w _ hr hy H;refine⟨λ h=>(by rw[h] at hr;cases hr),λ j hj=>?_⟩;by_cases hji:j=i
  ·subst hji;exact self 0 listed a w hy H
  have:=ready_mono hj hji;rw[H.1] at this;cases this
 | succ fuel ih=>
  intro listed a w hfree hr hy H;refine⟨λ h=>(by rw[h] at hr;cases hr),λ j hj=>?_⟩;by_cases hji:j=i
  ·subst hji;exact self _ listed a w hy H
  have h1:=H.2 j (ready_mono hj hji);obtain⟨hjun,oj,hoj,hall⟩:=mem_ready.1 hj;have hnot:∀e∈oj.after,Region.binds md e=true→e.on≠i:=λ e he hb heq=>by
   have h1:=hall e he hb;have h0:=(mem_ready.1 hr).1;rw[heq] at h1;rcases Nat.lt_or_ge i listed.size with h'|h'
   ·simp [h'] at h0 h1;rw[h0] at h1;cases h1
   simp [Array.getElem?_eq_none h'] at h1
  have h2:=wpOp_putIf hoj (hfree j oj hoj hji hjun hnot) (λ cs b=>hsel i oi cs b hi) (λ cs b=>hsel j oj cs b hoj) hQ hy h1;have hfree':∀k ok,ops[k]?=some ok→k≠i→(listed.setIfInBounds j true).getD k true=false →
    (∀e∈ok.after,Region.binds md e=true→e.on≠i)→oi.apart ops ok=true:=λ k ok hk hki hun hno=>by
   refine hfree k ok hk hki ?_ hno;by_cases hjk:j=k
   ·subst hjk;exact hjun
   rw[getD_set_ne true hjk] at hun;exact hun
  refine wpOp_mono (λ a' w' h3=>⟨h3.2.1,ih (listed.setIfInBounds j true) a' w' hfree' (ready_mono hr (Ne.symm hji)) h3.1 ?_⟩) h2;rw[Array.setIfInBounds_comm _ _ hji];exact h3.2.2
theorem tkP (i:Nat) {fuel : Nat} {listed : Array Bool} (hi:ops[i]?=some oi)
  (hs:Region.noSelect ops=true) (hb:bad.contains i=true) (hf:Region.free md ops listed i=true) (hr:(Region.ready md ops listed).contains i=true)
  (hQ:∀c a w,Q (.panic c) (a.put oi.dst v) w→Q (.panic c) a w) (hw:Region.wanted oi (yielded ops a.tmps)=true) (hy:∀w,(execOp a.eval oi).run P w=.ok (.value v) w)
  (h:aY P md ops Q C bad fuel (listed.setIfInBounds i true) (a.put oi.dst v) w):aY P md ops Q C bad (fuel+1) listed a w:=
 wpAnyJ_pure hi (Region.noSelect_spec hs) hQ hb fuel listed a w (Region.free_spec hi hf) (by simpa using hr) (Or.inl ⟨hw,λ w _=>hy w⟩) h
end
section
variable {α : Type} {E : El α}
theorem els_last {H : Snap} {a : Option Addr} {l : List α} {y : α} (h:(Rs.els E (.slice a n c) e z (l++[y])).ok H w):
  ∃(g:Nat) (css:List (List Value)) (d:List Value),a=some ⟨g,0,none⟩∧n=l.length+1∧css.length=l.length∧(∀x,x∈css→x.length=z)∧d.length=z∧w.ownsRow 0 e z (.slice (some ⟨g,0,none⟩) n c) n (css.flatten++d)∧∀j (hj:j<l.length) (hj':j<css.length),E.p H css[j] l[j]:=by
 obtain⟨css,h1,hz,h2,h3⟩:=h;obtain⟨c0,d,rfl⟩:∃c0 d,css=c0++[d]:=by
  rcases List.eq_nil_or_concat css with e|⟨c0,d,e⟩
  ·subst e;simp at h1
  exact⟨c0,d,by rw[e,List.concat_eq_append]⟩
 have hl:c0.length=l.length:=by simpa using h1
 have hz0:=λ x hx=>hz x (List.mem_append_left _ hx);have hd:=hz d (by simp);rw[List.flatten_append,List.flatten_singleton,List.length_append,List.length_singleton] at h2;rcases h2 with⟨h4,(⟨-,h5⟩|⟨g,cap,cur,h5,h6⟩)⟩
 ·omega
 cases h5;exact⟨g,c0,d,rfl,rfl,hl,hz0,hd,⟨h4,Or.inr ⟨g,_,cur,rfl,h6⟩⟩,λ j hj hj'=>by
  have h7:=h3 j (by simp;omega) (by simp;omega);rwa [List.getElem_append_left hj',List.getElem_append_left hj] at h7⟩
theorem flat_len {z:Nat}:∀{css:List (List Value)},(∀x,x∈css→x.length=z)→css.flatten.length=css.length*z
 | [],_=>by simp
 | c::css,h=>by rw[List.flatten_cons,List.length_append,flat_len λ x hx=>h x (List.mem_cons_of_mem _ hx),h c (List.mem_cons_self ..),List.length_cons,Nat.succ_mul];omega
theorem Fr.lastAt (h:Fr B w L) (i:Nat) {a : Option Addr} {l : List α} {y : α} (hi:L[i]?=some (.els E (.slice a n c) e z (l++[y]))):
  ∃g,a=some ⟨g,0,none⟩∧n=l.length+1∧(∀o,w.frozen? ⟨g,o,none⟩=false)∧∃d:List Value,d.length=z∧∀k,k<z→w.cell? ⟨g,l.length*z+k,none⟩=d[k]?:=by
 obtain⟨H,h⟩:=h;obtain⟨g,css,d,rfl,rfl,h1,h2,h3,h4,h5⟩:=els_last (h.ok _ (List.mem_of_getElem? hi));have hfl:=flat_len h2;refine⟨g,rfl,rfl,λ o=>h4.frozenAt o,d,h3,λ k hk=>?_⟩;rw[h4.cellAt _ (by rw[Nat.succ_mul];omega),List.getElem?_append_right (by rw[hfl,h1];omega),hfl,h1,Nat.add_sub_cancel_left]
theorem Fr.last4 (h:Fr B w L) (i:Nat) {l : List α} {y : α} (hi:L[i]?=some (.els E (.slice (some ⟨g,0,none⟩) n c) e 4 (l++[y]))) {o1 o2 : Nat} (o:Nat) (ho:o=l.length*4) (h1:o1=o+1) (h2:o2=o+2) (h3:o3=o+3):
  (∀o,w.frozen? ⟨g,o,none⟩=false)∧∃d0 d1 d2 d3:Value,w.cell? ⟨g,o,none⟩=some d0∧w.cell? ⟨g,o1,none⟩=some d1∧w.cell? ⟨g,o2,none⟩=some d2∧w.cell? ⟨g,o3,none⟩=some d3:=by
 subst ho h1 h2 h3;obtain⟨g',e1,-,hf,d,hd,hc⟩:=h.lastAt i hi;cases e1;match d,hd with
 | [d0,d1,d2,d3],_=>exact⟨hf,d0,d1,d2,d3,hc 0 (by omega),hc 1 (by omega),hc 2 (by omega),hc 3 (by omega)⟩
theorem row_four {xs : List Value} (h:w.ownsRow 0 e 4 (.slice (some ⟨g,0,none⟩) n c) n (xs++[x0,x1,x2,x3])) {o : Nat} (ho:o=xs.length) (y0 y1 y2 y3:Value):
  ((((w.setCell ⟨g,o,none⟩ y0).setCell ⟨g,o+1,none⟩ y1).setCell ⟨g,o+2,none⟩ y2).setCell ⟨g,o+3,none⟩ y3).ownsRow 0 e 4 (.slice (some ⟨g,0,none⟩) n c) n (xs++[y0,y1,y2,y3]):=by
 subst ho;have:=((((h.stored xs.length y0).1.stored (xs.length+1) y1).1.stored (xs.length+2) y2).1.stored (xs.length+3) y3).1;simpa [List.set_append] using this
section
variable (h:Fr B w L) (i:Nat) {l : List α} {y x : α} (hi:L[i]?=some (.els E (.slice (some ⟨g,0,none⟩) n c) e 4 (l++[y]))) (j:Nat) (hj:L[j]?=some (.el E [y0,y1,y2,y3] x))
include h hi hj
theorem Fr.putLast {o : Nat} (ho:o=l.length*4):
  Fr B ((((w.setCell ⟨g,o,none⟩ y0).setCell ⟨g,o+1,none⟩ y1).setCell ⟨g,o+2,none⟩ y2).setCell ⟨g,o+3,none⟩ y3) (L.set i (.els E (.slice (some ⟨g,0,none⟩) n c) e 4 (l++[x]))):=by
 obtain⟨H,h⟩:=h;have hm:=List.mem_of_getElem? hi;have hx:E.p H [y0,y1,y2,y3] x:=h.ok _ (List.mem_of_getElem? hj);have hok:=h.ok _ hm;have hother:∀q,q≠g→((((w.setCell ⟨g,o,none⟩ y0).setCell ⟨g,o+1,none⟩ y1).setCell ⟨g,o+2,none⟩ y2).setCell ⟨g,o+3,none⟩ y3).heap[q]?=w.heap[q]?:=λ q hq=>by
  rw[heap_setCell_other _ _ _ _ hq,heap_setCell_other _ _ _ _ hq,heap_setCell_other _ _ _ _ hq,heap_setCell_other _ _ _ _ hq]
 have hg:=(h.lo _ hm g rfl).1;refine⟨H,h.turn i hi ⟨h.below.os,h.below.tape,h.below.output,by simpa using h.below.size,λ k hk=>(hother k (by omega)).trans (h.below.block k hk)⟩ (by simp) (λ q hq hne=>hother q λ e=>hne (by rw[e];rfl)) ?_ λ q hq=>Or.inl hq⟩;obtain⟨g',css,d,e1,rfl,h1,h2,h3,h4,h5⟩:=els_last hok;cases e1;match d,h3 with
 | [d0,d1,d2,d3],_=>
  refine⟨css++[[y0,y1,y2,y3]],by simp [h1],λ a ha=>?_,?_,λ k hk hk'=>?_⟩
  ·rcases List.mem_append.1 ha with ha|ha
   ·exact h2 a ha
   rw[List.mem_singleton.1 ha];rfl
  ·rw[List.flatten_append,List.flatten_singleton,List.length_append,List.length_singleton];exact row_four h4 (by rw[ho,flat_len h2,h1]) _ _ _ _
  by_cases hkl:k<l.length
  ·rw[List.getElem_append_left hkl,List.getElem_append_left (by omega)];exact h5 k hkl (by omega)
  obtain rfl:k=l.length:=by simp at hk;omega
  rw[List.getElem_append_right (Nat.le_refl _)];simp only[List.getElem_append_right (show css.length≤l.length by omega),h1,Nat.sub_self,List.getElem_cons_zero];exact hx
theorem Fr.putLast4 {o1 o2 : Nat} (o:Nat) (ho:o=l.length*4) (h1:o1=o+1) (h2:o2=o+2) (h3:o3=o+3):
  Fr B ((((w.setCell ⟨g,o,none⟩ y0).setCell ⟨g,o1,none⟩ y1).setCell ⟨g,o2,none⟩ y2).setCell ⟨g,o3,none⟩ y3) (L.set i (.els E (.slice (some ⟨g,0,none⟩) n c) e 4 (l++[x]))):=by
 subst h1 h2 h3;exact h.putLast i hi j hj ho
end
theorem Fr.elAppN {zv : Value} {by' : Nat} {t : TypeId}
  (hinfo:(P.info? e).map (λ i=>(i.zero,i.size,i.bytes))=some (some zv,z,by')) (ht:P.underlying t=some (.slice e)) (hz:zv.cells.size=z) (hz0:0<z) (hby:by'≤1000)
  {b:Nat} {cs:Array Value} {T:TypeId} (h:Fr B w (.blk b cs T::L)) (i:Nat) {v:Value} {l:List α} (hi:L[i]?=some (.els E v e z l)) (n m:Nat) (hln:l.length=n) (hm:m=n+1) (hn:n≤16000) {x:α} (j:Nat) (hx:L[j]?=some (.el E cs.toList x))
  {o:Oper} {a:Act} (p q:Operand) (ho:o.op=.call { callee:=.builtin .append,args:=#[p,q],argTypes:=#[t,t] }) (hs:a.eval p=v)
  {c:Nat} (hx':a.eval q=.slice (some ⟨b,0,none⟩) 1 c) (hl:cs.size=z) (h1:cs.toList.all (λ u=>u.oneCell')=true) {K:Act→World→Prop} {Q:Exit→Act→World→Prop}
  (k:∀g cap w',Fr B w' (L.set i (.els E (.slice (some ⟨g,0,none⟩) m cap) e z (l++[x])))→K (a.put o.dst (.slice (some ⟨g,0,none⟩) m cap)) w'):
  Oper.wp P o a w K Q:=by
 subst hm hln;exact h.elApp hinfo ht hz hz0 hby i hi hn j hx p q ho hs hx' hl h1 λ g cap w' h _=>k g cap w' h
theorem genW {G : World→Prop} (h:Fr B w L) (k:∀w',Fr B w' L→G w'):G w:=k w h
end
end
section
section
variable {md : Region.Mode} {ops : Array Oper} {Q : Exit → Act → World → Prop} {C : World → Prop} {bad : List Nat} {fuel : Nat} {listed : Array Bool} {a1 : Act}
theorem tq (i:Nat)
    (h:aY P md ops Q C bad fuel (listed.setIfInBounds i true) a1 w) (hi:ops[i]?=some oi:=by exact rfl) (hs:Region.noSelect ops=true:=by kernel_rfl) (hg:dI md ops bad i=true:=by kernel_rfl) (hf:Region.free md ops listed i=true:=by kernel_rfl) (hr:(Region.ready md ops listed).contains i=true:=by kernel_rfl)
    (hQ:∀c a w,Q (.panic c) (a.put oi.dst v) w→Q (.panic c) a w:=by exact λ_ _ _ h=>h) (hw:Region.wanted oi (yielded ops a.tmps)=true:=by rfl) (hS:Hid (C w):=by assumption) (hy:∀w,C w→(execOp a.eval oi).run P w=.ok (.value v) w:=by (intro w hSw;(try dsimp only at hSw);(repeat (obtain⟨_,hSw⟩:=hSw));go_simp)<;>with_reducible rfl) (ha:a.put oi.dst v=a1:=by (simp only[qq];rfl)):aY P md ops Q C bad (fuel+1) listed a w:=by
  subst ha;exact tk i hi hs hg hf hr hQ hw hy hS h
theorem tq2 (i0 i1:Nat) (h:aY P md ops Q C bad fuel ((listed.setIfInBounds i0 true).setIfInBounds i1 true) b2 w) (hS:Hid (C w):=by assumption) (hs:Region.noSelect ops=true:=by kernel_rfl) (hi0:ops[i0]?=some o0:=by exact rfl) (hg0:dI md ops bad i0=true:=by kernel_rfl) (hf0:Region.free md ops listed i0=true:=by kernel_rfl) (hr0:(Region.ready md ops listed).contains i0=true:=by kernel_rfl) (hQ0:∀c a w,Q (.panic c) (a.put o0.dst v0) w→Q (.panic c) a w:=by exact λ_ _ _ h=>h) (hw0:Region.wanted o0 (yielded ops a.tmps)=true:=by rfl) (hy0:∀w,C w→(execOp a.eval o0).run P w=.ok (.value v0) w:=by (intro w hSw;(try dsimp only at hSw);(repeat (obtain⟨_,hSw⟩:=hSw));go_simp)<;>with_reducible rfl) (ha0:a.put o0.dst v0=b1:=by (simp only[qq];rfl)) (hi1:ops[i1]?=some o1:=by exact rfl) (hg1:dI md ops bad i1=true:=by kernel_rfl) (hf1:Region.free md ops (listed.setIfInBounds i0 true) i1=true:=by kernel_rfl) (hr1:(Region.ready md ops (listed.setIfInBounds i0 true)).contains i1=true:=by kernel_rfl) (hQ1:∀c a w,Q (.panic c) (a.put o1.dst v1) w→Q (.panic c) a w:=by exact λ_ _ _ h=>h) (hw1:Region.wanted o1 (yielded ops b1.tmps)=true:=by rfl) (hy1:∀w,C w→(execOp b1.eval o1).run P w=.ok (.value v1) w:=by (intro w hSw;(try dsimp only at hSw);(repeat (obtain⟨_,hSw⟩:=hSw));go_simp)<;>with_reducible rfl) (ha1:b1.put o1.dst v1=b2:=by (simp only[qq];rfl)):aY P md ops Q C bad (fuel+2) listed a w:=by
  subst ha0;subst ha1;exact tk i0 hi0 hs hg0 hf0 hr0 hQ0 hw0 hy0 hS (tk i1 hi1 hs hg1 hf1 hr1 hQ1 hw1 hy1 hS (h))
theorem tq3 (i0 i1 i2:Nat) (h:aY P md ops Q C bad fuel (((listed.setIfInBounds i0 true).setIfInBounds i1 true).setIfInBounds i2 true) b3 w) (hS:Hid (C w):=by assumption) (hs:Region.noSelect ops=true:=by kernel_rfl) (hi0:ops[i0]?=some o0:=by exact rfl) (hg0:dI md ops bad i0=true:=by kernel_rfl) (hf0:Region.free md ops listed i0=true:=by kernel_rfl) (hr0:(Region.ready md ops listed).contains i0=true:=by kernel_rfl) (hQ0:∀c a w,Q (.panic c) (a.put o0.dst v0) w→Q (.panic c) a w:=by exact λ_ _ _ h=>h) (hw0:Region.wanted o0 (yielded ops a.tmps)=true:=by rfl) (hy0:∀w,C w→(execOp a.eval o0).run P w=.ok (.value v0) w:=by (intro w hSw;(try dsimp only at hSw);(repeat (obtain⟨_,hSw⟩:=hSw));go_simp)<;>with_reducible rfl) (ha0:a.put o0.dst v0=b1:=by (simp only[qq];rfl)) (hi1:ops[i1]?=some o1:=by exact rfl) (hg1:dI md ops bad i1=true:=by kernel_rfl) (hf1:Region.free md ops (listed.setIfInBounds i0 true) i1=true:=by kernel_rfl) (hr1:(Region.ready md ops (listed.setIfInBounds i0 true)).contains i1=true:=by kernel_rfl) (hQ1:∀c a w,Q (.panic c) (a.put o1.dst v1) w→Q (.panic c) a w:=by exact λ_ _ _ h=>h) (hw1:Region.wanted o1 (yielded ops b1.tmps)=true:=by rfl) (hy1:∀w,C w→(execOp b1.eval o1).run P w=.ok (.value v1) w:=by (intro w hSw;(try dsimp only at hSw);(repeat (obtain⟨_,hSw⟩:=hSw));go_simp)<;>with_reducible rfl) (ha1:b1.put o1.dst v1=b2:=by (simp only[qq];rfl)) (hi2:ops[i2]?=some o2:=by exact rfl) (hg2:dI md ops bad i2=true:=by kernel_rfl) (hf2:Region.free md ops ((listed.setIfInBounds i0 true).setIfInBounds i1 true) i2=true:=by kernel_rfl) (hr2:(Region.ready md ops ((listed.setIfInBounds i0 true).setIfInBounds i1 true)).contains i2=true:=by kernel_rfl) (hQ2:∀c a w,Q (.panic c) (a.put o2.dst v2) w→Q (.panic c) a w:=by exact λ_ _ _ h=>h) (hw2:Region.wanted o2 (yielded ops b2.tmps)=true:=by rfl) (hy2:∀w,C w→(execOp b2.eval o2).run P w=.ok (.value v2) w:=by (intro w hSw;(try dsimp only at hSw);(repeat (obtain⟨_,hSw⟩:=hSw));go_simp)<;>with_reducible rfl) (ha2:b2.put o2.dst v2=b3:=by (simp only[qq];rfl)):aY P md ops Q C bad (fuel+3) listed a w:=by
  subst ha0;subst ha1;subst ha2;exact tk i0 hi0 hs hg0 hf0 hr0 hQ0 hw0 hy0 hS (tk i1 hi1 hs hg1 hf1 hr1 hQ1 hw1 hy1 hS (tk i2 hi2 hs hg2 hf2 hr2 hQ2 hw2 hy2 hS (h)))
theorem tq4 (i0 i1 i2 i3:Nat) {o3 : Oper} {v3 : Value} {b4 : Act} (h:aY P md ops Q C bad fuel ((((listed.setIfInBounds i0 true).setIfInBounds i1 true).setIfInBounds i2 true).setIfInBounds i3 true) b4 w) (hS:Hid (C w):=by assumption) (hs:Region.noSelect ops=true:=by kernel_rfl) (hi0:ops[i0]?=some o0:=by exact rfl) (hg0:dI md ops bad i0=true:=by kernel_rfl) (hf0:Region.free md ops listed i0=true:=by kernel_rfl) (hr0:(Region.ready md ops listed).contains i0=true:=by kernel_rfl) (hQ0:∀c a w,Q (.panic c) (a.put o0.dst v0) w→Q (.panic c) a w:=by exact λ_ _ _ h=>h) (hw0:Region.wanted o0 (yielded ops a.tmps)=true:=by rfl) (hy0:∀w,C w→(execOp a.eval o0).run P w=.ok (.value v0) w:=by (intro w hSw;(try dsimp only at hSw);(repeat (obtain⟨_,hSw⟩:=hSw));go_simp)<;>with_reducible rfl) (ha0:a.put o0.dst v0=b1:=by (simp only[qq];rfl)) (hi1:ops[i1]?=some o1:=by exact rfl) (hg1:dI md ops bad i1=true:=by kernel_rfl) (hf1:Region.free md ops (listed.setIfInBounds i0 true) i1=true:=by kernel_rfl) (hr1:(Region.ready md ops (listed.setIfInBounds i0 true)).contains i1=true:=by kernel_rfl) (hQ1:∀c a w,Q (.panic c) (a.put o1.dst v1) w→Q (.panic c) a w:=by exact λ_ _ _ h=>h) (hw1:Region.wanted o1 (yielded ops b1.tmps)=true:=by rfl) (hy1:∀w,C w→(execOp b1.eval o1).run P w=.ok (.value v1) w:=by (intro w hSw;(try dsimp only at hSw);(repeat (obtain⟨_,hSw⟩:=hSw));go_simp)<;>with_reducible rfl) (ha1:b1.put o1.dst v1=b2:=by (simp only[qq];rfl)) (hi2:ops[i2]?=some o2:=by exact rfl) (hg2:dI md ops bad i2=true:=by kernel_rfl) (hf2:Region.free md ops ((listed.setIfInBounds i0 true).setIfInBounds i1 true) i2=true:=by kernel_rfl) (hr2:(Region.ready md ops ((listed.setIfInBounds i0 true).setIfInBounds i1 true)).contains i2=true:=by kernel_rfl) (hQ2:∀c a w,Q (.panic c) (a.put o2.dst v2) w→Q (.panic c) a w:=by exact λ_ _ _ h=>h) (hw2:Region.wanted o2 (yielded ops b2.tmps)=true:=by rfl) (hy2:∀w,C w→(execOp b2.eval o2).run P w=.ok (.value v2) w:=by (intro w hSw;(try dsimp only at hSw);(repeat (obtain⟨_,hSw⟩:=hSw));go_simp)<;>with_reducible rfl) (ha2:b2.put o2.dst v2=b3:=by (simp only[qq];rfl)) (hi3:ops[i3]?=some o3:=by exact rfl) (hg3:dI md ops bad i3=true:=by kernel_rfl) (hf3:Region.free md ops (((listed.setIfInBounds i0 true).setIfInBounds i1 true).setIfInBounds i2 true) i3=true:=by kernel_rfl) (hr3:(Region.ready md ops (((listed.setIfInBounds i0 true).setIfInBounds i1 true).setIfInBounds i2 true)).contains i3=true:=by kernel_rfl) (hQ3:∀c a w,Q (.panic c) (a.put o3.dst v3) w→Q (.panic c) a w:=by exact λ_ _ _ h=>h) (hw3:Region.wanted o3 (yielded ops b3.tmps)=true:=by rfl) (hy3:∀w,C w→(execOp b3.eval o3).run P w=.ok (.value v3) w:=by (intro w hSw;(try dsimp only at hSw);(repeat (obtain⟨_,hSw⟩:=hSw));go_simp)<;>with_reducible rfl) (ha3:b3.put o3.dst v3=b4:=by (simp only[qq];rfl)):aY P md ops Q C bad (fuel+4) listed a w:=by
  subst ha0;subst ha1;subst ha2;subst ha3;exact tk i0 hi0 hs hg0 hf0 hr0 hQ0 hw0 hy0 hS (tk i1 hi1 hs hg1 hf1 hr1 hQ1 hw1 hy1 hS (tk i2 hi2 hs hg2 hf2 hr2 hQ2 hw2 hy2 hS (tk i3 hi3 hs hg3 hf3 hr3 hQ3 hw3 hy3 hS (h))))
theorem rq (i:Nat) (h:∀K':Act→World→Prop,Shut (∀a w,C w→(Hid (C w)→aY P md ops Q C bad fuel (listed.setIfInBounds i true) a w)→K' a w)→if Region.wanted o (yielded ops a1.tmps)=true then Oper.wp P o a1 w K' Q else K' (a1.put o.dst undef) w) (hr:Region.ready md ops listed=[i]:=by kernel_rfl) (ho:ops[i]?=some o:=by exact rfl) (hb:bad.contains i=false:=by decide) (ha:a=a1:=by first|(simp only[qq];done)|(simp only[qq];rfl)|rfl):aY P md ops Q C bad (fuel+1) listed a w:=by
  subst ha;exact rdJ hr (by simp) (AllJ.cons ho (λ K' hK=>h K' (λ a w h1 h2=>hK a w (λ_=>h1) (h2 h1))) AllJ.nil)
theorem rqb (i:Nat) (h:∀K':Act→World→Prop,Shut (∀a w,aY P md ops Q C bad fuel (listed.setIfInBounds i true) a w→K' a w)→if Region.wanted o (yielded ops a1.tmps)=true then Oper.wp P o a1 w K' Q else K' (a1.put o.dst undef) w) (hr:Region.ready md ops listed=[i]:=by kernel_rfl) (ho:ops[i]?=some o:=by exact rfl) (hb:bad.contains i=true:=by decide) (ha:a=a1:=by first|(simp only[qq];done)|(simp only[qq];rfl)|rfl):aY P md ops Q C bad (fuel+1) listed a w:=by
  subst ha;exact rdJ hr (by simp) (AllJ.cons ho (λ K' hK=>h K' (λ a w h2=>hK a w (λ h=>by rw[hb] at h;cases h) h2)) AllJ.nil)
theorem rq2 (i j:Nat) (h:∀K':Act→World→Prop,Shut (∀a w,C w→(Hid (C w)→aY P md ops Q C bad fuel (listed.setIfInBounds i true) a w)→K' a w)→if Region.wanted o (yielded ops a1.tmps)=true then Oper.wp P o a1 w K' Q else K' (a1.put o.dst undef) w) (h2:∀K':Act→World→Prop,Shut (∀a w,C w→(Hid (C w)→aY P md ops Q C bad fuel (listed.setIfInBounds j true) a w)→K' a w)→if Region.wanted o2 (yielded ops a1.tmps)=true then Oper.wp P o2 a1 w K' Q else K' (a1.put o2.dst undef) w)
    (hr:Region.ready md ops listed=[i,j]:=by kernel_rfl) (ho:ops[i]?=some o:=by exact rfl) (ho2:ops[j]?=some o2:=by exact rfl) (hb:bad.contains i=false:=by decide) (hb2:bad.contains j=false:=by decide) (ha:a=a1:=by first|(simp only[qq];done)|(simp only[qq];rfl)|rfl):aY P md ops Q C bad (fuel+1) listed a w:=by
  subst ha;exact rdJ hr (by simp) (AllJ.cons ho (λ K' hK=>h K' (λ a w h1 h2=>hK a w (λ_=>h1) (h2 h1))) (AllJ.cons ho2 (λ K' hK=>h2 K' (λ a w h1 h2=>hK a w (λ_=>h1) (h2 h1))) AllJ.nil))
theorem rq2m (i j:Nat)
    (h:∀K':Act→World→Prop,Shut (∀a w,(bad.contains i=false→C w)→aY P md ops Q C bad fuel (listed.setIfInBounds i true) a w→K' a w)→if Region.wanted o (yielded ops a1.tmps)=true then Oper.wp P o a1 w K' Q else K' (a1.put o.dst undef) w)
    (h2:∀K':Act→World→Prop,Shut (∀a w,(bad.contains j=false→C w)→aY P md ops Q C bad fuel (listed.setIfInBounds j true) a w→K' a w)→if Region.wanted o2 (yielded ops a1.tmps)=true then Oper.wp P o2 a1 w K' Q else K' (a1.put o2.dst undef) w)
    (hr:Region.ready md ops listed=[i,j]:=by kernel_rfl) (ho:ops[i]?=some o:=by exact rfl) (ho2:ops[j]?=some o2:=by exact rfl) (ha:a=a1:=by first|(simp only[qq];done)|(simp only[qq];rfl)|rfl):aY P md ops Q C bad (fuel+1) listed a w:=by
  subst ha;exact rdJ hr (by simp) (AllJ.cons ho h (AllJ.cons ho2 h2 AllJ.nil))
theorem rq2b (i j:Nat) (h:∀K':Act→World→Prop,Shut (∀a w,aY P md ops Q C bad fuel (listed.setIfInBounds i true) a w→K' a w)→if Region.wanted o (yielded ops a1.tmps)=true then Oper.wp P o a1 w K' Q else K' (a1.put o.dst undef) w) (h2:∀K':Act→World→Prop,Shut (∀a w,aY P md ops Q C bad fuel (listed.setIfInBounds j true) a w→K' a w)→if Region.wanted o2 (yielded ops a1.tmps)=true then Oper.wp P o2 a1 w K' Q else K' (a1.put o2.dst undef) w)
    (hr:Region.ready md ops listed=[i,j]:=by kernel_rfl) (ho:ops[i]?=some o:=by exact rfl) (ho2:ops[j]?=some o2:=by exact rfl) (hb:bad.contains i=true:=by decide) (hb2:bad.contains j=true:=by decide) (ha:a=a1:=by first|(simp only[qq];done)|(simp only[qq];rfl)|rfl):aY P md ops Q C bad (fuel+1) listed a w:=by
  subst ha;exact rdJ hr (by simp) (AllJ.cons ho (λ K' hK=>h K' (λ a w h2=>hK a w (λ h=>by rw[hb] at h;cases h) h2)) (AllJ.cons ho2 (λ K' hK=>h2 K' (λ a w h2=>hK a w (λ h=>by rw[hb2] at h;cases h) h2)) AllJ.nil))
theorem dq (h:Q .normal a1 w) (hr:Region.ready md ops listed=[]:=by kernel_rfl) (ha:a=a1:=by first|(simp only[qq];done)|(simp only[qq];rfl)|rfl):aY P md ops Q C bad fuel listed a w:=by
  subst ha;exact doneJ hr h _
theorem aI {p q : Prop} (a:p) (b:q):p∧q:=⟨a,b⟩
theorem uq {p q : Act→World→Prop} {K : Act→World→Prop} (hK:Shut (∀a w,p a w→q a w→K a w)) (h:p a w) (h2:q a w):K a w:=hK a w h h2
theorem ub {q : Act→World→Prop} {K : Act→World→Prop} (hK:Shut (∀a w,q a w→K a w)) (h2:q a w):K a w:=hK a w h2
end
theorem regK {ops : Array Oper} {Q : Exit→Act→World→Prop} {id : Nat} {C : World→Prop} {B : Bs} {L : List Rs} (bad:List Nat) (h:Fr B w L) (hS:∀w',Fr B w' L→C w')
    (k:∀w',Hid (Fr B w' L)→Hid (C w')→aY P .any ops Q C bad ops.size (Array.replicate ops.size false) a w') (hm:P.follows .mixedOrders=true:=by kernel_rfl):(Code.region id ops true).wp P Q a w:=regJ C bad hm h hS k
section
variable {md : Region.Mode} {ops : Array Oper} {Q : Exit → Act → World → Prop} {C : World → Prop} {bad : List Nat} {fuel : Nat} {listed : Array Bool} {a1 : Act}
theorem tqP (i:Nat)
    (h:aY P md ops Q C bad fuel (listed.setIfInBounds i true) a1 w) (hi:ops[i]?=some oi:=by exact rfl) (hs:Region.noSelect ops=true:=by kernel_rfl) (hb:bad.contains i=true:=by kernel_rfl) (hf:Region.free md ops listed i=true:=by kernel_rfl) (hr:(Region.ready md ops listed).contains i=true:=by kernel_rfl)
    (hQ:∀c a w,Q (.panic c) (a.put oi.dst v) w→Q (.panic c) a w:=by exact λ_ _ _ h=>h) (hw:Region.wanted oi (yielded ops a.tmps)=true:=by rfl) (hy:∀w,(execOp a.eval oi).run P w=.ok (.value v) w:=by (intro w;go_simp)<;>with_reducible rfl) (ha:a.put oi.dst v=a1:=by (simp only[qq];rfl)):aY P md ops Q C bad (fuel+1) listed a w:=by
  subst ha;exact tkP i hi hs hb hf hr hQ hw hy h
end
end
def Meth (F:Nat)(S:Nd→Prop)(E:List Tok→Q Nd)(N:Nat):Prop:=∀(B:Bs) (w:World) (b:Nat) (ts:List Tok) (L:List Rs),ts.length<N→Fr B w (.ps b ts::L)→Calls prog F #[ptr b] w (PN S (E ts) ts.length B b L)
theorem aF (h:tx ts=x) (hx:x.size≠0:=by decide):ts.tail.length<ts.length:=by obtain⟨t,r,rfl⟩:=tx_cons hx h;simp
theorem nm_lt (h:nmAt ts 0=true):ts.tail.length<ts.length:=by obtain⟨t,r,rfl⟩:=nm_cons h;simp
theorem asks_le :∀{ts r},asks xs ts=.ok () r→r.length≤ts.length:=by
 induction xs with
 | nil=>intro ts r h;cases h;exact Nat.le_refl _
 | cons x xs ih=>
  intro ts r h;simp only[asks] at h;split at h
  ·have:=ih h;simp at this;omega
  cases h
theorem inside_any {E : List Tok→Q Nd} (hE:Meth 189 Ex E N) (h:Fr B w (.ps b ts::L)) (hN:ts.length≤N) (xs:List ByteArray) (hx:∀x,x∈xs→x.size≠0) (a:Option Addr) (c:Nat) (ha:xs≠[]→∃(q i:Nat) (cs:Array Value),a=some ⟨q,0,none⟩∧L[i]?=some (Rs.blk q cs 9)∧cs=(xs.map Value.string).toArray) (hn:xs.length≤100):
  Calls prog 187 #[ptr b,.slice a xs.length c] w (PN Ex ((asks xs ts).bind λ_ r=>cN E r) ts.length B b L):=by
 have HF:=ah (h.box (q:=w.heap.size) rfl ndz 52);have HE:=ah hE;clear h hE;go_enter func187,ntmps187;go_wp2_with fail;go_at_call 152;refine (ask_any HF xs hx a c (λ h=>by obtain⟨q,i,cs,h1,h2,h3⟩:=ha h;exact⟨q,i+1,cs,h1,h2,h3⟩) hn).mono ?_;rintro e w1 (⟨r,h1,rfl,hf⟩|⟨r,h1,rfl,hf⟩)
 ·exact⟨rfl,PN.no (by simp [h1,Q.bind]) hf.tail2⟩
 have HA:=ah h1;have hle:=asks_le h1;replace HF:=ah hf;clear h1 hf;go_wp2_with fail;go_at_call 152;refine (ask1 (HF.word _)).mono ?_;rintro e w2 (⟨hq,rfl,hf⟩|⟨hq,rfl,hf⟩)
 ·exact⟨rfl,PN.no (by simp [HA.out,Q.bind,cN,eat,wLP,hq]) hf.tail2⟩
 have HQ:=ah hq;have hlt:=aF hq;replace HF:=ah hf;clear hq hf;go_wp2_with fail;go_at_call 189;refine (HE _ _ _ _ _ (by omega) HF).mono ?_;rintro e w3 (⟨r3,h3,rfl,hf⟩|⟨n,r3,a3,n3,c3,h3,hl3,hS,rfl,hf⟩)
 ·exact⟨rfl,PN.no (by simp [HA.out,Q.bind,cN,eat,wLP,HQ.out,h3]) hf.tail2⟩
 have H3:=ah h3;have HS:=ah hS;replace HF:=ah hf;clear h3 hf hS;replace HF:=ah (HF.box (q:=w3.heap.size) rfl #[.int .i64 n.kind,.string n.text,.int .i64 n.num,.slice a3 n3 c3] 52);go_wp2_with fail;go_at_call 152;refine (ask1 (HF.box (q:=w3.heap.size+1) (by simp) _ 9)).mono ?_;rintro e w4 (⟨hq,rfl,hf⟩|⟨hq,rfl,hf⟩)
 ·exact⟨rfl,PN.no (by simp [HA.out,Q.bind,cN,eat,wLP,HQ.out,H3.out,wRP,hq]) hf.tail2.tail2.tail2⟩
 have HQ4:=ah hq;have hlt4:=aF hq;replace HF:=ah hf;clear hq hf;have c0:=HF.cell 1 rfl;have c1:=HF.cell 3 rfl;have f1:=HF.frz 3 rfl;replace HF:=ah (HF.nd4 3 rfl (.int .i64 n.kind) (.string n.text) (.int .i64 n.num) (.slice a3 n3 c3));go_wp2;refine br (rt52 results187 rfl (HF.blkAt 3 rfl)) ?_;exact PN.yes (r:=r3.tail) (by simp [HA.out,Q.bind,cN,eat,wLP,HQ.out,H3.out,wRP,HQ4.out]) (by omega) HS HF.lose
def typedF (typ:List Tok→Q Nd)(k:Int)(ts:List Tok):Q Nd:=(typ ts).bind λ t r=>(bC r).bind λ s r=>.ok (.mk k s 0 [t]) r
theorem typed_any {E : List Tok→Q Nd} (hT:Meth 172 Ty E N) (h:Fr B w (.ps b ts::L)) (hN:ts.length<N) (kd:Int):Calls prog 153 #[ptr b,.int .i64 kd] w (PT kd Ty (typedF E kd ts) ts.length B b L):=by
 have HF:=ah h;have HT:=ah hT;clear h hT;go_enter func153,ntmps153;replace HF:=ah (HF.box (q:=w.heap.size) rfl ndz 52);go_wp2_with fail;go_at_call 172;refine (HT _ _ _ _ _ (by omega) HF).mono ?_;rintro e w1 (⟨r1,h3,rfl,hf⟩|⟨x,r1,a_x,n_x,c_x,h3,hl1,hS,rfl,hf⟩)
 ·exact⟨rfl,PT.no (by simp +decide only [typedF,Q.bind,bC,h3,↓reduceIte,reduceCtorEq]) hf.lose⟩
 have H1:=ah h3;have HS_x:=ah hS;replace HF:=ah hf;clear h3 hf hS;replace HF:=ah (HF.box (q:=w1.heap.size) rfl #[.int .i64 x.kind,.string x.text,.int .i64 x.num,.slice a_x n_x c_x] 52);go_wp2;refine regK [] HF (λ w h=>(h.cell 1 rfl)) (λ wd2 HF hC=>?_);refine tq3 0 1 3 ?_;refine rq2 2 4 (λ K hK=>?_) λ K hK=>?_;go_simp;refine (eZ HF).mono ?_;rintro e w3 (⟨hq,rfl,hf⟩|⟨hq,rfl,hf⟩)
 ·exact⟨rfl,PT.no (by simp +decide only [typedF,Q.bind,bC,H1.out,hq,↓reduceIte,reduceCtorEq]) hf.lose⟩
 have HQ3:=ah hq;have hlt3:=nm_lt hq;replace HF:=ah hf;clear hq hf;refine uq hK (HF.cell 1 rfl) λ hC=>?_;refine rq 4 λ K hK=>?_;go_simp;replace HF:=ah (HF.box (q:=w3.heap.size) rfl #[.int .i64 x.kind,.string x.text,.int .i64 x.num,.slice a_x n_x c_x] 52);refine uq hK (HF.cell 2 rfl) λ hC=>?_;try simp only[qq]
 generalize w3.heap.size=qs at *;rotate_left;go_simp;replace HF:=ah (HF.box (q:=wd2.heap.size) rfl #[.int .i64 x.kind,.string x.text,.int .i64 x.num,.slice a_x n_x c_x] 52);refine uq hK (HF.cell 2 rfl) λ hC=>?_;try simp only[qq]
 generalize wd2.heap.size=qs at *;refine rq 2 λ K hK=>?_;go_simp;refine (eZ HF).mono ?_;rintro e w3 (⟨hq,rfl,hf⟩|⟨hq,rfl,hf⟩)
 ·exact⟨rfl,PT.no (by simp +decide only [typedF,Q.bind,bC,H1.out,hq,↓reduceIte,reduceCtorEq]) hf.lose⟩
 have HQ3:=ah hq;have hlt3:=nm_lt hq;replace HF:=ah hf;clear hq hf;refine uq hK (HF.cell 2 rfl) λ hC=>?_;try simp only[qq]
 all_goals
  refine tq 5 ?_;refine rq 6 λ K hK=>?_;have c_res:=HF.cell 4 rfl;have f_res:=HF.frz 4 rfl;replace HF:=ah (HF.nd4 4 rfl (.int .i64 kd) (.string (tx r1)) (.int .i64 0) (.slice (some ⟨qs,0,none⟩) 1 1));go_simp;refine uq hK (HF.cell 2 rfl) λ hC=>?_;refine dq ?_;go_wp2;replace HF:=ah (HF.lay1 1 rfl 3 rfl rfl);refine br (rt52 results153 rfl (HF.blkAt 4 rfl)) ?_;exact Or.inr ⟨tx r1,x,r1.tail,qs,by simp +decide only [typedF,Q.bind,bC,H1.out,HQ3.out,↓reduceIte,reduceCtorEq],by omega,HS_x,rfl,HF.lose⟩
theorem open_172 {E : List Tok→Q Nd} (hE:Meth 172 Ty E N) (h:Fr B w (.ps b ts::L)) (hN:ts.length≤N):Calls prog 173 #[ptr b,.func (.func 172) #[ptr b] #[]] w (PO Ty (fH E ts) ts.length B b L):=by
 have hal0:=h.tokAll.1;have HF:=ah h;have HE:=ah hE;clear h hE;go_enter func173,ntmps173;go_wp2_with fail;go_at_call 152;refine (ask1 (x:=wLP) (HF.box (q:=w.heap.size) rfl _ 9)).mono ?_;rintro e w1 (⟨hq,rfl,hf⟩|⟨hq,rfl,hf⟩)
 ·exact⟨rfl,Or.inl ⟨_,by simp +decide only [fH,eat,Q.bind,if_neg hq,↓reduceIte,reduceCtorEq],rfl,hf.lose⟩⟩
 have HQ1:=ah hq;have hlt1:=aF hq;replace HF:=ah hf;clear hq hf;go_wp2_with fail;go_at_call 127;refine (aW HF wRP (by decide)).mono ?_;rintro e w2 ⟨rfl,hf⟩;by_cases hq:tx ts.tail=wRP
 ·rw[if_pos hq] at hf;rw[decide_eq_true hq];have HQ2:=ah hq;have hlt2:=aF hq;replace HF:=ah hf;clear hq hf;go_wp2;go_ret2
  exact Or.inr ⟨[],0,ts.tail.tail,.slice none 0 0,by simp +decide only [fH,eat,Q.bind,if_pos HQ1.out,if_pos HQ2.out,↓reduceIte,reduceCtorEq],by omega,by simp;omega,Or.inl rfl,by simp,rfl,(HF.noEls NdE 52 4).swap⟩
 rw[if_neg hq] at hf;rw[decide_eq_false hq];have HQ2:=ah hq;replace HF:=ah hf;clear hq hf;go_wp2;have HM:Hid (∃m acc r,r.length<m∧fH E ts=(eY E m acc r).bind (λ p r=>eat wRP r λ r=>.ok p r)∧acc.length+r.length≤ts.tail.length∧(∀x,x∈acc→Ty x)∧Fr B w2 (.ps b r::.els NdE (.slice none 0 0) 52 4 acc::L)):=⟨_,[],_,Nat.lt_succ_self _,by simp +decide only [fH,eat,Q.bind,if_pos HQ1.out,if_neg HQ2.out,↓reduceIte,reduceCtorEq],by simp,by simp,(HF.noEls NdE 52 4).swap⟩
 clear HF;go_loopw [4,5] (λ v u wr=>u=.int .i64 0∧Hid (∃m acc r,r.length<m∧fH E ts=(eY E m acc r).bind (λ p r=>eat wRP r λ r=>.ok p r)∧acc.length+r.length≤ts.tail.length∧(∀x,x∈acc→Ty x)∧Fr B wr (.ps b r::.els NdE v 52 4 acc::L))) (λ v _ _=>5000 - lenV v)
 case atStart=>exact⟨rfl,HM⟩
 clear HM;obtain⟨rfl,hrel⟩:=hrel;obtain⟨m,acc,r,hm,heq,hlen,hS,hf⟩:=hrel.out;clear hrel;obtain⟨m,rfl⟩:∃k,m=k+1:=⟨m - 1,by omega⟩
 have hall:=hf.tokAll.1;obtain⟨av,cv,rfl,-,-⟩:=hf.elsForm 1 rfl;have HEq:=ah heq;have HSa:=ah hS;have HF:=ah hf;clear heq hS hf;go_wp2_with fail;go_at_call 127;refine (aW HF wDOTS (by decide)).mono ?_;rintro e w3 ⟨rfl,hf⟩;by_cases hq:tx r=wDOTS
 ·rw[if_pos hq] at hf;rw[decide_eq_true hq];have HQ3:=ah hq;have hlt3:=aF hq;replace HF:=ah hf;clear hq hf;go_wp2_with fail;go_at_call 152;refine (ask1 (x:=wRP) (HF.box (q:=w3.heap.size) rfl _ 9)).mono ?_;rintro e w4 (⟨hq,rfl,hf⟩|⟨hq,rfl,hf⟩)
  ·exact⟨rfl,Or.inl ⟨_,by simp +decide only [eat,Q.bind,HEq.out,eY,if_pos HQ3.out,if_neg hq,↓reduceIte,reduceCtorEq],rfl,hf.lose⟩⟩
  have HQ4:=ah hq;have hlt4:=aF hq;replace HF:=ah hf;clear hq hf;go_wp2;go_ret2
  exact Or.inr ⟨acc,1,r.tail.tail,_,by simp +decide only [eat,Q.bind,HEq.out,eY,if_pos HQ3.out,if_pos HQ4.out,↓reduceIte,reduceCtorEq],by omega,by simp;omega,by simp,HSa,rfl,HF.lose⟩
 rw[if_neg hq] at hf;rw[decide_eq_false hq];have HQ3:=ah hq;replace HF:=ah hf;clear hq hf;go_wp2_with fail;go_at_call 172;refine (HE _ _ _ _ _ (by omega) HF).mono ?_;rintro e w4 (⟨r4,h3,rfl,hf⟩|⟨x,r4,a_x,n_x,c_x,h3,hl4,hS,rfl,hf⟩)
 ·exact⟨rfl,Or.inl ⟨_,by simp +decide only [eat,Q.bind,HEq.out,eY,if_neg HQ3.out,h3,↓reduceIte,reduceCtorEq],rfl,hf.lose⟩⟩
 have H4:=ah h3;have HS_x:=ah hS;replace HF:=ah hf;clear h3 hf hS;go_wp2_with (at_builtin;refine Fr.elAppL 50 fB underlying50 rfl (by decide) (by decide) (HF.alloc (q:=w4.heap.size) rfl #[.int .i64 x.kind,.string x.text,.int .i64 x.num,.slice a_x n_x c_x] 52) 2 rfl (by omega) 1 rfl _ _ rfl rfl (by rfl) (by rfl) rfl rfl ?_;intro g5 cap5 w5 hF hgr)
 replace HF:=ah hF;clear hF hgr;go_wp2_with fail;go_at_call 127;refine (aW HF wCOMMA (by decide)).mono ?_;rintro e w6 ⟨rfl,hf⟩;by_cases hq:tx r4=wCOMMA
 ·rw[if_pos hq] at hf;rw[decide_eq_true hq];have HQ6:=ah hq;have hlt6:=aF hq;replace HF:=ah hf;clear hq hf;go_wp2;go_roundw
  case rel=>exact⟨rfl,m,acc++[x],r4.tail,by omega,by simp +decide only [eat,Q.bind,HEq.out,eY,if_neg HQ3.out,H4.out,if_pos HQ6.out,↓reduceIte,reduceCtorEq],by simp;omega,λ y hy=>by rcases List.mem_append.1 hy with h|h;exact HSa y h;rw[List.mem_singleton.1 h];exact HS_x,HF.lose⟩
  case measure=>simp [lenV];omega
 rw[if_neg hq] at hf;rw[decide_eq_false hq];have HQ6:=ah hq;replace HF:=ah hf;clear hq hf;go_wp2_with fail;go_at_call 152;refine (ask1 (x:=wRP) (HF.box (q:=w6.heap.size) rfl _ 9)).mono ?_;rintro e w7 (⟨hq,rfl,hf⟩|⟨hq,rfl,hf⟩)
 ·exact⟨rfl,Or.inl ⟨_,by simp +decide only [eat,Q.bind,HEq.out,eY,if_neg HQ3.out,H4.out,if_neg HQ6.out,if_neg hq,↓reduceIte,reduceCtorEq],rfl,hf.lose⟩⟩
 have HQ7:=ah hq;have hlt7:=aF hq;replace HF:=ah hf;clear hq hf;go_wp2;go_ret2
 exact Or.inr ⟨(acc++[x]),0,r4.tail,_,by simp +decide only [eat,Q.bind,HEq.out,eY,if_neg HQ3.out,H4.out,if_neg HQ6.out,if_pos HQ7.out,↓reduceIte,reduceCtorEq],by omega,by simp;omega,by simp,λ y hy=>by rcases List.mem_append.1 hy with h|h;exact HSa y h;rw[List.mem_singleton.1 h];exact HS_x,rfl,HF.lose⟩
theorem open_174 {E : List Tok→Q Nd} (hE:Meth 174 (Ti 8) E N) (h:Fr B w (.ps b ts::L)) (hN:ts.length≤N):Calls prog 173 #[ptr b,.func (.func 174) #[ptr b] #[]] w (PO (Ti 8) (fH E ts) ts.length B b L):=by
 have hal0:=h.tokAll.1;have HF:=ah h;have HE:=ah hE;clear h hE;go_enter func173,ntmps173;go_wp2_with fail;go_at_call 152;refine (ask1 (x:=wLP) (HF.box (q:=w.heap.size) rfl _ 9)).mono ?_;rintro e w1 (⟨hq,rfl,hf⟩|⟨hq,rfl,hf⟩)
 ·exact⟨rfl,Or.inl ⟨_,by simp +decide only [fH,eat,Q.bind,if_neg hq,↓reduceIte,reduceCtorEq],rfl,hf.lose⟩⟩
 have HQ1:=ah hq;have hlt1:=aF hq;replace HF:=ah hf;clear hq hf;go_wp2_with fail;go_at_call 127;refine (aW HF wRP (by decide)).mono ?_;rintro e w2 ⟨rfl,hf⟩;by_cases hq:tx ts.tail=wRP
 ·rw[if_pos hq] at hf;rw[decide_eq_true hq];have HQ2:=ah hq;have hlt2:=aF hq;replace HF:=ah hf;clear hq hf;go_wp2;go_ret2
  exact Or.inr ⟨[],0,ts.tail.tail,.slice none 0 0,by simp +decide only [fH,eat,Q.bind,if_pos HQ1.out,if_pos HQ2.out,↓reduceIte,reduceCtorEq],by omega,by simp;omega,Or.inl rfl,by simp,rfl,(HF.noEls NdE 52 4).swap⟩
 rw[if_neg hq] at hf;rw[decide_eq_false hq];have HQ2:=ah hq;replace HF:=ah hf;clear hq hf;go_wp2;have HM:Hid (∃m acc r,r.length<m∧fH E ts=(eY E m acc r).bind (λ p r=>eat wRP r λ r=>.ok p r)∧acc.length+r.length≤ts.tail.length∧(∀x,x∈acc→(Ti 8) x)∧Fr B w2 (.ps b r::.els NdE (.slice none 0 0) 52 4 acc::L)):=⟨_,[],_,Nat.lt_succ_self _,by simp +decide only [fH,eat,Q.bind,if_pos HQ1.out,if_neg HQ2.out,↓reduceIte,reduceCtorEq],by simp,by simp,(HF.noEls NdE 52 4).swap⟩
 clear HF;go_loopw [4,5] (λ v u wr=>u=.int .i64 0∧Hid (∃m acc r,r.length<m∧fH E ts=(eY E m acc r).bind (λ p r=>eat wRP r λ r=>.ok p r)∧acc.length+r.length≤ts.tail.length∧(∀x,x∈acc→(Ti 8) x)∧Fr B wr (.ps b r::.els NdE v 52 4 acc::L))) (λ v _ _=>5000 - lenV v)
 case atStart=>exact⟨rfl,HM⟩
 clear HM;obtain⟨rfl,hrel⟩:=hrel;obtain⟨m,acc,r,hm,heq,hlen,hS,hf⟩:=hrel.out;clear hrel;obtain⟨m,rfl⟩:∃k,m=k+1:=⟨m - 1,by omega⟩
 have hall:=hf.tokAll.1;obtain⟨av,cv,rfl,-,-⟩:=hf.elsForm 1 rfl;have HEq:=ah heq;have HSa:=ah hS;have HF:=ah hf;clear heq hS hf;go_wp2_with fail;go_at_call 127;refine (aW HF wDOTS (by decide)).mono ?_;rintro e w3 ⟨rfl,hf⟩;by_cases hq:tx r=wDOTS
 ·rw[if_pos hq] at hf;rw[decide_eq_true hq];have HQ3:=ah hq;have hlt3:=aF hq;replace HF:=ah hf;clear hq hf;go_wp2_with fail;go_at_call 152;refine (ask1 (x:=wRP) (HF.box (q:=w3.heap.size) rfl _ 9)).mono ?_;rintro e w4 (⟨hq,rfl,hf⟩|⟨hq,rfl,hf⟩)
  ·exact⟨rfl,Or.inl ⟨_,by simp +decide only [eat,Q.bind,HEq.out,eY,if_pos HQ3.out,if_neg hq,↓reduceIte,reduceCtorEq],rfl,hf.lose⟩⟩
  have HQ4:=ah hq;have hlt4:=aF hq;replace HF:=ah hf;clear hq hf;go_wp2;go_ret2
  exact Or.inr ⟨acc,1,r.tail.tail,_,by simp +decide only [eat,Q.bind,HEq.out,eY,if_pos HQ3.out,if_pos HQ4.out,↓reduceIte,reduceCtorEq],by omega,by simp;omega,by simp,HSa,rfl,HF.lose⟩
 rw[if_neg hq] at hf;rw[decide_eq_false hq];have HQ3:=ah hq;replace HF:=ah hf;clear hq hf;go_wp2_with fail;go_at_call 174;refine (HE _ _ _ _ _ (by omega) HF).mono ?_;rintro e w4 (⟨r4,h3,rfl,hf⟩|⟨x,r4,a_x,n_x,c_x,h3,hl4,hS,rfl,hf⟩)
 ·exact⟨rfl,Or.inl ⟨_,by simp +decide only [eat,Q.bind,HEq.out,eY,if_neg HQ3.out,h3,↓reduceIte,reduceCtorEq],rfl,hf.lose⟩⟩
 have H4:=ah h3;have HS_x:=ah hS;replace HF:=ah hf;clear h3 hf hS;go_wp2_with (at_builtin;refine Fr.elAppL 50 fB underlying50 rfl (by decide) (by decide) (HF.alloc (q:=w4.heap.size) rfl #[.int .i64 x.kind,.string x.text,.int .i64 x.num,.slice a_x n_x c_x] 52) 2 rfl (by omega) 1 rfl _ _ rfl rfl (by rfl) (by rfl) rfl rfl ?_;intro g5 cap5 w5 hF hgr)
 replace HF:=ah hF;clear hF hgr;go_wp2_with fail;go_at_call 127;refine (aW HF wCOMMA (by decide)).mono ?_;rintro e w6 ⟨rfl,hf⟩;by_cases hq:tx r4=wCOMMA
 ·rw[if_pos hq] at hf;rw[decide_eq_true hq];have HQ6:=ah hq;have hlt6:=aF hq;replace HF:=ah hf;clear hq hf;go_wp2;go_roundw
  case rel=>exact⟨rfl,m,acc++[x],r4.tail,by omega,by simp +decide only [eat,Q.bind,HEq.out,eY,if_neg HQ3.out,H4.out,if_pos HQ6.out,↓reduceIte,reduceCtorEq],by simp;omega,λ y hy=>by rcases List.mem_append.1 hy with h|h;exact HSa y h;rw[List.mem_singleton.1 h];exact HS_x,HF.lose⟩
  case measure=>simp [lenV];omega
 rw[if_neg hq] at hf;rw[decide_eq_false hq];have HQ6:=ah hq;replace HF:=ah hf;clear hq hf;go_wp2_with fail;go_at_call 152;refine (ask1 (x:=wRP) (HF.box (q:=w6.heap.size) rfl _ 9)).mono ?_;rintro e w7 (⟨hq,rfl,hf⟩|⟨hq,rfl,hf⟩)
 ·exact⟨rfl,Or.inl ⟨_,by simp +decide only [eat,Q.bind,HEq.out,eY,if_neg HQ3.out,H4.out,if_neg HQ6.out,if_neg hq,↓reduceIte,reduceCtorEq],rfl,hf.lose⟩⟩
 have HQ7:=ah hq;have hlt7:=aF hq;replace HF:=ah hf;clear hq hf;go_wp2;go_ret2
 exact Or.inr ⟨(acc++[x]),0,r4.tail,_,by simp +decide only [eat,Q.bind,HEq.out,eY,if_neg HQ3.out,H4.out,if_neg HQ6.out,if_pos HQ7.out,↓reduceIte,reduceCtorEq],by omega,by simp;omega,by simp,λ y hy=>by rcases List.mem_append.1 hy with h|h;exact HSa y h;rw[List.mem_singleton.1 h];exact HS_x,rfl,HF.lose⟩
def Rs.psx (b:Nat)(ts:List Tok)(a:Option Addr)(c mb:Nat):Rs where
 own:=λ k=>k=b
 ok:=λ H w=>aB ts∧w.heap[b]?=some (.cells #[.slice a ts.length c,.map (some mb)] 130 (0,0))∧SlP TokE (.slice a ts.length c) 207 3 ts H∧Two H mb
 lt:=λ H w h k hk=>by obtain⟨_,h,_⟩:=h;subst hk;exact bO h
 keep:=λ H w H' w' h hl hk=>(by
  obtain⟨h0,h1,h2,h3⟩:=h;exact⟨h0,(hk b rfl).trans h1,(Rs.sl TokE (.slice a ts.length c) 207 3 ts).keep H w H' w' h2 hl (λ_ h=>h.elim),h3.up hl⟩)
theorem Fr.same (h:Fr B w L) (i:Nat) {r r' : Rs} (hi:L[i]?=some r) (hr:∀H,r.ok H w→r'.ok H w) (ho:∀q,r'.own q→r.own q):Fr B w (L.set i r'):=
 h.turn i hi (λ_ _ _=>rfl) rfl rfl rfl (Nat.le_refl _) hr λ q hq=>Or.inl (ho q hq)
theorem Fr.psOpen (h:Fr B w (.ps b ts::L)):∃a c mb,Fr B w (.psx b ts a c mb::L):=by
 obtain⟨H,⟨-,a,c,mb,h1,-⟩,-⟩:=h.get (i:=0) rfl;refine⟨a,c,mb,h.same 0 rfl (r':=.psx b ts a c mb) (λ H hr=>?_) λ q hq=>hq⟩;obtain⟨k0,a2,c2,mb2,k1,k2,k3⟩:=hr;rw[h1] at k1;simp only[Option.some.injEq,Obj.cells.injEq,and_true] at k1;have e2:(#[.slice a ts.length c,.map (some mb)]:Array Value)[0]?=#[.slice a2 ts.length c2,.map (some mb2)][0]?:=by rw[k1]
 have e3:(#[.slice a ts.length c,.map (some mb)]:Array Value)[1]?=#[.slice a2 ts.length c2,.map (some mb2)][1]?:=by rw[k1]
 cases e2;cases e3;exact⟨k0,h1,k2,k3⟩
section
variable {a : Option Addr} (h:Fr B w (.psx b ts a c mb::L))
include h
theorem Fr.psShut:Fr B w (.ps b ts::L):=
 h.same 0 rfl (r':=.ps b ts) (λ H hr=>⟨hr.1,a,c,mb,hr.2⟩) λ q hq=>hq
theorem Fr.xc:∀o,w.cell? ⟨b,o,none⟩=(#[.slice a ts.length c,.map (some mb)]:Array Value)[o]?:=by
 obtain⟨H,h,-⟩:=h.get (i:=0) rfl;exact aA h.2.1
theorem Fr.xl (s:ByteArray) (hs:s.size≤4000):(Instr.lookup 128 (.map (some mb)) (.string s) true).run prog w=.ok (.tuple #[.agg #[.int .i64 (dV s).1,.int .i64 (dV s).2.1],.bool (dV s).2.2]) w:=by
 obtain⟨H,⟨-,-,-,-,o,h2,h3⟩,k⟩:=h.get (i:=0) rfl;exact h3 w (k _ _ h2) s hs
theorem Fr.xbox (hq:w.heap.size=q) (cs:Array Value) (T:TypeId):Fr B (w.alloc (.cells cs T)) (.psx b ts a c mb::.blk q cs T::L):=(h.alloc hq _ _).swap
end
theorem tx_size (h:aB ts):(tx ts).size≤4000:=by
 cases ts with
 | nil=>exact Nat.zero_le _
 | cons t r=>exact (h.2 t (List.mem_cons_self ..)).short
theorem two_kind {s : ByteArray} (h:dV s=(k0,k1,true)):(s=wINT∧k0=9∧k1=30)∨(s=wLONG∧k0=10∧k1=31):=by
 unfold dV at h;split at h
 ·cases h;exact Or.inl ⟨by assumption,rfl,rfl⟩
 split at h
 ·cases h;exact Or.inr ⟨by assumption,rfl,rfl⟩
 cases h
theorem two_lt (h:dV (tx ts)=(k0,k1,true)):ts.tail.length<ts.length:=by
 cases ts with
 | nil=>exact Bool.noConfusion (show false=true from congrArg (λ p:Int × Int × Bool=>p.2.2) h)
 | cons t r=>simp
theorem pass_lt (h:Fr B w (.ps b ts::L)) (hl:ts.tail.length<ts.length):Calls prog 150 #[.pointer (some ⟨b,0,none⟩)] w λ e w'=>e=.returned (.tuple #[])∧Fr B w' (.ps b ts.tail::L):=by
 cases ts with
 | nil=>simp at hl
 | cons t r=>exact pass_any h
theorem typ_step {E : List Tok→Q Nd} (hE:Meth 172 Ty E N) (h:Fr B w (.ps b ts::L)) (hN:ts.length≤N):Calls prog 172 #[ptr b] w (PN Ty (typS E ts) ts.length B b L):=by
 have hal0:=h.tokAll.1;have HF:=ah h;have HE:=ah hE;clear h hE;go_enter func172,ntmps172;replace HF:=ah (HF.box (q:=w.heap.size) rfl ndz 52);go_wp2_with fail;go_at_call 127;refine (aW HF wFN (by decide)).mono ?_;rintro e w1 ⟨rfl,hf⟩;by_cases hq:tx ts=wFN
 ·rw[if_pos hq] at hf;rw[decide_eq_true hq];have HQ1:=ah hq;have hlt1:=aF hq;replace HF:=ah hf;clear hq hf;go_wp2_with fail;go_at_call 173;refine (open_172 HE HF (by omega)).mono ?_;rintro e w2 (⟨r2,h3,rfl,hf⟩|⟨l,m,r2,v,h3,hl2,hm2,hm01,hS,rfl,hf⟩)
  ·exact⟨rfl,PN.no (by simp +decide only [typS,Q.bind,bC,if_pos HQ1.out,h3,↓reduceIte,reduceCtorEq]) hf.lose⟩
  obtain⟨av,cv,rfl,-,-⟩:=hf.elsForm 1 rfl;have H2:=ah h3;have HSl:=ah hS;replace HF:=ah hf;clear h3 hf hS;go_wp2_with fail;go_at_call 172;refine (HE _ _ _ _ _ (by omega) HF).mono ?_;rintro e w3 (⟨r3,h3,rfl,hf⟩|⟨x,r3,a_x,n_x,c_x,h3,hl3,hS,rfl,hf⟩)
  ·exact⟨rfl,PN.no (by simp +decide only [typS,Q.bind,bC,if_pos HQ1.out,H2.out,h3,↓reduceIte,reduceCtorEq]) hf.lose⟩
  have H3:=ah h3;have HS_x:=ah hS;replace HF:=ah hf;clear h3 hf hS;have c_res:=HF.cell 3 rfl;have f_res:=HF.frz 3 rfl;go_wp2_with (at_builtin;refine Fr.elAppL 50 fB underlying50 rfl (by decide) (by decide) (HF.alloc (q:=w3.heap.size) rfl #[.int .i64 x.kind,.string x.text,.int .i64 x.num,.slice a_x n_x c_x] 52) 2 rfl (by omega) 1 rfl _ _ rfl rfl (by rfl) (by rfl) rfl rfl ?_;intro g4 cap4 w4 hF hgr;clear c_res f_res;have c_res:=hF.cell 3 rfl;have f_res:=hF.frz 3 rfl)
  clear c_res f_res;replace HF:=ah (hF.give 2 rfl);clear hF hgr;replace HF:=ah (HF.nd4 3 rfl (.int .i64 12) (.string eB) (.int .i64 m) (.slice (some ⟨g4,0,none⟩) (l.length+1) cap4));refine br (rt52 results172 rfl (HF.blkAt 3 rfl)) ?_;exact PN.yes (n:=.mk 12 eB m (l++[x])) (r:=r3) (by simp +decide only [typS,Q.bind,bC,if_pos HQ1.out,H2.out,H3.out,↓reduceIte,reduceCtorEq]) (by omega) (.fn m _ hm01 (by simp) λ y hy=>by rcases List.mem_append.1 hy with h|h;exact HSl y h;rw[List.mem_singleton.1 h];exact HS_x) (HF.ndOf 2 rfl 12 eB m).swap.lose
 rw[if_neg hq] at hf;rw[decide_eq_false hq];have HQ1:=ah hq;replace HF:=ah hf;clear hq hf;go_wp2_with fail;obtain⟨pa,pc,mb,hx⟩:=HF.psOpen;have hsz:=tx_size HF.tokAll;have HX:=ah hx.drew;have HY:=ah (hx.xbox (q:=w1.heap.size) rfl #[.int .i64 0,.int .i64 0] 127).drew;have HTa:=ah (dL HX.out.psShut);have HTb:=ah (dL HY.out.psShut);have xa:=HX.xc;have xb:=HY.xc;have la:=HX.xl (tx ts) hsz;have lb:=HY.xl (tx ts) hsz;obtain⟨T,hT⟩:∃T,T=dV (tx ts):=⟨_,rfl⟩
 obtain⟨k0,k1,ok⟩:=T;rw[← hT] at la lb;have HTw:=ah hT.symm;clear hT;simp only at la lb;replace HF:=ah (hx.xbox (q:=w1.heap.size) rfl #[.int .i64 k0,.int .i64 k1] 127).psShut.drew;clear hx;go_region_with (first|(go_at_call 149;refine HTa.mono ?_;rintro e w2 ⟨rfl,rfl⟩)|(go_at_call 149;refine HTb.mono ?_;rintro e w2 ⟨rfl,rfl⟩))
 all_goals
  generalize (w1.alloc (.cells #[.int .i64 k0,.int .i64 k1] 127)).drew=wz at *;clear HX HY HTa HTb xa xb la lb;cases ok with
  | true=>
   have hlt:=two_lt HTw;go_wp2_with fail;go_at_call 150;refine (pass_lt HF hlt).mono ?_;rintro e w3 ⟨rfl,HF⟩;replace HF:=ah HF;have c_tw:=HF.cell 1 rfl;have c_res:=HF.cell 2 rfl;have f_res:=HF.frz 2 rfl;replace HF:=ah (HF.nd4 2 rfl (.int .i64 k0) (.string eB) (.int .i64 0) (.slice none 0 0));go_wp2;refine br (rt52 results172 rfl (HF.blkAt 2 rfl)) ?_;exact PN.yes (n:=.mk k0 eB 0 []) (r:=ts.tail) (by simp +decide only [typS,Q.bind,bC,if_neg HQ1.out,HTw.out,↓reduceIte,reduceCtorEq]) hlt (.base _ (by rcases two_kind HTw with⟨-,h,-⟩|⟨-,h,-⟩;exact Or.inl h;exact Or.inr h)) (HF.ndBare k0 eB 0).swap.lose
  | false=>
   go_wp2_with fail;go_at_call 151;refine (eZ HF).mono ?_;rintro e w3 (⟨hq,rfl,hf⟩|⟨hq,rfl,hf⟩)
   ·exact⟨rfl,PN.no (by simp +decide only [typS,Q.bind,bC,if_neg HQ1.out,HTw.out,hq,↓reduceIte,reduceCtorEq]) hf.lose⟩
   have HQ3:=ah hq;have hlt3:=nm_lt hq;replace HF:=ah hf;clear hq hf;have c_res:=HF.cell 2 rfl;have f_res:=HF.frz 2 rfl;replace HF:=ah (HF.nd4 2 rfl (.int .i64 11) (.string (tx ts)) (.int .i64 0) (.slice none 0 0));go_wp2;refine br (rt52 results172 rfl (HF.blkAt 2 rfl)) ?_;exact PN.yes (n:=.mk 11 (tx ts) 0 []) (r:=ts.tail) (by simp +decide only [typS,Q.bind,bC,if_neg HQ1.out,HTw.out,HQ3.out,↓reduceIte,reduceCtorEq]) (by omega) (.named _) (HF.ndBare 11 (tx ts) 0).swap.lose
theorem typ_meth:∀k,Meth 172 Ty (typK k) k
 | 0=>λ_ _ _ _ _ hl _=>absurd hl (Nat.not_lt_zero _)
 | k+1=>λ B w b ts L hl h=>typ_step (typ_meth k) h (by omega)
theorem typed_all (h:Fr B w (.ps b ts::L)) (kd:Int):Calls prog 153 #[ptr b,.int .i64 kd] w (PT kd Ty (fW kd ts) ts.length B b L):=typed_any (typ_meth 4001) h (by have:=h.tokAll.1;omega) kd
theorem param_any (h:Fr B w (.ps b ts::L)):Calls prog 174 #[ptr b] w (PN (Ti 8) (fW 8 ts) ts.length B b L):=by
 have HT:=ah (typed_all (h.box (q:=w.heap.size) rfl ndz 52) 8);clear h;go_enter func174,ntmps174;go_wp2_with fail;go_at_call 153;refine (HT.mono λ e w' h=>h.nd).mono ?_;rintro e w1 (⟨r,h3,rfl,hf⟩|⟨x,r,a_x,n_x,c_x,h3,hl,hS,rfl,hf⟩)
 ·exact⟨rfl,PN.no h3 hf.lose⟩
 have HF:=ah hf;have H3:=ah h3;have HS:=ah hS;clear hf h3 hS HT;have c0:=HF.cell 2 rfl;have f0:=HF.frz 2 rfl;replace HF:=ah (HF.nd4 2 rfl (.int .i64 x.kind) (.string x.text) (.int .i64 x.num) (.slice a_x n_x c_x));go_wp2;refine br (rt52 results174 rfl (HF.blkAt 2 rfl)) ?_;exact PN.yes H3 hl HS HF.lose
theorem param_meth (N:Nat):Meth 174 (Ti 8) (fW 8) N:=λ_ _ _ _ _ _ h=>param_any h
theorem parts_any {E : List Tok→Q Nd} (hE:Meth 189 Ex E N) (cl:ByteArray) (hcl:cl.size≠0) (h:Fr B w (.ps b ts::L)) (hN:ts.length<N):Calls prog 203 #[ptr b,.func (.func 189) #[ptr b] #[],.string cl] w (PL Ex (partsQ E cl ts) (ts.length+1) B b L):=by
 have hal0:=h.tokAll.1;have HF:=ah h;have HE:=ah hE;clear h hE;go_enter func203,ntmps203;go_wp2_with fail;go_at_call 127;refine (aW HF cl hcl).mono ?_;rintro e w1 ⟨rfl,hf⟩;by_cases hq:tx ts=cl
 ·rw[if_pos hq] at hf;rw[decide_eq_true hq];have HQ1:=ah hq;have hlt1:=aF hq hcl;replace HF:=ah hf;clear hq hf;go_wp2;go_ret
  exact PL.yes (l:=[]) (r:=ts.tail) (by simp +decide only [partsQ,eat,Q.bind,if_pos HQ1.out,↓reduceIte,reduceCtorEq]) (by omega) (by simp;omega) (by simp) (HF.noEls NdE 52 4).swap
 rw[if_neg hq] at hf;rw[decide_eq_false hq];have HQ1:=ah hq;replace HF:=ah hf;clear hq hf;go_wp2_with fail;go_at_call 189;refine (HE _ _ _ _ _ (by omega) HF).mono ?_;rintro e w2 (⟨r2,h3,rfl,hf⟩|⟨x,r2,a_x,n_x,c_x,h3,hl2,hS,rfl,hf⟩)
 ·exact⟨rfl,PL.no (by simp +decide only [partsQ,eat,Q.bind,if_neg HQ1.out,h3,↓reduceIte,reduceCtorEq]) hf.lose⟩
 have H2:=ah h3;have HS_x:=ah hS;replace HF:=ah hf;clear h3 hf hS;replace HF:=ah (HF.box (q:=w2.heap.size) rfl #[.int .i64 x.kind,.string x.text,.int .i64 x.num,.slice a_x n_x c_x] 52);replace HF:=ah (HF.lay1 1 rfl 2 rfl rfl);go_wp2;go_loopw [7] (λ v wr=>Hid (∃m acc r,r.length<m∧partsQ E cl ts=(commaQ E m acc r).bind (λ l r=>eat cl r λ r=>.ok l r)∧acc.length+r.length≤r2.length+1∧(∀x,x∈acc→Ex x)∧Fr B wr (.ps b r::.els NdE v 52 4 acc::L))) (λ v _=>5000 - lenV v)
 case atStart=>exact⟨_,[x],r2,Nat.lt_succ_self _,by simp +decide only [partsQ,eat,Q.bind,if_neg HQ1.out,H2.out,↓reduceIte,reduceCtorEq],by simp;omega,λ y hy=>by rw[List.mem_singleton.1 hy];exact HS_x,HF.lose⟩
 clear HF;obtain⟨m,acc,r,hm,heq,hlen,hS,hf⟩:=hrel.out;clear hrel;obtain⟨m,rfl⟩:∃k,m=k+1:=⟨m - 1,by omega⟩
 have hall:=hf.tokAll.1;obtain⟨av,cv,rfl,-,-⟩:=hf.elsForm 1 rfl;have HEq:=ah heq;have HSa:=ah hS;have HF:=ah hf;clear heq hS hf;go_wp2_with fail;go_at_call 127;refine (aW HF wCOMMA (by decide)).mono ?_;rintro e w4 ⟨rfl,hf⟩;by_cases hq:tx r=wCOMMA
 ·rw[if_pos hq] at hf;rw[decide_eq_true hq];have HQ4:=ah hq;have hlt4:=aF hq;replace HF:=ah hf;clear hq hf;go_wp2_with fail;go_at_call 189;refine (HE _ _ _ _ _ (by omega) HF).mono ?_;rintro e w5 (⟨r5,h3,rfl,hf⟩|⟨y,r5,a_y,n_y,c_y,h3,hl5,hS,rfl,hf⟩)
  ·exact⟨rfl,PL.no (by simp +decide only [eat,Q.bind,HEq.out,commaQ,if_pos HQ4.out,h3,↓reduceIte,reduceCtorEq]) hf.lose⟩
  have H5:=ah h3;have HS_y:=ah hS;replace HF:=ah hf;clear h3 hf hS;go_wp2_with (at_builtin;refine Fr.elAppL 50 fB underlying50 rfl (by decide) (by decide) (HF.alloc (q:=w5.heap.size) rfl #[.int .i64 y.kind,.string y.text,.int .i64 y.num,.slice a_y n_y c_y] 52) 2 rfl (by omega) 1 rfl _ _ rfl rfl (by rfl) (by rfl) rfl rfl ?_;intro g6 cap6 w6 hF hgr)
  replace HF:=ah hF;clear hF hgr;go_wp2;go_roundw
  case rel=>exact⟨m,acc++[y],r5,by omega,by simp +decide only [eat,Q.bind,HEq.out,commaQ,if_pos HQ4.out,H5.out,↓reduceIte,reduceCtorEq],by simp;omega,λ z hz=>by rcases List.mem_append.1 hz with h|h;exact HSa z h;rw[List.mem_singleton.1 h];exact HS_y,HF.lose⟩
  case measure=>simp [lenV];omega
 rw[if_neg hq] at hf;rw[decide_eq_false hq];have HQ4:=ah hq;replace HF:=ah hf;clear hq hf;go_wp2_with fail;go_at_call 152;refine (ask1 (x:=cl) (HF.box (q:=w4.heap.size) rfl _ 9) hcl).mono ?_;rintro e w5 (⟨hq,rfl,hf⟩|⟨hq,rfl,hf⟩)
 ·exact⟨rfl,PL.no (by simp +decide only [eat,Q.bind,HEq.out,commaQ,if_neg HQ4.out,if_neg hq,↓reduceIte,reduceCtorEq]) hf.lose⟩
 have HQ5:=ah hq;have hlt5:=aF hq hcl;replace HF:=ah hf;clear hq hf;go_wp2;go_ret
 exact PL.yes (r:=r.tail) (by simp +decide only [eat,Q.bind,HEq.out,commaQ,if_neg HQ4.out,if_pos HQ5.out,↓reduceIte,reduceCtorEq]) (by omega) (by omega) HSa HF.lose
theorem op_index (w:World):∀o:Fin 10,(Instr.index 253 (.agg opCells.toArray) (.int .i64 (o.val:Int))).run prog w=.ok (.agg #[.string (bP.getD o.val default).1,.int .i64 (bP.getD o.val default).2.1,.int .i64 (bP.getD o.val default).2.2]) w
 | ⟨0,_⟩|⟨1,_⟩|⟨2,_⟩|⟨3,_⟩|⟨4,_⟩|⟨5,_⟩|⟨6,_⟩|⟨7,_⟩|⟨8,_⟩|⟨9,_⟩=>by kernel_rfl
theorem info253:(prog.info? 253).map (·.size)=some opCells.length:=by kernel_rfl
def hitB (ts:List Tok)(firm:Int)(o:ByteArray × Int × Int):Bool:=decide (o.2.2=firm) && decide (tx ts=o.1)
theorem op_hit {j : Nat} (hj:j<10) (h:hitB ts firm (bP.getD j default)=true) (hl:∀k,k<j→hitB ts firm (bP.getD k default)=false):opOf firm ts=some (bP.getD j default).2.1:=by
 have h1:bP.find? (hitB ts firm)=some (bP.getD j default):=by
  have hl':bP.length=10:=rfl;rw[List.find?_eq_some_iff_getElem];refine⟨h,j,by omega,?_,λ k hk=>?_⟩
  ·simp [List.getD,hl',hj]
  have:=hl k hk;simpa [List.getD,hl',show k<10 by omega] using this
 have h2:opOf firm ts=(bP.find? (hitB ts firm)).map λ o=>o.2.1:=rfl;rw[h2,h1];rfl
theorem op_miss (hl:∀k,k<10→hitB ts firm (bP.getD k default)=false):opOf firm ts=none:=by
 have h1:bP.find? (hitB ts firm)=none:=by
  rw[List.find?_eq_none];intro o ho;obtain⟨k,hk,rfl⟩:=List.getElem_of_mem ho;have hl':bP.length=10:=rfl;have:=hl k (by omega);simpa [List.getD,hl',show k<10 by omega] using this
 have h2:opOf firm ts=(bP.find? (hitB ts firm)).map λ o=>o.2.1:=rfl;rw[h2,h1];rfl
theorem op_sign (j:Nat) (hj:j<10):(bP.getD j default).1.size≠0∧0≤(bP.getD j default).2.1∧(bP.getD j default).2.1≤12:=by
 have:∀o:Fin 10,(bP.getD o.val default).1.size≠0∧0≤(bP.getD o.val default).2.1∧(bP.getD o.val default).2.1≤12:=by decide
 exact this ⟨j,hj⟩
def OpP (firm:Int)(ts:List Tok)(B:Bs)(b:Nat)(L:List Rs)(e:Ending)(w':World):Prop:=
 (∃op,opOf firm ts=some op∧ts.tail.length<ts.length∧0≤op∧op≤12∧e=.returned (.tuple #[.int .i64 op,.bool true])∧Fr B w' (.ps b ts.tail::L))∨(opOf firm ts=none∧e=.returned (.tuple #[.int .i64 0,.bool false])∧Fr B w' (.ps b ts::L))
theorem operator_any (h:Fr B w (.ps b ts::L)) (firm:Int):Calls prog 195 #[ptr b,.int .i64 firm] w (OpP firm ts B b L):=by
 have HR:=ah h.ops;have HP:=ah h;have HX:Hid (∀(j:Nat),j<10→∀w,(Instr.index 253 (.agg opCells.toArray) (.int .i64 (j:Int))).run prog w=.ok (.agg #[.string (bP.getD j default).1,.int .i64 (bP.getD j default).2.1,.int .i64 (bP.getD j default).2.2]) w):=λ j hj w=>op_index w ⟨j,hj⟩;clear h;go_enter func195,ntmps195;go_wp2_with (refine wpList_load_mid rfl 253 (.global 3) rfl 3 0 rfl opCells _ HR underlying253 rfl info253 ?_)
 go_loopw [9] (λ i wr=>∃j:Nat,j≤10∧i=.int .i64 j∧Hid (Fr B wr (.ps b ts::L))∧Hid (∀k,k<j→hitB ts firm (bP.getD k default)=false)) (λ i _=>10 - (intOf i).toNat)
 case atStart=>exact⟨0,by omega,rfl,HP,λ k hk=>by omega⟩
 obtain⟨j,hj,rfl,HF,HM⟩:=hrel;by_cases hlt:j<10
 ·have hlt':(j:Int)<10:=by omega
  have hxj:=HX j hlt;obtain⟨hne,ho0,ho1⟩:=op_sign j hlt;have HH:Hid (hitB ts firm (bP.getD j default)=true→opOf firm ts=some (bP.getD j default).2.1):=λ h=>op_hit hlt h HM;have HN:Hid (hitB ts firm (bP.getD j default)=false→∀k,k<j+1→hitB ts firm (bP.getD k default)=false):=λ h k hk=>by
   by_cases e:k=j
   ·rw[e];exact h
   exact HM k (by omega)
  clear HM;generalize bP.getD j default=oo at *;obtain⟨sg0,op0,fm0⟩:=oo;simp only at hxj hne ho0 ho1;replace HF:=ah (HF.box (q:=wr.heap.size) rfl #[.string sg0,.int .i64 op0,.int .i64 fm0] 252);by_cases he:fm0=firm
  ·have he':(fm0 == firm)=true:=by simpa using he
   have HT:=ah (aW HF sg0 hne);by_cases hq:tx ts=sg0
   ·rw[decide_eq_true hq,if_pos hq] at HT;have HQ:=ah (HH (by simp [hitB,he,hq]));have hlt2:=aF hq hne;clear hq he HH HN HF;go_wp2_with fail;go_at_call 127;refine HT.mono ?_;rintro e w2 ⟨rfl,hf⟩;have HF:=ah hf;clear hf HT;have c0:=HF.cell 1 rfl;go_wp2;go_ret2
    exact Or.inl ⟨_,HQ,hlt2,ho0,ho1,rfl,HF.lose⟩
   rw[decide_eq_false hq,if_neg hq] at HT;have HM:=ah (HN (by simp [hitB,hq]));clear hq he HH HN HF;go_wp2_with fail;go_at_call 127;refine HT.mono ?_;rintro e w2 ⟨rfl,hf⟩;have HF:=ah (show Fr B w2 (.ps b ts::L) from hf.lose);clear hf HT;go_wp2;go_roundw
   case rel=>exact⟨j+1,by omega,by go_num,HF,HM⟩
   case measure=>simp [intOf];omega
  have he':(fm0 == firm)=false:=by simpa using he
  have HM:=ah (HN (by simp [hitB,he]));clear he HH HN;go_wp2;go_roundw
  case rel=>exact⟨j+1,by omega,by go_num,HF.lose,HM⟩
  case measure=>simp [intOf];omega
 obtain rfl:j=10:=by omega
 have HQ:=ah (op_miss HM);go_wp2;go_ret2
 exact Or.inr ⟨HQ,rfl,HF⟩
theorem two_cells :(#[x0,x1,x2,x3,y0,y1,y2,y3]:Array Value).toList=[x0,x1,x2,x3]++[y0,y1,y2,y3]:=rfl
theorem operation_any (h:Fr B w L) (i j:Nat) {x y : Nd} {a a' : Option Addr} {n' c' : Nat} (hi:L[i]?=some (.el NdE (ndc x.kind x.text x.num a n c) x)) (hj:L[j]?=some (.el NdE (ndc y.kind y.text y.num a' n' c') y)) (op:Int):Calls prog 196 #[.int .i64 op,.agg #[.int .i64 x.kind,.string x.text,.int .i64 x.num,.slice a n c],.agg #[.int .i64 y.kind,.string y.text,.int .i64 y.num,.slice a' n' c']] w λ e w'=>∃g,e=.returned (.agg #[.int .i64 32,.string eB,.int .i64 op,.slice (some ⟨g,0,none⟩) 2 2])∧Fr B w' (.el NdE (ndc 32 eB op (some ⟨g,0,none⟩) 2 2) (.mk 32 eB op [x,y])::L):=by
 have HF:=ah (((h.alloc (q:=w.heap.size) rfl #[.int .i64 x.kind,.string x.text,.int .i64 x.num,.slice a n c] 52).alloc (q:=w.heap.size+1) (by simp) #[.int .i64 y.kind,.string y.text,.int .i64 y.num,.slice a' n' c'] 52).alloc (q:=w.heap.size+1+1) (by simp) ndz 52);have hi':∀r s t,(r::s::t::L)[i+3]?=some (.el NdE (ndc x.kind x.text x.num a n c) x):=λ_ _ _=>hi;have hj':∀r s t,(r::s::t::L)[j+3]?=some (.el NdE (ndc y.kind y.text y.num a' n' c') y):=λ_ _ _=>hj;clear h;go_enter func196,ntmps196;go_wp2_with fail;go_at_call 186;refine (node_any (HF.alloc (q:=w.heap.size+1+1+1) (by simp) #[.int .i64 x.kind,.string x.text,.int .i64 x.num,.slice a n c,.int .i64 y.kind,.string y.text,.int .i64 y.num,.slice a' n' c'] 52) _ _ _ _).mono ?_;rintro e w1 ⟨rfl,hf⟩;replace HF:=ah ((hf.lay2 0 rfl (i+4) (j+4) hi hj two_cells rfl rfl).give 0 rfl);replace HF:=ah ((HF.ndOf 0 rfl 32 eB op).alloc (q:=w1.heap.size) rfl #[.int .i64 32,.string eB,.int .i64 op,.slice (some ⟨w.heap.size+1+1+1,0,none⟩) 2 2] 52);clear hf hi' hj' hi hj;have c0:=HF.cell 0 rfl;have c1:=HF.cell 3 rfl;have f1:=HF.frz 3 rfl;replace HF:=ah (HF.nd4 3 rfl (.int .i64 32) (.string eB) (.int .i64 op) (.slice (some ⟨w.heap.size+1+1+1,0,none⟩) 2 2));go_wp2;refine br (rt52 results196 rfl (HF.blkAt 3 rfl)) ?_;exact⟨_,rfl,HF.lose⟩
end Go.Proofs.YtdnhbedbpbgeeaaGreatDoor.K
