/- 8 -/
import Derived.Test.YtdnhbedbpbgeeaaGreatDoorMAh
set_option maxRecDepth 100000
set_option maxHeartbeats 2000000
set_option linter.all false
namespace Go.Proofs.YtdnhbedbpbgeeaaGreatDoor.K
open Go.RowKit Go.Proofs.Tryz
variable {a pa : Option Addr} {q c mb pc k n z N pn m : Nat} {ns : List ByteArray} {H H' : Snap} {tmps : Array Value} {nm : ByteArray} {α : Type} {l : List Nd} {x0 x1 x2 x3 x4 c0 c1 c2 c3 : Value} {e : TypeId} {fn : Func} {w : World} {E : El α}
variable {B : Bs} {w' : World} {L : List Rs} {b : Nat} {p : CP} {s : Cs}
theorem aL (h:Fr B w L) (c:Int) (a:Nat):Calls prog 69 #[.bool true,.int .i64 c,.int .i64 a] w λ e w'=>e=.returned (.tuple #[])∧Fr B w' L:=(askC_any c a true w).mono λ e w' h'=>⟨h'.1,h'.2 ▸ h⟩
theorem aU (h:Fr B w L) (c:Int) (a:Nat):Calls prog 69 #[.bool false,.int .i64 c,.int .i64 a] w λ e w'=>e=upF c a∧Fr B w' L:=(askC_any c a false w).mono λ e w' h'=>⟨h'.1,h'.2 ▸ h⟩
theorem Fr.csOver {r : Rs} (h:Fr B w (r::(csK b p s++(envR s.n p.em s.env++L)))):Fr B w (.cs b p s::r::L):=by
 rw[← List.append_assoc] at h;exact (h.perm List.perm_middle.symm).cls
theorem Fr.tyForm5 (h:Fr B w L) (i:Nat) {t : T.Ty} (hi:L[i]?=some (.el TyE [x0,x1,x2,x3,x4] t)):∃nm a c pa pc,x0=.int .i64 (tyk t)∧x1=.string nm∧x2=.slice a (tnn t) c∧x3=.slice pa (tpn t) pc∧x4=.bool (tmy t):=by
 obtain⟨nm,a,c,pa,pc,e,-⟩:=h.tyForm i hi;injection e with e0 e
 injection e with e1 e
 injection e with e2 e
 injection e with e3 e
 injection e with e4 e
 exact⟨nm,a,c,pa,pc,e0,e1,e2,e3,e4⟩
theorem Fr.lookSt (h:Fr B w (.cs b p s::L)) (x:ByteArray) (hx:x.size≤maxLen):∃t nm a c pa pc,t=(s.st x).getD tZ∧(∀w':World,w'.heap[p.sm]?=w.heap[p.sm]?→(Instr.lookup 87 (.map (some p.sm)) (.string x) true).run prog w'=.ok (.tuple #[.agg #[.int .i64 (tyk t),.string nm,.slice a (tnn t) c,.slice pa (tpn t) pc,.bool (tmy t)],.bool (s.st x).isSome]) w'∧(Instr.lookup 87 (.map (some p.sm)) (.string x) false).run prog w'=.ok (.agg #[.int .i64 (tyk t),.string nm,.slice a (tnn t) c,.slice pa (tpn t) pc,.bool (tmy t)]) w') ∧
  Fr B w (.cs b p s::.el TyE [.int .i64 (tyk t),.string nm,.slice a (tnn t) c,.slice pa (tpn t) pc,.bool (tmy t)] t::L):=by
 obtain⟨v,h1,h2,h3⟩:=h.csOpen.mpLook 3 rfl 87 83 underlying87 zeroValue83 x hx;have key:∃x0 x1 x2 x3 x4,v=.agg #[x0,x1,x2,x3,x4]∧Fr B w (.cs b p s::.el TyE [x0,x1,x2,x3,x4] ((s.st x).getD tZ)::L):=by
  cases e:s.st x with
  | none=>exact⟨_,_,_,_,_,h2 e,(h.tyBare 0 (by omega)).swap⟩
  | some t=>
   obtain⟨x0,x1,x2,x3,x4,rfl,h5⟩:=(h3 t e).csOver.veTy 1 rfl;exact⟨x0,x1,x2,x3,x4,rfl,h5.swap.lose⟩
 obtain⟨x0,x1,x2,x3,x4,rfl,h4⟩:=key;obtain⟨nm,a,c,pa,pc,rfl,rfl,rfl,rfl,rfl⟩:=h4.tyForm5 1 rfl;exact⟨_,nm,a,c,pa,pc,rfl,h1,h4⟩
theorem Fr.lookDe (h:Fr B w (.cs b p s::L)) (x:ByteArray) (hx:x.size≤maxLen):∃t nm a c pa pc,t=(s.de x).getD (tZ,false)∧(∀w':World,w'.heap[p.dm]?=w.heap[p.dm]?→(Instr.lookup 88 (.map (some p.dm)) (.string x) true).run prog w'=.ok (.tuple #[.agg #[.int .i64 (tyk t.1),.string nm,.slice a (tnn t.1) c,.slice pa (tpn t.1) pc,.bool (tmy t.1),.bool t.2],.bool (s.de x).isSome]) w'∧(Instr.lookup 88 (.map (some p.dm)) (.string x) false).run prog w'=.ok (.agg #[.int .i64 (tyk t.1),.string nm,.slice a (tnn t.1) c,.slice pa (tpn t.1) pc,.bool (tmy t.1),.bool t.2]) w') ∧
  Fr B w (.cs b p s::.el TyE [.int .i64 (tyk t.1),.string nm,.slice a (tnn t.1) c,.slice pa (tpn t.1) pc,.bool (tmy t.1)] t.1::L):=by
 obtain⟨v,h1,h2,h3⟩:=h.csOpen.mpLook 4 rfl 88 99 underlying88 zeroValue99 x hx;have key:∃x0 x1 x2 x3 x4,v=.agg #[x0,x1,x2,x3,x4,.bool ((s.de x).getD (tZ,false)).2]∧Fr B w (.cs b p s::.el TyE [x0,x1,x2,x3,x4] ((s.de x).getD (tZ,false)).1::L):=by
  cases e:s.de x with
  | none=>exact⟨_,_,_,_,_,h2 e,(h.tyBare 0 (by omega)).swap⟩
  | some t=>
   obtain⟨x0,x1,x2,x3,x4,rfl,h5⟩:=(h3 t e).csOver.veMe 1 rfl;exact⟨x0,x1,x2,x3,x4,rfl,h5.swap.lose⟩
 obtain⟨x0,x1,x2,x3,x4,rfl,h4⟩:=key;obtain⟨nm,a,c,pa,pc,rfl,rfl,rfl,rfl,rfl⟩:=h4.tyForm5 1 rfl;exact⟨_,nm,a,c,pa,pc,rfl,h1,h4⟩
def PTy (q:CR T.Ty)(k:Nat)(B:Bs)(b:Nat)(p:CP)(s:Cs)(L:List Rs)(e:Ending)(w':World):Prop:=
 (∃c a,q=.no c a∧e=upF c a∧Fr B w' L)∨(∃t v nm a c pa pc,q=.ok t∧may t=true∧e=.returned (.agg #[.int .i64 (tyk t),.string nm,.slice a (tnn t) c,.slice pa (tpn t) pc,.bool (tmy t)])∧Fr B w' (.cs b (p.at v) { s with k:=k }::.el TyE [.int .i64 (tyk t),.string nm,.slice a (tnn t) c,.slice pa (tpn t) pc,.bool (tmy t)] t::L))
theorem PTy.no {q : CR T.Ty} {a : Nat} {c : Int} (hq:q=.no c a) (h:Fr B w' L):PTy q k B b p s L (upF c a) w':=Or.inl ⟨c,a,hq,rfl,h⟩
theorem PTy.yes {q : CR T.Ty} {t : T.Ty} {v : Value} (hq:q=.ok t) (hm:may t=true) (h:Fr B w' (.cs b (p.at v) { s with k:=k }::.el TyE [.int .i64 (tyk t),.string nm,.slice a (tnn t) c,.slice pa (tpn t) pc,.bool (tmy t)] t::L)):PTy q k B b p s L (.returned (.agg #[.int .i64 (tyk t),.string nm,.slice a (tnn t) c,.slice pa (tpn t) pc,.bool (tmy t)])) w':=Or.inr ⟨t,v,nm,a,c,pa,pc,hq,hm,rfl,h⟩
def PTz (q:CR T.Ty)(B:Bs)(b:Nat)(p:CP)(s:Cs)(L:List Rs)(e:Ending)(w':World):Prop:=
 (∃c a,q=.no c a∧e=upF c a∧Fr B w' L)∨(∃(t:T.Ty) (_v:Value) (nm:ByteArray) (a:Option Addr) (c:Nat) (pa:Option Addr) (pc:Nat),q=.ok t∧may t=true∧e=.returned (.agg #[.int .i64 (tyk t),.string nm,.slice a (tnn t) c,.slice pa (tpn t) pc,.bool (tmy t)])∧Fr B w' (.cs b p s::.el TyE [.int .i64 (tyk t),.string nm,.slice a (tnn t) c,.slice pa (tpn t) pc,.bool (tmy t)] t::L))
theorem PTz.no {q : CR T.Ty} {a : Nat} {c : Int} (hq:q=.no c a) (h:Fr B w' L):PTz q B b p s L (upF c a) w':=Or.inl ⟨c,a,hq,rfl,h⟩
theorem PTz.yes {q : CR T.Ty} {t : T.Ty} (hq:q=.ok t) (hm:may t=true) (h:Fr B w' (.cs b p s::.el TyE [.int .i64 (tyk t),.string nm,.slice a (tnn t) c,.slice pa (tpn t) pc,.bool (tmy t)] t::L)):PTz q B b p s L (.returned (.agg #[.int .i64 (tyk t),.string nm,.slice a (tnn t) c,.slice pa (tpn t) pc,.bool (tmy t)])) w':=Or.inr ⟨t,p.kv,nm,a,c,pa,pc,hq,hm,rfl,h⟩
theorem Fr.nd5 (h:Fr B w L) (i:Nat) {T : TypeId} (hi:L[i]?=some (.blk q #[x0,x1,x2,x3,x4] T)) (y0 y1 y2 y3 y4:Value):Fr B (((((w.setCell ⟨q,0,none⟩ y0).setCell ⟨q,1,none⟩ y1).setCell ⟨q,2,none⟩ y2).setCell ⟨q,3,none⟩ y3).setCell ⟨q,4,none⟩ y4) (L.set i (.blk q #[y0,y1,y2,y3,y4] T)):=by
 have hl:i<L.length:=(List.getElem?_eq_some_iff.1 hi).1;have h1:=h.set i hi 0 y0;have h2:=h1.set i (q:=q) (cs:=#[y0,x1,x2,x3,x4]) (T:=T) (by rw[List.getElem?_set_self hl];rfl) 1 y1;have h3:=h2.set i (q:=q) (cs:=#[y0,y1,x2,x3,x4]) (T:=T) (by rw[List.getElem?_set_self (by simpa using hl)];rfl) 2 y2;have h4:=h3.set i (q:=q) (cs:=#[y0,y1,y2,x3,x4]) (T:=T) (by rw[List.getElem?_set_self (by simpa using hl)];rfl) 3 y3;have h5:=h4.set i (q:=q) (cs:=#[y0,y1,y2,y3,x4]) (T:=T) (by rw[List.getElem?_set_self (by simpa using hl)];rfl) 4 y4;simpa using h5
theorem rt83 {t : Tmp} {c4 : Value} (h:fn.results=#[.cell t 83]) (ht:tmps.getD t undef=.pointer (some ⟨q,0,none⟩)) (hb:w.heap[q]?=some (.cells #[c0,c1,c2,c3,c4] 83 (0,0))):(results fn tmps).run prog w=.ok (.agg #[c0,c1,c2,c3,c4]) w:=by
 have ht':tmps[t]?.getD undef=.pointer (some ⟨q,0,none⟩):=by simpa using ht
 have hc:=aA hb;have hl:=(Array.getElem?_eq_some_iff.1 hb).1;simp [results,h,asAddr,ht',loadVar,go_sem,hc,hl]
theorem structOf_any (h:Fr B w (.cs b p s::L)) (x:ByteArray) (hx:x.size≤maxLen) (a:Nat):Calls prog 104 #[ptr b,.string x,.int .i64 a] w (PTz (eN s.st x a) B b p s L):=by
 have HF:=ah h;clear h;go_enter func104,ntmps104;replace HF:=ah (HF.box1 (q:=w.heap.size) (by simp) tyz 83);obtain⟨t,nm,a_t,c,pa,pc,ht,hlook,HF⟩:=HF.lookSt x hx;replace HF:=ah HF;have hl1:=(hlook _ rfl).1;clear hlook;have HT:=ah ht;clear ht;have c_cs:=HF.csCell;cases e:s.st x with
 | none=>
  rw[e] at hl1 HT;simp only[Option.isSome_none] at hl1;have HE:=ah e;clear e;go_wp2_with fail;clear c_cs hl1;replace HF:=ah (HF.box1 (q:=w.heap.size+1) (by simp) #[.int .i64 (tyk t),.string nm,.slice a_t (tnn t) c,.slice pa (tpn t) pc,.bool (tmy t)] 83);go_at_call 69;refine (aU HF 4 a).mono ?_;rintro e w1 ⟨rfl,HF⟩;replace HF:=ah HF;exact⟨rfl,PTz.no (by simp only[eN,HE.out]) HF.lose⟩
 | some t0=>
  rw[e] at hl1 HT;simp only[Option.isSome_some] at hl1;have HE:=ah e;clear e;go_wp2_with fail;clear c_cs hl1;replace HF:=ah (HF.box1 (q:=w.heap.size+1) (by simp) #[.int .i64 (tyk t),.string nm,.slice a_t (tnn t) c,.slice pa (tpn t) pc,.bool (tmy t)] 83);go_at_call 69;refine (aL HF 4 a).mono ?_;rintro e w1 ⟨rfl,HF⟩;replace HF:=ah HF;have c_t:=HF.cell 1 rfl;have c_res:=HF.cell 3 rfl;have f_res:=HF.frz 3 rfl;replace HF:=ah (HF.nd5 3 rfl (.int .i64 (tyk t)) (.string nm) (.slice a_t (tnn t) c) (.slice pa (tpn t) pc) (.bool (tmy t)));go_wp2;refine br (rt83 results104 rfl (HF.blkAt 3 rfl)) ?_;obtain rfl:t=t0:=HT;exact PTz.yes (by simp only[eN,HE.out]) (HF.csInv.st _ _ HE) (HF.lose (K:=.cs b p s::.el TyE [.int .i64 (tyk t),.string nm,.slice a_t (tnn t) c,.slice pa (tpn t) pc,.bool (tmy t)] t::L))
section
variable {r : Rs}
theorem aN (h:Hid (Fr B w L)) (q:Nat) (k:Int) (t:ByteArray) (m:Int) (a:Option Addr) (n c:Nat) (hq:w.heap.size=q:=by first|simp|rfl):Hid (Fr B (w.alloc (.cells #[.int .i64 k,.string t,.int .i64 m,.slice a n c] 52)) (.blk q #[.int .i64 k,.string t,.int .i64 m,.slice a n c] 52::L)):=hide (h.out.alloc hq _ _)
theorem yN (h:Hid (Fr B w (r::L))) (q:Nat) (k:Int) (t:ByteArray) (m:Int) (a:Option Addr) (n c:Nat) (hq:w.heap.size=q:=by first|simp|rfl):Hid (Fr B (w.alloc (.cells #[.int .i64 k,.string t,.int .i64 m,.slice a n c] 52)) (r::.blk q #[.int .i64 k,.string t,.int .i64 m,.slice a n c] 52::L)):=hide (h.out.alloc hq _ _).swap
theorem sN (h:Hid (Fr B w L)) (i:Nat) (k:Int) (t:ByteArray) (m:Int) (a:Option Addr) (n c:Nat) {T : TypeId} (hi:L[i]?=some (.blk q #[x0,x1,x2,x3] T):=by exact rfl):Hid (Fr B ((((w.setCell ⟨q,0,none⟩ (.int .i64 k)).setCell ⟨q,1,none⟩ (.string t)).setCell ⟨q,2,none⟩ (.int .i64 m)).setCell ⟨q,3,none⟩ (.slice a n c)) (L.set i (.blk q #[.int .i64 k,.string t,.int .i64 m,.slice a n c] T))):=hide (h.out.nd4 i hi (.int .i64 k) (.string t) (.int .i64 m) (.slice a n c))
theorem aT (h:Hid (Fr B w L)) (q:Nat) (k:Int) (t:ByteArray) (a:Option Addr) (n c:Nat) (x:Option Addr) (y z:Nat) (b:Bool) (hq:w.heap.size=q:=by first|simp|rfl):Hid (Fr B (w.alloc (.cells #[.int .i64 k,.string t,.slice a n c,.slice x y z,.bool b] 83)) (.blk q #[.int .i64 k,.string t,.slice a n c,.slice x y z,.bool b] 83::L)):=hide (h.out.alloc hq _ _)
theorem yT (h:Hid (Fr B w (r::L))) (q:Nat) (k:Int) (t:ByteArray) (a:Option Addr) (n c:Nat) (x:Option Addr) (y z:Nat) (b:Bool) (hq:w.heap.size=q:=by first|simp|rfl):Hid (Fr B (w.alloc (.cells #[.int .i64 k,.string t,.slice a n c,.slice x y z,.bool b] 83)) (r::.blk q #[.int .i64 k,.string t,.slice a n c,.slice x y z,.bool b] 83::L)):=hide (h.out.alloc hq _ _).swap
theorem sT (h:Hid (Fr B w L)) (i:Nat) (k:Int) (t:ByteArray) (a:Option Addr) (n c:Nat) (x:Option Addr) (y z:Nat) (b:Bool) {T : TypeId} (hi:L[i]?=some (.blk q #[x0,x1,x2,x3,x4] T):=by exact rfl):Hid (Fr B (((((w.setCell ⟨q,0,none⟩ (.int .i64 k)).setCell ⟨q,1,none⟩ (.string t)).setCell ⟨q,2,none⟩ (.slice a n c)).setCell ⟨q,3,none⟩ (.slice x y z)).setCell ⟨q,4,none⟩ (.bool b)) (L.set i (.blk q #[.int .i64 k,.string t,.slice a n c,.slice x y z,.bool b] T))):=hide (h.out.nd5 i hi (.int .i64 k) (.string t) (.slice a n c) (.slice x y z) (.bool b))
theorem aV (h:Hid (Fr B w L)) (q:Nat) (k m:Int) (a:Option Addr) (n c:Nat) (x:Option Addr) (y z:Nat) (hq:w.heap.size=q:=by first|simp|rfl):Hid (Fr B (w.alloc (.cells #[.int .i64 k,.int .i64 m,.slice a n c,.slice x y z] 48)) (.blk q #[.int .i64 k,.int .i64 m,.slice a n c,.slice x y z] 48::L)):=hide (h.out.alloc hq _ _)
theorem yV (h:Hid (Fr B w (r::L))) (q:Nat) (k m:Int) (a:Option Addr) (n c:Nat) (x:Option Addr) (y z:Nat) (hq:w.heap.size=q:=by first|simp|rfl):Hid (Fr B (w.alloc (.cells #[.int .i64 k,.int .i64 m,.slice a n c,.slice x y z] 48)) (r::.blk q #[.int .i64 k,.int .i64 m,.slice a n c,.slice x y z] 48::L)):=hide (h.out.alloc hq _ _).swap
theorem sV (h:Hid (Fr B w L)) (i:Nat) (k m:Int) (a:Option Addr) (n c:Nat) (x:Option Addr) (y z:Nat) {T : TypeId} (hi:L[i]?=some (.blk q #[x0,x1,x2,x3] T):=by exact rfl):Hid (Fr B ((((w.setCell ⟨q,0,none⟩ (.int .i64 k)).setCell ⟨q,1,none⟩ (.int .i64 m)).setCell ⟨q,2,none⟩ (.slice a n c)).setCell ⟨q,3,none⟩ (.slice x y z)) (L.set i (.blk q #[.int .i64 k,.int .i64 m,.slice a n c,.slice x y z] T))):=hide (h.out.nd4 i hi (.int .i64 k) (.int .i64 m) (.slice a n c) (.slice x y z))
end
section
variable {r : Rs}
theorem cf (h:Hid (Fr B w L)) (i:Nat) {cs : Array Value} {T : TypeId} (hi:L[i]?=some (.blk q cs T):=by exact rfl):(∀o,w.cell? ⟨q,o,none⟩=cs[o]?)∧∀o,w.frozen? ⟨q,o,none⟩=false:=⟨h.out.cell i hi,h.out.frz i hi⟩
theorem ax (h:Hid (Fr B w L)) (q:Nat) (cs:Array Value) (T:TypeId) (hq:w.heap.size=q:=by first|simp|rfl):Hid (Fr B (w.alloc (.cells cs T)) (.blk q cs T::L)):=hide (h.out.alloc hq _ _)
theorem bx (h:Hid (Fr B w (r::L))) (q:Nat) (cs:Array Value) (T:TypeId) (hq:w.heap.size=q:=by first|simp|rfl):Hid (Fr B (w.alloc (.cells cs T)) (r::.blk q cs T::L)):=hide (h.out.alloc hq _ _).swap
end
section
variable {r : Rs}
theorem aM (h:Hid (Fr B w L)) (q:Nat) (n:Nd) (a:Option Addr) (c:Nat) (hq:w.heap.size=q:=by first|simp|rfl):Hid (Fr B (w.alloc (.cells #[.int .i64 n.kind,.string n.text,.int .i64 n.num,.slice a n.kids.length c] 52)) (.blk q #[.int .i64 n.kind,.string n.text,.int .i64 n.num,.slice a n.kids.length c] 52::L)):=hide (h.out.alloc hq _ _)
theorem yM (h:Hid (Fr B w (r::L))) (q:Nat) (n:Nd) (a:Option Addr) (c:Nat) (hq:w.heap.size=q:=by first|simp|rfl):Hid (Fr B (w.alloc (.cells #[.int .i64 n.kind,.string n.text,.int .i64 n.num,.slice a n.kids.length c] 52)) (r::.blk q #[.int .i64 n.kind,.string n.text,.int .i64 n.num,.slice a n.kids.length c] 52::L)):=hide (h.out.alloc hq _ _).swap
end
inductive Va
 | mk (kind:Int) (num:Int) (names:List ByteArray) (parts:List Va)
def Va.kind:Va→Int|.mk k _ _ _=>k
def Va.num:Va→Int|.mk _ n _ _=>n
def Va.names:Va→List ByteArray|.mk _ _ l _=>l
def Va.parts:Va→List Va|.mk _ _ _ l=>l
def vZ:Va:=.mk 0 0 [] []
def vI (n:Int):Va:=.mk 1 n [] []
def vL (n:Int):Va:=.mk 2 n [] []
def vB (b:Bool):Va:=if b=true then vI 1 else vI 0
def numN (n:Nd):Va:=if n.kind=22 then vL n.num else vI (wrap32 n.num)
def negM (v:Va):Va:=if v.kind=2 then vL (wrap64 (-v.num)) else vI (wrap32 (-(wrap32 v.num)))
def opN (op a b:Int):Int:=
 if op=1 then wrap32 (a+b)
 else if op=2 then wrap32 (a - b)
 else if op=3 then wrap32 (a*b)
 else if op=4 then wrap32 ((a % 4294967296)*(b % 4294967296) / 4294967296)
 else if op=5 then (if b=0 then 0 else wrap32 (a.tdiv b))
 else if op=6 then (if b=0 then 0 else a.tmod b)
 else if op=7 then bits .and .i32 a b
 else if op=8 then bits .or .i32 a b
 else if op=9 then bits .xor .i32 a b
 else if op=10 then (if a<b then 1 else 0)
 else if op=11 then (if a % 4294967296<b % 4294967296 then 1 else 0)
 else if op=12 then (if a=b then 1 else 0)
 else 0
def opB (op b:Int):Bool:=
 if op=5 then (if b=0 then false else true)
 else if op=6 then (if b=0 then false else true)
 else if 1≤op∧op≤12 then true else false
def wdN (op a b:Int):Int:=
 if op=1 then wrap64 (a+b)
 else if op=2 then wrap64 (a - b)
 else if op=3 then wrap64 (a*b)
 else if op=7 then bits .and .i64 a b
 else if op=8 then bits .or .i64 a b
 else if op=9 then bits .xor .i64 a b
 else if op=10 then (if a<b then 1 else 0)
 else if op=12 then (if a=b then 1 else 0)
 else 0
def wdB (op:Int):Bool:=
 if op=1∨op=2∨op=3∨op=7∨op=8∨op=9∨op=10∨op=12 then true else false
def f7 (op:Int)(a b:Va):Va × Bool:=
 if a.kind=1 then (vI (opN op (wrap32 a.num) (wrap32 b.num)),opB op (wrap32 b.num))
 else if op=12∨op=10 then (vI (wrap32 (wdN op a.num b.num)),wdB op) else (vL (wdN op a.num b.num),wdB op)
def aQ (v:Va):List Int:=wrap32 v.num::if v.kind=2 then [wrap32 (v.num / 4294967296)] else []
def idxN:List ByteArray→ByteArray→Option Nat
 | [],_=>none
 | y::l,x=>if y=x then some 0 else (idxN l x).map (·+1)
def fieldM (v:Va)(x:ByteArray):Option Va:=(idxN v.names x).bind λ i=>v.parts[i]?
def withM:List ByteArray→Va→Va→Option Va
 | [],_,w=>some w
 | x::l,v,w=>(idxN v.names x).bind λ i=>(v.parts[i]?).bind λ q=>(withM l q w).map λ r=>.mk v.kind v.num v.names (v.parts.set i r)
structure Pm where
 steps:Nat
 out:List Int
 now:List Va
structure Th where
 node:Nd
 unit:Nat
 sign:ByteArray
abbrev NM:=ByteArray→Option Nat
structure Ui where
 node:Nd
 st:NM
 me:NM
structure Pg where
 us:List Ui
 ts:List Th
structure Cm where
 u:Ui
 bl:List NM
 lo:List Va
 be:List Int
inductive O (α:Type)
 | ok (x:α) (p:Pm)
 | ret (v:Va) (p:Pm)
 | fin (how:Int) (p:Pm)
 | stuck
def O.bind {α β:Type}(q:O α)(f:α→Pm→O β):O β:=match q with|.ok x p=>f x p|.ret v p=>.ret v p|.fin e p=>.fin e p|.stuck=>.stuck
def O.of {α:Type}(q:Option α)(p:Pm):O α:=match q with|some x=>.ok x p|none=>.stuck
def dH (f:Nat)(p:Pm):O Unit:=if p.steps=f then .fin 0 p else .ok () { p with steps:=p.steps+1 }
def dK:List NM→ByteArray→Option Nat
 | [],_=>none
 | m::l,x=>match m x with|some i=>some i|none=>dK l x
abbrev EvE:=Cm→Nd→Pm→O Va
abbrev EvS:=Cm→Nd→Pm→O Cm
def allL (e:Nd→Pm→O Va):List Va→List Nd→Pm→O (List Va)
 | acc,[],p=>.ok acc p
 | acc,x::l,p=>(e x p).bind λ v p=>allL e (acc++[v]) l p
def varM (c:Cm)(x:ByteArray)(p:Pm):Option Va:=match dK c.bl x with
 | some i=>c.lo[i]?
 | none=>(c.u.me x).bind λ i=>p.now[i]?
def dA (c:Cm)(x:ByteArray)(v:Va)(p:Pm):O Cm:=match dK c.bl x with
 | some i=>if i<c.lo.length then .ok { c with lo:=c.lo.set i v } p else .stuck
 | none=>match c.u.me x with
  | some i=>if i<p.now.length then .ok c { p with now:=p.now.set i v } else .stuck
  | none=>.stuck
def madeM (u:Ui)(x:ByteArray)(vs:List Va):Option Va:=(u.st x).bind λ i=>(u.node.kids[i]?).map λ d=>.mk 3 0 (d.kids.map Nd.text) vs
def fM (be:List Int)(n:Int):Va:=if n<0∨(be.length:Int)≤n then vI 0 else vI (be.getD n.toNat 0)
def aG (c:Cm)(n:Nd)(vs:List Va)(p:Pm):O Va:=
 if n.kind=23 then .of (varM c n.text p) p
 else if n.kind=26 then .of ((c.u.me n.text).map λ (i:Nat)=>Va.mk 4 (i:Int) [] []) p
 else if n.kind=27 then .of (madeM c.u n.text vs) p
 else if n.kind=33 then .ok (vI (wrap32 c.be.length)) p
 else if n.kind=24∨n.kind=28∨n.kind=29∨n.kind=30∨n.kind=31∨n.kind=32∨n.kind=34 then
  match vs with
  | []=>.stuck
  | v::l=>
   if n.kind=24 then .of (fieldM v n.text) p
   else if n.kind=28 then .ok (negM v) p
   else if n.kind=29 then .ok (vB (decide (v.num=0))) p
   else if n.kind=30 then .ok (vI (wrap32 v.num)) p
   else if n.kind=31 then .ok (vL v.num) p
   else if n.kind=34 then .ok (fM c.be v.num) p
   else match l with
    | []=>.stuck
    | w::_=>if (f7 n.num v w).2=true then .ok (f7 n.num v w).1 p else .fin 2 p
 else .ok (numN n) p
def fF (e:Nd→Pm→O Va)(c:Cm)(n:Nd)(p:Pm):O Int:=
 if n.kind=23∧dK c.bl n.text=none then .of ((c.u.me n.text).map λ (i:Nat)=>(i:Int)) p else (e n p).bind λ v p=>.ok v.num p
def eJ (s:EvS):Cm→List Nd→Pm→O Cm
 | c,[],p=>.ok c p
 | c,x::l,p=>(s c x p).bind λ c p=>eJ s c l p
def bY (s:EvS)(m:NM)(c:Cm)(n:Nd)(p:Pm):O Cm:=
 (eJ s { c with bl:=m::c.bl } n.kids p).bind λ d p=>if c.lo.length≤d.lo.length then .ok { d with bl:=c.bl,lo:=d.lo.take c.lo.length } p else .stuck
def bW:NM→Nat→List Nd→NM
 | m,_,[]=>m
 | m,k,x::l=>bW (putM m x.text k) (k+1) l
def noN:NM:=λ_=>none
def bM (pg:Pg)(s:EvS)(i:Int)(vs:List Va)(p:Pm):O Va:=
 if i<0 then .stuck else match pg.ts[i.toNat]? with
 | none=>.stuck
 | some t=>if t.node.kids.length<2∨vs.length<t.node.kids.length - 2 then .stuck else match pg.us[t.unit]? with
  | none=>.stuck
  | some u=>
   match bY s (bW noN 0 (t.node.kids.take (t.node.kids.length - 2))) ⟨u,[],vs.take (t.node.kids.length - 2),(vs.drop (t.node.kids.length - 2)).flatMap aQ⟩ (cY t.node.kids 1) p with
   | .ret v p=>.ok v p
   | .fin e p=>.fin e p
   | _=>.stuck
def exprSM (f:Nat)(pg:Pg)(e:EvE)(s:EvS)(c:Cm)(n:Nd)(p:Pm):O Va:=
 (dH f p).bind λ_ p=>
  if n.kind=25 then match n.kids with
   | []=>.stuck
   | x::l=>(fF (e c) c x p).bind λ i p=>(allL (e c) [] l p).bind λ vs p=>bM pg s i vs p
  else (allL (e c) [] n.kids p).bind λ vs p=>aG c n vs p
def eX:Nd→List ByteArray→Option (ByteArray × List ByteArray)
 | .mk k s _ [],acc=>if k=24 then none else some (s,acc)
 | .mk k s _ (x::_),acc=>if k=24 then eX x (s::acc) else some (s,acc)
def setM (c:Cm)(n:Nd)(v:Va)(p:Pm):O Cm:=match eX n [] with
 | none=>.stuck
 | some (x,l)=>match varM c x p with
  | none=>.stuck
  | some q=>match withM l q v with
   | none=>.stuck
   | some r=>dA c x r p
def putTop (c:Cm)(x:ByteArray)(v:Va):Option Cm:=match c.bl with
 | []=>none
 | m::l=>some { c with bl:=putM m x c.lo.length::l,lo:=c.lo++[v] }
def fV (e:EvE)(s:EvS)(n b:Nd):Nat→Cm→Pm→O Cm
 | 0,_,_=>.stuck
 | k+1,c,p=>(e c n p).bind λ v p=>if v.num=0 then .ok c p else (bY s noN c b p).bind λ c p=>fV e s n b k c p
def cB (f:Nat)(k:Nat)(e:EvE)(s:EvS)(c:Cm)(n:Nd)(p:Pm):O Cm:=
 (dH f p).bind λ_ p=>
  if n.kind=14∨n.kind=15 then match n.kids with
   | x::y::_=>(e c y p).bind λ v p=>if n.kind=14 then .of (putTop c n.text v) p else setM c x v p
   | _=>.stuck
  else if n.kind=16∨n.kind=17 then match n.kids with
   | x::y::l=>if n.kind=17 then fV e s x y k c p else (e c x p).bind λ v p=>if v.num=0 then (match l with|[]=>.ok c p|z::_=>bY s noN c z p) else bY s noN c y p
   | _=>.stuck
  else if n.kind=18∨n.kind=19∨n.kind=20 then match n.kids with
   | x::_=>(e c x p).bind λ v p=>if n.kind=18 then .ret v p else if n.kind=19 then .ok c { p with out:=p.out++aQ v } else .ok c p
   | _=>.stuck
  else .ok c p
def evM (f:Nat)(pg:Pg):Nat→EvE × EvS
 | 0=>(λ_ _ _=>.stuck,λ_ _ _=>.stuck)
 | N+1=>(exprSM f pg (evM f pg N).1 (evM f pg N).2,cB f (N+1) (evM f pg N).1 (evM f pg N).2)
abbrev vac (kind num:Int)(a:Option Addr)(n c:Nat)(pa:Option Addr)(pn pc:Nat):List Value:=[.int .i64 kind,.int .i64 num,.slice a n c,.slice pa pn pc]
inductive VaH (H:Snap):List Value→Va→Prop
 | mk (kind num:Int) (ns:List ByteArray) (ps:List Va) (a:Option Addr) (c:Nat) (pa:Option Addr) (pc g o:Nat) (cur:Array Value) (f:Nat × Nat) (E:Nat→List Value):-9223372036854775808≤num→num≤9223372036854775807→ps.length≤16000 →
   SlP StE (.slice a ns.length c) 9 1 ns H→ps.length≤pc→pc≤maxLen→(ps≠[]→pa=some ⟨g,o,none⟩∧H g=some (.cells cur 48 f)) →
   (∀j,j<ps.length→(E j).length=4)→(∀j i,j<ps.length→i<4→cur[o+j*4+i]?=(E j)[i]?)→(∀j (hj:j<ps.length),VaH H (E j) ps[j])→VaH H (vac kind num a ns.length c pa ps.length pc) (.mk kind num ns ps)
theorem sl_up {v : Value} {l : List α} (h:SlP E v e z l H) (hl:H.le H'):SlP E v e z l H':=by
 obtain⟨a,c,h1,h2,h3,h4⟩:=h;refine⟨a,c,h1,h2,h3,λ hne=>?_⟩;obtain⟨g,o,cur,f,e1,e2,e3⟩:=h4 hne;refine⟨g,o,cur,f,e1,hl _ _ e2,λ j hj=>?_⟩;obtain⟨cs,k1,k2,k3⟩:=e3 j hj;exact⟨cs,k1,k2,E.up H H' _ _ k3 hl⟩
theorem VaH.up {cs : List Value} {v : Va} (h:VaH H cs v) (hl:H.le H'):VaH H' cs v:=by
 induction h with
 | mk kind num ns ps a c pa pc g o cur f E r1 r2 r3 h1 h2 h3 h4 h5 h6 _ ih=>exact .mk kind num ns ps a c pa pc g o cur f E r1 r2 r3 (sl_up h1 hl) h2 h3 (λ hne=>⟨(h4 hne).1,hl _ _ (h4 hne).2⟩) h5 h6 ih
def VaE:El Va:=⟨λ H cs v=>VaH H cs v,λ_ _ _ _ h hl=>h.up hl⟩
theorem VaH.of_sl {ps : List Va} (h1:SlP StE (.slice a n c) 9 1 ns H) (h2:SlP VaE (.slice pa pn pc) 48 4 ps H) (kind num:Int) (r1:-9223372036854775808≤num) (r2:num≤9223372036854775807) (r3:ps.length≤16000):VaH H (vac kind num a n c pa pn pc) (.mk kind num ns ps):=by
 obtain⟨a',c',e,k2,k3,k4⟩:=h1;cases e;obtain⟨pa',pc',e,q2,q3,q4⟩:=h2;cases e;by_cases hne:ps=[]
 ·subst hne;exact .mk kind num ns [] a c pa pc 0 0 #[] (0,0) (λ_=>[]) r1 r2 r3 ⟨a,c,rfl,k2,k3,k4⟩ q2 q3 (λ h=>absurd rfl h) (λ j hj=>absurd hj (Nat.not_lt_zero _)) (λ j i hj=>absurd hj (Nat.not_lt_zero _)) λ j hj=>absurd hj (Nat.not_lt_zero _)
 obtain⟨g,o,cur,f,e1,e2,e3⟩:=q4 hne;refine .mk kind num ns ps a c pa pc g o cur f (λ j=>if hj:j<ps.length then (e3 j hj).choose else []) r1 r2 r3 ⟨a,c,rfl,k2,k3,k4⟩ q2 q3 (λ_=>⟨e1,e2⟩) (λ j hj=>?_) (λ j i hj hi=>?_) λ j hj=>?_
 ·rw[dif_pos hj];exact (e3 j hj).choose_spec.1
 ·rw[dif_pos hj];exact (e3 j hj).choose_spec.2.1 i hi
 rw[dif_pos hj];exact (e3 j hj).choose_spec.2.2
theorem VaH.parts {cs : List Value} {v : Va} (h:VaH H cs v):∃a c pa pc,cs=vac v.kind v.num a v.names.length c pa v.parts.length pc∧-9223372036854775808≤v.num∧v.num≤9223372036854775807∧v.parts.length≤16000∧SlP StE (.slice a v.names.length c) 9 1 v.names H∧SlP VaE (.slice pa v.parts.length pc) 48 4 v.parts H:=by
 cases h with
 | mk kind num ns ps a c pa pc g o cur f E r1 r2 r3 h1 h2 h3 h4 h5 h6 h7=>
  exact⟨a,c,pa,pc,rfl,r1,r2,r3,h1,pa,pc,rfl,h2,h3,λ hne=>⟨g,o,cur,f,(h4 hne).1,(h4 hne).2,λ j hj=>⟨E j,h5 j hj,λ i hi=>h6 j i hj hi,h7 j hj⟩⟩⟩
theorem Fr.vaOf (h:Fr B w L) (i j:Nat) {ps : List Va} (hi:L[i]?=some (.sl StE (.slice a n c) 9 1 ns)) (hj:L[j]?=some (.sl VaE (.slice pa pn pc) 48 4 ps)) (kind num:Int) (r1:-9223372036854775808≤num) (r2:num≤9223372036854775807) (r3:ps.length≤16000):Fr B w (.el VaE (vac kind num a n c pa pn pc) (.mk kind num ns ps)::L):=
 h.know (K:=[_]) λ H w hr k hk=>by
  obtain rfl:=List.mem_singleton.1 hk;exact⟨VaH.of_sl (hr _ (List.mem_of_getElem? hi)) (hr _ (List.mem_of_getElem? hj)) _ _ r1 r2 r3,λ q hq=>hq⟩
theorem Fr.vaBare (h:Fr B w L) (kind num:Int) (r1:-9223372036854775808≤num) (r2:num≤9223372036854775807):Fr B w (.el VaE (vac kind num none 0 0 none 0 0) (.mk kind num [] [])::L):=by
 have h1:=(h.noEls VaE 48 4).give 0 rfl;have h2:=(h1.noEls StE 9 1).give 0 rfl;exact (h2.vaOf 0 1 rfl rfl kind num r1 r2 (by simp)).lose
theorem Fr.vaForm (h:Fr B w L) (i:Nat) {cs : List Value} {v : Va} (hi:L[i]?=some (.el VaE cs v)):∃a c pa pc,cs=vac v.kind v.num a v.names.length c pa v.parts.length pc∧-9223372036854775808≤v.num∧v.num≤9223372036854775807:=by
 obtain⟨H,h,-⟩:=h.get hi;obtain⟨a,c,pa,pc,e,r1,r2,_⟩:=VaH.parts h;exact⟨a,c,pa,pc,e,r1,r2⟩
theorem Fr.vaLen (h:Fr B w L) (i:Nat) {cs : List Value} {v : Va} (hi:L[i]?=some (.el VaE cs v)):v.parts.length≤16000:=by
 obtain⟨H,h,-⟩:=h.get hi;obtain⟨a,c,pa,pc,e,r1,r2,r3,_⟩:=VaH.parts h;exact r3
theorem Fr.vaParts (h:Fr B w L) (i:Nat) {k m : Int} {v : Va} (hi:L[i]?=some (.el VaE (vac k m a n c pa pn pc) v)):Fr B w (.sl StE (.slice a n c) 9 1 v.names::.sl VaE (.slice pa pn pc) 48 4 v.parts::L):=
 h.know (K:=[_,_]) λ H w hr x hx=>by
  obtain⟨a',c',pa',pc',e,_,_,_,q1,q2⟩:=VaH.parts (show VaH H _ _ from hr _ (List.mem_of_getElem? hi));cases e;rcases List.mem_cons.1 hx with rfl|hx
  ·exact⟨q1,λ q hq=>hq⟩
  obtain rfl:=List.mem_singleton.1 hx;exact⟨q2,λ q hq=>hq⟩
def VNat:VE Nat:=⟨λ_ v n=>v=.int .i64 n,λ_ _ _ _ h _=>h⟩
abbrev zN:Value:=.int .i64 0
def SmP (mb:Nat)(f:NM)(H:Snap):Prop:=∃w0 N,(Rs.mp zN VNat mb N f).ok H w0∧w0.heap[mb]?=H mb
theorem SmP.up {f : NM} (h:SmP mb f H) (hl:H.le H'):SmP mb f H':=by
 obtain⟨w0,N,h1,h2⟩:=h;have hlt:=(Rs.mp zN VNat mb N f).lt H w0 h1 mb rfl;refine⟨w0,N,(Rs.mp zN VNat mb N f).keep H w0 H' w0 h1 hl λ_ _=>rfl,?_⟩;rw[Array.getElem?_eq_getElem hlt] at h2 ⊢;exact (hl _ _ h2.symm).symm
def Rs.sm (mb:Nat)(f:NM):Rs:=.fact ⟨SmP mb f,λ_ _ h hl=>h.up hl⟩
theorem Fr.giveMp (h:Fr B w L) (i:Nat) {f : NM} (hi:L[i]?=some (.mp zN VNat mb N f)):Fr B w (L.set i (.sm mb f)):=by
 obtain⟨H,h⟩:=h;have hok:=h.ok _ (List.mem_of_getElem? hi);have hlt:=(Rs.mp zN VNat mb N f).lt H w hok mb rfl;refine⟨_,h.giveOne i hi (g:=mb) rfl (Array.getElem?_eq_getElem hlt) ⟨w,N,?_,?_⟩ λ q hq=>hq⟩
 ·exact (Rs.mp zN VNat mb N f).keep H w _ w hok (Snap.le_add (h.lo _ (List.mem_of_getElem? hi) mb rfl).2) λ_ _=>rfl
 rw[Snap.add_at,Array.getElem?_eq_getElem hlt]
theorem u40:prog.underlying 40=some (.map 9 3):=underlying40
theorem z3 (w:World):(zeroValue 3).run prog w=.ok zN w:=zeroValue3 w
theorem np_look {f : NM} (h:(Rs.mp zN VNat mb N f).ok H w) (s:ByteArray) (hs:s.size≤maxLen):
  (Instr.lookup 40 (.map (some mb)) (.string s) true).run prog w=.ok (.tuple #[.int .i64 ((f s).getD 0:Nat),.bool (f s).isSome]) w∧(Instr.lookup 40 (.map (some mb)) (.string s) false).run prog w=.ok (.int .i64 ((f s).getD 0:Nat)) w:=by
 have hlt:=(Rs.mp zN VNat mb N f).lt H w h mb rfl;have hF:Fr ⟨0,w⟩ w [.mp zN VNat mb N f]:=⟨λ_=>none,Below.refl _ _,Nat.zero_le _,λ q o e=>(by cases e),λ r hr=>by
  rw[List.mem_singleton.1 hr];obtain⟨D,k,h1,h2,h3,h4,h5,h6⟩:=h;exact⟨D,k,h1,h2,h3,h4,h5,h6⟩,λ r hr q hq=>⟨Nat.zero_le _,rfl⟩,by simp⟩
 obtain⟨v,h1,h2,h3⟩:=hF.mpLook 0 rfl 40 3 u40 z3 s hs;obtain⟨h4,h5⟩:=h1 w rfl;cases e:f s with
 | none=>
  rw[h2 e,e] at h4;rw[h2 e] at h5;exact⟨h4,h5⟩
 | some x=>
  obtain⟨H',h6,-⟩:=(h3 x e).get (i:=0) rfl;have h6:v=.int .i64 x:=h6;rw[h6,e] at h4;rw[h6] at h5;exact⟨h4,h5⟩
theorem Fr.npLook (h:Fr B w L) (i:Nat) {f : NM} (hi:L[i]?=some (.mp zN VNat mb N f)) (s:ByteArray) (hs:s.size≤maxLen):
  (Instr.lookup 40 (.map (some mb)) (.string s) true).run prog w=.ok (.tuple #[.int .i64 ((f s).getD 0:Nat),.bool (f s).isSome]) w∧(Instr.lookup 40 (.map (some mb)) (.string s) false).run prog w=.ok (.int .i64 ((f s).getD 0:Nat)) w:=by
 obtain⟨H,h,-⟩:=h.get hi;exact np_look h s hs
theorem Fr.smLook (h:Fr B w L) (i:Nat) {f : NM} (hi:L[i]?=some (.sm mb f)) (s:ByteArray) (hs:s.size≤maxLen):
  (Instr.lookup 40 (.map (some mb)) (.string s) true).run prog w=.ok (.tuple #[.int .i64 ((f s).getD 0:Nat),.bool (f s).isSome]) w∧(Instr.lookup 40 (.map (some mb)) (.string s) false).run prog w=.ok (.int .i64 ((f s).getD 0:Nat)) w:=by
 obtain⟨H,⟨w0,N,h1,h2⟩,hs'⟩:=h.get hi;have hlt:=(Rs.mp zN VNat mb N f).lt H w0 h1 mb rfl;refine np_look (H:=H) ((Rs.mp zN VNat mb N f).keep H w0 H w h1 (Snap.le.refl H) λ q hq=>?_) s hs;obtain rfl:q=mb:=hq;rw[Array.getElem?_eq_getElem hlt] at h2 ⊢;exact hs' _ _ h2.symm
def UiE:El Ui:=⟨λ H cs u=>∃x0 x1 x2 x3 sg nu m1 m2,cs=[x0,x1,x2,x3,sg,nu,.map (some m1),.map (some m2)]∧NdH H [x0,x1,x2,x3] u.node∧SmP m1 u.st H∧SmP m2 u.me H,
 λ H H' cs u h hl=>by
  obtain⟨x0,x1,x2,x3,sg,nu,m1,m2,h1,h2,h3,h4⟩:=h;exact⟨x0,x1,x2,x3,sg,nu,m1,m2,h1,h2.up hl,h3.up hl,h4.up hl⟩⟩
def ThE:El (Th × Va):=⟨λ H cs t=>∃x0 x1 x2 x3 y0 y1 y2 y3,cs=[x0,x1,x2,x3,.int .i64 t.1.unit,.string t.1.sign,y0,y1,y2,y3]∧NdH H [x0,x1,x2,x3] t.1.node∧VaH H [y0,y1,y2,y3] t.2,
 λ H H' cs u h hl=>by
  obtain⟨x0,x1,x2,x3,y0,y1,y2,y3,h1,h2,h3⟩:=h;exact⟨x0,x1,x2,x3,y0,y1,y2,y3,h1,h2.up hl,h3.up hl⟩⟩
def I32E:El Int:=⟨λ_ cs n=>cs=[.int .i32 n]∧-2147483648≤n∧n≤2147483647,λ_ _ _ _ h _=>h⟩
theorem mul_bound {x y m k : Int} (hx:0≤x) (hy:0≤y) (hm:x≤m) (hk:y≤k):0≤x*y∧x*y≤m*k:=
 ⟨Int.mul_nonneg hx hy,Int.mul_le_mul hm hk hy (by omega)⟩
theorem aE {k : IntKind} {a b : Int} {c d : Bool} (h:a=b) (g:c=d):Ending.returned (.tuple #[.int k a,.bool c])=.returned (.tuple #[.int k b,.bool d]):=by rw[h,g]
theorem wop1 (a b:Int) (w:World) (h0:-2147483648≤a) (h1:a≤2147483647) (h2:-2147483648≤b) (h3:b≤2147483647):
  Calls prog 118 #[.int .i64 1,.int .i32 a,.int .i32 b] w λ e w'=>e=.returned (.tuple #[.int .i32 (opN 1 a b),.bool (opB 1 b)])∧w'=w:=by
 go_enter func118,ntmps118;go_wp2;go_ret2
 exact⟨aE (rfl) rfl,rfl⟩
theorem wop2 (a b:Int) (w:World) (h0:-2147483648≤a) (h1:a≤2147483647) (h2:-2147483648≤b) (h3:b≤2147483647):
  Calls prog 118 #[.int .i64 2,.int .i32 a,.int .i32 b] w λ e w'=>e=.returned (.tuple #[.int .i32 (opN 2 a b),.bool (opB 2 b)])∧w'=w:=by
 go_enter func118,ntmps118;go_wp2;go_ret2
 exact⟨aE (rfl) rfl,rfl⟩
theorem wop3 (a b:Int) (w:World) (h0:-2147483648≤a) (h1:a≤2147483647) (h2:-2147483648≤b) (h3:b≤2147483647):
  Calls prog 118 #[.int .i64 3,.int .i32 a,.int .i32 b] w λ e w'=>e=.returned (.tuple #[.int .i32 (opN 3 a b),.bool (opB 3 b)])∧w'=w:=by
 go_enter func118,ntmps118;go_wp2;go_ret2
 exact⟨aE (rfl) rfl,rfl⟩
theorem wop4 (a b:Int) (w:World) (h0:-2147483648≤a) (h1:a≤2147483647) (h2:-2147483648≤b) (h3:b≤2147483647):
  Calls prog 118 #[.int .i64 4,.int .i32 a,.int .i32 b] w λ e w'=>e=.returned (.tuple #[.int .i32 (opN 4 a b),.bool (opB 4 b)])∧w'=w:=by
 obtain⟨p0,p1⟩:=mul_bound (x:=a % 4294967296) (y:=b % 4294967296) (m:=4294967295) (k:=4294967295) (by omega) (by omega) (by omega) (by omega);go_enter func118,ntmps118;go_wp2;go_ret2
 exact⟨aE (rfl) rfl,rfl⟩
theorem wop5 (a b:Int) (w:World) (h0:-2147483648≤a) (h1:a≤2147483647) (h2:-2147483648≤b) (h3:b≤2147483647):
  Calls prog 118 #[.int .i64 5,.int .i32 a,.int .i32 b] w λ e w'=>e=.returned (.tuple #[.int .i32 (opN 5 a b),.bool (opB 5 b)])∧w'=w:=by
 by_cases c:b=0
 ·go_enter func118,ntmps118;go_wp2;go_ret2
  exact⟨aE (by simp [opN,c]) (by simp [opB,c]),rfl⟩
 have hb:(b == 0)=false:=beq_eq_false_iff_ne.2 c;go_enter func118,ntmps118;go_wp2;go_ret2
 exact⟨aE (by simp [opN,c]) (by simp [opB,c]),rfl⟩
theorem wop6 (a b:Int) (w:World) (h0:-2147483648≤a) (h1:a≤2147483647) (h2:-2147483648≤b) (h3:b≤2147483647):
  Calls prog 118 #[.int .i64 6,.int .i32 a,.int .i32 b] w λ e w'=>e=.returned (.tuple #[.int .i32 (opN 6 a b),.bool (opB 6 b)])∧w'=w:=by
 by_cases c:b=0
 ·go_enter func118,ntmps118;go_wp2;go_ret2
  exact⟨aE (by simp [opN,c]) (by simp [opB,c]),rfl⟩
 have hb:(b == 0)=false:=beq_eq_false_iff_ne.2 c;go_enter func118,ntmps118;go_wp2;go_ret2
 exact⟨aE (by simp [opN,c]) (by simp [opB,c]),rfl⟩
theorem wop7 (a b:Int) (w:World) (h0:-2147483648≤a) (h1:a≤2147483647) (h2:-2147483648≤b) (h3:b≤2147483647):
  Calls prog 118 #[.int .i64 7,.int .i32 a,.int .i32 b] w λ e w'=>e=.returned (.tuple #[.int .i32 (opN 7 a b),.bool (opB 7 b)])∧w'=w:=by
 go_enter func118,ntmps118;go_wp2;go_ret2
 exact⟨aE (rfl) rfl,rfl⟩
theorem wop8 (a b:Int) (w:World) (h0:-2147483648≤a) (h1:a≤2147483647) (h2:-2147483648≤b) (h3:b≤2147483647):
  Calls prog 118 #[.int .i64 8,.int .i32 a,.int .i32 b] w λ e w'=>e=.returned (.tuple #[.int .i32 (opN 8 a b),.bool (opB 8 b)])∧w'=w:=by
 go_enter func118,ntmps118;go_wp2;go_ret2
 exact⟨aE (rfl) rfl,rfl⟩
theorem wop9 (a b:Int) (w:World) (h0:-2147483648≤a) (h1:a≤2147483647) (h2:-2147483648≤b) (h3:b≤2147483647):
  Calls prog 118 #[.int .i64 9,.int .i32 a,.int .i32 b] w λ e w'=>e=.returned (.tuple #[.int .i32 (opN 9 a b),.bool (opB 9 b)])∧w'=w:=by
 go_enter func118,ntmps118;go_wp2;go_ret2
 exact⟨aE (rfl) rfl,rfl⟩
theorem wop10 (a b:Int) (w:World) (h0:-2147483648≤a) (h1:a≤2147483647) (h2:-2147483648≤b) (h3:b≤2147483647):
  Calls prog 118 #[.int .i64 10,.int .i32 a,.int .i32 b] w λ e w'=>e=.returned (.tuple #[.int .i32 (opN 10 a b),.bool (opB 10 b)])∧w'=w:=by
 by_cases c:a<b
 ·go_enter func118,ntmps118;go_wp2;go_ret2
  exact⟨aE (by simp [opN,c]) (rfl),rfl⟩
 go_enter func118,ntmps118;go_wp2;go_ret2
 exact⟨aE (by simp [opN];omega) (rfl),rfl⟩
theorem wop11 (a b:Int) (w:World) (h0:-2147483648≤a) (h1:a≤2147483647) (h2:-2147483648≤b) (h3:b≤2147483647):
  Calls prog 118 #[.int .i64 11,.int .i32 a,.int .i32 b] w λ e w'=>e=.returned (.tuple #[.int .i32 (opN 11 a b),.bool (opB 11 b)])∧w'=w:=by
 by_cases c:a % 4294967296<b % 4294967296
 ·go_enter func118,ntmps118;go_wp2;go_ret2
  exact⟨aE (by simp [opN,c]) (rfl),rfl⟩
 go_enter func118,ntmps118;go_wp2;go_ret2
 exact⟨aE (by simp [opN];omega) (rfl),rfl⟩
theorem wop12 (a b:Int) (w:World) (h0:-2147483648≤a) (h1:a≤2147483647) (h2:-2147483648≤b) (h3:b≤2147483647):
  Calls prog 118 #[.int .i64 12,.int .i32 a,.int .i32 b] w λ e w'=>e=.returned (.tuple #[.int .i32 (opN 12 a b),.bool (opB 12 b)])∧w'=w:=by
 by_cases c:a=b
 ·go_enter func118,ntmps118;go_wp2;go_ret2
  exact⟨aE (by simp [opN,c]) (rfl),rfl⟩
 have hb:(a == b)=false:=beq_eq_false_iff_ne.2 c;go_enter func118,ntmps118;go_wp2;go_ret2
 exact⟨aE (by simp [opN,c]) (rfl),rfl⟩
theorem wopx (op a b:Int) (w:World) (h0:-2147483648≤a) (h1:a≤2147483647) (h2:-2147483648≤b) (h3:b≤2147483647) (h:¬ (1≤op∧op≤12)):
  Calls prog 118 #[.int .i64 op,.int .i32 a,.int .i32 b] w λ e w'=>e=.returned (.tuple #[.int .i32 (opN op a b),.bool (opB op b)])∧w'=w:=by
 have F1:opN op a b=0:=by unfold opN;repeat (rw[if_neg (by omega)])
 have F2:opB op b=false:=by unfold opB;repeat (rw[if_neg (by omega)])
 rw[F1,F2];clear F1 F2;have c1:(op == 1)=false:=beq_eq_false_iff_ne.2 (by omega);have c2:(op == 2)=false:=beq_eq_false_iff_ne.2 (by omega);have c3:(op == 3)=false:=beq_eq_false_iff_ne.2 (by omega);have c4:(op == 4)=false:=beq_eq_false_iff_ne.2 (by omega);have c5:(op == 5)=false:=beq_eq_false_iff_ne.2 (by omega);have c6:(op == 6)=false:=beq_eq_false_iff_ne.2 (by omega);have c7:(op == 7)=false:=beq_eq_false_iff_ne.2 (by omega);have c8:(op == 8)=false:=beq_eq_false_iff_ne.2 (by omega);have c9:(op == 9)=false:=beq_eq_false_iff_ne.2 (by omega);have c10:(op == 10)=false:=beq_eq_false_iff_ne.2 (by omega);have c11:(op == 11)=false:=beq_eq_false_iff_ne.2 (by omega);have c12:(op == 12)=false:=beq_eq_false_iff_ne.2 (by omega);clear h;go_enter func118,ntmps118;go_wp2;go_ret2
 exact⟨rfl,rfl⟩
theorem wop_any (op a b:Int) (w:World) (h0:-2147483648≤a) (h1:a≤2147483647) (h2:-2147483648≤b) (h3:b≤2147483647):
  Calls prog 118 #[.int .i64 op,.int .i32 a,.int .i32 b] w λ e w'=>e=.returned (.tuple #[.int .i32 (opN op a b),.bool (opB op b)])∧w'=w:=by
 by_cases c1:op=1
 ·subst c1;exact wop1 a b w h0 h1 h2 h3
 by_cases c2:op=2
 ·subst c2;exact wop2 a b w h0 h1 h2 h3
 by_cases c3:op=3
 ·subst c3;exact wop3 a b w h0 h1 h2 h3
 by_cases c4:op=4
 ·subst c4;exact wop4 a b w h0 h1 h2 h3
 by_cases c5:op=5
 ·subst c5;exact wop5 a b w h0 h1 h2 h3
 by_cases c6:op=6
 ·subst c6;exact wop6 a b w h0 h1 h2 h3
 by_cases c7:op=7
 ·subst c7;exact wop7 a b w h0 h1 h2 h3
 by_cases c8:op=8
 ·subst c8;exact wop8 a b w h0 h1 h2 h3
 by_cases c9:op=9
 ·subst c9;exact wop9 a b w h0 h1 h2 h3
 by_cases c10:op=10
 ·subst c10;exact wop10 a b w h0 h1 h2 h3
 by_cases c11:op=11
 ·subst c11;exact wop11 a b w h0 h1 h2 h3
 by_cases c12:op=12
 ·subst c12;exact wop12 a b w h0 h1 h2 h3
 exact wopx op a b w h0 h1 h2 h3 (by omega)
theorem wwide1 (a b:Int) (w:World) (h0:-9223372036854775808≤a) (h1:a≤9223372036854775807) (h2:-9223372036854775808≤b) (h3:b≤9223372036854775807):
  Calls prog 119 #[.int .i64 1,.int .i64 a,.int .i64 b] w λ e w'=>e=.returned (.tuple #[.int .i64 (wdN 1 a b),.bool (wdB 1)])∧w'=w:=by
 go_enter func119,ntmps119;go_wp2;go_ret2
 exact⟨aE (rfl) (rfl),rfl⟩
theorem wwide2 (a b:Int) (w:World) (h0:-9223372036854775808≤a) (h1:a≤9223372036854775807) (h2:-9223372036854775808≤b) (h3:b≤9223372036854775807):
  Calls prog 119 #[.int .i64 2,.int .i64 a,.int .i64 b] w λ e w'=>e=.returned (.tuple #[.int .i64 (wdN 2 a b),.bool (wdB 2)])∧w'=w:=by
 go_enter func119,ntmps119;go_wp2;go_ret2
 exact⟨aE (rfl) (rfl),rfl⟩
theorem wwide3 (a b:Int) (w:World) (h0:-9223372036854775808≤a) (h1:a≤9223372036854775807) (h2:-9223372036854775808≤b) (h3:b≤9223372036854775807):
  Calls prog 119 #[.int .i64 3,.int .i64 a,.int .i64 b] w λ e w'=>e=.returned (.tuple #[.int .i64 (wdN 3 a b),.bool (wdB 3)])∧w'=w:=by
 go_enter func119,ntmps119;go_wp2;go_ret2
 exact⟨aE (rfl) (rfl),rfl⟩
theorem wwide7 (a b:Int) (w:World) (h0:-9223372036854775808≤a) (h1:a≤9223372036854775807) (h2:-9223372036854775808≤b) (h3:b≤9223372036854775807):
  Calls prog 119 #[.int .i64 7,.int .i64 a,.int .i64 b] w λ e w'=>e=.returned (.tuple #[.int .i64 (wdN 7 a b),.bool (wdB 7)])∧w'=w:=by
 go_enter func119,ntmps119;go_wp2;go_ret2
 exact⟨aE (rfl) (rfl),rfl⟩
theorem wwide8 (a b:Int) (w:World) (h0:-9223372036854775808≤a) (h1:a≤9223372036854775807) (h2:-9223372036854775808≤b) (h3:b≤9223372036854775807):
  Calls prog 119 #[.int .i64 8,.int .i64 a,.int .i64 b] w λ e w'=>e=.returned (.tuple #[.int .i64 (wdN 8 a b),.bool (wdB 8)])∧w'=w:=by
 go_enter func119,ntmps119;go_wp2;go_ret2
 exact⟨aE (rfl) (rfl),rfl⟩
theorem wwide9 (a b:Int) (w:World) (h0:-9223372036854775808≤a) (h1:a≤9223372036854775807) (h2:-9223372036854775808≤b) (h3:b≤9223372036854775807):
  Calls prog 119 #[.int .i64 9,.int .i64 a,.int .i64 b] w λ e w'=>e=.returned (.tuple #[.int .i64 (wdN 9 a b),.bool (wdB 9)])∧w'=w:=by
 go_enter func119,ntmps119;go_wp2;go_ret2
 exact⟨aE (rfl) (rfl),rfl⟩
theorem wwide10 (a b:Int) (w:World) (h0:-9223372036854775808≤a) (h1:a≤9223372036854775807) (h2:-9223372036854775808≤b) (h3:b≤9223372036854775807):
  Calls prog 119 #[.int .i64 10,.int .i64 a,.int .i64 b] w λ e w'=>e=.returned (.tuple #[.int .i64 (wdN 10 a b),.bool (wdB 10)])∧w'=w:=by
 by_cases c:a<b
 ·have hc:decide (a<b)=true:=by simpa using c
  go_enter func119,ntmps119;go_wp2;go_ret2
  exact⟨aE (by simp [wdN,c]) (rfl),rfl⟩
 have hc:decide (a<b)=false:=by simpa using c
 go_enter func119,ntmps119;go_wp2;go_ret2
 exact⟨aE (by simp [wdN,c]) (rfl),rfl⟩
theorem wwide12 (a b:Int) (w:World) (h0:-9223372036854775808≤a) (h1:a≤9223372036854775807) (h2:-9223372036854775808≤b) (h3:b≤9223372036854775807):
  Calls prog 119 #[.int .i64 12,.int .i64 a,.int .i64 b] w λ e w'=>e=.returned (.tuple #[.int .i64 (wdN 12 a b),.bool (wdB 12)])∧w'=w:=by
 by_cases c:a=b
 ·subst c;go_enter func119,ntmps119;go_wp2;go_ret2
  exact⟨aE (by simp [wdN]) (rfl),rfl⟩
 have hc:(a == b)=false:=beq_eq_false_iff_ne.2 c;go_enter func119,ntmps119;go_wp2;go_ret2
 exact⟨aE (by simp [wdN,c]) (rfl),rfl⟩
theorem wwidex (op a b:Int) (w:World) (h0:-9223372036854775808≤a) (h1:a≤9223372036854775807) (h2:-9223372036854775808≤b) (h3:b≤9223372036854775807) (h:¬ (op=1∨op=2∨op=3∨op=7∨op=8∨op=9∨op=10∨op=12)):
  Calls prog 119 #[.int .i64 op,.int .i64 a,.int .i64 b] w λ e w'=>e=.returned (.tuple #[.int .i64 (wdN op a b),.bool (wdB op)])∧w'=w:=by
 have F1:wdN op a b=0:=by unfold wdN;repeat (rw[if_neg (by omega)])
 have F2:wdB op=false:=by unfold wdB;rw[if_neg h]
 rw[F1,F2];clear F1 F2;have c1:(op == 1)=false:=beq_eq_false_iff_ne.2 (by omega);have c2:(op == 2)=false:=beq_eq_false_iff_ne.2 (by omega);have c3:(op == 3)=false:=beq_eq_false_iff_ne.2 (by omega);have c7:(op == 7)=false:=beq_eq_false_iff_ne.2 (by omega);have c8:(op == 8)=false:=beq_eq_false_iff_ne.2 (by omega);have c9:(op == 9)=false:=beq_eq_false_iff_ne.2 (by omega);have c10:(op == 10)=false:=beq_eq_false_iff_ne.2 (by omega);have c12:(op == 12)=false:=beq_eq_false_iff_ne.2 (by omega);clear h;go_enter func119,ntmps119;go_wp2;go_ret2
 exact⟨rfl,rfl⟩
theorem wwide_any (op a b:Int) (w:World) (h0:-9223372036854775808≤a) (h1:a≤9223372036854775807) (h2:-9223372036854775808≤b) (h3:b≤9223372036854775807):
  Calls prog 119 #[.int .i64 op,.int .i64 a,.int .i64 b] w λ e w'=>e=.returned (.tuple #[.int .i64 (wdN op a b),.bool (wdB op)])∧w'=w:=by
 by_cases c1:op=1
 ·subst c1;exact wwide1 a b w h0 h1 h2 h3
 by_cases c2:op=2
 ·subst c2;exact wwide2 a b w h0 h1 h2 h3
 by_cases c3:op=3
 ·subst c3;exact wwide3 a b w h0 h1 h2 h3
 by_cases c7:op=7
 ·subst c7;exact wwide7 a b w h0 h1 h2 h3
 by_cases c8:op=8
 ·subst c8;exact wwide8 a b w h0 h1 h2 h3
 by_cases c9:op=9
 ·subst c9;exact wwide9 a b w h0 h1 h2 h3
 by_cases c10:op=10
 ·subst c10;exact wwide10 a b w h0 h1 h2 h3
 by_cases c12:op=12
 ·subst c12;exact wwide12 a b w h0 h1 h2 h3
 exact wwidex op a b w h0 h1 h2 h3 (by omega)
theorem rt48 {t : Tmp} (h:fn.results=#[.cell t 48]) (ht:tmps.getD t undef=.pointer (some ⟨q,0,none⟩)) (hb:w.heap[q]?=some (.cells #[c0,c1,c2,c3] 48 (0,0))):(results fn tmps).run prog w=.ok (.agg #[c0,c1,c2,c3]) w:=by
 have ht':tmps[t]?.getD undef=.pointer (some ⟨q,0,none⟩):=by simpa using ht
 have hc:=aA hb;have hl:=(Array.getElem?_eq_some_iff.1 hb).1;simp [results,h,asAddr,ht',loadVar,go_sem,hc,hl]
abbrev vz:Array Value:=#[.int .i64 0,.int .i64 0,.slice none 0 0,.slice none 0 0]
def R64 (n:Int):Prop:=-9223372036854775808≤n∧n≤9223372036854775807
def PVa (B:Bs)(v:Va)(L:List Rs):Ending→World→Prop:=λ e w'=>∃a c pa pc,e=.returned (.agg #[.int .i64 v.kind,.int .i64 v.num,.slice a v.names.length c,.slice pa v.parts.length pc])∧R64 v.num∧Fr B w' (.el VaE (vac v.kind v.num a v.names.length c pa v.parts.length pc) v::L)
theorem PVa.bare {k n : Int} (hr:R64 n) (h:Fr B w L):PVa B (.mk k n [] []) L (.returned (.agg #[.int .i64 k,.int .i64 n,.slice none 0 0,.slice none 0 0])) w:=⟨none,0,none,0,rfl,hr,h.vaBare k n hr.1 hr.2⟩
theorem PVa.got {v : Va} (hr:R64 v.num) (h:Fr B w (.el VaE (vac v.kind v.num a v.names.length c pa v.parts.length pc) v::L)):PVa B v L (.returned (.agg #[.int .i64 v.kind,.int .i64 v.num,.slice a v.names.length c,.slice pa v.parts.length pc])) w:=⟨a,c,pa,pc,rfl,hr,h⟩
theorem aZ (n:Int):-2147483648≤wrap32 n∧wrap32 n≤2147483647:=by unfold wrap32;omega
theorem gB (n:Int):R64 (wrap64 n):=by unfold R64 wrap64;omega
theorem cC (h:Fr B w L) (n:Int) (h0:-2147483648≤n) (h1:n≤2147483647):Calls prog 40 #[.int .i32 n] w (PVa B (vI n) L):=by
 have HF:=h;clear h;go_enter func40,ntmps40;replace HF:=aV HF w.heap.size 1 n none 0 0 none 0 0;go_wp2;refine br (rt48 results40 rfl (HF.blkAt 0 rfl)) ?_;exact PVa.bare (by unfold R64;omega) HF.tail
theorem long_any (h:Fr B w L) (n:Int) (hr:R64 n):Calls prog 39 #[.int .i64 n] w (PVa B (vL n) L):=by
 have HF:=h;clear h;go_enter func39,ntmps39;replace HF:=aV HF w.heap.size 2 n none 0 0 none 0 0;go_wp2;refine br (rt48 results39 rfl (HF.blkAt 0 rfl)) ?_;exact PVa.bare hr HF.tail
theorem truth_any (h:Fr B w L) (b:Bool):Calls prog 90 #[.bool b] w (PVa B (vB b) L):=by
 have HF:=h;clear h;go_enter func90,ntmps90;replace HF:=ax HF w.heap.size vz 48;cases b
 ·go_wp2_with fail;go_at_call 40;refine (cC HF 0 (by omega) (by omega)).mono ?_;rintro e w1 ⟨a_v,c_v,pa_v,pc_v,rfl,r_v,HF⟩;obtain⟨c_r,f_r⟩:=cf HF 1;clear r_v;replace HF:=sV HF 1 (vI 0).kind (vI 0).num a_v (vI 0).names.length c_v pa_v (vI 0).parts.length pc_v;go_wp2;clear c_r f_r;refine br (rt48 results90 rfl (HF.blkAt 1 rfl)) ?_;exact PVa.got (v:=vI 0) (by unfold R64;decide) HF.tail2
 go_wp2_with fail;go_at_call 40;refine (cC HF 1 (by omega) (by omega)).mono ?_;rintro e w1 ⟨a_v,c_v,pa_v,pc_v,rfl,r_v,HF⟩;obtain⟨c_r,f_r⟩:=cf HF 1;clear r_v;replace HF:=sV HF 1 (vI 1).kind (vI 1).num a_v (vI 1).names.length c_v pa_v (vI 1).parts.length pc_v;go_wp2;clear c_r f_r;refine br (rt48 results90 rfl (HF.blkAt 1 rfl)) ?_;exact PVa.got (v:=vI 1) (by unfold R64;decide) HF.tail2
theorem Fr.slNil (E:El α) (h:Fr B w L) (e:TypeId) (z:Nat):Fr B w (.sl E (.slice none 0 0) e z []::L):=(h.noEls E e z).give 0 rfl
theorem may37 (h:Fr B w L) (i:Nat) {cs : List Value} {t : T.Ty} (hi:L[i]?=some (.el TyE cs t)):Calls prog 37 #[.agg cs.toArray] w λ e w'=>e=.returned (.bool (may t))∧Fr B w' L:=
 (T.pMay_any t _ w (h.tyAt i hi)).mono λ e w' h'=>⟨h'.1,h.call h'.2⟩
theorem same74 (h:Fr B w L) (i j:Nat) {cs ds : List Value} {t u : T.Ty} (hi:L[i]?=some (.el TyE cs t)) (hj:L[j]?=some (.el TyE ds u)):Calls prog 74 #[.agg cs.toArray,.agg ds.toArray] w λ e w'=>e=.returned (.bool (same t u))∧Fr B w' L:=
 (T.pSame_any t u _ _ w (h.tyAt i hi) (h.tyAt j hj)).mono λ e w' h'=>⟨h'.1,h.call h'.2⟩
def TypH (N:Nat):Prop:=∀(B:Bs) (w:World) (b:Nat) (p:CP) (s:Cs) (L:List Rs) (n:Nd) (a:Option Addr) (kn c i:Nat),Fr B w (.cs b p s::L)→L[i]?=some (.el NdE (ndc n.kind n.text n.num a kn c) n)→Tx n→Ty n→sz n≤N→s.k+sz n≤16000 →
  Calls prog 70 #[ptr b,.agg #[.int .i64 n.kind,.string n.text,.int .i64 n.num,.slice a kn c]] w (PTy (typN s.st N n s.k) (s.k+sz n) B b p s L)
theorem typ_leaf (N:Nat) {kn i : Nat} {n : Nd} (h:Fr B w (.cs b p s::L)) (hi:L[i]?=some (.el NdE (ndc n.kind n.text n.num a kn c) n)) (hx:Tx n) (hT:(∃k,(k=9∨k=10)∧n=.mk k eB 0 [])∨∃x,n=.mk 11 x 0 []) (hk:s.k+sz n≤16000):
  Calls prog 70 #[ptr b,.agg #[.int .i64 n.kind,.string n.text,.int .i64 n.num,.slice a kn c]] w (PTy (typN s.st (N+1) n s.k) (s.k+sz n) B b p s L):=by
 have hp:=fX n;rcases hT with⟨k,rfl|rfl,rfl⟩|⟨x,rfl⟩
 ·have h1:sz (.mk 9 eB 0 [])=1:=rfl;rw[h1] at hk ⊢;simp only[Nd.kind,Nd.text,Nd.num] at hi ⊢;have hi2:=h.dup (i+1) hi;have HF:=ah hi2.swap;clear h hi hi2;clear hx h1;go_enter func70,ntmps70;replace HF:=yN HF w.heap.size 9 eB 0 a kn c;replace HF:=bx HF (w.heap.size+1) tyz 83;go_wp2_with fail;go_at_call 48;refine (bA HF (by omega)).mono ?_;rintro e w1 ⟨rfl,v1,HF⟩;have c_n:=HF.cell 2 rfl;obtain⟨c_res,f_res⟩:=cf HF 1;replace HF:=sT HF 1 1 eB none 0 0 none 0 0 false;go_wp2;refine br (rt83 results70 rfl (HF.blkAt 1 rfl)) ?_;exact PTy.yes (t:=tI) (by simp +decide only [typN,typSC,Nd.kind,Nd.text,Nd.num,Nd.kids,↓reduceIte,reduceCtorEq]) may_tI ((HF.tyBare 1 (by omega)).swap.lose)
 ·have h1:sz (.mk 10 eB 0 [])=1:=rfl;rw[h1] at hk ⊢;simp only[Nd.kind,Nd.text,Nd.num] at hi ⊢;have hi2:=h.dup (i+1) hi;have HF:=ah hi2.swap;clear h hi hi2;clear hx h1;go_enter func70,ntmps70;replace HF:=yN HF w.heap.size 10 eB 0 a kn c;replace HF:=bx HF (w.heap.size+1) tyz 83;go_wp2_with fail;go_at_call 48;refine (bA HF (by omega)).mono ?_;rintro e w1 ⟨rfl,v1,HF⟩;have c_n:=HF.cell 2 rfl;obtain⟨c_res,f_res⟩:=cf HF 1;replace HF:=sT HF 1 2 eB none 0 0 none 0 0 false;go_wp2;refine br (rt83 results70 rfl (HF.blkAt 1 rfl)) ?_;exact PTy.yes (t:=tL) (by simp +decide only [typN,typSC,Nd.kind,Nd.text,Nd.num,Nd.kids,↓reduceIte,reduceCtorEq]) may_tL ((HF.tyBare 2 (by omega)).swap.lose)
 have h1:sz (.mk 11 x 0 [])=1:=rfl;rw[h1] at hk ⊢;have hx:x.size≤maxLen:=Nat.le_trans hx.text (by decide:4000≤maxLen);simp only[Nd.kind,Nd.text,Nd.num] at hi ⊢;have hi2:=h.dup (i+1) hi;have HF:=ah hi2.swap;clear h hi hi2;clear h1;go_enter func70,ntmps70;replace HF:=yN HF w.heap.size 11 x 0 a kn c;replace HF:=bx HF (w.heap.size+1) tyz 83;go_wp2_with fail;go_at_call 48;refine (bA HF (by omega)).mono ?_;rintro e w1 ⟨rfl,v1,HF⟩;have c_n:=HF.cell 2 rfl;go_wp2_with fail;clear c_n;go_at_call 104;refine (structOf_any HF x hx s.k).mono ?_;rintro e w2 (⟨c2,p2,h3,rfl,hf⟩|⟨t,v2,nm_t,a_t,c_t,pa_t,pc_t,h3,hm,rfl,hf⟩)
 ·exact⟨rfl,PTy.no (by simp +decide only [typN,typSC,Nd.kind,Nd.text,Nd.num,Nd.kids,h3,↓reduceIte,reduceCtorEq]) hf.lose⟩
 have H2:=ah h3;have HM_t:=ah hm;replace HF:=hf;clear h3 hf hm;obtain⟨c_res,f_res⟩:=cf HF 2;replace HF:=sT HF 2 (tyk t) nm_t a_t (tnn t) c_t pa_t (tpn t) pc_t (tmy t);go_wp2;refine br (rt83 results70 rfl (HF.blkAt 2 rfl)) ?_;exact PTy.yes (by simp +decide only [typN,typSC,Nd.kind,Nd.text,Nd.num,Nd.kids,H2.out,↓reduceIte,reduceCtorEq]) HM_t HF.lose
theorem dS:∀(l:List Nd),l.length≤szs l
 | []=>Nat.zero_le _
 | x::l=>by have:=dS l;have:=fX x;simp only[List.length_cons,szs];omega
theorem typ_all:∀(N:Nat),TypH N:=by
 intro N;induction N with
 | zero=>
  intro B w b p s L n a kn c i h hi hx hT hN hk;have:=fX n;omega
 | succ N ih=>
  intro B w b p s L n a kn c i h hi hx hT hN hk;cases hT with
  | base k hkk=>exact typ_leaf N h hi hx (Or.inl ⟨k,hkk,rfl⟩) hk
  | named x=>exact typ_leaf N h hi hx (Or.inr ⟨x,rfl⟩) hk
  | fn m l hm hne hl=>
   have hsz:sz (.mk 12 eB m l)=1+szs l:=rfl;rw[hsz] at hN hk ⊢;simp only[Nd.kind,Nd.text,Nd.num] at hi ⊢;have hi2:=h.dup (i+1) hi;obtain⟨rfl,-⟩:=hi2.kids 0 rfl;have HF:=ah hi2.swap;have HX:=ah hx.kids;have HTy:=ah hl;have HI:=ah ih;obtain⟨mb,hmb⟩:∃mb,mb=decide (m=1):=⟨_,rfl⟩
   have hmb2:(m == 1)=mb:=by rw[hmb];rfl
   have HE:Hid (typN s.st (N+1) (.mk 12 eB m l) s.k=(typsL (typN s.st N) [] l (s.k+1)).bind λ ps=>askC (may (mkTy 4 eB [] ps mb)) 1 s.k (.ok (mkTy 4 eB [] ps mb))):=by
    show _=_;rw[hmb];rfl
   clear h hi hi2 hx hl ih hsz hmb hm hne;go_enter func70,ntmps70;replace HF:=yN HF w.heap.size 12 eB m a l.length c;replace HF:=bx HF (w.heap.size+1) tyz 83;go_wp2_with fail;go_at_call 48;refine (bA HF (by omega)).mono ?_;rintro e w1 ⟨rfl,v1,HF⟩;have c_n:=HF.cell 2 rfl;replace HF:=yT HF w1.heap.size 4 eB none 0 0 none 0 0 mb;have c_n_:=HF.cell 3 rfl;go_wp2;clear c_n c_n_;generalize hqn:w.heap.size=qn at *;generalize hq6:w1.heap.size=q6 at *;obtain⟨qr,hqr⟩:∃qr,qr=qn+1:=⟨_,rfl⟩
   rw[← hqr] at HF ⊢;generalize hw:w1.alloc (.cells #[.int .i64 4,.string eB,.slice none 0 0,.slice none 0 0,.bool mb] 83)=w2 at *;go_loopw [33] (λ iv wr=>Hid (∃(j kj:Nat) (acc:List T.Ty) (V v:Value),j≤l.length∧iv=.int .i64 (j:Int)∧typsL (typN s.st N) [] l (s.k+1)=typsL (typN s.st N) acc (l.drop j) kj∧kj+szs (l.drop j)=s.k+1+szs l∧acc.length≤j∧Fr B wr (.cs b (p.at v) { s with k:=kj }::.blk q6 #[.int .i64 4,.string eB,.slice none 0 0,V,.bool mb] 83::.els TyE V 83 5 acc::.blk qr tyz 83::.blk qn #[.int .i64 12,.string eB,.int .i64 m,.slice a l.length c] 52::.el NdE (ndc 12 eB m a l.length c) (.mk 12 eB m l)::L))) (λ iv _=>l.length - (intOf iv).toNat)
   case atStart=>exact⟨0,s.k+1,[],.slice none 0 0,v1,Nat.zero_le _,rfl,rfl,rfl,Nat.le_refl _,(HF.noEls TyE 83 5).perm (List.Perm.trans (List.Perm.swap _ _ _) (List.Perm.cons _ (List.Perm.swap _ _ _)))⟩
   clear HF hqn hq6 hqr hw;obtain⟨j,kj,acc,V,v,hj,rfl,hW,hkj,hacc,hf⟩:=hrel.out;clear hrel;obtain⟨av,cv,rfl,-,-⟩:=hf.elsForm 2 rfl;have HW:=ah hW;clear hW;by_cases hlt:j<l.length
   ·obtain⟨g,o,a',n',c',rfl,-,hc1,hc2,e0,e1,e2,e3,hkd⟩:=hf.kidHere 5 rfl j hlt;have HY:Hid (l.drop j=l[j]::l.drop (j+1)):=eF hlt;have hy:l[j]∈l:=List.getElem_mem hlt;have hszy:szs (l.drop j)=sz l[j]+szs (l.drop (j+1)):=szs_at hlt;have hx:=HX _ hy;have hty:=HTy _ hy;have hszm:=eH hy;clear hy;generalize l[j]=y at *;have HF:=hkd.swap;have hli:(j:Int)<(l.length:Int):=by omega
    have HLT:=ah hlt;have hlen:=dS l;have HJ:Hid (wrap64 ((j:Int)+1)=(j:Int)+1):=by
     show _=_;unfold maxLen at hc2;unfold wrap64;omega
    clear hc1 hc2 hf hkd;replace HF:=yN HF wr.heap.size y.kind y.text y.num a' n' c';have c_t6:=HF.cell 3 rfl;go_wp2;clear c_t6;refine regK [8] HF (λ w h=>aI (h.cell 3 rfl) (h.cell 1 rfl)) (λ wd3 HF hC=>?_);clear e0 e1 e2 e3;refine tq4 0 1 2 3 ?_;refine rq 4 λ K hK=>?_;go_simp;refine (HI _ _ _ _ _ _ y _ _ _ 1 HF rfl hx hty (by omega) (by show kj+sz y≤16000;omega)).mono ?_;rintro e w4 (⟨c4,p4,h3,rfl,hf⟩|⟨t,v4,nm_t,a_t,c_t,pa_t,pc_t,h3,hm,rfl,hf⟩)
    ·have h3':typN s.st N y kj=.no c4 p4:=h3;exact⟨rfl,PTy.no (by rw[HE.out,HW.out,HY.out];simp only[typsL,h3',CR.bind]) hf.lose⟩
    have H4:Hid (typN s.st N y kj=.ok t):=ah h3;replace HF:=hf;clear h3 hf hm;refine uq hK ⟨(HF.cell 4 rfl),(HF.cell 2 rfl)⟩ λ hC=>?_;refine rq 5 λ K hK=>?_;go_simp;replace HF:=yT HF w4.heap.size (tyk t) nm_t a_t (tnn t) c_t pa_t (tpn t) pc_t (tmy t);refine uq hK ⟨(HF.cell 5 rfl),(HF.cell 3 rfl)⟩ λ hC=>?_;refine rq 6 λ K hK=>?_;refine fR (by rfl) (Fr.elAppN fZ underlying81 rfl (by decide) (by decide) (HF.perm (List.Perm.swap _ _ _)) 5 rfl acc.length (acc.length+1) rfl rfl (by omega) 1 rfl _ _ rfl rfl (by rfl) (by rfl) rfl λ g5 cap5 w5 hF=>?_);replace HF:=hF;clear hF;refine uq hK ⟨(HF.cell 4 rfl),(HF.cell 2 rfl)⟩ λ hC=>?_;refine tq 7 ?_;refine rqb 8 λ K hK=>?_;obtain⟨c_t6,f_t6⟩:=cf HF 4;replace HF:=HF.set 4 rfl 3 (.slice (some ⟨g5,0,none⟩) (acc.length+1) cap5);go_simp;refine ub hK ?_;refine dq ?_;go_wp2;go_roundw
    case rel=>exact⟨j+1,kj+sz y,acc++[t],.slice (some ⟨g5,0,none⟩) (acc.length+1) cap5,v4,HLT,by go_num,by rw[HW.out,HY.out];simp only[typsL,H4.out,CR.bind],by omega,by simp;omega,HF.lose⟩
    case measure=>exact aO HLT
   have hje:j=l.length:=by omega
   subst hje;have hli:¬ ((l.length:Nat):Int)<(l.length:Int):=by omega
   rw[List.drop_length] at HW hkj;have hkj':kj=s.k+(1+szs l):=by simp only[szs] at hkj;omega
   subst hkj';have HF:=hf.give 2 rfl;have HW2:Hid (typN s.st (N+1) (.mk 12 eB m l) s.k=askC (may (mkTy 4 eB [] acc mb)) 1 s.k (.ok (mkTy 4 eB [] acc mb))):=by
    show _=_;rw[HE.out,HW.out];rfl
   replace HF:=((HF.slNil StE 9 1).tyOf 0 3 rfl rfl 4 eB mb (by omega) (by omega) (by decide)).perm (List.Perm.trans (List.Perm.cons _ (List.Perm.swap _ _ _)) (List.Perm.swap _ _ _));clear hf HW hkj;have c_t6:=HF.cell 3 rfl;go_wp2_with fail;clear c_t6;go_at_call 37;refine (may37 HF 1 rfl).mono ?_;rintro e w3 ⟨rfl,HF⟩;cases hq:may (.mk 4 eB 0 (λ k=>([]:List ByteArray).getD k ⟨#[]⟩) acc.length (λ k=>acc.getD k .leaf) mb)
   ·have HQ:Hid (may (mkTy 4 eB [] acc mb)=false):=ah hq;clear hq;go_wp2_with fail;go_at_call 69;refine (aU HF 1 s.k).mono ?_;rintro e w4 ⟨rfl,HF⟩;exact⟨rfl,PTy.no (by rw[HW2.out,HQ.out];rfl) HF.lose⟩
   have HQ:Hid (may (mkTy 4 eB [] acc mb)=true):=ah hq;clear hq;go_wp2_with fail;go_at_call 69;refine (aL HF 1 s.k).mono ?_;rintro e w4 ⟨rfl,HF⟩;have c_t6:=HF.cell 3 rfl;obtain⟨c_res,f_res⟩:=cf HF 5;replace HF:=sT HF 5 4 eB none 0 0 av acc.length cv mb;go_wp2;refine br (rt83 results70 rfl (HF.blkAt 5 rfl)) ?_;exact PTy.yes (t:=mkTy 4 eB [] acc mb) (by rw[HW2.out,HQ.out];rfl) HQ HF.lose
theorem sl_some {l : List α} {v : Value} (h:Fr B w L) (i:Nat) (hi:L[i]?=some (.els E v e z l)) (hl:l≠[]):∃g c,v=.slice (some ⟨g,0,none⟩) l.length c:=by
 obtain⟨a,c,rfl,-,-⟩:=h.elsForm i hi;obtain⟨g,rfl,-⟩:=h.elsGet i hi 0 (List.length_pos_iff.2 hl);exact⟨g,c,rfl⟩
theorem has_eq (x:ByteArray) (ns:List ByteArray):Lib.containsS ns x=ns.any λ y=>decide (y=x):=by
 rw[Bool.eq_iff_iff,Lib.containsS_iff,List.any_eq_true];exact⟨λ h=>⟨x,h,by simp⟩,λ⟨y,hy,e⟩=>by have:=of_decide_eq_true e;subst this;exact hy⟩
theorem contains103 (h:Fr B w L) (i:Nat) {v : Value} (hi:L[i]?=some (.els StE v 9 1 ns)) (hn:ns.length≤16000) (x:ByteArray):Calls prog 103 #[v,.string x] w λ e w'=>e=.returned (.bool (ns.any λ y=>decide (y=x)))∧Fr B w' L:=by
 by_cases hne:ns=[]
 ·subst hne;obtain⟨a,c,rfl,-,-⟩:=h.elsForm i hi;exact (slices_Contains_string_empty a c x w).mono λ e w' h'=>⟨h'.1,h'.2 ▸ h⟩
 obtain⟨g,c,rfl⟩:=sl_some h i hi hne;refine (slices_Contains_string g 0 ns.length c ns x w (Nat.le_refl _) (by omega) λ j hj=>?_).mono λ e w' h'=>⟨?_,h'.2 ▸ h⟩
 ·obtain⟨g',e1,-,-,d,hd,hc,hF⟩:=h.elsGet i hi j hj;cases e1;obtain⟨H,h2,-⟩:=hF.get (i:=0) rfl;obtain⟨rfl,-⟩:StE.p H d ns[j]:=h2;have:=hc 0 (by omega);simpa [List.getD_eq_getElem?_getD,hj] using this
 rw[h'.1,List.take_length,has_eq]
theorem Fr.strEl (h:Fr B w L) (x:ByteArray) (hx:x.size≤maxLen):Fr B w (.el StE [.string x] x::L):=h.sure ⟨λ H=>StE.p H [.string x] x,λ H H' h hl=>h⟩ λ H=>⟨rfl,hx⟩
theorem typedL_cons (st:TM) (ns:List ByteArray) (ps:List T.Ty) (kd m:Int) (sx:ByteArray) (tt:Nd) (l:List Nd) (k:Nat):cJ st ns ps (.mk kd sx m [tt]::l) k=(typC st tt (k+1)).bind λ t=>askC (!(ns.any λ y=>decide (y=sx))) 5 k (cJ st (ns++[sx]) (ps++[t]) l (k+(1+sz tt))):=rfl
def PTd (q:CR (List ByteArray × List T.Ty))(k n:Nat)(B:Bs)(b:Nat)(p:CP)(s:Cs)(L:List Rs)(e:Ending)(w':World):Prop:=
 (∃c a,q=.no c a∧e=upF c a∧Fr B w' L)∨(∃ns ps v vn vp,q=.ok (ns,ps)∧(∀t,t∈ps→may t=true)∧ns.length=n∧ps.length=n∧(∀x,x∈ns→x.size≤maxLen)∧e=.returned (.tuple #[vn,vp])∧Fr B w' (.cs b (p.at v) { s with k:=k }::.els StE vn 9 1 ns::.els TyE vp 83 5 ps::L))
theorem PTd.no {q : CR (List ByteArray × List T.Ty)} {a : Nat} {c : Int} (hq:q=.no c a) (h:Fr B w' L):PTd q k n B b p s L (upF c a) w':=Or.inl ⟨c,a,hq,rfl,h⟩
theorem typ70 (h:Fr B w (.cs b p s::L)) (i:Nat) {n : Nd} {kn : Nat} (hi:L[i]?=some (.el NdE (ndc n.kind n.text n.num a kn c) n)) (hx:Tx n) (hT:Ty n) (hk:s.k+sz n≤16000):
  Calls prog 70 #[ptr b,.agg #[.int .i64 n.kind,.string n.text,.int .i64 n.num,.slice a kn c]] w (PTy (typC s.st n s.k) (s.k+sz n) B b p s L):=typ_all _ _ _ _ _ _ _ _ _ _ _ i h hi hx hT (Nat.le_refl _) hk
theorem Fr.slHere (h:Fr B w L) (i:Nat) (hi:L[i]?=some (.sl NdE (.slice a n c) 52 4 l)) (j:Nat) (hj:j<l.length):∃g o a' n' c',a=some ⟨g,o,none⟩∧n=l.length∧n≤c∧c≤maxLen∧w.cell? ⟨g,o+j*4,none⟩=some (.int .i64 l[j].kind)∧w.cell? ⟨g,o+j*4+1,none⟩=some (.string l[j].text)∧w.cell? ⟨g,o+j*4+2,none⟩=some (.int .i64 l[j].num)∧w.cell? ⟨g,o+j*4+3,none⟩=some (.slice a' n' c')∧Fr B w (.el NdE (ndc l[j].kind l[j].text l[j].num a' n' c') l[j]::L):=by
 obtain⟨g,o,cur,f,a',n',c',e1,e2,e3,e4,e5,h2⟩:=h.kidAt i hi j hj;have hc:=h2.knc 1 rfl;exact⟨g,o,a',n',c',e1,e2,e3,e4,(hc _).trans (e5 0 (by omega)),(hc _).trans (e5 1 (by omega)),(hc _).trans (e5 2 (by omega)),(hc _).trans (e5 3 (by omega)),h2.tail2⟩
theorem typed68 (h:Fr B w (.cs b p s::L)) (i:Nat) {kn : Nat} (hi:L[i]?=some (.sl NdE (.slice a kn c) 52 4 l)) (hX:∀x,x∈l→Tx x) (kd:Int) (hT:∀x,x∈l→Ti kd x) (hk:s.k+szs l≤16000):
  Calls prog 68 #[ptr b,.slice a kn c] w (PTd (cJ s.st [] [] l s.k) (s.k+szs l) l.length B b p s L):=by
 obtain⟨_,_,e1,-,-⟩:=h.slForm (i+1) hi;cases e1;have HF:=ah ((h.know (K:=[.sl NdE (.slice a l.length c) 52 4 l]) λ H w hr x hx=>by
  obtain rfl:=List.mem_singleton.1 hx;exact⟨hr _ (List.mem_of_getElem? (show (Rs.cs b p s::L)[i+1]?=_ from hi)),λ q hq=>hq⟩).swap)
 have HX:=ah hX;have HTy:=ah hT;clear h hi hX hT;go_enter func68,ntmps68;go_wp2;go_loopw [4,5,11] (λ nv pv iv wr=>Hid (∃(j kj:Nat) (NS:List ByteArray) (PS:List T.Ty) (v:Value),j≤l.length∧iv=.int .i64 (j:Int)∧cJ s.st [] [] l s.k=cJ s.st NS PS (l.drop j) kj∧kj+szs (l.drop j)=s.k+szs l∧NS.length=j∧PS.length=j∧(∀t,t∈PS→may t=true)∧(∀x,x∈NS→x.size≤maxLen)∧Fr B wr (.cs b (p.at v) { s with k:=kj }::.els StE nv 9 1 NS::.els TyE pv 83 5 PS::.sl NdE (.slice a l.length c) 52 4 l::L))) (λ_ _ iv _=>l.length - (intOf iv).toNat)
 case atStart=>exact⟨0,s.k,[],[],p.kv,Nat.zero_le _,rfl,rfl,rfl,rfl,rfl,by simp,by simp,((HF.noEls TyE 83 5).noEls StE 9 1).perm (List.Perm.trans (List.Perm.cons _ (List.Perm.swap _ _ _)) (List.Perm.swap _ _ _))⟩
 clear HF;obtain⟨j,kj,NS,PS,v,hj,rfl,hW,hkj,hns,hps,hmay,hsz,hf⟩:=hrel.out;clear hrel;obtain⟨na,nc,rfl,-,-⟩:=hf.elsForm 1 rfl;obtain⟨pa,pc,rfl,-,-⟩:=hf.elsForm 2 rfl;have hnl:NS.length≤16000:=by have:=dS l;omega
 have hpl:PS.length≤16000:=by have:=dS l;omega
 have HW:=ah hW;have HN:=ah hns;have HP:=ah hps;have HMay:=ah hmay;have HSz:=ah hsz;clear hW hmay hsz hns hps;by_cases hlt:j<l.length
 ·obtain⟨g,o,a',n',c',rfl,-,hc1,hc2,e0,e1,e2,e3,hkd⟩:=hf.slHere 3 rfl j hlt;have HY:Hid (l.drop j=l[j]::l.drop (j+1)):=eF hlt;have hy:l[j]∈l:=List.getElem_mem hlt;have hszy:szs (l.drop j)=sz l[j]+szs (l.drop (j+1)):=szs_at hlt;have hx:=HX _ hy;obtain⟨sx,tt,hye,hty⟩:=HTy _ hy;have hszm:=eH hy;clear hy;generalize l[j]=y at *;subst hye;have hsy:sz (.mk kd sx 0 [tt])=1+sz tt:=rfl;rw[hsy] at hszy hszm;have hxt:=hx.kids tt (by simp [Nd.kids]);have hxs:sx.size≤maxLen:=Nat.le_trans hx.text (by decide:4000≤maxLen);clear hx hsy;have HF:=hkd.swap;have hli:(j:Int)<(l.length:Int):=by omega
  have HLT:=ah hlt;have hlen:=dS l;have HJ:Hid (wrap64 ((j:Int)+1)=(j:Int)+1):=by
   show _=_;unfold maxLen at hc2;unfold wrap64;omega
  clear hc1 hc2 hf hkd;simp only[Nd.kind,Nd.text,Nd.num] at e0 e1 e2 e3 HF;replace HF:=yN HF wr.heap.size kd sx 0 a' n' c';go_wp2_with fail;clear e0 e1 e2 e3;go_at_call 48;refine (bA HF (by show kj<16000;omega)).mono ?_;rintro e w11 ⟨rfl,v11,HF⟩;obtain⟨g2,o2,a2,n2,c2,rfl,h01,hc1,hc2,e0,e1,e2,e3,hf⟩:=HF.kidHere 2 rfl 0 (by simp);simp only[Nat.zero_mul,Nat.add_zero,List.getElem_cons_zero] at e0 e1 e2 e3 hf;obtain rfl:n'=1:=h01;replace HF:=ah hf.swap;clear hf hc1 hc2;have c_x7:=HF.cell 2 rfl;go_wp2_with fail;clear c_x7;clear e0 e1 e2 e3;go_at_call 70;refine (typ70 HF 0 rfl hxt hty (by show kj+1+sz tt≤16000;omega)).mono ?_;rintro e w12 (⟨c12,p12,h3,rfl,hf⟩|⟨t,v12,nm_t,a_t,c_t,pa_t,pc_t,h3,hm,rfl,hf⟩)
  ·have h3':typC s.st tt (kj+1)=.no c12 p12:=h3;exact⟨rfl,PTd.no (by rw[HW.out,HY.out];simp only[typedL_cons,h3',CR.bind]) hf.lose⟩
  have H12:Hid (typC s.st tt (kj+1)=.ok t):=ah h3;have HM_t:=ah hm;replace HF:=hf;clear h3 hf hm;go_wp2_with (at_builtin;refine Fr.elAppL 81 fZ underlying81 rfl (by decide) (by decide) (HF.alloc (q:=w12.heap.size) (by simp) #[.int .i64 (tyk t),.string nm_t,.slice a_t (tnn t) c_t,.slice pa_t (tpn t) pc_t,.bool (tmy t)] 83) 6 rfl (by omega) 1 rfl _ _ rfl rfl (by rfl) (by rfl) rfl rfl ?_;intro g13 cap13 w13 hF hgr;have c_x7:=hF.cell 3 rfl)
  replace HF:=hF;clear hF hgr c_x7;go_at_call 103;refine (contains103 HF 5 rfl hnl sx).mono ?_;rintro e w14 ⟨rfl,HF⟩;cases hq:NS.any λ y=>decide (y=sx)
  ·have HQ:=ah hq;clear hq;go_wp2_with fail;go_at_call 69;refine (aL HF 5 kj).mono ?_;rintro e w15 ⟨rfl,HF⟩;replace HF:=ah (HF.strEl sx hxs).swap;have c_x7:=HF.cell 4 rfl;go_wp2_with (at_builtin;refine Fr.elAppL 22 T.info9 underlying22 rfl (by decide) (by decide) (HF.alloc (q:=w15.heap.size) (by simp) #[.string sx] 9) 6 rfl (by omega) 1 rfl _ _ rfl rfl (by rfl) (by rfl) rfl rfl ?_;intro g16 cap16 w16 hF hgr)
   replace HF:=hF;clear hF hgr;clear c_x7;go_roundw
   case rel=>exact⟨j+1,kj+1+sz tt,NS++[sx],PS++[t],v12,HLT,by go_num,by rw[HW.out,HY.out];simp only[typedL_cons,H12.out,CR.bind,HQ.out,askC,Bool.not_false,if_pos];rw[← Nat.add_assoc],by omega,by rw[List.length_append,HN.out];rfl,by rw[List.length_append,HP.out];rfl,λ u hu=>by rcases List.mem_append.1 hu with h|h;exact HMay u h;rw[List.mem_singleton.1 h];exact HM_t,λ u hu=>by rcases List.mem_append.1 hu with h|h;exact HSz u h;rw[List.mem_singleton.1 h];exact hxs,HF.lose⟩
   case measure=>exact aO HLT
  have HQ:=ah hq;clear hq;go_wp2_with fail;go_at_call 69;refine (aU HF 5 kj).mono ?_;rintro e w15 ⟨rfl,HF⟩;exact⟨rfl,PTd.no (by rw[HW.out,HY.out];simp only[typedL_cons,H12.out,CR.bind,HQ.out,askC,Bool.not_true,Bool.false_eq_true,if_false]) HF.lose⟩
 have hje:j=l.length:=by omega
 have HJE:=ah hje;have hli:¬ (j:Int)<(l.length:Int):=by omega
 rw[hje,List.drop_length] at HW hkj;have hkj':kj=s.k+szs l:=by simp only[szs] at hkj;omega
 subst hkj';have HF:=hf;clear hf hkj hje;go_wp2;go_ret2
 exact Or.inr ⟨NS,PS,v,_,_,HW,HMay,by rw[HN.out,HJE.out],by rw[HP.out,HJE.out],HSz,rfl,HF.lose⟩
section
open Go.RowKit Go.Shelf
attribute [local go_sem] Oper.semAt_some
def MapsAt (w:World)(a:Option Addr)(ms:List Nat):Prop:=∀i (h:i<ms.length),∃g o,a=some ⟨g,o,none⟩∧g<w.heap.size∧w.cell? ⟨g,o+i,none⟩=some (.map (some ms[i]))
def rvm (ms:List Nat)(x:Nat):Value:=.map (some (ms.reverse.getD x 0))
theorem rvm_at {ms : List Nat} (h:ms.length=m+1+k):rvm ms k=.map (some (ms[m]'(by omega))):=by
 unfold rvm;have:ms.reverse.getD k 0=ms[m]'(by omega):=by
  rw[List.getD_eq_getElem?_getD,List.getElem?_reverse (by omega),show ms.length - 1 - k=m by omega,List.getElem?_eq_getElem (by omega)];rfl
 rw[this]
def SpB (N:Nat)(pre:List (Fin N)):Prop:=∃k,∃h:k<N,pre=T.upto N k++[⟨k,h⟩]
def KeepB (m:Nat)(A B:World):Prop:=Below m A B
theorem keepB_put {l : Nat} (W:World) (o o':Obj) (hl:m≤l) (h:W.heap[l]?=some o):KeepB m W (W.putObj l o'):=by
 have hg:=grownBy_putObj' W l o';exact (Below.refl m W).grown hg (by have:=(Array.getElem?_eq_some_iff.1 h).1;omega) (λ k e=>by cases e;omega)
theorem backT_in (n:Nat) (hn:1≤n) (w:World) (ms:List Nat) (a:Option Addr) (c:Nat) (hlen:ms.length≤16000) (hM:Hid (MapsAt w a ms)) (m0:Nat) (hm0:m0≤w.heap.size) (l Bn:Nat) (J Jx:List (Fin ms.length)→World→Prop) (W:World) (hJ:Hid (AbidesFrom W.heap.size J))
  (hY:Hid (∀pre (x:Fin ms.length) W1,J pre W1→pre.length<ms.length→YieldAt Fence.wide (n - 1) prog l #[.int .i64 ((ms.length:Int) - 1 - (x:Nat)),rvm ms x] W1 λ e W'=>(e=.returned (.bool true)∧J (pre++[x]) W'∧KeepB w.heap.size W1 W')∨(e=.returned (.bool false)∧Jx (pre++[x]) W')))
  (hB:Hid (Below w.heap.size w W)) (hbox:∀o,w.cell? ⟨Bn,o,none⟩=(#[Value.slice a ms.length c]:Array Value)[o]?) (hBn:Bn<w.heap.size) (h0:Hid (J [] W)):
  CallsIn Fence.wide n prog 177 #[.func (.yield l) #[] #[],.pointer (some ⟨Bn,0,none⟩)] W λ e W'=>(∃v,e=.returned v)∧((∃ys,ys=List.finRange ms.length∧J ys W')∨(∃pre,SpB ms.length pre∧Jx pre W')):=by
 refine callsIn_of_wp func177 rfl trivial ?_ rfl;simp only[ntmps177,List.size_toArray,List.length_cons,List.length_nil,Nat.reduceAdd,Nat.reduceSub,Array.replicate_succ,Array.replicate_zero,List.push_toArray,List.append_toArray,List.nil_append,List.cons_append];have HBX:Hid (∀W',Below w.heap.size w W'→W'.cell? ⟨Bn,0,none⟩=some (Value.slice a ms.length c)):=λ W' hb=>(hb.cell (p:=⟨Bn,0,none⟩) hBn).trans (hbox 0);have hq:=HBX W hB.out;clear hbox;gi_wp2
 clear hq;gi_loopw [3] (λ i wr=>∃k:Nat,k≤ms.length∧i=.int .i64 ((ms.length:Int) - 1 - k)∧Hid (Below w.heap.size w wr)∧Hid (J (T.upto ms.length k) wr)) (λ i _=>(intOf i+1).toNat)
 case atStart=>exact⟨0,Nat.zero_le _,by simp,hB,h0⟩
 obtain⟨k,hk,rfl,HB,HJ⟩:=hrel;by_cases hlt:k<ms.length
 ·obtain⟨m,hm⟩:∃m,ms.length=m+1+k:=⟨ms.length - 1 - k,by omega⟩
  have hme:(ms.length:Int) - 1 - k=(m:Int):=by omega
  obtain⟨g,o,rfl,hg,e0⟩:=hM.out m (by omega);have e1:=(HB.cell (p:=⟨g,o+m,none⟩) hg).trans e0;have hq:=HBX wr HB;have hyk:=hY.out (T.upto ms.length k) ⟨k,hlt⟩ wr HJ (by rw[T.upto_len hk];exact hlt);dsimp only at hyk;rw[hme] at hyk ⊢;rw[rvm_at hm] at hyk;generalize (ms[m]'(by omega):Nat)=mb at *;obtain⟨fn,tmps,assign,body,hy,hR⟩:=hyk;have HR:=ah hR;have hml:(m:Int)<(ms.length:Int):=by omega
  have HME:=ah hme;have HMM:=ah hm;have hsub:IntKind.i64.wrap ((m:Int) - 1)=(m:Int) - 1:=by rw[IntKind.wrap_i64];omega
  clear hR e0 hg hme hm;gi_wp2
  refine HR.mono ?_;rintro e w3 (⟨rfl,hJ3,hk3⟩|⟨rfl,hJx3⟩)
  ·have HB3:Hid (Below w.heap.size w w3):=HB.trans hk3;have HJ3:=ah hJ3;clear hq hy hJ3 hk3 e1;gi_wp2
   go_roundw
   case rel=>exact⟨k+1,by omega,by have:=HMM.out;go_num,HB3,by show J _ _;rw[T.upto_succ hlt];exact HJ3⟩
   case measure=>(simp [intOf];try omega)
  gi_wp2
  refine br (results_none rfl _ _ _) ?_;exact⟨⟨_,rfl⟩,.inr ⟨_,⟨k,hlt,rfl⟩,hJx3⟩⟩
 obtain rfl:k=ms.length:=by omega
 have hneg:(ms.length:Int) - 1 - ms.length=-1:=by omega
 rw[hneg];gi_wp2
 go_end0
 exact⟨⟨_,rfl⟩,.inl ⟨_,rfl,by rw[← T.upto_all];exact HJ⟩⟩
theorem backT_any (s:Value) (hs:∃a n c,s=.slice a n c) (w:World):
  Calls prog 157 #[s] w λ e w'=>e=.returned (.func (.func 177) #[] #[.pointer (some ⟨w.heap.size,0,none⟩)])∧w'=w.alloc (.cells #[s] 84):=by
 obtain⟨a,n,c,rfl⟩:=hs;go_enter func157,ntmps157;go_wp2;go_ret
 exact⟨rfl,rfl⟩
theorem backT_stops (n:Nat) (hn:1≤n) (w:World) (ms:List Nat) (a:Option Addr) (c:Nat) (hlen:ms.length≤16000) (hM:MapsAt w a ms) (Bn:Nat) (hbox:∀o,w.cell? ⟨Bn,o,none⟩=(#[Value.slice a ms.length c]:Array Value)[o]?) (hBn:Bn<w.heap.size):
  SeqStopsK Fence.wide n prog 177 #[.pointer (some ⟨Bn,0,none⟩)] (λ x:Fin ms.length=>#[.int .i64 ((ms.length:Int) - 1 - (x:Nat)),rvm ms x]) (KeepB w.heap.size) (λ ys=>ys=List.finRange ms.length) (SpB ms.length) ms.length w:=λ l J Jx W' hW hJ _ hY h0=>
 backT_in n hn w ms a c hlen hM 0 (Nat.zero_le _) l Bn J Jx W' hJ hY hW hbox hBn h0
end
end Go.Proofs.YtdnhbedbpbgeeaaGreatDoor.K
