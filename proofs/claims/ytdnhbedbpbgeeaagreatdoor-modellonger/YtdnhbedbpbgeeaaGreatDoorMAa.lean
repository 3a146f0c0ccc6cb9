/- 0 -/
import Derived.Deep.RegionHeldLaw
import Derived.Below
import Derived.WalkKit
import Derived.WalkSpells
import Derived.Deep.AppendLies
import Derived.Deep.Upon
import Derived.Test.YtdnhbedbpbgeeaaGreatDoorProg
import Derived.Outline
import Derived.LoopTactic
import Derived.Laws.Cover1
import Derived.BigQuiet
import Derived.Deep.QuietTactic
import Derived.WalkLawsBesides
import Derived.Lib.ParseIntBCases
import Derived.Deep.MidRow
import Derived.Deep.RegionHeld
set_option maxRecDepth 100000
set_option maxHeartbeats 2000000
set_option linter.all false
namespace Go.Proofs.YtdnhbedbpbgeeaaGreatDoor
open Go.RowKit Go.Proofs.Tryz
variable {v : Value} {oi : Oper}
section
theorem qq:(∀{α:Type}(l:List α)(i:Nat)(h:i<l.toArray.size),l.toArray[i]=l[i]'(by simpa using h))∧(∀{α:Type} (a:α) (l:List α) (h:0<(a::l).length),(a::l)[0]=a)∧(∀{α:Type} (a:α) (l:List α) (n:Nat) (h:n+1<(a::l).length),(a::l)[n+1]=l[n]'(Nat.lt_of_succ_lt_succ h)) ∧
    (∀{α:Type} (l:List α) (i:Nat) (a:α),l.toArray.setIfInBounds i a=(l.set i a).toArray)∧(∀{α:Type} (a b:α) (l:List α),(a::l).set 0 b=b::l)∧(∀{α:Type} (a b:α) (l:List α) (n:Nat),(a::l).set (n+1) b=a::l.set n b) ∧
    (∀(a:Act) (d:Tmp) (v:Value),a.put (some d) v={ tmps:=a.tmps.setIfInBounds d v,defers:=a.defers })∧(∀(a:Act) (v:Value),a.put none v=a):=
  ⟨λ l i h=>by simp,λ_ _ _=>rfl,λ_ _ _ _=>rfl,λ l i a=>by simp,λ_ _ _=>rfl,λ_ _ _ _=>rfl,λ_ _ _=>rfl,λ_ _=>rfl⟩
theorem ah {p : Prop} (h:p):Hid p:=h
theorem br {P : Program} {fn : Func} {R : Ending→World→Prop} {a : Act} {w : World} (hr:(results fn a.tmps).run P w=.ok v w) (hR:R (.returned v) w) (hd:a.defers=[]:=by exact rfl):bodyPost P fn R .ret a w:=bodyPost_ret hr hd hR
section
variable {P : Program} {md : Region.Mode} {ops : Array Oper} {Q : Exit → Act → World → Prop} {S : World → Prop} {fuel : Nat} {listed : Array Bool} {a a1 : Act} {w : World}
theorem th (i:Nat) (h:wpAnyH P md ops Q S fuel (listed.setIfInBounds i true) a1 w) (hi:ops[i]?=some oi:=by exact rfl) (hs:Region.noSelect ops=true:=by kernel_rfl) (hf:Region.free md ops listed i=true:=by kernel_rfl) (hr:(Region.ready md ops listed).contains i=true:=by kernel_rfl)
    (hQ:∀c a w,Q (.panic c) (a.put oi.dst v) w→Q (.panic c) a w:=by exact λ_ _ _ h=>h) (hw:Region.wanted oi (yielded ops a.tmps)=true:=by rfl) (hS:S w:=by assumption) (hy:∀w,S w→(execOp a.eval oi).run P w=.ok (.value v) w:=by (intro w hSw;(try dsimp only at hSw);go_simp)<;>with_reducible rfl) (ha:a.put oi.dst v=a1:=by (simp only[qq];rfl)):wpAnyH P md ops Q S (fuel+1) listed a w:=by
  subst ha;exact wpAnyH_take hi hs hf hr hQ (Or.inl ⟨hw,hy⟩) hS h
theorem thN (i:Nat) (h:wpAnyH P md ops Q S fuel (listed.setIfInBounds i true) a1 w) (hi:ops[i]?=some oi:=by exact rfl) (hs:Region.noSelect ops=true:=by kernel_rfl) (hf:Region.free md ops listed i=true:=by kernel_rfl) (hr:(Region.ready md ops listed).contains i=true:=by kernel_rfl)
    (hQ:∀c a w,Q (.panic c) (a.put oi.dst undef) w→Q (.panic c) a w:=by exact λ_ _ _ h=>h) (hw:Region.wanted oi (yielded ops a.tmps)=false:=by rfl) (hS:S w:=by assumption) (ha:a.put oi.dst undef=a1:=by (simp only[qq];rfl)):wpAnyH P md ops Q S (fuel+1) listed a w:=by
  subst ha;exact wpAnyH_take hi hs hf hr hQ (Or.inr ⟨hw,rfl⟩) hS h
end
end
end Go.Proofs.YtdnhbedbpbgeeaaGreatDoor
namespace Go.Proofs.YtdnhbedbpbgeeaaGreatDoor.K
open Go.RowKit Go.Proofs.Tryz
variable {e : TypeId} {α : Type} {z q i n fuel g c b by' j : Nat} {v v' zv : Value} {listed : Array Bool} {a : Option Addr} {cur : Array Value} {w W : World} {P : Program} {xs : List Value} {f : Nat × Nat} {s : ByteArray} {rs : List Nat} {o : Obj} {oi : Oper} {k m : Int} {l : List α} {x : α}
theorem hide {p : Prop} (h:p):Hid p:=h
abbrev Snap:Type:=Nat→Option Obj
def Snap.le (H H':Snap):Prop:=∀q o,H q=some o→H' q=some o
theorem Snap.le.refl (H:Snap):H.le H:=λ_ _ h=>h
structure Rs where
 own:Nat→Prop
 ok:Snap→World→Prop
 lt:∀H w,ok H w→∀q,own q→q<w.heap.size
 keep:∀H w H' w',ok H w→H.le H'→(∀q,own q→w'.heap[q]?=w.heap[q]?)→ok H' w'
theorem bO (h:w.heap[q]?=some o):q<w.heap.size:=(Array.getElem?_eq_some_iff.1 h).1
def Rs.blk (q:Nat)(cs:Array Value)(T:TypeId):Rs where
 own:=λ k=>k=q
 ok:=λ_ w=>w.heap[q]?=some (.cells cs T (0,0))
 lt:=λ H w h k hk=>by subst hk;exact bO h
 keep:=λ H w H' w' h _ hk=>(hk q rfl).trans h
def Rs.row (v:Value)(e:TypeId)(z n:Nat)(xs:List Value):Rs where
 own:=λ k=>v.ownBlock=some k
 ok:=λ_ w=>w.ownsRow 0 e z v n xs
 lt:=λ H w h k hk=>(World.ownsRow.lt h k hk).2
 keep:=λ H w H' w' h _ hk=>by
  refine⟨h.1,?_⟩;rcases h.2 with h2|⟨g,cap,cur,hv,hg,hh,r⟩
  ·exact Or.inl h2
  exact Or.inr ⟨g,cap,cur,hv,hg,(hk g (by subst hv;rfl)).trans hh,r⟩
def Rs.ob (b:Nat)(p:Option Obj→Prop):Rs where
 own:=λ k=>k=b
 ok:=λ_ w=>b<w.heap.size∧p w.heap[b]?
 lt:=λ H w h k hk=>by subst hk;exact h.1
 keep:=λ H w H' w' h _ hk=>by
  have e:=hk b rfl;exact⟨bO (e.trans (Array.getElem?_eq_getElem h.1)),by rw[e];exact h.2⟩
structure Pf where
 p:Snap→Prop
 up:∀H H',p H→H.le H'→p H'
def Rs.fact (f:Pf):Rs where
 own:=λ_=>False
 ok:=λ H _=>f.p H
 lt:=λ H w h k hk=>hk.elim
 keep:=λ H w H' w' h hl _=>f.up H H' h hl
structure El (α:Type) where
 p:Snap→List Value→α→Prop
 up:∀H H' cs x,p H cs x→H.le H'→p H' cs x
def Rs.els {α:Type}(E:El α)(v:Value)(e:TypeId)(z:Nat)(l:List α):Rs where
 own:=λ k=>v.ownBlock=some k
 ok:=λ H w=>∃css:List (List Value),css.length=l.length∧(∀c,c∈css→c.length=z)∧w.ownsRow 0 e z v l.length css.flatten∧∀j (h:j<l.length) (h':j<css.length),E.p H css[j] l[j]
 lt:=λ H w h k hk=>by obtain⟨_,_,_,h,_⟩:=h;exact (World.ownsRow.lt h k hk).2
 keep:=λ H w H' w' h hl hk=>by
  obtain⟨css,h1,hz,h2,h3⟩:=h;exact⟨css,h1,hz,(Rs.row v e z l.length css.flatten).keep H w H' w' h2 hl hk,λ j hj hj'=>E.up H H' _ _ (h3 j hj hj') hl⟩
structure Bs where
 n:Nat
 w:World
structure FrH (H:Snap)(B:Bs)(w:World)(L:List Rs):Prop where
 below:Below B.n B.w w
 le:B.n≤w.heap.size
 snap:∀q o,H q=some o→w.heap[q]?=some o
 ok:∀r,r∈L→r.ok H w
 lo:∀r,r∈L→∀q,r.own q→B.n≤q∧H q=none
 off:L.Pairwise λ a b=>∀q,a.own q→¬ b.own q
def Fr (B:Bs)(w:World)(L:List Rs):Prop:=∃H,FrH H B w L
variable {B : Bs} {w' : World} {L : List Rs}
theorem aA {t : TypeId} (h:W.heap[b]?=some (.cells cur t f)):∀o,W.cell? ⟨b,o,none⟩=cur[o]?:=λ o=>by simp [World.cell?,h]
theorem aX {t : TypeId} (h:W.heap[b]?=some (.cells cur t (0,0))):∀o,W.frozen? ⟨b,o,none⟩=false:=λ o=>by simp only[World.frozen?,h];rfl
theorem fr_new (w:World) (cs:Array Value) (t:TypeId):(w.alloc (.cells cs t)).heap[w.heap.size]?=some (.cells cs t (0,0)):=heap_alloc_new w (.cells cs t)
abbrev Bs.of (w:World):Bs:=⟨w.heap.size,w⟩
theorem Fr.below (h:Fr B w L):Below B.n B.w w:=by obtain⟨H,h⟩:=h;exact h.below
theorem FrH.move {H : Snap} (h:FrH H B w L) (hb:Below B.n B.w w') (hs:w.heap.size≤w'.heap.size) (hk:∀q,(∀o,H q=some o→w'.heap[q]?=w.heap[q]?)∧(∀r,r∈L→r.own q→w'.heap[q]?=w.heap[q]?)):FrH H B w' L:=
 ⟨hb,Nat.le_trans h.le hs,λ q o e=>((hk q).1 o e).trans (h.snap q o e),λ r hr=>r.keep H w H w' (h.ok r hr) (Snap.le.refl H) (λ q hq=>(hk q).2 r hr hq),h.lo,h.off⟩
theorem FrH.call {H : Snap} (h:FrH H B w L) (hb:Below w.heap.size w w'):FrH H B w' L:=
 h.move (h.below.trans (hb.mono h.le)) hb.size λ q=>⟨λ o e=>hb.block q (bO (h.snap q o e)),λ r hr hq=>hb.block q (r.lt H w (h.ok r hr) q hq)⟩
theorem Fr.call (h:Fr B w L) (hb:Below w.heap.size w w'):Fr B w' L:=by obtain⟨H,h⟩:=h;exact⟨H,h.call hb⟩
theorem Fr.drew (h:Fr B w L):Fr B w.drew L:=h.call (Below.refl _ _).drew
theorem FrH.add {H : Snap} (h:FrH H B w L) {r : Rs} (hr:r.ok H w) (hl:∀q,r.own q→B.n≤q∧H q=none) (ho:∀x,x∈L→∀q,r.own q→¬ x.own q):FrH H B w (r::L):=
 ⟨h.below,h.le,h.snap,λ x hx=>by rcases List.mem_cons.1 hx with rfl|hx;exact hr;exact h.ok x hx,λ x hx=>by rcases List.mem_cons.1 hx with rfl|hx;exact hl;exact h.lo x hx,List.Pairwise.cons ho h.off⟩
theorem FrH.new {H : Snap} (h:FrH H B w L) (hb:Below w.heap.size w w') {r : Rs} (hr:r.ok H w') (hn:∀q,r.own q→w.heap.size≤q):FrH H B w' (r::L):=
 (h.call hb).add hr (λ q hq=>⟨Nat.le_trans h.le (hn q hq),by
  cases e:H q with
  | none=>rfl
  | some o=>have:=bO (h.snap q o e);have:=hn q hq;omega⟩) λ x hx q hq hx'=>by
  have:=x.lt H w (h.ok x hx) q hx';have:=hn q hq;omega
theorem Fr.alloc (h:Fr B w L) (hq:w.heap.size=q) (cs:Array Value) (T:TypeId):Fr B (w.alloc (.cells cs T)) (.blk q cs T::L):=by
 subst hq;obtain⟨H,h⟩:=h;exact⟨H,h.new ((Below.refl _ _).alloc (Nat.le_refl _) _) (fr_new _ _ _) λ q hq=>Nat.le_of_eq hq.symm⟩
theorem Fr.allocOb (h:Fr B w L) (hq:w.heap.size=q) (o:Obj) (p:Option Obj→Prop) (hp:p ((w.alloc o).heap[q]?)):Fr B (w.alloc o) (.ob q p::L):=by
 subst hq;obtain⟨H,h⟩:=h;exact⟨H,h.new ((Below.refl _ _).alloc (Nat.le_refl _) _) (r:=.ob w.heap.size p) ⟨by simp,hp⟩ λ q hq=>Nat.le_of_eq hq.symm⟩
theorem Fr.take (h:Fr B w L) (hb:Below w.heap.size w w') (hv:w'.ownsRow w.heap.size e z v n xs):Fr B w' (.row v e z n xs::L):=by
 obtain⟨H,h⟩:=h;refine⟨H,h.new hb (r:=.row v e z n xs) ⟨hv.1,?_⟩ λ q hq=>(World.ownsRow.lt hv q hq).1⟩;rcases hv.2 with h2|⟨g,cap,cur,hv,hg,r⟩
 ·exact Or.inl h2
 exact Or.inr ⟨g,cap,cur,hv,Nat.zero_le _,r⟩
theorem FrH.free {H : Snap} (h:FrH H B w L) {r : Rs} (hr:r.ok H w) (hn:∀q,¬ r.own q):FrH H B w (r::L):=h.add hr (λ q hq=>(hn q hq).elim) λ x hx q hq=>(hn q hq).elim
theorem Fr.nil (h:Fr B w L) (e:TypeId) (z:Nat):Fr B w (.row (.slice none 0 0) e z 0 []::L):=by
 obtain⟨H,h⟩:=h;exact⟨H,h.free (r:=.row (.slice none 0 0) e z 0 []) ⟨by simp,Or.inl ⟨rfl,rfl⟩⟩ λ q hq=>by cases hq⟩
theorem Fr.noEls (E:El α) (h:Fr B w L) (e:TypeId) (z:Nat):Fr B w (.els E (.slice none 0 0) e z []::L):=by
 obtain⟨H,h⟩:=h;exact⟨H,h.free (r:=.els E (.slice none 0 0) e z []) ⟨[],rfl,by simp,⟨by simp,Or.inl ⟨rfl,rfl⟩⟩,λ j hj=>by simp at hj⟩ λ q hq=>by cases hq⟩
theorem Fr.sub (h:Fr B w L) {K : List Rs} (hs:K.Sublist L):Fr B w K:=by
 obtain⟨H,h⟩:=h;exact⟨H,h.below,h.le,h.snap,λ r hr=>h.ok r (hs.subset hr),λ r hr=>h.lo r (hs.subset hr),h.off.sublist hs⟩
theorem Fr.lose (h:Fr B w L) {K : List Rs} (hs:K.Sublist L:=by repeat (first|exact List.Sublist.refl _|apply List.Sublist.cons_cons|apply List.Sublist.cons)):Fr B w K:=h.sub hs
theorem Fr.tail {r : Rs} (h:Fr B w (r::L)):Fr B w L:=h.sub (List.sublist_cons_self _ _)
theorem Fr.tail2 {r s : Rs} (h:Fr B w (r::s::L)):Fr B w (r::L):=h.sub (List.Sublist.cons_cons _ (List.sublist_cons_self _ _))
theorem Fr.perm {K : List Rs} (h:Fr B w L) (hp:L.Perm K):Fr B w K:=by
 obtain⟨H,h⟩:=h;exact⟨H,h.below,h.le,h.snap,λ r hr=>h.ok r (hp.mem_iff.2 hr),λ r hr=>h.lo r (hp.mem_iff.2 hr),(hp.pairwise_iff (λ h q a b=>h q b a)).1 h.off⟩
theorem Fr.swap {r s : Rs} (h:Fr B w (r::s::L)):Fr B w (s::r::L):=h.perm (List.Perm.swap _ _ _)
section
variable (h:Fr B w L)
include h
theorem Fr.get {r : Rs} (hi:L[i]?=some r):∃H:Snap,r.ok H w∧∀q o,H q=some o→w.heap[q]?=some o:=by
 obtain⟨H,h⟩:=h;exact⟨H,h.ok r (List.mem_of_getElem? hi),h.snap⟩
theorem Fr.blkAt (i:Nat) {cs : Array Value} {T : TypeId} (hi:L[i]?=some (.blk q cs T)):w.heap[q]?=some (.cells cs T (0,0)):=by obtain⟨H,h,-⟩:=h.get hi;exact h
theorem Fr.cell (i:Nat) {cs : Array Value} {T : TypeId} (hi:L[i]?=some (.blk q cs T)):∀o,w.cell? ⟨q,o,none⟩=cs[o]?:=aA (h.blkAt i hi)
theorem Fr.frz (i:Nat) {cs : Array Value} {T : TypeId} (hi:L[i]?=some (.blk q cs T)):∀o,w.frozen? ⟨q,o,none⟩=false:=aX (h.blkAt i hi)
theorem Fr.rowAt (i:Nat) (hi:L[i]?=some (.row v e z n xs)):w.ownsRow 0 e z v n xs:=by obtain⟨H,h,-⟩:=h.get hi;exact h
theorem Fr.also {r : Rs} (hi:L[i]?=some r) (f:Pf) (hf:∀H w,r.ok H w→(∀q o,H q=some o→w.heap[q]?=some o)→f.p H):Fr B w (.fact f::L):=by
 obtain⟨H,h⟩:=h;exact⟨H,h.free (r:=.fact f) (hf H w (h.ok r (List.mem_of_getElem? hi)) h.snap) λ q hq=>hq⟩
theorem Fr.sure (f:Pf) (hf:∀H,f.p H):Fr B w (.fact f::L):=by
 obtain⟨H,h⟩:=h;exact⟨H,h.free (r:=.fact f) (hf H) λ q hq=>hq⟩
end
theorem pw_set {R:Rs→Rs→Prop}(hs:∀a b,R a b→R b a):∀{L:List Rs} {i:Nat} {r r':Rs},L.Pairwise R→L[i]?=some r→(∀x j,L[j]?=some x→j≠i→R r' x)→(L.set i r').Pairwise R
 | [],i,r,r',_,hi,_=>by simp at hi
 | x::L,0,r,r',hp,hi,hn=>by
  rw[List.set_cons_zero];rw[List.pairwise_cons] at hp ⊢;refine⟨λ y hy=>?_,hp.2⟩;obtain⟨j,hj,e⟩:=List.getElem_of_mem hy;exact hn y (j+1) (by rw[List.getElem?_cons_succ,List.getElem?_eq_getElem hj,e]) (by omega)
 | x::L,i+1,r,r',hp,hi,hn=>by
  rw[List.set_cons_succ];rw[List.pairwise_cons] at hp ⊢;refine⟨λ y hy=>?_,pw_set hs hp.2 (by simpa using hi) λ y j hj hne=>hn y (j+1) (by simpa using hj) (by omega)⟩;rcases List.mem_or_eq_of_mem_set hy with h|rfl
  ·exact hp.1 y h
  exact hs _ _ (hn x 0 rfl (by omega))
theorem pw_get {R : Rs→Rs→Prop} (hs:∀a b,R a b→R b a) {L : List Rs} (hp:L.Pairwise R) {a b : Rs} (hi:L[i]?=some a) (hj:L[j]?=some b) (hne:i≠j):R a b:=by
 obtain⟨hi',rfl⟩:=List.getElem?_eq_some_iff.1 hi;obtain⟨hj',rfl⟩:=List.getElem?_eq_some_iff.1 hj;rw[List.pairwise_iff_getElem] at hp;rcases Nat.lt_or_gt_of_ne hne with h|h
 ·exact hp i j hi' hj' h
 exact hs _ _ (hp j i hj' hi' h)
theorem FrH.apart {H : Snap} (h:FrH H B w L) {a b : Rs} (hi:L[i]?=some a) (hj:L[j]?=some b) (hne:i≠j):∀q,a.own q→¬ b.own q:=pw_get (λ_ _ h q x y=>h q y x) h.off hi hj hne
theorem FrH.turn {H : Snap} (h:FrH H B w L) (i:Nat) {r r' : Rs} (hi:L[i]?=some r) (hb:Below B.n B.w w') (hs:w.heap.size≤w'.heap.size) (hk:∀q,q<w.heap.size→¬ r.own q→w'.heap[q]?=w.heap[q]?) (hr:r'.ok H w') (ho:∀q,r'.own q→r.own q∨w.heap.size≤q):FrH H B w' (L.set i r'):=by
 have hrm:=List.mem_of_getElem? hi;have key:∀x j,L[j]?=some x→j≠i→x.ok H w'∧∀q,r'.own q→¬ x.own q:=λ x j hj hne=>by
  have hx:=h.ok x (List.mem_of_getElem? hj);have hoff:=h.apart hi hj (Ne.symm hne);refine⟨x.keep H w H w' hx (Snap.le.refl H) λ q hq=>hk q (x.lt H w hx q hq) λ e=>hoff q e hq,λ q h1 h2=>?_⟩;rcases ho q h1 with e|e
  ·exact hoff q e h2
  have:=x.lt H w hx q h2;omega
 have mem:∀x,x∈L.set i r'→x=r'∨∃j,j≠i∧L[j]?=some x:=λ x hx=>by
  obtain⟨j,hj,e⟩:=List.getElem_of_mem hx;by_cases hji:j=i
  ·subst hji;simp at e;exact Or.inl e.symm
  rw[List.getElem_set_ne (by omega)] at e;have hj':j<L.length:=by simpa using hj
  exact Or.inr ⟨j,hji,by rw[List.getElem?_eq_getElem hj',e]⟩
 refine⟨hb,Nat.le_trans h.le hs,λ q o e=>?_,λ x hx=>?_,λ x hx q hq=>?_,pw_set (λ_ _ h q x y=>h q y x) h.off hi λ x j hj hne=>(key x j hj hne).2⟩
 ·have h1:=h.snap q o e;refine (hk q (bO h1) λ hq=>?_).trans h1;rw[(h.lo r hrm q hq).2] at e;cases e
 ·rcases mem x hx with rfl|⟨j,hne,hj⟩
  ·exact hr
  exact (key x j hj hne).1
 rcases mem x hx with rfl|⟨j,hne,hj⟩
 ·rcases ho q hq with e|e
  ·exact h.lo r hrm q e
  refine⟨Nat.le_trans h.le e,?_⟩;cases e2:H q with
  | none=>rfl
  | some o=>have:=bO (h.snap q o e2);omega
 exact h.lo x (List.mem_of_getElem? hj) q hq
theorem Fr.turn (h:Fr B w L) (i:Nat) {r r' : Rs} (hi:L[i]?=some r) (hg:∀q,q<w.heap.size→¬ r.own q→w'.heap[q]?=w.heap[q]?) (ho':w'.os=w.os) (ht:w'.tape=w.tape) (hp:w'.output=w.output) (hs:w.heap.size≤w'.heap.size) (hr:∀H,r.ok H w→r'.ok H w') (ho:∀q,r'.own q→r.own q∨w.heap.size≤q):Fr B w' (L.set i r'):=by
 obtain⟨H,h⟩:=h;have hm:=List.mem_of_getElem? hi;refine⟨H,h.turn i hi ⟨ho'.trans h.below.os,ht.trans h.below.tape,hp.trans h.below.output,Nat.le_trans h.below.size hs,λ k hk=>?_⟩ hs hg (hr H (h.ok r hm)) ho⟩;refine (hg k (Nat.lt_of_lt_of_le hk h.le) λ e=>?_).trans (h.below.block k hk);have:=(h.lo r hm k e).1;omega
theorem Fr.set (h:Fr B w L) (i:Nat) {cs : Array Value} {T : TypeId} (hi:L[i]?=some (.blk q cs T)) (o:Nat) (v:Value):Fr B (w.setCell ⟨q,o,none⟩ v) (L.set i (.blk q (cs.setIfInBounds o v) T)):=
 h.turn i hi (λ k hk hne=>heap_setCell_other _ _ _ _ (λ e=>hne e)) rfl rfl rfl (by simp) (λ H hq=>heap_setCell_same w q o _ _ _ hq) λ k hk=>Or.inl hk
theorem Fr.grown (h:Fr B w L) (i:Nat) {r r' : Rs} {row : Option Nat} (hi:L[i]?=some r) (hg:w.grownBy w' row) (hrow:∀q,row=some q→r.own q) (hr:∀H,r.ok H w→r'.ok H w') (ho:∀q,r'.own q→r.own q∨w.heap.size≤q):Fr B w' (L.set i r'):=
 h.turn i hi (λ q hq hne=>hg.block q hq λ e=>hne (hrow q e.symm)) hg.os hg.tape hg.output hg.size hr ho
theorem Fr.app (h:Fr B w L) (i:Nat) (hi:L[i]?=some (.row v e z n xs)) {n' : Nat} {xs' : List Value} (hg:w.grownBy w' v.ownBlock) (hv:w'.ownsRow 0 e z v' n' xs') (ho:∀q,v'.ownBlock=some q→v.ownBlock=some q∨w.heap.size≤q):Fr B w' (L.set i (.row v' e z n' xs')):=
 h.grown i hi hg (λ q h=>h) (λ H _=>hv) ho
theorem gF {z : Value} {m : Nat} (h:(P.info? e).map (λ i=>(i.zero,i.size,i.bytes))=some (some z,n,m)):∃i,P.info? e=some i∧i.zero=some z∧i.size=n∧i.bytes=m:=by
 cases hi:P.info? e with
 | none=>rw[hi] at h;cases h
 | some i=>
  rw[hi] at h;simp at h;exact⟨i,rfl,h.1,h.2.1,h.2.2⟩
def Rs.el {α:Type}(E:El α)(cs:List Value)(x:α):Rs:=.fact ⟨λ H=>E.p H cs x,λ H H' h hl=>E.up H H' cs x h hl⟩
def Rs.kn (g:Nat)(cur:Array Value)(e:TypeId)(f:Nat × Nat):Rs:=.fact ⟨λ H=>H g=some (.cells cur e f),λ H H' h hl=>hl _ _ h⟩
def SlP {α:Type}(E:El α)(v:Value)(e:TypeId)(z:Nat)(l:List α)(H:Snap):Prop:=∃a c,v=.slice a l.length c∧l.length≤c∧c≤maxLen∧(l≠[]→∃g o cur f,a=some ⟨g,o,none⟩∧H g=some (.cells cur e f)∧∀j (hj:j<l.length),∃cs:List Value,cs.length=z∧(∀i,i<z→cur[o+j*z+i]?=cs[i]?)∧E.p H cs l[j])
def Rs.sl {α:Type}(E:El α)(v:Value)(e:TypeId)(z:Nat)(l:List α):Rs:=.fact ⟨SlP E v e z l,λ H H' h hl=>by
 obtain⟨a,c,h1,h2,h3,h4⟩:=h;refine⟨a,c,h1,h2,h3,λ hne=>?_⟩;obtain⟨g,o,cur,f,e1,e2,e3⟩:=h4 hne;refine⟨g,o,cur,f,e1,hl _ _ e2,λ j hj=>?_⟩;obtain⟨cs,k1,k2,k3⟩:=e3 j hj;exact⟨cs,k1,k2,E.up H H' _ _ k3 hl⟩⟩
theorem Fr.knAt (h:Fr B w L) (i:Nat) (hi:L[i]?=some (.kn g cur e f)):w.heap[g]?=some (.cells cur e f):=by obtain⟨H,h,k⟩:=h.get hi;exact k _ _ h
theorem Fr.knc (h:Fr B w L) (i:Nat) (hi:L[i]?=some (.kn g cur e f)):∀o,w.cell? ⟨g,o,none⟩=cur[o]?:=aA (h.knAt i hi)
theorem Fr.know (h:Fr B w L) {K : List Rs} (hK:∀H w,(∀r,r∈L→r.ok H w)→∀k,k∈K→k.ok H w∧∀q,¬ k.own q):Fr B w (K++L):=by
 obtain⟨H,h⟩:=h;have hk:=hK H w h.ok;clear hK;refine⟨H,?_⟩;induction K with
 | nil=>exact h
 | cons k K ih=>exact (ih λ x hx=>hk x (List.mem_cons_of_mem _ hx)).free (hk k (List.mem_cons_self ..)).1 (hk k (List.mem_cons_self ..)).2
theorem Fr.dup {E : El α} (h:Fr B w L) (i:Nat) {cs : List Value} (hi:L[i]?=some (.el E cs x)):Fr B w (.el E cs x::L):=
 h.know (K:=[_]) λ H w hr k hk=>by
  obtain rfl:=List.mem_singleton.1 hk;exact⟨hr _ (List.mem_of_getElem? hi),λ q hq=>hq⟩
theorem Fr.elem {E : El α} (h:Fr B w L) (i:Nat) (hi:L[i]?=some (.sl E v e z l)) (j:Nat) (hj:j<l.length):∃g o c cur f cs,v=.slice (some ⟨g,o,none⟩) l.length c∧l.length≤c∧c≤maxLen∧cs.length=z∧(∀k,k<z→cur[o+j*z+k]?=cs[k]?)∧Fr B w (.el E cs l[j]::.kn g cur e f::L):=by
 obtain⟨H,h⟩:=h;obtain⟨a,c,h1,h2,h3,h4⟩:SlP E v e z l H:=h.ok _ (List.mem_of_getElem? hi);obtain⟨g,o,cur,f,e1,e2,e3⟩:=h4 (λ e=>by rw[e] at hj;simp at hj);obtain⟨cs,k1,k2,k3⟩:=e3 j hj;exact⟨g,o,c,cur,f,cs,by rw[h1,e1],h2,h3,k1,k2,H,(h.free (r:=.kn g cur e f) e2 λ q hq=>hq).free (r:=.el E cs l[j]) k3 λ q hq=>hq⟩
theorem Fr.slForm {E : El α} (h:Fr B w L) (i:Nat) (hi:L[i]?=some (.sl E v e z l)):∃a c,v=.slice a l.length c∧l.length≤c∧c≤maxLen:=by
 obtain⟨H,h⟩:=h;obtain⟨a,c,h1,h2,h3,h4⟩:SlP E v e z l H:=h.ok _ (List.mem_of_getElem? hi);exact⟨a,c,h1,h2,h3⟩
theorem fQ {z:Nat}:∀{css:List (List Value)} (hz:∀c,c∈css→c.length=z) (j:Nat) (hj:j<css.length) (i:Nat),i<z→css.flatten[j*z+i]?=css[j][i]?
 | [],_,j,hj,_,_=>by simp at hj
 | c::css,hz,0,_,i,hi=>by
  have:=hz c (List.mem_cons_self ..);rw[List.flatten_cons,List.getElem?_append_left (by omega)];simp
 | c::css,hz,j+1,hj,i,hi=>by
  have h0:=hz c (List.mem_cons_self ..);rw[List.flatten_cons,List.getElem?_append_right (by rw[h0,Nat.succ_mul];omega),h0,show (j+1)*z+i - z=j*z+i by rw[Nat.succ_mul];omega,List.getElem_cons_succ];exact fQ (λ x hx=>hz x (List.mem_cons_of_mem _ hx)) j (by simpa using hj) i hi
theorem els_form {E : El α} {H : Snap} (h:(Rs.els E v e z l).ok H w):∃a c,v=.slice a l.length c∧l.length≤c∧c≤maxLen:=by
 obtain⟨css,h1,hz,h2,h3⟩:=h;rcases h2.2 with⟨rfl,hl⟩|⟨g,cap,cu,rfl,hb,hh,a1,a2,_⟩
 ·exact⟨none,0,by rw[hl],by omega,by unfold maxLen;omega⟩
 exact⟨_,_,rfl,a1,a2⟩
theorem Fr.elsForm {E : El α} (h:Fr B w L) (i:Nat) (hi:L[i]?=some (.els E v e z l)):∃a c,v=.slice a l.length c∧l.length≤c∧c≤maxLen:=by
 obtain⟨H,h,-⟩:=h.get hi;exact els_form h
theorem FrH.give {H H' : Snap} (h:FrH H B w L) (i:Nat) {r r' : Rs} (hi:L[i]?=some r) (hl:H.le H') (hn:∀q o,H' q=some o→H q=some o∨(r.own q∧w.heap[q]?=some o)) (hr:r'.ok H' w) (ho:∀q,¬ r'.own q):FrH H' B w (L.set i r'):=by
 have hm:=List.mem_of_getElem? hi;have mem:∀x,x∈L.set i r'→x=r'∨∃j,j≠i∧L[j]?=some x:=λ x hx=>by
  obtain⟨j,hj,e⟩:=List.getElem_of_mem hx;by_cases hji:j=i
  ·subst hji;simp at e;exact Or.inl e.symm
  rw[List.getElem_set_ne (by omega)] at e;have hj':j<L.length:=by simpa using hj
  exact Or.inr ⟨j,hji,by rw[List.getElem?_eq_getElem hj',e]⟩
 refine⟨h.below,h.le,λ q o e=>?_,λ x hx=>?_,λ x hx q hq=>?_,pw_set (λ_ _ h q x y=>h q y x) h.off hi λ x j hj hne q hq=>(ho q hq).elim⟩
 ·rcases hn q o e with e|⟨-,e⟩
  ·exact h.snap q o e
  exact e
 ·rcases mem x hx with rfl|⟨j,hne,hj⟩
  ·exact hr
  exact x.keep H w H' w (h.ok x (List.mem_of_getElem? hj)) hl λ_ _=>rfl
 rcases mem x hx with rfl|⟨j,hne,hj⟩
 ·exact (ho q hq).elim
 obtain⟨h1,h2⟩:=h.lo x (List.mem_of_getElem? hj) q hq;refine⟨h1,?_⟩;cases e:H' q with
 | none=>rfl
 | some o=>
  rcases hn q o e with e|⟨e,-⟩
  ·rw[h2] at e;cases e
  exact (h.apart hi hj (Ne.symm hne) q e hq).elim
def Snap.add (H:Snap)(g:Nat)(o:Obj):Snap:=λ q=>if q=g then some o else H q
theorem Snap.le_add {H : Snap} (h:H g=none):H.le (H.add g o):=λ q x e=>by
 unfold Snap.add;by_cases hq:q=g
 ·subst hq;rw[h] at e;cases e
 rw[if_neg hq];exact e
theorem Snap.add_at (H:Snap) (g:Nat) (o:Obj):H.add g o g=some o:=if_pos rfl
theorem FrH.giveOne {H : Snap} (h:FrH H B w L) (i:Nat) {r r' : Rs} (hi:L[i]?=some r) (hg:r.own g) (hw:w.heap[g]?=some o) (hr:r'.ok (H.add g o) w) (ho:∀q,¬ r'.own q):FrH (H.add g o) B w (L.set i r'):=by
 have hm:=List.mem_of_getElem? hi;refine h.give i hi (Snap.le_add (h.lo r hm g hg).2) (λ q x e=>?_) hr ho;unfold Snap.add at e;by_cases hq:q=g
 ·subst hq;rw[if_pos rfl] at e;cases e;exact Or.inr ⟨hg,hw⟩
 rw[if_neg hq] at e;exact Or.inl e
theorem Fr.give {E : El α} (h:Fr B w L) (i:Nat) (hi:L[i]?=some (.els E v e z l)):Fr B w (L.set i (.sl E v e z l)):=by
 obtain⟨H,h⟩:=h;have hok:=h.ok _ (List.mem_of_getElem? hi);obtain⟨a,c,hv,hc1,hc2⟩:=els_form hok;obtain⟨css,h1,hz,h2,h3⟩:=hok;by_cases hne:l=[]
 ·exact⟨H,h.give i hi (Snap.le.refl H) (λ q o e=>Or.inl e) ⟨a,c,hv,hc1,hc2,λ h=>absurd hne h⟩ λ q hq=>hq⟩
 rcases h2.2 with⟨rfl,hl⟩|⟨g,cap,cu,rfl,hb,hh,a1,a2,a3,a4⟩
 ·exact absurd (List.eq_nil_of_length_eq_zero hl) hne
 cases hv;refine⟨_,h.giveOne i hi (g:=g) rfl hh ⟨_,_,rfl,hc1,hc2,λ_=>⟨g,0,cu,(0,0),rfl,Snap.add_at _ _ _,λ j hj=>?_⟩⟩ λ q hq=>hq⟩;have hj':j<css.length:=by omega
 refine⟨css[j],hz _ (List.getElem_mem hj'),λ k hk=>?_,E.up _ _ _ _ (h3 j hj hj') (Snap.le_add (h.lo _ (List.mem_of_getElem? hi) g rfl).2)⟩;rw[← fQ hz j hj' k hk,← a4,List.getElem?_take_of_lt,Array.getElem?_toList,Nat.zero_add];calc j*z+k<j*z+z:=by omega
  _=(j+1)*z:=(Nat.succ_mul j z).symm
  _≤l.length*z:=Nat.mul_le_mul_right z hj
theorem els_app {E : El α} {H : Snap} {w' : World} {css : List (List Value)} {cs : List Value} (h1:css.length=l.length) (hz:∀c,c∈css→c.length=z) (h3:∀j (h:j<l.length) (h':j<css.length),E.p H css[j] l[j]) (hc:cs.length=z) (hx:E.p H cs x) (ho:w'.ownsRow 0 e z v' (l.length+1) (css.flatten++cs)):(Rs.els E v' e z (l++[x])).ok H w':=by
 refine⟨css++[cs],by simp [h1],λ c hc'=>?_,?_,λ j hj hj'=>?_⟩
 ·rcases List.mem_append.1 hc' with h|h
  ·exact hz c h
  obtain rfl:c=cs:=by simpa using h
  exact hc
 ·rw[List.flatten_append,show (l++[x]).length=l.length+1 by simp];simpa using ho
 by_cases q:j<l.length
 ·have q':j<css.length:=by omega
  rw[List.getElem_append_left q];simp only[List.getElem_append_left q'];exact h3 j q q'
 have e:j=l.length:=by simp at hj;omega
 subst e;rw[List.getElem_append_right (Nat.le_refl _)];simp only[List.getElem_append_right (show css.length≤l.length by omega),h1,Nat.sub_self,List.getElem_cons_zero];exact hx
theorem Fr.elApp {E : El α} {t : TypeId}
  (hinfo:(P.info? e).map (λ i=>(i.zero,i.size,i.bytes))=some (some zv,z,by')) (ht:P.underlying t=some (.slice e)) (hz:zv.cells.size=z) (hz0:0<z) (hby:by'≤1000)
  {b:Nat} {cs:Array Value} {T:TypeId} (h:Fr B w (.blk b cs T::L)) (i:Nat) {v:Value} {l:List α} (hi:L[i]?=some (.els E v e z l)) (hn:l.length≤16000) {x:α} (j:Nat) (hx:L[j]?=some (.el E cs.toList x))
  {o:Oper} {a:Act} (p q:Operand) (ho:o.op=.call { callee:=.builtin .append,args:=#[p,q],argTypes:=#[t,t] }) (hs:a.eval p=v)
  {c:Nat} (hx':a.eval q=.slice (some ⟨b,0,none⟩) 1 c) (hl:cs.size=z) (h1:cs.toList.all (λ u=>u.oneCell')=true) {K:Act→World→Prop} {Q:Exit→Act→World→Prop}
  (k:∀g cap w',Fr B w' (L.set i (.els E (.slice (some ⟨g,0,none⟩) (l.length+1) cap) e z (l++[x])))→w.grownBy w' v.ownBlock→K (a.put o.dst (.slice (some ⟨g,0,none⟩) (l.length+1) cap)) w'):
  Oper.wp P o a w K Q:=by
 obtain⟨i0,hi0,hz0',hz1,hz2⟩:=gF hinfo;have hb:(l.length+1)*by'≤140737488355328:=Nat.le_trans (Nat.mul_le_mul (show l.length+1≤32000 by omega) hby) (by decide)
 obtain⟨H,hF⟩:=h;have hm:Rs.els E v e z l∈L:=List.mem_of_getElem? hi;obtain⟨css,c1,c2,c3,c4⟩:=hF.ok _ (List.mem_cons_of_mem _ hm);have hblk:w.heap[b]?=some (.cells cs T (0,0)):=hF.ok _ (List.mem_cons_self ..);have hxx:E.p H cs.toList x:=hF.ok _ (List.mem_cons_of_mem _ (List.mem_of_getElem? hx));refine wp_append_lies w p q t ho 0 e i0 zv z by' ht hi0 hz0' hz1 hz2 hz hz0 v l.length css.flatten hs c3 ⟨b,0,none⟩ 1 c cs.toList hx' (by simp [hl]) (World.news_of_block hblk) (λ u hu=>List.all_eq_true.1 h1 u hu) (by decide) (by unfold maxLen;omega) hb (Nat.zero_le _) w.heap.size rfl ?_
 intro g cap w' h2 h3 h4 h5;refine k g cap w' ?_ h3;have hFt:FrH H B w L:=⟨hF.below,hF.le,hF.snap,λ r hr=>hF.ok r (List.mem_cons_of_mem _ hr),λ r hr=>hF.lo r (List.mem_cons_of_mem _ hr),(List.pairwise_cons.1 hF.off).2⟩
 have hlo:=hFt.lo _ hm;refine⟨H,hFt.turn i hi ⟨h3.os.trans hF.below.os,h3.tape.trans hF.below.tape,h3.output.trans hF.below.output,Nat.le_trans hF.below.size h3.size,λ k hk=>?_⟩ h3.size (λ q hq hne=>h3.block q hq λ e=>hne e.symm) (els_app c1 c2 c4 (by simpa using hl) hxx h2) λ q hq=>?_⟩
 ·refine (h3.block k (Nat.lt_of_lt_of_le hk hF.le) λ e=>?_).trans (hF.below.block k hk);have:=(hlo k e.symm).1;omega
 have e:g=q:=Option.some.inj hq;subst e;rcases h4 with e|e
 ·exact Or.inl e
 exact Or.inr (Nat.le_of_eq e.symm)
section
variable {E : El α} (h:Fr B w L) (i:Nat) {cs : Array Value} {T : TypeId} (hi:L[i]?=some (.blk q cs T))
include E h hi
theorem Fr.lay (css:List (List Value)) (l:List α) (hcs:cs.toList=css.flatten) (hz:∀c,c∈css→c.length=z) (hl:css.length=l.length) (hn:l.length≤16000) (hE:∀j (hj:j<l.length) (hj':j<css.length),∃k:Nat,L[k]?=some (.el E css[j] l[j])):Fr B w (L.set i (.els E (.slice (some ⟨q,0,none⟩) l.length l.length) T z l)):=by
 obtain⟨H,h⟩:=h;have hm:=List.mem_of_getElem? hi;have hb:w.heap[q]?=some (.cells cs T (0,0)):=h.ok _ hm;have hlen:css.flatten.length=l.length*z:=by
  rw[← hl];clear hcs hl hE;induction css with
  | nil=>simp
  | cons c css ih=>rw[List.flatten_cons,List.length_append,ih λ x hx=>hz x (List.mem_cons_of_mem _ hx),hz c (List.mem_cons_self ..),List.length_cons,Nat.succ_mul];omega
 have hsz:cs.size=l.length*z:=by rw[← hlen,← hcs,Array.length_toList]
 refine⟨H,h.turn i hi h.below (Nat.le_refl _) (λ_ _ _=>rfl) ⟨css,hl,hz,⟨hlen,Or.inr ⟨q,l.length,cs,rfl,Nat.zero_le _,hb,Nat.le_refl _,by unfold maxLen;omega,hsz,?_⟩⟩,λ j hj hj'=>?_⟩ λ k hk=>Or.inl (Option.some.inj hk).symm⟩
 ·rw[hcs,List.take_of_length_le (by omega)]
 obtain⟨k,hk⟩:=hE j hj hj';exact h.ok _ (List.mem_of_getElem? hk)
theorem Fr.lay1 (j:Nat) (hj:L[j]?=some (.el E cs.toList x)) (hz:cs.toList.length=z):Fr B w (L.set i (.els E (.slice (some ⟨q,0,none⟩) 1 1) T z [x])):=
 h.lay i hi [cs.toList] [x] (by simp) (by simpa using hz) rfl (by simp) λ k hk hk'=>⟨j,by
  obtain rfl:k=0:=by simpa using hk
  exact hj⟩
theorem Fr.lay2 (j k:Nat) {c d : List Value} {y : α} (hj:L[j]?=some (.el E c x)) (hk:L[k]?=some (.el E d y)) (hcs:cs.toList=c++d) (hc:c.length=z) (hd:d.length=z):Fr B w (L.set i (.els E (.slice (some ⟨q,0,none⟩) 2 2) T z [x,y])):=
 h.lay i hi [c,d] [x,y] (by simpa using hcs) (by simp [hc,hd]) rfl (by simp) λ n hn hn'=>by
  have:n=0∨n=1:=by simp at hn;omega
  rcases this with rfl|rfl
  ·exact⟨j,hj⟩
  exact⟨k,hk⟩
end
def letB (c:Nat):Bool:=(decide (97≤c) && decide (c≤122)) || (decide (65≤c) && decide (c≤90))
def digB (c:Nat):Bool:=decide (48≤c) && decide (c≤57)
def signB (s:List UInt8)(i:Nat):Bool:=match s[i]? with|some c=>letB c.toNat || (decide (i≠0) && (digB c.toNat || decide (c.toNat=95)))|none=>false
def reserved:List (List UInt8):=[[98,114,101,97,107],[99,111,117,110,116],[101,108,115,101],[101,120,116,101,114,110],[101,120,116,114,97],[102,110],[105,102],[105,110,116],[108,111,110,103],[112,117,116],[114,101,116,117,114,110],[115,116,97,116,105,99],[115,116,114,117,99,116],[119,104,105,108,101]]
def nameB (s:List UInt8):Bool:=decide (1≤s.length) && decide (s.length≤16) && ((List.range s.length).all λ i=>signB s i) && !(reserved.contains s)
def bytes (s:ByteArray):List UInt8:=s.data.toList
theorem str_eq (a b:ByteArray):(a.toList == b.toList)=decide (a=b):=by
 by_cases h:a=b
 ·subst h;simp
 rw[decide_eq_false h];simp only[ByteArray.toList_eq,beq_eq_false_iff_ne,ne_eq];intro e;exact h (ByteArray.ext (Array.toList_inj.1 e))
theorem pletter_any (c:Nat) (w:World) (hc:c<256):Calls prog 96 #[.int .u8 c] w λ e w'=>e=.returned (.bool (letB c))∧w'=w:=by
 have key:∀b1 b2 b3 b4,decide (97≤c)=b1→decide (c≤122)=b2→decide (65≤c)=b3→decide (c≤90)=b4→letB c=((b1 && b2) || (b3 && b4)):=λ_ _ _ _ h1 h2 h3 h4=>by unfold letB;rw[h1,h2,h3,h4]
 by_cases a1:97≤c
 ·by_cases a2:c≤122
  ·rw[key true true _ _ (decide_eq_true a1) (decide_eq_true a2) rfl rfl];have d1:(97:Int)≤c:=by omega
   have d2:(c:Int)≤122:=by omega
   go_enter func96,ntmps96;go_wp2;go_ret
   exact⟨rfl,rfl⟩
  rw[key true false true false (decide_eq_true a1) (decide_eq_false a2) (decide_eq_true (by omega)) (decide_eq_false (by omega))];have d1:(97:Int)≤c:=by omega
  have d2:¬ (c:Int)≤122:=by omega
  have d3:(65:Int)≤c:=by omega
  have d4:¬ (c:Int)≤90:=by omega
  go_enter func96,ntmps96;go_wp2;go_ret
  exact⟨rfl,rfl⟩
 by_cases a3:65≤c
 ·have d1:¬ (97:Int)≤c:=by omega
  have d3:(65:Int)≤c:=by omega
  by_cases a4:c≤90
  ·rw[key false true true true (decide_eq_false a1) (decide_eq_true (by omega)) (decide_eq_true a3) (decide_eq_true a4)];have d4:(c:Int)≤90:=by omega
   go_enter func96,ntmps96;go_wp2;go_ret
   exact⟨rfl,rfl⟩
  rw[key false true true false (decide_eq_false a1) (decide_eq_true (by omega)) (decide_eq_true a3) (decide_eq_false a4)];have d4:¬ (c:Int)≤90:=by omega
  go_enter func96,ntmps96;go_wp2;go_ret
  exact⟨rfl,rfl⟩
 rw[key false true false true (decide_eq_false a1) (decide_eq_true (by omega)) (decide_eq_false a3) (decide_eq_true (by omega))];have d1:¬ (97:Int)≤c:=by omega
 have d3:¬ (65:Int)≤c:=by omega
 go_enter func96,ntmps96;go_wp2;go_ret
 exact⟨rfl,rfl⟩
theorem pdigit_any (c:Nat) (w:World) (hc:c<256):Calls prog 99 #[.int .u8 c] w λ e w'=>e=.returned (.bool (digB c))∧w'=w:=by
 have key:∀b1 b2,decide (48≤c)=b1→decide (c≤57)=b2→digB c=(b1 && b2):=λ_ _ h1 h2=>by unfold digB;rw[h1,h2]
 by_cases a1:48≤c
 ·have d1:(48:Int)≤c:=by omega
  by_cases a2:c≤57
  ·rw[key true true (decide_eq_true a1) (decide_eq_true a2)];have d2:(c:Int)≤57:=by omega
   go_enter func99,ntmps99;go_wp2;go_ret
   exact⟨rfl,rfl⟩
  rw[key true false (decide_eq_true a1) (decide_eq_false a2)];have d2:¬ (c:Int)≤57:=by omega
  go_enter func99,ntmps99;go_wp2;go_ret
  exact⟨rfl,rfl⟩
 rw[key false true (decide_eq_false a1) (decide_eq_true (by omega))];have d1:¬ (48:Int)≤c:=by omega
 go_enter func99,ntmps99;go_wp2;go_ret
 exact⟨rfl,rfl⟩
theorem bytes_eq (s:ByteArray) (l:List UInt8) (h:¬ bytes s=l):(s.toList == l)=false:=by
 simp only[ByteArray.toList_eq,beq_eq_false_iff_ne,ne_eq];exact h
theorem bytes_same (s:ByteArray) (l:List UInt8) (h:bytes s=l):(s.toList == l)=true:=by
 simp only[ByteArray.toList_eq,beq_iff_eq];exact h
theorem barred_any (s:ByteArray) (w:World):Calls prog 111 #[.string s] w λ e w'=>e=.returned (.bool (reserved.contains (bytes s)))∧w'=w:=by
 by_cases a0:bytes s=[98,114,101,97,107]
 ·have d0:=bytes_same s [98,114,101,97,107] a0;rw[show reserved.contains (bytes s)=true by rw[a0];decide];clear a0;go_enter func111,ntmps111;go_wp2;go_ret
  exact⟨rfl,rfl⟩
 have d0:=bytes_eq s [98,114,101,97,107] a0;by_cases a1:bytes s=[99,111,117,110,116]
 ·have d1:=bytes_same s [99,111,117,110,116] a1;rw[show reserved.contains (bytes s)=true by rw[a1];decide];clear a1;go_enter func111,ntmps111;go_wp2;go_ret
  exact⟨rfl,rfl⟩
 have d1:=bytes_eq s [99,111,117,110,116] a1;by_cases a2:bytes s=[101,108,115,101]
 ·have d2:=bytes_same s [101,108,115,101] a2;rw[show reserved.contains (bytes s)=true by rw[a2];decide];clear a2;go_enter func111,ntmps111;go_wp2;go_ret
  exact⟨rfl,rfl⟩
 have d2:=bytes_eq s [101,108,115,101] a2;by_cases a3:bytes s=[101,120,116,101,114,110]
 ·have d3:=bytes_same s [101,120,116,101,114,110] a3;rw[show reserved.contains (bytes s)=true by rw[a3];decide];clear a3;go_enter func111,ntmps111;go_wp2;go_ret
  exact⟨rfl,rfl⟩
 have d3:=bytes_eq s [101,120,116,101,114,110] a3;by_cases a4:bytes s=[101,120,116,114,97]
 ·have d4:=bytes_same s [101,120,116,114,97] a4;rw[show reserved.contains (bytes s)=true by rw[a4];decide];clear a4;go_enter func111,ntmps111;go_wp2;go_ret
  exact⟨rfl,rfl⟩
 have d4:=bytes_eq s [101,120,116,114,97] a4;by_cases a5:bytes s=[102,110]
 ·have d5:=bytes_same s [102,110] a5;rw[show reserved.contains (bytes s)=true by rw[a5];decide];clear a5;go_enter func111,ntmps111;go_wp2;go_ret
  exact⟨rfl,rfl⟩
 have d5:=bytes_eq s [102,110] a5;by_cases a6:bytes s=[105,102]
 ·have d6:=bytes_same s [105,102] a6;rw[show reserved.contains (bytes s)=true by rw[a6];decide];clear a6;go_enter func111,ntmps111;go_wp2;go_ret
  exact⟨rfl,rfl⟩
 have d6:=bytes_eq s [105,102] a6;by_cases a7:bytes s=[105,110,116]
 ·have d7:=bytes_same s [105,110,116] a7;rw[show reserved.contains (bytes s)=true by rw[a7];decide];clear a7;go_enter func111,ntmps111;go_wp2;go_ret
  exact⟨rfl,rfl⟩
 have d7:=bytes_eq s [105,110,116] a7;by_cases a8:bytes s=[108,111,110,103]
 ·have d8:=bytes_same s [108,111,110,103] a8;rw[show reserved.contains (bytes s)=true by rw[a8];decide];clear a8;go_enter func111,ntmps111;go_wp2;go_ret
  exact⟨rfl,rfl⟩
 have d8:=bytes_eq s [108,111,110,103] a8;by_cases a9:bytes s=[112,117,116]
 ·have d9:=bytes_same s [112,117,116] a9;rw[show reserved.contains (bytes s)=true by rw[a9];decide];clear a9;go_enter func111,ntmps111;go_wp2;go_ret
  exact⟨rfl,rfl⟩
 have d9:=bytes_eq s [112,117,116] a9;by_cases a10:bytes s=[114,101,116,117,114,110]
 ·have d10:=bytes_same s [114,101,116,117,114,110] a10;rw[show reserved.contains (bytes s)=true by rw[a10];decide];clear a10;go_enter func111,ntmps111;go_wp2;go_ret
  exact⟨rfl,rfl⟩
 have d10:=bytes_eq s [114,101,116,117,114,110] a10;by_cases a11:bytes s=[115,116,97,116,105,99]
 ·have d11:=bytes_same s [115,116,97,116,105,99] a11;rw[show reserved.contains (bytes s)=true by rw[a11];decide];clear a11;go_enter func111,ntmps111;go_wp2;go_ret
  exact⟨rfl,rfl⟩
 have d11:=bytes_eq s [115,116,97,116,105,99] a11;by_cases a12:bytes s=[115,116,114,117,99,116]
 ·have d12:=bytes_same s [115,116,114,117,99,116] a12;rw[show reserved.contains (bytes s)=true by rw[a12];decide];clear a12;go_enter func111,ntmps111;go_wp2;go_ret
  exact⟨rfl,rfl⟩
 have d12:=bytes_eq s [115,116,114,117,99,116] a12;by_cases a13:bytes s=[119,104,105,108,101]
 ·have d13:=bytes_same s [119,104,105,108,101] a13;rw[show reserved.contains (bytes s)=true by rw[a13];decide];clear a13;go_enter func111,ntmps111;go_wp2;go_ret
  exact⟨rfl,rfl⟩
 have d13:=bytes_eq s [119,104,105,108,101] a13;have hn:reserved.contains (bytes s)=false:=by
  rw[Bool.eq_false_iff];intro h;rw[List.contains_iff_mem] at h;simp only[reserved,List.mem_cons,List.not_mem_nil,or_false] at h;rcases h with h|h|h|h|h|h|h|h|h|h|h|h|h|h
  ·exact a0 h
  ·exact a1 h
  ·exact a2 h
  ·exact a3 h
  ·exact a4 h
  ·exact a5 h
  ·exact a6 h
  ·exact a7 h
  ·exact a8 h
  ·exact a9 h
  ·exact a10 h
  ·exact a11 h
  ·exact a12 h
  exact a13 h
 rw[hn];clear hn a0 a1 a2 a3 a4 a5 a6 a7 a8 a9 a10 a11 a12 a13;go_enter func111,ntmps111;go_wp2;go_ret
 exact⟨rfl,rfl⟩
def inNB (c:Nat):Bool:=letB c || digB c || decide (c=95)
theorem pin_any (c:Nat) (w:World) (hc:c<256):Calls prog 98 #[.int .u8 c] w λ e w'=>e=.returned (.bool (inNB c))∧w'=w:=by
 have hlet:=λ w'=>pletter_any c w' hc;have hdig:=λ w'=>pdigit_any c w' hc;obtain⟨r,hr⟩:∃r,r=inNB c:=⟨_,rfl⟩
 rw[← hr];unfold inNB at hr;have HR:=ah hr;clear hr;cases hL:letB c with
 | true=>
  rw[hL] at hlet;obtain rfl:r=true:=by rw[HR.out,hL];rfl
  go_enter func98,ntmps98;go_wp2_with fail;go_at_call 96;refine (hlet _).mono ?_;rintro e w1 ⟨rfl,rfl⟩;go_wp2;go_ret
  exact⟨rfl,rfl⟩
 | false=>
  rw[hL] at hlet;cases hD:digB c with
  | true=>
   rw[hD] at hdig;obtain rfl:r=true:=by rw[HR.out,hL,hD];rfl
   go_enter func98,ntmps98;go_wp2_with fail;go_at_call 96;refine (hlet _).mono ?_;rintro e w1 ⟨rfl,rfl⟩;go_wp2_with fail;go_at_call 99;refine (hdig _).mono ?_;rintro e w1 ⟨rfl,rfl⟩;go_wp2;go_ret
   exact⟨rfl,rfl⟩
  | false=>
   rw[hD] at hdig;obtain rfl:r=((c:Int) == 95):=by
    rw[HR.out,hL,hD];by_cases h:c=95
    ·subst h;rfl
    rw[decide_eq_false h];simp;omega
   clear HR;go_enter func98,ntmps98;go_wp2_with fail;go_at_call 96;refine (hlet _).mono ?_;rintro e w1 ⟨rfl,rfl⟩;go_wp2_with fail;go_at_call 99;refine (hdig _).mono ?_;rintro e w1 ⟨rfl,rfl⟩;go_wp2;go_ret
   exact⟨rfl,rfl⟩
theorem sign_at (s:ByteArray) (k:Nat) (hlt:k<s.size):signB (bytes s) k=(letB s[k].toNat || (decide (k≠0) && (digB s[k].toNat || decide (s[k].toNat=95)))):=by
 have e:(bytes s)[k]?=some s[k]:=by
  show s.data.toList[k]?=_;rw[Array.getElem?_toList];exact Array.getElem?_eq_getElem hlt
 unfold signB;rw[e]
theorem name_bad (s:ByteArray) (k:Nat) (hlt:k<s.size) (h:signB (bytes s) k=false):nameB (bytes s)=false:=by
 unfold nameB;have:((List.range (bytes s).length).all λ i=>signB (bytes s) i)=false:=by
  rw[Bool.eq_false_iff];intro e;rw[List.all_eq_true] at e;have:=e k (by rw[List.mem_range];exact hlt);rw[h] at this;cases this
 rw[this];simp
theorem pname_any (s:ByteArray) (w:World) (hs:s.size≤maxLen):Calls prog 82 #[.string s] w λ e w'=>e=.returned (.bool (nameB (bytes s)))∧w'=w:=by
 have hm:maxLen=9223372036854775807:=rfl;have hl:(bytes s).length=s.size:=rfl;by_cases a1:s.size<1
 ·have:nameB (bytes s)=false:=by unfold nameB;rw[hl,decide_eq_false (by omega)];rfl
  rw[this];have d1:(s.size:Int)<1:=by omega
  go_enter func82,ntmps82;go_wp2;go_ret
  exact⟨rfl,rfl⟩
 have d1:¬ (s.size:Int)<1:=by omega
 by_cases a2:16<s.size
 ·have:nameB (bytes s)=false:=by unfold nameB;rw[hl,decide_eq_true (show 1≤s.size by omega),decide_eq_false (show ¬ s.size≤16 by omega)];rfl
  rw[this];have d2:(16:Int)<s.size:=by omega
  go_enter func82,ntmps82;go_wp2;go_ret
  exact⟨rfl,rfl⟩
 have d2:¬ (16:Int)<s.size:=by omega
 have h0:0<s.size:=by omega
 have h0i:(0:Int)<s.size:=by omega
 have hlet0:=λ w'=>pletter_any s[0].toNat w' (UInt8.toNat_lt _);have hs0:=sign_at s 0 h0;cases hL0:letB s[0].toNat with
 | false=>
  rw[hL0] at hlet0 hs0;have HF:Hid (nameB (bytes s)=false):=name_bad s 0 h0 (by rw[hs0];rfl);clear hs0;rw[HF.out];go_enter func82,ntmps82;go_wp2_with fail;go_at_call 96;refine (hlet0 _).mono ?_;rintro e w1 ⟨rfl,rfl⟩;go_wp2;go_ret
  exact⟨rfl,rfl⟩
 | true=>
 rw[hL0] at hlet0 hs0;have HS0:Hid (signB (bytes s) 0=true):=by show _=_;rw[hs0];rfl
 clear hs0;go_enter func82,ntmps82;go_wp2_with fail;go_at_call 96;refine (hlet0 _).mono ?_;rintro e w1 ⟨rfl,rfl⟩;go_wp2;go_loopw [3] (λ i wr=>∃k:Nat,k≤s.size∧1≤k∧i=.int .i64 k∧wr=w1∧Hid (∀j,j<k→signB (bytes s) j=true)) (λ i _=>s.size - (intOf i).toNat)
 case atStart=>exact⟨1,by omega,Nat.le_refl _,rfl,rfl,λ j hj=>(show j=0 by omega) ▸ HS0⟩
 clear hlet0;obtain⟨k,hk,k1,rfl,rfl,HK⟩:=hrel;by_cases hlt:k<s.size
 ·have hlt':(k:Int)<s.size:=by omega
  have hidx:(0:Int)≤k∧(k:Int)<s.size:=by omega
  have hb:s[k].toNat<256:=UInt8.toNat_lt _;have hsig:=sign_at s k hlt;rw[decide_eq_true (show k≠0 by omega),Bool.true_and] at hsig;have HE:Hid (signB (bytes s) k=true→∀j,j<k+1→signB (bytes s) j=true):=λ h j hj=>by
   by_cases e:j=k
   ·subst e;exact h
   exact HK j (by omega)
  have HF:Hid (signB (bytes s) k=false→nameB (bytes s)=false):=λ h=>name_bad s k hlt h;have hin:=λ w'=>pin_any s[k].toNat w' hb;have hsig2:signB (bytes s) k=inNB s[k].toNat:=by rw[hsig];unfold inNB;rw[Bool.or_assoc]
  clear hsig;cases hI:inNB s[k].toNat with
  | true=>
   rw[hI] at hin hsig2;go_wp2_with fail;go_at_call 98;refine (hin _).mono ?_;rintro e w1 ⟨rfl,rfl⟩;go_wp2;go_roundw
   case rel=>exact⟨k+1,by omega,by omega,by go_num,trivial,HE hsig2⟩
   case measure=>simp [intOf];omega
  | false=>
   rw[hI] at hin hsig2;go_wp2_with fail;go_at_call 98;refine (hin _).mono ?_;rintro e w1 ⟨rfl,rfl⟩;go_wp2;go_ret
   exact⟨by rw[HF.out hsig2];rfl,rfl⟩
 have hkn:k=s.size:=by omega
 subst hkn;have hlt':¬ (s.size:Int)<s.size:=by omega
 have hba:=λ w'=>barred_any s w';obtain⟨rb,hrb⟩:∃rb,rb=reserved.contains (bytes s):=⟨_,rfl⟩
 have HN:Hid (nameB (bytes s)=!rb):=by
  show _=_;unfold nameB;rw[hrb];rw[hl,decide_eq_true (show 1≤s.size by omega),decide_eq_true (show s.size≤16 by omega),(List.all_eq_true).2 (λ i hi=>HK.out i (List.mem_range.1 hi))];rfl
 rw[← hrb] at hba;clear hrb;go_wp2_with fail;go_at_call 111;refine (hba _).mono ?_;rintro e w2 ⟨rfl,rfl⟩;go_wp2;go_ret
 exact⟨by rw[HN.out];rfl,rfl⟩
structure Tok where
 kind:Int
 text:ByteArray
 at_:Nat
def Tok.cells (k:Tok):List Value:=[.int .i64 k.kind,.string k.text,.int .i64 k.at_]
def TokE:El Tok:=⟨λ_ cs t=>cs=t.cells,λ_ _ _ _ h _=>h⟩
inductive Nd
 | mk (kind:Int) (text:ByteArray) (num:Int) (kids:List Nd)
def Nd.kind:Nd→Int|.mk k _ _ _=>k
def Nd.text:Nd→ByteArray|.mk _ t _ _=>t
def Nd.num:Nd→Int|.mk _ _ n _=>n
def Nd.kids:Nd→List Nd|.mk _ _ _ l=>l
abbrev ndc (k:Int)(s:ByteArray)(m:Int)(a:Option Addr)(n c:Nat):List Value:=[.int .i64 k,.string s,.int .i64 m,.slice a n c]
inductive NdH (H:Snap):List Value→Nd→Prop
 | leaf (k:Int) (s:ByteArray) (m:Int) (a:Option Addr) (c:Nat):c≤maxLen→NdH H (ndc k s m a 0 c) (.mk k s m [])
 | full (k:Int) (s:ByteArray) (m:Int) (kids:List Nd) (g o c:Nat) (cur:Array Value) (f:Nat × Nat) (E:Nat→List Value):kids≠[]→kids.length≤c→c≤maxLen→H g=some (.cells cur 52 f) →
   (∀j,j<kids.length→(E j).length=4)→(∀j i,j<kids.length→i<4→cur[o+j*4+i]?=(E j)[i]?)→(∀j (hj:j<kids.length),NdH H (E j) kids[j])→NdH H (ndc k s m (some ⟨g,o,none⟩) kids.length c) (.mk k s m kids)
theorem NdH.up {H H' : Snap} {cs : List Value} {n : Nd} (h:NdH H cs n) (hl:H.le H'):NdH H' cs n:=by
 induction h with
 | leaf k s m a c h=>exact .leaf k s m a c h
 | full k s m kids g o c cur f E h1 h2 h3 h4 h5 h6 _ ih=>exact .full k s m kids g o c cur f E h1 h2 h3 (hl _ _ h4) h5 h6 ih
def NdE:El Nd:=⟨λ H cs n=>NdH H cs n,λ_ _ _ _ h hl=>h.up hl⟩
theorem NdH.of_sl {H : Snap} {l : List Nd} (h:SlP NdE (.slice a n c) 52 4 l H) (k:Int) (s:ByteArray) (m:Int):NdH H (ndc k s m a n c) (.mk k s m l):=by
 obtain⟨a',c',e,h2,h3,h4⟩:=h;cases e;by_cases hne:l=[]
 ·subst hne;exact .leaf k s m a c h3
 obtain⟨g,o,cur,f,rfl,e2,e3⟩:=h4 hne;refine .full k s m l g o c cur f (λ j=>if hj:j<l.length then (e3 j hj).choose else []) hne h2 h3 e2 (λ j hj=>?_) (λ j i hj hi=>?_) (λ j hj=>?_)
 ·rw[dif_pos hj];exact (e3 j hj).choose_spec.1
 ·rw[dif_pos hj];exact (e3 j hj).choose_spec.2.1 i hi
 rw[dif_pos hj];exact (e3 j hj).choose_spec.2.2
theorem NdH.sl {H : Snap} {x : Nd} (h:NdH H (ndc k s m a n c) x):∃l,x=.mk k s m l∧n=l.length∧SlP NdE (.slice a n c) 52 4 l H:=by
 generalize hg:ndc k s m a n c=cs at h;cases h with
 | leaf k' s' m' a' c' hc=>
  cases hg;exact⟨[],rfl,rfl,a,c,rfl,Nat.zero_le _,hc,λ h=>absurd rfl h⟩
 | full k' s' m' kids g o c' cur f E h1 h2 h3 h4 h5 h6 h7=>
  cases hg;exact⟨kids,rfl,rfl,_,c,rfl,h2,h3,λ_=>⟨g,o,cur,f,rfl,h4,λ j hj=>⟨E j,h5 j hj,λ i hi=>h6 j i hj hi,h7 j hj⟩⟩⟩
theorem NdH.form {H : Snap} {cs : List Value} {x : Nd} (h:NdH H cs x):∃a c,cs=ndc x.kind x.text x.num a x.kids.length c:=by
 cases h with
 | leaf k s m a c hc=>exact⟨a,c,rfl⟩
 | full k s m kids g o c cur f E=>exact⟨_,c,rfl⟩
theorem Fr.ndOf (h:Fr B w L) (i:Nat) {l : List Nd} (hi:L[i]?=some (.sl NdE (.slice a n c) 52 4 l)) (k:Int) (s:ByteArray) (m:Int):Fr B w (.el NdE (ndc k s m a n c) (.mk k s m l)::L):=
 h.know (K:=[_]) λ H w hr k hk=>by
  obtain rfl:=List.mem_singleton.1 hk;exact⟨NdH.of_sl (hr _ (List.mem_of_getElem? hi)) _ s m,λ q hq=>hq⟩
theorem Fr.ndBare (h:Fr B w L) (k:Int) (s:ByteArray) (m:Int):Fr B w (.el NdE (ndc k s m none 0 0) (.mk k s m [])::L):=
 h.know (K:=[_]) λ H w hr x hx=>by
  obtain rfl:=List.mem_singleton.1 hx;exact⟨.leaf k s m none 0 (by unfold maxLen;omega),λ q hq=>hq⟩
theorem Fr.kids (h:Fr B w L) (i:Nat) {l : List Nd} (hi:L[i]?=some (.el NdE (ndc k s m a n c) (.mk k s m l))):n=l.length∧Fr B w (.sl NdE (.slice a n c) 52 4 l::L):=by
 have h2:∀H w,(∀r,r∈L→r.ok H w)→n=l.length∧SlP NdE (.slice a n c) 52 4 l H:=λ H w hr=>by
  have:=hr _ (List.mem_of_getElem? hi);obtain⟨l',e,h1,h2⟩:=NdH.sl (show NdH H _ _ from this);cases e;exact⟨h1,h2⟩
 refine⟨?_,h.know (K:=[_]) λ H w hr x hx=>?_⟩
 ·obtain⟨H,h⟩:=h;exact (h2 H w h.ok).1
 obtain rfl:=List.mem_singleton.1 hx;exact⟨(h2 H w hr).2,λ q hq=>hq⟩
theorem Fr.ndForm (h:Fr B w L) (i:Nat) {cs : List Value} {x : Nd} (hi:L[i]?=some (.el NdE cs x)):∃a c,cs=ndc x.kind x.text x.num a x.kids.length c:=by
 obtain⟨H,h,-⟩:=h.get hi;exact NdH.form h
inductive Q (α:Type)
 | ok (x:α) (r:List Tok)
 | no (r:List Tok)
def Q.bind {α β:Type}(q:Q α)(f:α→List Tok→Q β):Q β:=match q with|.ok x r=>f x r|.no r=>.no r
def Q.map {α β:Type}(q:Q α)(f:α→β):Q β:=match q with|.ok x r=>.ok (f x) r|.no r=>.no r
def tx:List Tok→ByteArray|[]=>⟨#[]⟩|t::_=>t.text
def nmAt (ts:List Tok)(k:Nat):Bool:=match ts[k]? with|some t=>nameB (bytes t.text)|none=>false
def eat {β:Type}(x:ByteArray)(ts:List Tok)(f:List Tok→Q β):Q β:=if tx ts=x then f ts.tail else .no ts
def bC (ts:List Tok):Q ByteArray:=if nmAt ts 0 then .ok (tx ts) ts.tail else .no ts
def numV (t:Tok):Int:=match Lib.parseIntB 64 t.text.data.toList with|.ok v=>v|_=>0
structure TokOk (t:Tok):Prop where
 short:t.text.size≤4000
 num:(t.kind=2∨t.kind=3)→Lib.parseIntB 64 t.text.data.toList=.ok (numV t)∧0≤numV t∧numV t≤9223372036854775807
def aB (ts:List Tok):Prop:=ts.length≤4000∧∀t,t∈ts→TokOk t
theorem aB.tail {t : Tok} {ts : List Tok} (h:aB (t::ts)):aB ts:=⟨by have:=h.1;simp at this;omega,λ x hx=>h.2 x (List.mem_cons_of_mem _ hx)⟩
def wINT:ByteArray:=⟨#[105,110,116]⟩
def wLONG:ByteArray:=⟨#[108,111,110,103]⟩
def dV (s:ByteArray):Int × Int × Bool:=if s=wINT then (9,30,true) else if s=wLONG then (10,31,true) else (0,0,false)
def bP:List (ByteArray × Int × Int):=[(⟨#[61,61]⟩,12,0),(⟨#[60]⟩,10,0),(⟨#[43]⟩,1,1),(⟨#[45]⟩,2,1),(⟨#[124]⟩,8,1),(⟨#[94]⟩,9,1),(⟨#[42]⟩,3,2),(⟨#[47]⟩,5,2),(⟨#[37]⟩,6,2),(⟨#[38]⟩,7,2)]
def opCells:List Value:=bP.flatMap λ o=>[.string o.1,.int .i64 o.2.1,.int .i64 o.2.2]
def Glo (H:Snap):Prop:=∃cur T f,H 3=some (.cells cur T f)∧∀(i:Nat) (u:Value),opCells[i]?=some u→cur[i]?=some u
def Two (H:Snap)(mb:Nat):Prop:=Glo H∧∃o,H mb=some o∧∀w:World,w.heap[mb]?=some o→∀s:ByteArray,s.size≤4000→(Instr.lookup 128 (.map (some mb)) (.string s) true).run prog w=.ok (.tuple #[.agg #[.int .i64 (dV s).1,.int .i64 (dV s).2.1],.bool (dV s).2.2]) w
theorem Two.up {H H' : Snap} {mb : Nat} (h:Two H mb) (hl:H.le H'):Two H' mb:=by
 obtain⟨⟨cur,T,f,h1,h2⟩,o,h3,h4⟩:=h;exact⟨⟨cur,T,f,hl _ _ h1,h2⟩,o,hl _ _ h3,h4⟩
def Rs.ps (b:Nat)(ts:List Tok):Rs where
 own:=λ k=>k=b
 ok:=λ H w=>aB ts∧∃a c mb,w.heap[b]?=some (.cells #[.slice a ts.length c,.map (some mb)] 130 (0,0))∧SlP TokE (.slice a ts.length c) 207 3 ts H∧Two H mb
 lt:=λ H w h k hk=>by obtain⟨_,_,_,_,h,_⟩:=h;subst hk;exact bO h
 keep:=λ H w H' w' h hl hk=>by
  obtain⟨h0,a,c,mb,h1,h2,h3⟩:=h;exact⟨h0,a,c,mb,(hk b rfl).trans h1,(Rs.sl TokE (.slice a ts.length c) 207 3 ts).keep H w H' w' h2 hl (λ_ h=>h.elim),h3.up hl⟩
def thrown:List Tok→Value
 | []=>.iface 124 (.agg #[])
 | t::_=>.iface 122 (.agg #[.int .i64 t.kind,.string t.text,.int .i64 t.at_])
abbrev up (ts:List Tok):Ending:=.panicked [{ v:=thrown ts,recovered:=false }]
variable {ts : List Tok} {t : Tok}
theorem Fr.tokAll (h:Fr B w (.ps b ts::L)):aB ts:=by obtain⟨H,h,-⟩:=h.get (i:=0) rfl;exact h.1
theorem Fr.ops (h:Fr B w (.ps b ts::L)):w.rangeAt 3 0 opCells:=by
 obtain⟨H,⟨-,a,c,mb,-,-,⟨cur,T,f,h1,h2⟩,-⟩,k⟩:=h.get (i:=0) rfl;intro i u hu;rw[Nat.zero_add];exact (aA (k _ _ h1) i).trans (h2 i u hu)
theorem Fr.psAt (h:Fr B w (.ps b ts::L)):∃a c m,w.heap[b]?=some (.cells #[.slice a ts.length c,m] 130 (0,0))∧ts.length≤c∧c≤maxLen∧(ts≠[]→∃g o,a=some ⟨g,o,none⟩∧∀j (hj:j<ts.length),w.cell? ⟨g,o+j*3,none⟩=some (.int .i64 ts[j].kind)∧w.cell? ⟨g,o+j*3+1,none⟩=some (.string ts[j].text)∧w.cell? ⟨g,o+j*3+2,none⟩=some (.int .i64 ts[j].at_)):=by
 obtain⟨H,⟨-,a,c,mb,h1,⟨a',c',e,h2,h3,h4⟩,-⟩,k⟩:=h.get (i:=0) rfl;cases e;refine⟨a,c,.map (some mb),h1,h2,h3,λ hne=>?_⟩;obtain⟨g,o,cur,f,e1,e2,e3⟩:=h4 hne;refine⟨g,o,e1,λ j hj=>?_⟩;obtain⟨cs,-,k2,k3⟩:=e3 j hj;have hc:=aA (k _ _ e2);have k3':cs=ts[j].cells:=k3;subst k3';exact⟨(hc _).trans (k2 0 (by omega)),(hc _).trans (k2 1 (by omega)),(hc _).trans (k2 2 (by omega))⟩
theorem SlP.tail {E : El α} {H : Snap} (h:SlP E (.slice a n c) e z (x::l) H):SlP E (.slice (if c=1 then a else a.map (λ x=>x.add (1*z))) (n - 1) (c - 1)) e z l H:=by
 obtain⟨a',c',e1,h2,h3,h4⟩:=h;cases e1;simp only[List.length_cons] at h2;refine⟨if c=1 then a else a.map (λ x=>x.add (1*z)),c - 1,by simp,by omega,by omega,λ hne=>?_⟩;have hl:0<l.length:=List.length_pos_iff.2 hne;obtain⟨g,o,cur,f,rfl,e2,e3⟩:=h4 (by simp);refine⟨g,o+z,cur,f,by rw[if_neg (by omega)];simp [Addr.add],e2,λ j hj=>?_⟩;obtain⟨cs,k1,k2,k3⟩:=e3 (j+1) (by simp;omega);refine⟨cs,k1,λ i hi=>?_,by simpa using k3⟩;rw[← k2 i hi,Nat.succ_mul];congr 1
 omega
theorem Fr.psTail (h:Fr B w (.ps b (t::ts)::L)):∃a c m,w.heap[b]?=some (.cells #[.slice a (ts.length+1) c,m] 130 (0,0))∧ts.length+1≤c∧c≤maxLen∧Fr B (w.setCell ⟨b,0,none⟩ (.slice (if c=1 then a else a.map (λ x=>x.add (1*3))) (ts.length+1 - 1) (c - 1))) (.ps b ts::L):=by
 obtain⟨H,h⟩:=h;obtain⟨h0,a,c,mb,h1,h2,h3⟩:(Rs.ps b (t::ts)).ok H w:=h.ok _ (List.mem_cons_self ..);have h2':=h2;obtain⟨a',c',e,h4,h5,-⟩:=h2';cases e;refine⟨a,c,.map (some mb),h1,h4,h5,?_⟩;have hF:Fr B w (.ps b (t::ts)::L):=⟨H,h⟩
 have key:∀H:Snap,(Rs.ps b (t::ts)).ok H w→(Rs.ps b ts).ok H (w.setCell ⟨b,0,none⟩ (.slice (if c=1 then a else a.map (λ x=>x.add (1*3))) (ts.length+1 - 1) (c - 1))):=λ H hok=>by
  obtain⟨h0,a2,c2,mb2,k1,k2,k3⟩:=hok;rw[h1] at k1;simp only[Option.some.injEq,Obj.cells.injEq,and_true] at k1;have e2:(#[.slice a (t::ts).length c,.map (some mb)]:Array Value)[0]?=#[.slice a2 (t::ts).length c2,.map (some mb2)][0]?:=by rw[k1]
  have e3:(#[.slice a (t::ts).length c,.map (some mb)]:Array Value)[1]?=#[.slice a2 (t::ts).length c2,.map (some mb2)][1]?:=by rw[k1]
  cases e2;cases e3;exact⟨h0.tail,_,c - 1,mb,(heap_setCell_same w b 0 _ 130 _ h1).trans (by simp),k2.tail,k3⟩
 exact hF.turn 0 rfl (λ k hk hne=>heap_setCell_other _ _ _ _ (λ e=>hne e)) rfl rfl rfl (by simp) key λ k hk=>Or.inl hk
theorem dL (h:Fr B w (.ps b ts::L)):Calls prog 149 #[.pointer (some ⟨b,0,none⟩)] w λ e w'=>e=.returned (.string (tx ts))∧w'=w:=by
 obtain⟨a,c,m,h1,h2,h3,h4⟩:=h.psAt;have hc:=aA h1;cases ts with
 | nil=>
  clear h h1 h4;go_enter func149,ntmps149;go_wp2;go_ret
  exact⟨rfl,rfl⟩
 | cons t ts=>
  obtain⟨g,o,rfl,k⟩:=h4 (by simp);obtain⟨k0,k1,k2⟩:=k 0 (by simp);simp only[Nat.zero_mul,Nat.add_zero,List.getElem_cons_zero] at k0 k1 k2;have hl:((t::ts).length:Int)≠0:=by rw[List.length_cons];omega
  have hl0:(0:Int)<((t::ts).length:Int):=by rw[List.length_cons];omega
  show Calls _ _ _ _ (λ e w'=>e=.returned (.string t.text)∧w'=w);clear h h1 h4 k;generalize (t::ts).length=n at *;go_enter func149,ntmps149;go_wp2;go_ret
  exact⟨rfl,rfl⟩
theorem pass_any (h:Fr B w (.ps b (t::ts)::L)):Calls prog 150 #[.pointer (some ⟨b,0,none⟩)] w λ e w'=>e=.returned (.tuple #[])∧Fr B w' (.ps b ts::L):=by
 obtain⟨a,c,m,h1,h2,h3,h4⟩:=h.psTail;have hc:=aA h1;have hz:=aX h1;have hl0:(1:Int)≤((ts.length+1:Nat):Int):=by omega
 have HO:=ah h4;clear h h1 h4;generalize ts.length+1=n at *;unfold maxLen at h3;by_cases hc1:c=1
 ·subst hc1;obtain rfl:n=1:=by omega
  go_enter func150,ntmps150;go_wp2;go_end0
  exact⟨rfl,by simpa using HO.out⟩
 cases a with
 | none=>
  go_enter func150,ntmps150;go_wp2;go_end0
  have:=HO.out;rw[if_neg hc1] at this;exact⟨rfl,this⟩
 | some a=>
  go_enter func150,ntmps150;go_wp2;go_end0
  have:=HO.out;rw[if_neg hc1] at this;exact⟨rfl,this⟩
theorem giveUp_any (h:Fr B w (.ps b ts::L)):Calls prog 171 #[.pointer (some ⟨b,0,none⟩)] w λ e w'=>e=up ts∧w'=w:=by
 obtain⟨a,c,m,h1,h2,h3,h4⟩:=h.psAt;have hc:=aA h1;cases ts with
 | nil=>
  clear h h1 h4;go_enter func171,ntmps171;go_wp2;exact⟨rfl,rfl,rfl⟩
 | cons t ts=>
  obtain⟨g,o,rfl,k⟩:=h4 (by simp);obtain⟨k0,k1,k2⟩:=k 0 (by simp);simp only[Nat.zero_mul,Nat.add_zero,List.getElem_cons_zero] at k0 k1 k2;have hl:((t::ts).length:Int)≠0:=by rw[List.length_cons];omega
  have hl0:(0:Int)<((t::ts).length:Int):=by rw[List.length_cons];omega
  clear h h1 h4 k;generalize (t::ts).length=n at *;go_enter func171,ntmps171;go_wp2;exact⟨rfl,rfl,rfl⟩
theorem tx_cons {x : ByteArray} (hx:x.size≠0) (h:tx ts=x):∃t r,ts=t::r:=by
 cases ts with
 | nil=>exact absurd (by rw[← h];rfl) hx
 | cons t r=>exact⟨t,r,rfl⟩
theorem aW (h:Fr B w (.ps b ts::L)) (x:ByteArray) (hx:x.size≠0):Calls prog 127 #[.pointer (some ⟨b,0,none⟩),.string x] w λ e w'=>e=.returned (.bool (decide (tx ts=x)))∧Fr B w' (.ps b (if tx ts=x then ts.tail else ts)::L):=by
 have HT:=ah (dL h);have HP:=ah h;have heq:=str_eq (tx ts) x;by_cases hq:tx ts=x
 ·obtain⟨t,r,rfl⟩:=tx_cons hx hq;have HQ:=ah hq;rw[decide_eq_true hq,if_pos hq] at *;have HPa:=ah (pass_any h);clear h hq;go_enter func127,ntmps127;go_wp2_with fail;go_at_call 149;refine HT.mono ?_;rintro e w1 ⟨rfl,rfl⟩;go_wp2_with fail;go_at_call 150;refine HPa.mono ?_;rintro e w1 ⟨rfl,hP⟩;have HP1:=ah hP;clear hP;go_wp2;go_ret
  exact⟨rfl,HP1⟩
 rw[decide_eq_false hq,if_neg hq] at *;clear h hq;go_enter func127,ntmps127;go_wp2_with fail;go_at_call 149;refine HT.mono ?_;rintro e w1 ⟨rfl,rfl⟩;go_wp2;go_ret
 exact⟨rfl,HP⟩
theorem isName_any (h:Fr B w (.ps b ts::L)) (k:Nat) (hk:k≤1):Calls prog 170 #[.pointer (some ⟨b,0,none⟩),.int .i64 k] w λ e w'=>e=.returned (.bool (nmAt ts k))∧w'=w:=by
 have hS:=h.tokAll.2;obtain⟨a,c,m,h1,h2,h3,h4⟩:=h.psAt;have hc:=aA h1;by_cases hlt:k<ts.length
 ·obtain⟨g,o,rfl,K⟩:=h4 (λ e=>by rw[e] at hlt;simp at hlt);obtain⟨k0,k1,k2⟩:=K k hlt;have hlt':(k:Int)<ts.length:=by omega
  have hidx:(0:Int)≤k∧(k:Int)<ts.length:=by omega
  have hd:decide ((k:Int)<ts.length)=true:=decide_eq_true hlt';have e:nmAt ts k=nameB (bytes ts[k].text):=by simp [nmAt,hlt]
  rw[e];have hs:ts[k].text.size≤4000:=(hS _ (List.getElem_mem hlt)).short;have HN:=ah (pname_any ts[k].text w (by unfold maxLen;omega));clear k0 k2 K h h1 h4 hS e;generalize ts[k].text=x at *;clear hlt;generalize ts.length=n at *;go_enter func170,ntmps170;go_wp2_with fail;go_at_call 82;refine HN.mono ?_;rintro e w1 ⟨rfl,rfl⟩;go_wp2;go_ret
  exact⟨rfl,rfl⟩
 have hlt':¬ (k:Int)<ts.length:=by omega
 have hd:decide ((k:Int)<ts.length)=false:=decide_eq_false hlt';have e:nmAt ts k=false:=by simp [nmAt,List.getElem?_eq_none (show ts.length≤k by omega)]
 rw[e];clear h h1 h4 hS e;generalize ts.length=n at *;go_enter func170,ntmps170;go_wp2;go_ret
 exact⟨rfl,rfl⟩
theorem nm_cons (h:nmAt ts 0=true):∃t r,ts=t::r:=by
 cases ts with
 | nil=>simp [nmAt] at h
 | cons t r=>exact⟨t,r,rfl⟩
theorem eZ (h:Fr B w (.ps b ts::L)):Calls prog 151 #[.pointer (some ⟨b,0,none⟩)] w λ e w'=>(nmAt ts 0=false∧e=up ts∧Fr B w' (.ps b ts::L))∨(nmAt ts 0=true∧e=.returned (.string (tx ts))∧Fr B w' (.ps b ts.tail::L)):=by
 have HF:=ah h;have HI:=ah (isName_any h 0 (by omega));cases hn:nmAt ts 0 with
 | false=>
  rw[hn] at HI;have HU:=ah (giveUp_any h);have HN:=ah hn;clear h hn;go_enter func151,ntmps151;go_wp2_with fail;go_at_call 170;refine HI.mono ?_;rintro e w1 ⟨rfl,rfl⟩;go_wp2_with fail;go_at_call 171;refine HU.mono ?_;rintro e w1 ⟨rfl,rfl⟩;exact⟨rfl,Or.inl ⟨by trivial,rfl,HF⟩⟩
 | true=>
  rw[hn] at HI;obtain⟨t,r,rfl⟩:=nm_cons hn;have HT:=ah (dL h);have HP:=ah (pass_any h);clear h hn;go_enter func151,ntmps151;go_wp2_with fail;go_at_call 170;refine HI.mono ?_;rintro e w1 ⟨rfl,rfl⟩;go_wp2_with fail;go_at_call 149;refine HT.mono ?_;rintro e w1 ⟨rfl,rfl⟩;go_wp2_with fail;go_at_call 150;refine HP.mono ?_;rintro e w1 ⟨rfl,hP1⟩;have HP1:=ah hP1;clear hP1;go_wp2;go_ret
  exact Or.inr ⟨by trivial,rfl,HP1⟩
abbrev eB:ByteArray:=⟨#[]⟩
def wLP:ByteArray:=⟨#[40]⟩
def wRP:ByteArray:=⟨#[41]⟩
def wLB:ByteArray:=⟨#[123]⟩
def wRB:ByteArray:=⟨#[125]⟩
def wCOMMA:ByteArray:=⟨#[44]⟩
def wSEMI:ByteArray:=⟨#[59]⟩
def wDOT:ByteArray:=⟨#[46]⟩
def wDOTS:ByteArray:=⟨#[46,46,46]⟩
def wEQ:ByteArray:=⟨#[61]⟩
def wMINUS:ByteArray:=⟨#[45]⟩
def wNOT:ByteArray:=⟨#[33]⟩
def wAMP:ByteArray:=⟨#[38]⟩
def wFN:ByteArray:=⟨#[102,110]⟩
def wSTRUCT:ByteArray:=⟨#[115,116,114,117,99,116]⟩
def wEXTERN:ByteArray:=⟨#[101,120,116,101,114,110]⟩
def wSTATIC:ByteArray:=⟨#[115,116,97,116,105,99]⟩
def wIF:ByteArray:=⟨#[105,102]⟩
def wELSE:ByteArray:=⟨#[101,108,115,101]⟩
def wWHILE:ByteArray:=⟨#[119,104,105,108,101]⟩
def wRETURN:ByteArray:=⟨#[114,101,116,117,114,110]⟩
def wPUT:ByteArray:=⟨#[112,117,116]⟩
def wCOUNT:ByteArray:=⟨#[99,111,117,110,116]⟩
def wEXTRA:ByteArray:=⟨#[101,120,116,114,97]⟩
def opOf (firm:Int)(ts:List Tok):Option Int:=(bP.find? λ o=>decide (o.2.2=firm) && decide (tx ts=o.1)).map λ o=>o.2.1
def eE:List Tok→Q Nd
 | []=>.no []
 | t::r=>if t.kind=3 then .ok (.mk 22 eB (numV t) []) r else if t.kind=2 then .ok (.mk 21 eB (numV t) []) r else .no (t::r)
def valueQ (ts:List Tok):Q Nd:=if tx ts=wMINUS then (eE ts.tail).map λ n=>.mk n.kind n.text (-n.num) n.kids else eE ts
def cN (ex:List Tok→Q Nd)(ts:List Tok):Q Nd:=eat wLP ts λ r=>(ex r).bind λ n r=>eat wRP r λ r=>.ok n r
def commaQ (part:List Tok→Q Nd):Nat→List Nd→List Tok→Q (List Nd)
 | 0,acc,ts=>.ok acc ts
 | m+1,acc,ts=>if tx ts=wCOMMA then (part ts.tail).bind λ n r=>commaQ part m (acc++[n]) r else .ok acc ts
def partsQ (part:List Tok→Q Nd)(cl:ByteArray)(ts:List Tok):Q (List Nd):=if tx ts=cl then .ok [] ts.tail else (part ts).bind λ n r=>(commaQ part (r.length+1) [n] r).bind λ l r=>eat cl r λ r=>.ok l r
def eY (part:List Tok→Q Nd):Nat→List Nd→List Tok→Q (List Nd × Int)
 | 0,acc,ts=>.no ts
 | m+1,acc,ts=>if tx ts=wDOTS then .ok (acc,1) ts.tail else (part ts).bind λ n r=>if tx r=wCOMMA then eY part m (acc++[n]) r.tail else .ok (acc++[n],0) r
def fH (part:List Tok→Q Nd)(ts:List Tok):Q (List Nd × Int):=eat wLP ts λ r=>if tx r=wRP then .ok ([],0) r.tail else (eY part (r.length+1) [] r).bind λ p r=>eat wRP r λ r=>.ok p r
def typS (typ:List Tok→Q Nd)(ts:List Tok):Q Nd:=
 if tx ts=wFN then (fH typ ts.tail).bind λ p r=>(typ r).bind λ t r=>.ok (.mk 12 eB p.2 (p.1++[t])) r
 else if (dV (tx ts)).2.2=true then .ok (.mk (dV (tx ts)).1 eB 0 []) ts.tail
 else (bC ts).bind λ s r=>.ok (.mk 11 s 0 []) r
def typK:Nat→List Tok→Q Nd
 | 0,ts=>.no ts
 | k+1,ts=>typS (typK k) ts
def typQ:List Tok→Q Nd:=typK 4001
def fW (k:Int)(ts:List Tok):Q Nd:=(typQ ts).bind λ t r=>(bC r).bind λ s r=>.ok (.mk k s 0 [t]) r
def dP (ex:List Tok→Q Nd)(ts:List Tok):Q Nd:=
 if (dV (tx ts)).2.2=true then (cN ex ts.tail).bind λ n r=>.ok (.mk (dV (tx ts)).2.1 eB 0 [n]) r
 else if tx ts=wLP then cN ex ts
 else if tx ts=wAMP then (bC ts.tail).bind λ s r=>.ok (.mk 26 s 0 []) r
 else if tx ts=wCOUNT then .ok (.mk 33 eB 0 []) ts.tail
 else if tx ts=wEXTRA then (cN ex ts.tail).bind λ n r=>.ok (.mk 34 eB 0 [n]) r
 else if nmAt ts 0=false then eE ts
 else (bC ts).bind λ s r=>if tx r=wLB then (partsQ ex wRB r.tail).bind λ l r=>.ok (.mk 27 s 0 l) r else .ok (.mk 23 s 0 []) r
def dB (ex:List Tok→Q Nd):Nat→Nd→List Tok→Q Nd
 | 0,n,ts=>.ok n ts
 | m+1,n,ts=>if tx ts=wDOT then (bC ts.tail).bind λ s r=>dB ex m (.mk 24 s 0 [n]) r
  else if tx ts=wLP then (partsQ ex wRP ts.tail).bind λ l r=>dB ex m (.mk 25 eB 0 (n::l)) r
  else .ok n ts
def rowQ (part:List Tok→Q Nd)(firm:Int):Nat→Nd→List Tok→Q Nd
 | 0,n,ts=>.ok n ts
 | m+1,n,ts=>match opOf firm ts with
  | none=>.ok n ts
  | some op=>(part ts.tail).bind λ y r=>rowQ part firm m (.mk 32 eB op [n,y]) r
def productQ (un:List Tok→Q Nd)(ts:List Tok):Q Nd:=(un ts).bind λ n r=>rowQ un 2 (r.length+1) n r
def sumQ (un:List Tok→Q Nd)(ts:List Tok):Q Nd:=(productQ un ts).bind λ n r=>rowQ (productQ un) 1 (r.length+1) n r
def exprS (un:List Tok→Q Nd)(ts:List Tok):Q Nd:=(sumQ un ts).bind λ n r=>match opOf 0 r with
 | none=>.ok n r
 | some op=>(sumQ un r.tail).bind λ y r=>.ok (.mk 32 eB op [n,y]) r
def unaryS (ex un:List Tok→Q Nd)(ts:List Tok):Q Nd:=
 if tx ts=wMINUS then (un ts.tail).bind λ n r=>.ok (.mk 28 eB 0 [n]) r
 else if tx ts=wNOT then (un ts.tail).bind λ n r=>.ok (.mk 29 eB 0 [n]) r
 else (dP ex ts).bind λ n r=>dB ex (r.length+1) n r
def unaryK:Nat→List Tok→Q Nd
 | 0,ts=>.no ts
 | k+1,ts=>unaryS (exprS (unaryK k)) (unaryK k) ts
def exprQ:List Tok→Q Nd:=exprS (unaryK 4001)
def fK:Nd→Bool
 | .mk 24 _ _ (x::_)=>fK x
 | .mk k _ _ _=>decide (k=23)
def dU:Nd→Bool
 | .mk 24 _ _ (x::_)=>dU x
 | .mk 25 _ _ (x::_)=>dU x
 | .mk k _ _ _=>decide (k=23)
def callB (n:Nd):Bool:=decide (n.kind=25) && dU n
def eD (ts:List Tok):Q Nd:=(bC ts).bind λ s r=>(dB exprQ (r.length+1) (.mk 23 s 0 []) r).bind λ n r=>
 if callB n=true then .ok (.mk 20 eB 0 [n]) r else if fK n=false then .no r else eat wEQ r λ r=>(exprQ r).bind λ x r=>.ok (.mk 15 eB 0 [n,x]) r
def b9 (blk:List Tok→Q Nd)(ts:List Tok):Q Nd:=
 if tx ts=wIF then (cN exprQ ts.tail).bind λ c r=>(blk r).bind λ b r=>if tx r=wELSE then (blk r.tail).bind λ d r=>.ok (.mk 16 eB 0 [c,b,d]) r else .ok (.mk 16 eB 0 [c,b]) r
 else if tx ts=wWHILE then (cN exprQ ts.tail).bind λ c r=>(blk r).bind λ b r=>.ok (.mk 17 eB 0 [c,b]) r
 else if tx ts=wRETURN then (exprQ ts.tail).bind λ x r=>eat wSEMI r λ r=>.ok (.mk 18 eB 0 [x]) r
 else if tx ts=wPUT then (cN exprQ ts.tail).bind λ x r=>eat wSEMI r λ r=>.ok (.mk 19 eB 0 [x]) r
 else if (nmAt ts 0 && !nmAt ts 1)=true then (eD ts).bind λ n r=>eat wSEMI r λ r=>.ok n r
 else (fW 14 ts).bind λ n r=>eat wEQ r λ r=>(exprQ r).bind λ x r=>eat wSEMI r λ r=>.ok (.mk 14 n.text 0 (n.kids++[x])) r
def blockL (st:List Tok→Q Nd):Nat→List Nd→List Tok→Q Nd
 | 0,acc,ts=>.no ts
 | m+1,acc,ts=>if tx ts=wRB then .ok (.mk 13 eB 0 acc) ts.tail else (st ts).bind λ n r=>blockL st m (acc++[n]) r
def blockS (st:List Tok→Q Nd)(ts:List Tok):Q Nd:=eat wLB ts λ r=>blockL st (r.length+1) [] r
def statK:Nat→List Tok→Q Nd
 | 0,ts=>.no ts
 | k+1,ts=>b9 (blockS (statK k)) ts
def blockQ:List Tok→Q Nd:=blockS (statK 4001)
def fieldsL:Nat→List Nd→List Tok→Q (List Nd)
 | 0,acc,ts=>.no ts
 | m+1,acc,ts=>(fW 3 ts).bind λ n r=>eat wSEMI r λ r=>if tx r=wRB then .ok (acc++[n]) r.tail else fieldsL m (acc++[n]) r
def eI (ts:List Tok):Q Nd:=(bC ts).bind λ s r=>eat wLB r λ r=>(fieldsL (r.length+1) [] r).bind λ l r=>.ok (.mk 2 s 0 l) r
def externQ (ts:List Tok):Q Nd:=(fW 5 ts).bind λ n r=>if tx r=wSEMI then .ok n r.tail else (fH (fW 8) r).bind λ p r=>eat wSEMI r λ r=>.ok (.mk 4 n.text p.2 (p.1++n.kids)) r
def cU (st:Int)(ts:List Tok):Q Nd:=(fW 6 ts).bind λ n r=>
 if tx r=wEQ then (valueQ r.tail).bind λ v r=>eat wSEMI r λ r=>.ok (.mk 6 n.text st (n.kids++[v])) r
 else (fH (fW 8) r).bind λ p r=>(blockQ r).bind λ b r=>.ok (.mk 7 n.text (st+2*p.2) (p.1++n.kids++[b])) r
def declQ (ts:List Tok):Q Nd:=if tx ts=wSTRUCT then eI ts.tail else if tx ts=wEXTERN then externQ ts.tail else if tx ts=wSTATIC then cU 1 ts.tail else cU 0 ts
def unitL:Nat→List Nd→List Tok→Q Nd
 | 0,acc,ts=>.no ts
 | m+1,acc,ts=>if ts=[] then .ok (.mk 1 eB 0 acc) [] else (declQ ts).bind λ n r=>unitL m (acc++[n]) r
inductive Ty:Nd→Prop
 | base (k:Int):k=9∨k=10→Ty (.mk k eB 0 [])
 | named (s:ByteArray):Ty (.mk 11 s 0 [])
 | fn (m:Int) (l:List Nd):m=0∨m=1→l≠[]→(∀x,x∈l→Ty x)→Ty (.mk 12 eB m l)
inductive Ex:Nd→Prop
 | num (k m:Int):k=21∨k=22→0≤m→m≤9223372036854775807→Ex (.mk k eB m [])
 | leaf (k:Int) (s:ByteArray):k=23∨k=26∨k=33→Ex (.mk k s 0 [])
 | one (k:Int) (s:ByteArray) (x:Nd):k=24∨k=28∨k=29∨k=30∨k=31∨k=34→Ex x→Ex (.mk k s 0 [x])
 | op (m:Int) (x y:Nd):0≤m→m≤12→Ex x→Ex y→Ex (.mk 32 eB m [x,y])
 | call (x:Nd) (l:List Nd):Ex x→(∀y,y∈l→Ex y)→Ex (.mk 25 eB 0 (x::l))
 | make (s:ByteArray) (l:List Nd):(∀y,y∈l→Ex y)→Ex (.mk 27 s 0 l)
inductive St:Nd→Prop
 | var (s:ByteArray) (t x:Nd):Ty t→Ex x→St (.mk 14 s 0 [t,x])
 | set (p x:Nd):Ex p→fK p=true→Ex x→St (.mk 15 eB 0 [p,x])
 | if1 (c:Nd) (l:List Nd):Ex c→(∀x,x∈l→St x)→St (.mk 16 eB 0 [c,.mk 13 eB 0 l])
 | if2 (c:Nd) (l k:List Nd):Ex c→(∀x,x∈l→St x)→(∀x,x∈k→St x)→St (.mk 16 eB 0 [c,.mk 13 eB 0 l,.mk 13 eB 0 k])
 | while (c:Nd) (l:List Nd):Ex c→(∀x,x∈l→St x)→St (.mk 17 eB 0 [c,.mk 13 eB 0 l])
 | one (k:Int) (x:Nd):k=18∨k=19∨k=20→Ex x→St (.mk k eB 0 [x])
def Bl (n:Nd):Prop:=∃l,n=.mk 13 eB 0 l∧∀x,x∈l→St x
def Ti (k:Int)(n:Nd):Prop:=∃s t,n=.mk k s 0 [t]∧Ty t
inductive De:Nd→Prop
 | struct (s:ByteArray) (l:List Nd):(∀x,x∈l→Ti 3 x)→De (.mk 2 s 0 l)
 | outside (n:Nd):Ti 5 n→De n
 | extern (s:ByteArray) (m:Int) (l:List Nd) (t:Nd):m=0∨m=1→(∀x,x∈l→Ti 8 x)→Ty t→De (.mk 4 s m (l++[t]))
 | global (s:ByteArray) (m:Int) (t:Nd) (k v:Int):m=0∨m=1→Ty t→k=21∨k=22→-9223372036854775807≤v→v≤9223372036854775807→De (.mk 6 s m [t,.mk k eB v []])
 | func (s:ByteArray) (m:Int) (l:List Nd) (t b:Nd):0≤m→m≤3→(∀x,x∈l→Ti 8 x)→Ty t→Bl b→De (.mk 7 s m (l++[t]++[b]))
def Un (n:Nd):Prop:=∃l,n=.mk 1 eB 0 l∧∀x,x∈l→De x
theorem Fr.elAppL {E : El α} (t:TypeId)
  (hinfo:(P.info? e).map (λ i=>(i.zero,i.size,i.bytes))=some (some zv,z,by')) (ht:P.underlying t=some (.slice e)) (hz:zv.cells.size=z) (hz0:0<z) (hby:by'≤1000)
  {b:Nat} {cs:Array Value} {T:TypeId} (h:Fr B w (.blk b cs T::L)) (i:Nat) {v:Value} {l:List α} (hi:L[i]?=some (.els E v e z l)) (hn:l.length≤16000) {x:α} (j:Nat) (hx:L[j]?=some (.el E cs.toList x))
  {ops:Array Oper} {rest:List Oper} {o:Oper} {a:Act} (p q:Operand) (hgd:o.guard=none) (ho:o.op=.call { callee:=.builtin .append,args:=#[p,q],argTypes:=#[t,t] }) (hs:a.eval p=v)
  {c:Nat} (hx':a.eval q=.slice (some ⟨b,0,none⟩) 1 c) (hl:cs.size=z) (h1:cs.toList.all (λ u=>u.oneCell')=true) {Q:Exit→Act→World→Prop}
  (k:∀g cap w',Fr B w' (L.set i (.els E (.slice (some ⟨g,0,none⟩) (l.length+1) cap) e z (l++[x])))→w.grownBy w' v.ownBlock→wpList P ops Q rest (a.put o.dst (.slice (some ⟨g,0,none⟩) (l.length+1) cap)) w'):
  wpList P ops Q (o::rest) a w:=
 wpList_plain hgd λ_ hK=>h.elApp hinfo ht hz hz0 hby i hi hn j hx p q ho hs hx' hl h1 λ g cap w' h2 h3=>hK _ _ (k g cap w' h2 h3)
def lenV:Value→Nat|.slice _ n _=>n|_=>0
section
section
variable {ops : Array Oper} {Q : Exit → Act → World → Prop} {md : Region.Mode} {C : World → Prop} {bad : List Nat}
def aY (P:Program)(md:Region.Mode)(ops:Array Oper)(Q:Exit→Act→World→Prop)(C:World→Prop)(bad:List Nat):Nat→Array Bool→Act→World→Prop
 | 0,listed,a,w=>Region.ready md ops listed=[]∧Q .normal a w
 | fuel+1,listed,a,w=>
  (Region.ready md ops listed=[]→Q .normal a w) ∧
  ∀i∈Region.ready md ops listed,wpOp P ops Q i (λ a' w'=>(bad.contains i=false→C w')∧aY P md ops Q C bad fuel (listed.setIfInBounds i true) a' w') a w
theorem wpAny_of_J:∀(fuel:Nat)(listed:Array Bool)(a:Act)(w:World),aY P md ops Q C bad fuel listed a w→wpAny P md ops Q fuel listed a w
 | 0,_,_,_,h=>h
 | fuel+1,_,_,_,h=>⟨h.1,λ i hi=>wpOp_mono (λ a' w' h'=>wpAny_of_J fuel _ a' w' h'.2) (h.2 i hi)⟩
def dI (md:Region.Mode)(ops:Array Oper)(bad:List Nat)(i:Nat):Bool:=(List.range ops.size).all λ j=>j == i || !bad.contains j || match ops[j]? with|some oj=>oj.after.any (λ e=>Region.binds md e && e.on == i)|none=>true
theorem goodFor_spec (h:dI md ops bad i=true) (j:Nat) (oj:Oper) (hj:ops[j]?=some oj) (hne:j≠i) (hno:∀e∈oj.after,Region.binds md e=true→e.on≠i):bad.contains j=false:=by
 simp only[dI,List.all_eq_true,List.mem_range] at h;have h1:=h j (Array.getElem?_eq_some_iff.1 hj).1;simp only[hj,Bool.or_eq_true,beq_iff_eq,hne,false_or,Bool.not_eq_true'] at h1;rcases h1 with h1|h1
 ·exact h1
 obtain⟨e,he,hb⟩:=Array.any_eq_true'.1 h1;simp only[Bool.and_eq_true,beq_iff_eq] at hb;exact absurd hb.2 (hno e he hb.1)
theorem wpAnyJ_first (hi:ops[i]?=some oi) (hsel:∀(j:Nat) (o:Oper) cs b,ops[j]?=some o→o.op≠.select cs b)
  (hQ:∀c a w,Q (.panic c) (a.put oi.dst v) w→Q (.panic c) a w) (hgood:dI md ops bad i=true):
  ∀(fuel:Nat) (listed:Array Bool) (a:Act) (w:World),
   (∀j oj,ops[j]?=some oj→j≠i→listed.getD j true=false→(∀e∈oj.after,Region.binds md e=true→e.on≠i)→oi.apart ops oj=true) →
   i∈Region.ready md ops listed→YieldsIf P ops C oi v a→C w →
   aY P md ops Q C bad fuel (listed.setIfInBounds i true) (a.put oi.dst v) w→aY P md ops Q C bad (fuel+1) listed a w:=by
 intro fuel;induction fuel with
 | zero=>
  intro listed a w _ hr hy hS H;refine⟨λ h=>(by rw[h] at hr;cases hr),λ j hj=>?_⟩;by_cases hji:j=i
  ·subst hji;exact hy.wpOp hi hS ⟨λ_=>hS,H⟩
  have:=ready_mono hj hji;rw[H.1] at this;cases this
 | succ fuel ih=>
  intro listed a w hfree hr hy hS H;refine⟨λ h=>(by rw[h] at hr;cases hr),λ j hj=>?_⟩;by_cases hji:j=i
  ·subst hji;exact hy.wpOp hi hS ⟨λ_=>hS,H⟩
  have h1:=H.2 j (ready_mono hj hji);obtain⟨hjun,oj,hoj,hall⟩:=mem_ready.1 hj;have hnot:∀e∈oj.after,Region.binds md e=true→e.on≠i:=λ e he hb heq=>by
   have h1:=hall e he hb;have h0:=(mem_ready.1 hr).1;rw[heq] at h1;rcases Nat.lt_or_ge i listed.size with h'|h'
   ·simp [h'] at h0 h1;rw[h0] at h1;cases h1
   simp [Array.getElem?_eq_none h'] at h1
  have hbad:=goodFor_spec hgood j oj hoj hji hnot;have h2:=wpOp_putIf hoj (hfree j oj hoj hji hjun hnot) (λ cs b=>hsel i oi cs b hi) (λ cs b=>hsel j oj cs b hoj) hQ hy h1;have hfree':∀k ok,ops[k]?=some ok→k≠i→(listed.setIfInBounds j true).getD k true=false →
    (∀e∈ok.after,Region.binds md e=true→e.on≠i)→oi.apart ops ok=true:=λ k ok hk hki hun hno=>by
   refine hfree k ok hk hki ?_ hno;by_cases hjk:j=k
   ·subst hjk;exact hjun
   rw[getD_set_ne true hjk] at hun;exact hun
  refine wpOp_mono (λ a' w' h3=>⟨h3.2.1,ih (listed.setIfInBounds j true) a' w' hfree' (ready_mono hr (Ne.symm hji)) h3.1 (h3.2.1 hbad) ?_⟩) h2;rw[Array.setIfInBounds_comm _ _ hji];exact h3.2.2
theorem tk (i:Nat) {a : Act} (hi:ops[i]?=some oi)
  (hs:Region.noSelect ops=true) (hg:dI md ops bad i=true) (hf:Region.free md ops listed i=true) (hr:(Region.ready md ops listed).contains i=true)
  (hQ:∀c a w,Q (.panic c) (a.put oi.dst v) w→Q (.panic c) a w) (hw:Region.wanted oi (yielded ops a.tmps)=true) (hy:∀w,C w→(execOp a.eval oi).run P w=.ok (.value v) w) (hS:C w)
  (h:aY P md ops Q C bad fuel (listed.setIfInBounds i true) (a.put oi.dst v) w):aY P md ops Q C bad (fuel+1) listed a w:=
 wpAnyJ_first hi (Region.noSelect_spec hs) hQ hg fuel listed a w (Region.free_spec hi hf) (by simpa using hr) (Or.inl ⟨hw,hy⟩) hS h
theorem doneJ {a : Act} (hr:Region.ready md ops listed=[]) (h:Q .normal a w):∀fuel,aY P md ops Q C bad fuel listed a w
 | 0=>⟨hr,h⟩
 | _+1=>⟨λ_=>h,by rw[hr];simp⟩
def AllJ (P:Program)(md:Region.Mode)(ops:Array Oper)(Q:Exit→Act→World→Prop)(C:World→Prop)(bad:List Nat)(fuel:Nat)(listed:Array Bool)(a:Act)(w:World)(rs:List Nat):Prop:=
 ∀i∈rs,wpOp P ops Q i (λ a' w'=>(bad.contains i=false→C w')∧aY P md ops Q C bad fuel (listed.setIfInBounds i true) a' w') a w
theorem AllJ.nil {a : Act}:AllJ P md ops Q C bad fuel listed a w []:=λ_ h=>by cases h
theorem AllJ.cons {a : Act} {o : Oper} (ho:ops[i]?=some o)
  (h:∀K':Act→World→Prop,Shut (∀a w,(bad.contains i=false→C w)→aY P md ops Q C bad fuel (listed.setIfInBounds i true) a w→K' a w)→if Region.wanted o (yielded ops a.tmps)=true then Oper.wp P o a w K' Q else K' (a.put o.dst undef) w)
  (hs:AllJ P md ops Q C bad fuel listed a w rs):AllJ P md ops Q C bad fuel listed a w (i::rs):=λ j hj=>by
 rcases List.mem_cons.1 hj with rfl|hj
 ·exact wpOp_step ho (λ K' hK=>h K' (λ a w hS hW=>hK a w ⟨hS,hW⟩))
 exact hs j hj
theorem rdJ {a : Act} (hr:Region.ready md ops listed=rs) (hne:rs≠[])
  (h:AllJ P md ops Q C bad fuel listed a w rs):aY P md ops Q C bad (fuel+1) listed a w:=⟨λ h0=>absurd (hr ▸ h0) hne,hr ▸ h⟩
end
theorem regJ {ops : Array Oper} {Q : Exit→Act→World→Prop} {id : Nat} {a : Act} (C:World→Prop) (bad:List Nat) (hm:P.follows .mixedOrders=true) (h:Fr B w L) (hS:∀w',Fr B w' L→C w')
  (k:∀w',Fr B w' L→C w'→aY P .any ops Q C bad ops.size (Array.replicate ops.size false) a w'):(Code.region id ops true).wp P Q a w:=
 wp_region_any hm (wpAny_of_J _ _ _ _ (k _ h.drew (hS _ h.drew)))
end
end Go.Proofs.YtdnhbedbpbgeeaaGreatDoor.K
