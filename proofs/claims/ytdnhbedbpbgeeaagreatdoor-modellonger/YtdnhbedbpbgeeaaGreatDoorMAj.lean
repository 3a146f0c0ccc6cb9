/- 9 -/
import Derived.Test.YtdnhbedbpbgeeaaGreatDoorMAi
set_option maxRecDepth 100000
set_option maxHeartbeats 2000000
set_option linter.all false
namespace Go.Proofs.YtdnhbedbpbgeeaaGreatDoor.K
open Go.RowKit Go.Proofs.Tryz
variable {va ka a pa_t a_t : Option Addr} {nm_t : ByteArray} {q vn vc pc_t j c_t kc n c m z k : Nat} {W w : World} {vs : List Va} {f : Nat→Bool} {x0 v x1 x2 x3 x4 : Value} {e : TypeId} {α : Type} {E : El α}
section
open Go.RowKit Go.Shelf
attribute [local go_sem] Oper.semAt_some
variable {B : Bs} {w' : World} {L : List Rs} {b : Nat} {p : CP} {s : Cs}
theorem envR_at (N:Nat) {em : List Nat}:∀{env:List TM} {j:Nat} {m:Nat} {f:TM},em[j]?=some m→env[j]?=some f→(envR N em env)[j]?=some (.mp zTy VTy m N f):=by
 induction em with
 | nil=>intro env j m f h;simp at h
 | cons a em ih=>
  intro env j m f h h';cases env with
  | nil=>simp at h'
  | cons g env=>
   cases j with
   | zero=>
    simp only[List.getElem?_cons_zero,Option.some.injEq] at h h';subst h h';rfl
   | succ j=>
    simp only[List.getElem?_cons_succ] at h h';exact ih h h'
theorem Fr.lookE (h:Fr B w (.cs b p s::L)) {f : TM} (hm:p.em[j]?=some m) (hf:s.env[j]?=some f) (x:ByteArray) (hx:x.size≤maxLen):∃t nm a c pa pc,t=(f x).getD tZ∧(∀w':World,w'.heap[m]?=w.heap[m]?→(Instr.lookup 87 (.map (some m)) (.string x) true).run prog w'=.ok (.tuple #[.agg #[.int .i64 (tyk t),.string nm,.slice a (tnn t) c,.slice pa (tpn t) pc,.bool (tmy t)],.bool (f x).isSome]) w') ∧
  Fr B w (.cs b p s::.el TyE [.int .i64 (tyk t),.string nm,.slice a (tnn t) c,.slice pa (tpn t) pc,.bool (tmy t)] t::L):=by
 have hi:(csK b p s++(envR s.n p.em s.env++L))[7+j]?=some (.mp zTy VTy m s.n f):=by
  have h0:=envR_at s.n hm hf;have hl:=(List.getElem?_eq_some_iff.1 h0).1;rw[List.getElem?_append_right (by simp),List.getElem?_append_left (by simp;omega)];simpa using h0
 obtain⟨v,h1,h2,h3⟩:=h.csOpen.mpLook (7+j) hi 87 83 underlying87 zeroValue83 x hx;have key:∃x0 x1 x2 x3 x4,v=.agg #[x0,x1,x2,x3,x4]∧Fr B w (.cs b p s::.el TyE [x0,x1,x2,x3,x4] ((f x).getD tZ)::L):=by
  cases e:f x with
  | none=>exact⟨_,_,_,_,_,h2 e,(h.tyBare 0 (by omega)).swap⟩
  | some t=>
   obtain⟨x0,x1,x2,x3,x4,rfl,h5⟩:=(h3 t e).csOver.veTy 1 rfl;exact⟨x0,x1,x2,x3,x4,rfl,h5.swap.lose⟩
 obtain⟨x0,x1,x2,x3,x4,rfl,h4⟩:=key;obtain⟨nm,a,c,pa,pc,rfl,rfl,rfl,rfl,rfl⟩:=h4.tyForm5 1 rfl;exact⟨_,nm,a,c,pa,pc,rfl,λ w' e=>(h1 w' e).1,h4⟩
theorem Fr.envLt (h:Fr B w (.cs b p s::L)) {f : TM} (hm:p.em[j]?=some m) (hf:s.env[j]?=some f):m<w.heap.size:=by
 have hi:(csK b p s++(envR s.n p.em s.env++L))[7+j]?=some (.mp zTy VTy m s.n f):=by
  have h0:=envR_at s.n hm hf;have hl:=(List.getElem?_eq_some_iff.1 h0).1;rw[List.getElem?_append_right (by simp),List.getElem?_append_left (by simp;omega)];simpa using h0
 obtain⟨H,h2,-⟩:=h.csOpen.get hi;exact (Rs.mp zTy VTy m s.n f).lt H w h2 m rfl
theorem Fr.envRow (h:Fr B w (.cs b p s::L)):∃a c,p.bv=.slice a p.em.reverse.length c∧MapsAt w a p.em.reverse:=by
 have hl:=h.csInv.len;have hr:=h.csOpen.rowAt 2 rfl;obtain⟨a,c,e,hc⟩:=row_form hr;have hlen:p.em.reverse.length=s.env.length:=by rw[List.length_reverse,hl]
 refine⟨a,c,by rw[e,hlen],λ i hi=>?_⟩;rw[e] at hr;rcases hr.2 with⟨-,h0⟩|⟨g,cap,cur,e2,-,hb,a1,a2,a3,a4⟩
 ·omega
 cases e2;refine⟨g,0,rfl,bO hb,?_⟩;have h1:cur[i]?=(p.em.reverse.map λ m=>Value.map (some m))[i]?:=by
  rw[← a4,List.getElem?_take_of_lt (by omega),Array.getElem?_toList]
 rw[Nat.zero_add,aA hb,h1,List.getElem?_map,List.getElem?_eq_getElem hi];rfl
theorem findE_none:∀{env:List TM}{x:ByteArray},(∀(j:Nat) (f:TM),env[j]?=some f→f x=none)→cH env x=none
 | [],x,_=>rfl
 | f::env,x,h=>by
  rw[cH,h 0 f rfl];exact findE_none λ j g hj=>h (j+1) g hj
theorem findE_some:∀{env:List TM}{x:ByteArray}{k:Nat}{f:TM}{t:T.Ty},(∀(j:Nat) (g:TM),j<k→env[j]?=some g→g x=none)→env[k]?=some f→f x=some t→cH env x=some t
 | [],x,k,f,t,_,h,_=>by simp at h
 | g::env,x,0,f,t,_,h,ht=>by
  simp only[List.getElem?_cons_zero,Option.some.injEq] at h;subst h;rw[cH,ht]
 | g::env,x,k+1,f,t,h0,h,ht=>by
  rw[cH,h0 0 g (by omega) rfl];exact findE_some (λ j g hj e=>h0 (j+1) g (by omega) e) h ht
theorem findE_may:∀{env:List TM}{x:ByteArray}{t:T.Ty},(∀f:TM,f∈env→∀x t,f x=some t→may t=true)→cH env x=some t→may t=true
 | [],x,t,_,h=>by cases h
 | f::env,x,t,h0,h=>by
  rw[cH] at h;split at h
  ·rename_i u e
   cases h;exact h0 f (List.mem_cons_self ..) x _ e
  exact findE_may (λ f hf=>h0 f (List.mem_cons_of_mem _ hf)) h
theorem mem_upto {N : Nat} (hj:j<N) (h:j<k):(⟨j,hj⟩:Fin N)∈T.upto N k:=by
 unfold T.upto;rw[List.mem_iff_getElem];refine⟨j,by simp;omega,by simp⟩
theorem heap5 {T : TypeId} (h:W.heap[q]?=some (.cells #[x0,x1,x2,x3,x4] T (0,0))) (y0 y1 y2 y3 y4:Value):(((((W.setCell ⟨q,0,none⟩ y0).setCell ⟨q,1,none⟩ y1).setCell ⟨q,2,none⟩ y2).setCell ⟨q,3,none⟩ y3).setCell ⟨q,4,none⟩ y4).heap[q]?=some (.cells #[y0,y1,y2,y3,y4] T (0,0)):=by
 have h1:=heap_setCell_same W q 0 _ T y0 h;have h2:=heap_setCell_same _ q 1 _ T y1 h1;have h3:=heap_setCell_same _ q 2 _ T y2 h2;have h4:=heap_setCell_same _ q 3 _ T y3 h3;have h5:=heap_setCell_same _ q 4 _ T y4 h4;exact h5
theorem heap5_other (hk:k≠q) (y0 y1 y2 y3 y4:Value):(((((W.setCell ⟨q,0,none⟩ y0).setCell ⟨q,1,none⟩ y1).setCell ⟨q,2,none⟩ y2).setCell ⟨q,3,none⟩ y3).setCell ⟨q,4,none⟩ y4).heap[k]?=W.heap[k]?:=by
 rw[heap_setCell_other _ _ _ _ hk,heap_setCell_other _ _ _ _ hk,heap_setCell_other _ _ _ _ hk,heap_setCell_other _ _ _ _ hk,heap_setCell_other _ _ _ _ hk]
theorem keep5 (m:Nat) (q:Nat) (y0 y1 y2 y3 y4:Value):KeepsFrom m W (((((W.setCell ⟨q,0,none⟩ y0).setCell ⟨q,1,none⟩ y1).setCell ⟨q,2,none⟩ y2).setCell ⟨q,3,none⟩ y3).setCell ⟨q,4,none⟩ y4):=
 ((((((KeepsOthers.setCell _ _ _).from m).trans ((KeepsOthers.setCell _ _ _).from m)).trans ((KeepsOthers.setCell _ _ _).from m)).trans ((KeepsOthers.setCell _ _ _).from m)).trans ((KeepsOthers.setCell _ _ _).from m))
theorem below5 (h:Below m w W) (hq:m≤q) (y0 y1 y2 y3 y4:Value):Below m w (((((W.setCell ⟨q,0,none⟩ y0).setCell ⟨q,1,none⟩ y1).setCell ⟨q,2,none⟩ y2).setCell ⟨q,3,none⟩ y3).setCell ⟨q,4,none⟩ y4):=
 ((((h.setCell (p:=⟨q,0,none⟩) hq _).setCell (p:=⟨q,1,none⟩) hq _).setCell (p:=⟨q,2,none⟩) hq _).setCell (p:=⟨q,3,none⟩) hq _).setCell (p:=⟨q,4,none⟩) hq _
theorem load83 (h:w.heap[q]?=some (.cells #[x0,x1,x2,x3,x4] 83 (0,0))):(loadVar 83 ⟨q,0,none⟩).run prog w=.ok (.agg #[x0,x1,x2,x3,x4]) w:=by
 have hc:=aA h;simp [loadVar,go_sem,hc]
theorem load4 (h:w.heap[q]?=some (.cells #[x0] 4 (0,0))):(loadVar 4 ⟨q,0,none⟩).run prog w=.ok x0 w:=by
 have hc:=aA h;simp [loadVar,go_sem,hc]
theorem local131 (h:Fr B w (.cs b p s::L)) (x:ByteArray) (hx:x.size≤maxLen):Calls prog 131 #[ptr b,.string x] w λ e w'=>
  ∃t nm a c pa pc,t=(cH s.env x).getD tZ∧e=.returned (.tuple #[.agg #[.int .i64 (tyk t),.string nm,.slice a (tnn t) c,.slice pa (tpn t) pc,.bool (tmy t)],.bool (cH s.env x).isSome])∧Fr B w' (.cs b p s::.el TyE [.int .i64 (tyk t),.string nm,.slice a (tnn t) c,.slice pa (tpn t) pc,.bool (tmy t)] t::L):=by
 obtain⟨ra,rc,hbv,hM⟩:=h.envRow;have hlen:p.em.reverse.length=s.env.length:=by rw[List.length_reverse,h.csInv.len]
 have hlk:p.em.reverse.length≤16000:=by have:=h.csInv.el;have:=h.csInv.k;omega
 have hms:∀(y m:Nat),p.em.reverse.reverse[y]?=some m→p.em[y]?=some m:=λ y m e=>by rwa [List.reverse_reverse] at e
 generalize p.em.reverse=ms at *;have h3:=(((h.box1 (q:=w.heap.size) rfl #[.string x] 9).box1 (q:=w.heap.size+1) (by simp) tyz 83).box1 (q:=w.heap.size+1+1) (by simp) #[.bool false] 4)
 have c_cs:=h3.csCell;rw[show csC p s=#[p.n0,p.n1,p.n2,p.n3,p.r0,p.r1,p.r2,p.r3,p.r4,.bool s.many,p.bv,.int .i64 s.wo,p.kv,.map (some p.sm),.map (some p.dm)] from rfl,hbv] at c_cs;have HF4:=ah (h3.box1 (q:=w.heap.size+1+1+1) (by simp) #[.slice ra ms.length rc] 84);have HF:=h;have HX:=ah hx;have HM:=ah hM;have HLEN:=ah hlen;clear h h3 hx hM hlen hbv;refine (callsIn_wide (n:=5)).1 ?_;refine callsIn_of_wp_marks func131 rfl trivial ?_ rfl;simp only[ntmps131,List.size_toArray,List.length_cons,List.length_nil,Nat.reduceAdd,Nat.reduceSub,Array.replicate_succ,Array.replicate_zero,List.push_toArray,List.append_toArray,List.nil_append,List.cons_append];gi_wp2
 refine⟨trivial,?_⟩;refine (callsIn_wide.2 (backT_any _ ⟨_,_,_,rfl⟩ _)).mono ?_;rintro e w1 ⟨rfl,rfl⟩;clear c_cs;gi_wp2
 have hb0:Below w.heap.size w ((((w.alloc (.cells #[Value.string x] 9)).alloc (.cells tyz 83)).alloc (.cells #[Value.bool false] 4)).alloc (.cells #[Value.slice ra ms.length rc] 84)):=((((Below.refl _ _).alloc (Nat.le_refl _) _).alloc (by simp) _).alloc (by simp;omega) _).alloc (by simp;omega) _;have hsz0:((((w.alloc (.cells #[Value.string x] 9)).alloc (.cells tyz 83)).alloc (.cells #[Value.bool false] 4)).alloc (.cells #[Value.slice ra ms.length rc] 84)).heap.size=w.heap.size+1+1+1+1:=by simp
 generalize ((((w.alloc (.cells #[Value.string x] 9)).alloc (.cells tyz 83)).alloc (.cells #[Value.bool false] 4)).alloc (.cells #[Value.slice ra ms.length rc] 84))=W0 at *;have b3:=HF4.blkAt 4 rfl;have b4:=HF4.blkAt 3 rfl;have b5:=HF4.blkAt 2 rfl;have b6:=HF4.blkAt 1 rfl;have hM0:MapsAt W0 ra ms:=λ i hi=>by
  obtain⟨g,o,e1,e2,e3⟩:=HM i hi;exact⟨g,o,e1,Nat.lt_of_lt_of_le e2 hb0.size,(hb0.cell (p:=⟨g,o+i,none⟩) e2).trans e3⟩
 clear HF4 HM;refine wpIn_rangeFunc_ownH (α:=Fin ms.length) rfl (by omega) (gf:=177) (lb:=#[.pointer (some ⟨w.heap.size+1+1+1,0,none⟩)]) rfl trivial (enters_of func177 (by kernel_rfl) rfl)
  (backT_stops 4 (by omega) W0 ms ra rc hlk hM0 (w.heap.size+1+1+1) (aA b6) (by omega)) (λ h k=>Below.trans h k) (λ W l o o' hl ho _ _=>keepB_put W o o' hl ho) (Below.refl _ _) (λ_=>rfl)
  (λ (pre:List (Fin ms.length)) (W:World)=>(((W.heap[w.heap.size]?=some (.cells #[Value.string x] 9 (0,0))∧W.heap[w.heap.size+1]?=some (.cells tyz 83 (0,0)))∧W.heap[w.heap.size+1+1]?=some (.cells #[Value.bool false] 4 (0,0)))∧Below w.heap.size w W)∧∀z:Fin ms.length,z∈pre→∀f:TM,s.env[(z:Nat)]?=some f→f x=none)
  (λ (c:Code) (pre:List (Fin ms.length)) (W:World)=>((∃t nm a cc pa pc,((c=.ret∧∃(pre0:List (Fin ms.length)) (y:Fin ms.length) (f:TM),pre=pre0++[y]∧(∀z:Fin ms.length,z∈pre0→∀f:TM,s.env[(z:Nat)]?=some f→f x=none)∧s.env[(y:Nat)]?=some f∧f x=some t)∧Fr B w (.cs b p s::.el TyE [.int .i64 (tyk t),.string nm,.slice a (tnn t) cc,.slice pa (tpn t) pc,.bool (tmy t)] t::L))∧W.heap[w.heap.size+1]?=some (.cells #[.int .i64 (tyk t),.string nm,.slice a (tnn t) cc,.slice pa (tpn t) pc,.bool (tmy t)] 83 (0,0)))∧W.heap[w.heap.size+1+1]?=some (.cells #[Value.bool true] 4 (0,0)))∧Below w.heap.size w W)
  (OwnFrom.and (OwnFrom.and (OwnFrom.and (OwnFrom.and (Own.from (T.own_block _ _ _) _) (Own.from (T.own_block _ _ _) _)) (Own.from (T.own_block _ _ _) _)) (ownFrom_below (Nat.le_refl _) (by omega))) (ownFrom_pure _ _))
  (λ c pre X Y row hs hg hr=>by
   obtain⟨⟨⟨t,nm,a,cc,pa,pc,h1,h2⟩,h3⟩,h4⟩:=hs;exact⟨⟨⟨t,nm,a,cc,pa,pc,h1,T.own_block (β:=Unit) _ _ _ () X Y row h2 hg (λ r e=>(hr r e).2)⟩,T.own_block (β:=Unit) _ _ _ () X Y row h3 hg (λ r e=>(hr r e).2)⟩,ownFrom_below (β:=Unit) (Nat.le_refl _) (by omega) () X Y row h4 hg hr⟩)
  ⟨⟨⟨⟨b3,b4⟩,b5⟩,hb0⟩,λ z hz=>by cases hz⟩
  (λ (y:Fin ms.length) (a':Act) (W:World)=>a'={ tmps:=#[ptr b,.string x,undef,.pointer (some ⟨w.heap.size,0,none⟩),.pointer (some ⟨w.heap.size+1,0,none⟩),.pointer (some ⟨w.heap.size+1+1,0,none⟩),undef,rvm ms y,undef,undef,ptr b,.pointer (some ⟨b,0,none⟩),.pointer (some ⟨b,4,none⟩),.pointer (some ⟨b,10,none⟩),.slice ra ms.length rc,.func (.func 177) #[] #[.pointer (some ⟨w.heap.size+1+1+1,0,none⟩)],.int .i64 ((ms.length:Int) - 1 - (y:Nat)),rvm ms y,undef,undef,undef,undef,undef,undef,undef,undef,undef],defers:=[] })
  (λ y a'=>ownFrom_pure _ _)
  ?assign ?body ?done ?stop
 case assign=>
  rintro l pre y W K hI hK;have HKK:=ah hK;clear hK;gi_wp2
  exact HKK _ _ (T.keeps_of (Below.refl _ W)) (Below.refl _ W) hI rfl
 case body=>
  rintro l pre y a' W hl ⟨r,hr⟩ ⟨⟨⟨⟨c3,c4⟩,c5⟩,hB2⟩,hpre⟩ rfl hlt;clear b3 b4 b5 b6;obtain⟨m,hm⟩:∃m,ms.reverse[(y:Nat)]?=some m:=⟨_,List.getElem?_eq_getElem (by rw[List.length_reverse];exact y.2)⟩
  obtain⟨f,hf⟩:∃f,s.env[(y:Nat)]?=some f:=⟨_,List.getElem?_eq_getElem (by rw[← HLEN.out];exact y.2)⟩
  have hrv:rvm ms y=.map (some m):=by unfold rvm;rw[List.getD_eq_getElem?_getD,hm];rfl
  obtain⟨t,nm,a,c,pa,pc,ht,hlook,hFt⟩:=HF.lookE (hms _ _ hm) hf x HX;have hWs:=Nat.le_of_lt (Nat.lt_of_le_of_lt hl (bO hr));have hmlt:=HF.envLt (hms _ _ hm) hf;have hlk2:=hlook W (hB2.block m hmlt);have cc3:=T.cells_at c3;have cc4:=T.cells_at c4;have cc5:=T.cells_at c5;have f4:=aX c4;have f5:=aX c5;have HC:=ah (And.intro c3 (And.intro c4 c5));have HB2:=ah hB2;have HPRE:=ah hpre;have HFT:=ah hFt;have HT:=ah ht;have HFE:=ah hf;clear c3 c4 c5 hB2 hpre hFt ht hlook hr hmlt;rw[hrv];cases hq:f x with
  | none=>
   rw[hq] at hlk2;simp only[Option.isSome_none] at hlk2;have HQ:=ah hq;clear hq;gi_wp2
   have hbA:Below W.heap.size W (W.alloc (.cells #[.int .i64 (tyk t),.string nm,.slice a (tnn t) c,.slice pa (tpn t) pc,.bool (tmy t)] 83)):=(Below.refl _ W).alloc (Nat.le_refl _) _;refine⟨T.keeps_of hbA,hbA.mono hWs,⟨⟨⟨⟨?_,?_⟩,?_⟩,HB2.trans (hbA.mono HB2.size)⟩,λ z hz g hg=>?_⟩⟩
   ·exact (hbA.block _ (bO HC.1)).trans HC.1
   ·exact (hbA.block _ (bO HC.2.1)).trans HC.2.1
   ·exact (hbA.block _ (bO HC.2.2)).trans HC.2.2
   rcases List.mem_append.1 hz with hz|hz
   ·exact HPRE z hz g hg
   rw[List.mem_singleton.1 hz,HFE.out] at hg;cases hg;exact HQ
  | some t0=>
   rw[hq] at hlk2;simp only[Option.isSome_some] at hlk2;have HQ:=ah hq;have hbA:Below W.heap.size W (W.alloc (.cells #[.int .i64 (tyk t),.string nm,.slice a (tnn t) c,.slice pa (tpn t) pc,.bool (tmy t)] 83)):=(Below.refl _ W).alloc (Nat.le_refl _) _;have d4:=(hbA.block _ (bO HC.2.1)).trans HC.2.1;have d5:=(hbA.block _ (bO HC.2.2)).trans HC.2.2;have cA4:=aA d4;have fA4:=aX d4;have cA5:=aA d5;have fA5:=aX d5;have HD:=ah (And.intro d4 d5);have HBA:=ah hbA;clear hq cc4 cc5 f4 f5 d4 d5 hbA;gi_wp2
   obtain rfl:t=t0:=by rw[HT.out,HQ.out];rfl
   refine⟨((T.keeps_of HBA).trans (keep5 _ _ _ _ _ _ _)).trans ((KeepsOthers.setCell _ _ _).from _),⟨⟨⟨t,nm,a,c,pa,pc,⟨⟨rfl,pre,y,f,rfl,HPRE,HFE,HQ⟩,HFT⟩,?_⟩,?_⟩,(below5 (HB2.trans (HBA.mono HB2.size)) (by omega) _ _ _ _ _).setCell (p:=⟨w.heap.size+1+1,0,none⟩) (by simp;omega) _⟩⟩
   ·exact (heap_setCell_other _ _ _ _ (show w.heap.size+1≠w.heap.size+1+1 by omega)).trans (heap5 HD.1 _ _ _ _ _)
   exact heap_setCell_same _ _ 0 _ _ _ ((heap5_other (by omega) _ _ _ _ _).trans HD.2)
 case done=>
  rintro D ys W hD rfl ⟨⟨⟨⟨c3,c4⟩,c5⟩,hB2⟩,hpre⟩ hK;have cA4:=aA c4;have fA4:=aX c4;have cA5:=aA c5;have fA5:=aX c5;have HD:=ah (And.intro c4 c5);have HB2:=ah hB2;have HK:=ah hK;have hnone:cH s.env x=none:=findE_none λ j f hj=>by
   have hl:=(List.getElem?_eq_some_iff.1 hj).1;rw[← HLEN.out] at hl;exact hpre ⟨j,hl⟩ (List.mem_finRange _) f hj
  have HN:=ah hnone;clear c3 c4 c5 hB2 hpre hK b3 b4 b5 b6 hnone;gi_wp2
  have hB3:=(below5 HB2 (q:=w.heap.size+1) (by omega) (.int .i64 0) (.string ⟨#[]⟩) (.slice none 0 0) (.slice none 0 0) (.bool false)).setCell (p:=⟨w.heap.size+1+1,0,none⟩) (by simp;omega) (.bool false);have e4:=(heap_setCell_other _ _ _ (.bool false) (show w.heap.size+1≠(⟨w.heap.size+1+1,0,none⟩:Addr).block from by show w.heap.size+1≠w.heap.size+1+1;omega)).trans (heap5 HD.1 (.int .i64 0) (.string ⟨#[]⟩) (.slice none 0 0) (.slice none 0 0) (.bool false));have e5:=heap_setCell_same _ _ 0 _ _ (.bool false) ((heap5_other (show w.heap.size+1+1≠w.heap.size+1 by omega) (.int .i64 0) (.string ⟨#[]⟩) (.slice none 0 0) (.slice none 0 0) (.bool false)).trans HD.2);have eK:=(heap_setCell_other _ _ D (.bool false) (show D≠(⟨w.heap.size+1+1,0,none⟩:Addr).block from by show D≠w.heap.size+1+1;omega)).trans ((heap5_other (show D≠w.heap.size+1 by omega) (.int .i64 0) (.string ⟨#[]⟩) (.slice none 0 0) (.slice none 0 0) (.bool false)).trans HK);refine⟨by simp,.inl ⟨_,_,rfl,run_takeDeferred eK,?_⟩⟩;refine⟨_,aH results131 _ rfl rfl _ (load83 ((World.putObj_heap_other (by omega)).trans e4)) (load4 ((World.putObj_heap_other (by omega)).trans e5)),tZ,⟨#[]⟩,none,0,none,0,by rw[HN.out];rfl,by rw[HN.out];rfl,?_⟩;exact ((HF.tyBare 0 (by omega)).swap).call (hB3.trans (belowK_b (w:=w) (Nat.le_refl _) _ D _ _ (by omega) eK rfl rfl))
 case stop=>
  rintro D c pre W hD ⟨k,hkl,hpk⟩ ⟨⟨⟨t,nm,a,cc,pa,pc,⟨⟨rfl,pre0,y,f,hp0,hnone,hf,hft⟩,hFt⟩,h4⟩,h5⟩,hB2⟩ hK;gi_wp2
  refine⟨by simp,.inl ⟨_,_,rfl,run_takeDeferred hK,?_⟩⟩;have hfe:cH s.env x=some t:=by
   rw[hp0] at hpk;obtain⟨e1,e2⟩:=List.append_inj' hpk rfl;obtain rfl:y=⟨k,hkl⟩:=by simpa using e2
   subst e1;exact findE_some (λ j g hj hg=>hnone ⟨j,by omega⟩ (mem_upto _ hj) g hg) hf hft
  refine⟨_,aH results131 _ rfl rfl _ (load83 ((World.putObj_heap_other (by omega)).trans h4)) (load4 ((World.putObj_heap_other (by omega)).trans h5)),t,nm,a,cc,pa,pc,by rw[hfe];rfl,by rw[hfe];rfl,?_⟩;exact hFt.call (hB2.trans (belowK_b (w:=w) (Nat.le_refl _) _ D _ _ (by omega) hK rfl rfl))
end
variable {B : Bs} {w' : World} {L : List Rs} {b : Nat} {p : CP} {s : Cs}
def PT0 (q:CR T.Ty)(B:Bs)(L:List Rs)(e:Ending)(w':World):Prop:=
 (∃c a,q=.no c a∧e=upF c a∧Fr B w' L)∨(∃t nm_t a_t c_t pa_t pc_t,q=.ok t∧may t=true∧e=.returned (.agg #[.int .i64 (tyk t),.string nm_t,.slice a_t (tnn t) c_t,.slice pa_t (tpn t) pc_t,.bool (tmy t)])∧Fr B w' (.el TyE [.int .i64 (tyk t),.string nm_t,.slice a_t (tnn t) c_t,.slice pa_t (tpn t) pc_t,.bool (tmy t)] t::L))
theorem PT0.no {q : CR T.Ty} {a : Nat} {c : Int} (hq:q=.no c a) (h:Fr B w' L):PT0 q B L (upF c a) w':=Or.inl ⟨c,a,hq,rfl,h⟩
theorem PT0.yes {q : CR T.Ty} {t : T.Ty} (hq:q=.ok t) (hm:may t=true) (h:Fr B w' (.el TyE [.int .i64 (tyk t),.string nm_t,.slice a_t (tnn t) c_t,.slice pa_t (tpn t) pc_t,.bool (tmy t)] t::L)):PT0 q B L (.returned (.agg #[.int .i64 (tyk t),.string nm_t,.slice a_t (tnn t) c_t,.slice pa_t (tpn t) pc_t,.bool (tmy t)])) w':=Or.inr ⟨t,nm_t,a_t,c_t,pa_t,pc_t,hq,hm,rfl,h⟩
theorem mayN_up:∀(d:Nat)(t:T.Ty),T.mayN d t=true→T.mayN (d+1) t=true
 | 0,t,h=>by simp [T.mayN] at h
 | d+1,.leaf,h=>by simp [T.mayN] at h
 | d+1,.mk kind name nn names pn parts many,h=>by
  rw[T.mayN] at h ⊢;simp only[Bool.and_eq_true,List.all_eq_true] at h ⊢;exact⟨⟨h.1.1,λ i hi=>mayN_up d _ (h.1.2 i hi)⟩,h.2⟩
theorem may_part {t : T.Ty} (h:may t=true) {i : Nat} (hi:i<tpn t):may (tpt t i)=true:=by
 cases t with
 | leaf=>simp [tpn] at hi
 | mk kind name nn names pn parts many=>
  rw[may,T.mayN] at h;simp only[Bool.and_eq_true,List.all_eq_true,List.mem_range] at h;exact mayN_up 3 _ (h.1.2 i hi)
theorem may_struct {t : T.Ty} (h:may t=true) (hk:tyk t=3):tnn t=tpn t:=by
 cases t with
 | leaf=>simp [tyk] at hk
 | mk kind name nn names pn parts many=>
  obtain rfl:kind=3:=hk;rw[may,T.mayN,if_pos rfl] at h;simp only[Bool.and_eq_true,decide_eq_true_eq] at h;exact h.2.1.1.2
theorem may_fn {t : T.Ty} (h:may t=true) (hk:tyk t=4):1≤tpn t:=by
 cases t with
 | leaf=>simp [tyk] at hk
 | mk kind name nn names pn parts many=>
  obtain rfl:kind=4:=hk;rw[may,T.mayN,if_neg (by omega),if_pos rfl] at h;simp only[Bool.and_eq_true,decide_eq_true_eq] at h;exact h.2.2
theorem may_pn {t : T.Ty} (h:may t=true):tpn t≤7:=by
 cases t with
 | leaf=>simp [tpn]
 | mk kind name nn names pn parts many=>
  rw[may,T.mayN] at h;simp only[Bool.and_eq_true,decide_eq_true_eq] at h;exact h.1.1.1
def idxT (t:T.Ty)(x:ByteArray):Option Nat:=(List.range (tnn t)).find? λ i=>decide (tnm t i=x)
def idxI:Option Nat→Int|some k=>k|none=>-1
theorem index93 (h:Fr B w L) (i:Nat) {t : T.Ty} (hi:L[i]?=some (.el TyE [.int .i64 (tyk t),.string nm_t,.slice a_t (tnn t) c_t,.slice pa_t (tpn t) pc_t,.bool (tmy t)] t)) (x:ByteArray):Calls prog 93 #[.slice a_t (tnn t) c_t,.string x] w λ e w'=>e=.returned (.int .i64 (idxI (idxT t x)))∧Fr B w' L:=by
 have hv:=h.tyAt i hi;cases t with
 | leaf=>exact (T.TyV_leaf hv).elim
 | mk kind name nn names pn parts many=>
  unfold T.TyV at hv;obtain⟨na,nc,pa,pc,e,h1,-,-,-,k3,-⟩:=hv;cases e;have key:Lib.idxOfS (((List.range nn).map names).take nn) x=idxI (idxT (.mk kind nm_t nn names pn parts many) x):=by
   show _=idxI ((List.range nn).find? λ i=>decide (names i=x));cases hf:(List.range nn).find? λ i=>decide (names i=x) with
   | none=>
    rw[List.find?_range_eq_none] at hf;rw[Lib.idxOfS_miss]
    ·rfl
    intro j hj;have:=hf j hj;simp [List.getD_eq_getElem?_getD,hj];simpa using this
   | some k=>
    rw[List.find?_range_eq_some] at hf;obtain⟨q1,q2,q3⟩:=hf;have hk:=List.mem_range.1 q2;rw[Lib.idxOfS_hit _ nn k x hk (by simp)]
    ·rfl
    ·simp [List.getD_eq_getElem?_getD,hk];simpa using q1
    intro j hj;have:=q3 j hj;have hj':j<nn:=by omega
    simp [List.getD_eq_getElem?_getD,hj'];simpa using this
  by_cases hn:0<nn
  ·obtain⟨b,o,rfl,hb,hc⟩:=h1 hn;refine (slices_Index_string b o nn _ ((List.range nn).map names) x w (by simp) k3 λ j hj=>?_).mono λ e w' h'=>⟨?_,h'.2 ▸ h⟩
   ·have hj':j<nn:=by simpa using hj
    simp [List.getD_eq_getElem?_getD,hj',hc j hj']
   rw[h'.1,key]
  obtain rfl:nn=0:=by omega
  refine (slices_Index_string_empty _ _ x w).mono λ e w' h'=>⟨?_,h'.2 ▸ h⟩
  rw[h'.1,← key];rfl
theorem name105 (h:Fr B w (.cs b p s::L)) (x:ByteArray) (hx:x.size≤maxLen) (a:Nat):Calls prog 105 #[ptr b,.string x,.int .i64 a] w (PTz (fI s x a) B b p s L):=by
 have HF:=h;have HX:=ah hx;clear h hx;go_enter func105,ntmps105;replace HF:=bx HF w.heap.size tyz 83;go_wp2_with fail;go_at_call 131;refine (local131 HF x HX).mono ?_;rintro e w1 ⟨t,nm_t,a_t,c_t,pa_t,pc_t,ht,rfl,hf⟩;have HT:=ah ht;replace HF:=hf;clear ht hf;cases e:cH s.env x with
 | none=>
  rw[e] at HT;have HE:=ah e;clear e;simp only[Option.isSome_none];replace HF:=yT HF w1.heap.size (tyk t) nm_t a_t (tnn t) c_t pa_t (tpn t) pc_t (tmy t);obtain⟨m,nm_m,a_m,c_m,pa_m,pc_m,hm,hlook,HF⟩:=HF.lookDe x HX;have hM:=ah hm;clear hm;have c_cs:=HF.csCell;have hl1:=(hlook _ rfl).1;clear hlook;cases e2:s.de x with
  | none=>
   rw[e2] at hl1 hM;have HD:=ah e2;clear e2;simp only[Option.isSome_none] at hl1;go_wp2_with fail;clear c_cs hl1;replace HF:=bx HF (w1.heap.size+1) #[.int .i64 (tyk m.1),.string nm_m,.slice a_m (tnn m.1) c_m,.slice pa_m (tpn m.1) pc_m,.bool (tmy m.1),.bool m.2] 99;go_at_call 69;refine (aU HF 4 a).mono ?_;rintro e w2 ⟨rfl,HF⟩;exact⟨rfl,PTz.no (by simp only[fI,HE.out,HD.out]) HF.lose⟩
  | some m0=>
   rw[e2] at hl1 hM;have HD:=ah e2;clear e2;simp only[Option.isSome_some] at hl1;go_wp2_with fail;clear c_cs hl1;replace HF:=bx HF (w1.heap.size+1) #[.int .i64 (tyk m.1),.string nm_m,.slice a_m (tnn m.1) c_m,.slice pa_m (tpn m.1) pc_m,.bool (tmy m.1),.bool m.2] 99;go_at_call 69;refine (aL HF 4 a).mono ?_;rintro e w2 ⟨rfl,HF⟩;have c_b9:=HF.cell 1 rfl;obtain rfl:m=m0:=hM.out;cases hq:m.2
   ·have HQ:=ah hq;rw[hq] at c_b9;clear hq;go_wp2_with fail;go_at_call 69;refine (aL HF 3 a).mono ?_;rintro e w3 ⟨rfl,HF⟩;clear c_b9;have c_b9:=HF.cell 1 rfl;obtain⟨c_res,f_res⟩:=cf HF 5;replace HF:=sT HF 5 (tyk m.1) nm_m a_m (tnn m.1) c_m pa_m (tpn m.1) pc_m (tmy m.1);go_wp2;refine br (rt83 results105 rfl (HF.blkAt 5 rfl)) ?_;exact PTz.yes (by simp only[fI,HE.out,HD.out,HQ.out,askC,Bool.not_false,if_true]) (HF.csInv.de _ _ HD) HF.lose
   have HQ:=ah hq;rw[hq] at c_b9;clear hq;go_wp2_with fail;go_at_call 69;refine (aU HF 3 a).mono ?_;rintro e w3 ⟨rfl,HF⟩;clear c_b9;exact⟨rfl,PTz.no (by simp only[fI,HE.out,HD.out,HQ.out,askC,Bool.not_true,Bool.false_eq_true,if_false]) HF.lose⟩
 | some t0=>
  rw[e] at HT;have HE:=ah e;clear e;simp only[Option.isSome_some];replace HF:=yT HF w1.heap.size (tyk t) nm_t a_t (tnn t) c_t pa_t (tpn t) pc_t (tmy t);have c_b7:=HF.cell 1 rfl;obtain⟨c_res,f_res⟩:=cf HF 3;replace HF:=sT HF 3 (tyk t) nm_t a_t (tnn t) c_t pa_t (tpn t) pc_t (tmy t);go_wp2;refine br (rt83 results105 rfl (HF.blkAt 3 rfl)) ?_;obtain rfl:t=t0:=HT;exact PTz.yes (by simp only[fI,HE.out]) (findE_may HF.csInv.env HE) HF.lose
theorem bK {g o : Nat} {cur : Array Value} (hc:∀o,w.cell? ⟨g,o,none⟩=cur[o]?) (hk:∀i,i<5→cur[o+i]?=[x0,x1,x2,x3,x4][i]?):
  w.cell? ⟨g,o,none⟩=some x0∧w.cell? ⟨g,o+1,none⟩=some x1∧w.cell? ⟨g,o+2,none⟩=some x2∧w.cell? ⟨g,o+3,none⟩=some x3∧w.cell? ⟨g,o+4,none⟩=some x4:=
 ⟨(hc _).trans (hk 0 (by omega)),(hc _).trans (hk 1 (by omega)),(hc _).trans (hk 2 (by omega)),(hc _).trans (hk 3 (by omega)),(hc _).trans (hk 4 (by omega))⟩
theorem Fr.part (h:Fr B w L) (i:Nat) {t : T.Ty} (hi:L[i]?=some (.el TyE [.int .i64 (tyk t),.string nm_t,.slice a_t (tnn t) c_t,.slice pa_t (tpn t) pc_t,.bool (tmy t)] t)) (j:Nat) (hj:j<tpn t):
  ∃b o cur e f nm_u a_u c_u pa_u pc_u,pa_t=some ⟨b,o,none⟩∧tpn t≤pc_t∧pc_t≤9223372036854775807∧(∀i,i<5→cur[o+j*5+i]?=([.int .i64 (tyk (tpt t j)),.string nm_u,.slice a_u (tnn (tpt t j)) c_u,.slice pa_u (tpn (tpt t j)) pc_u,.bool (tmy (tpt t j))]:List Value)[i]?)∧Fr B w (.el TyE [.int .i64 (tyk (tpt t j)),.string nm_u,.slice a_u (tnn (tpt t j)) c_u,.slice pa_u (tpn (tpt t j)) pc_u,.bool (tmy (tpt t j))] (tpt t j)::.kn b cur e f::L):=by
 obtain⟨H,h⟩:=h;have h1:TyH H [.int .i64 (tyk t),.string nm_t,.slice a_t (tnn t) c_t,.slice pa_t (tpn t) pc_t,.bool (tmy t)] t:=h.ok _ (List.mem_of_getElem? hi);generalize hcs:([.int .i64 (tyk t),.string nm_t,.slice a_t (tnn t) c_t,.slice pa_t (tpn t) pc_t,.bool (tmy t)]:List Value)=cs at h1;cases h1 with
 | mk kind name nn names pn parts many a c pa pc b1 o1 cur1 e1 f1 b o cur e f E h1 h2 h3 h4 h5 h6=>
  obtain⟨q1,q2⟩:=h2 (by simp only[tpn] at hj;omega);simp only[tyk,tnn,tpn,tmy,List.cons.injEq,Value.slice.injEq,and_true,true_and] at hcs;obtain⟨-,-,⟨e5,e6⟩⟩:=hcs;have hE:=h3 j hj;have h7:=h4 j;have h8:=h5 j hj;obtain⟨x0,x1,x2,x3,x4,hEj⟩:=five_of hE;rw[hEj] at h7 h8;have hF:Fr B w (.el TyE [x0,x1,x2,x3,x4] (parts j)::.kn b cur e f::L):=⟨H,(h.free (r:=.kn b cur e f) q2 λ q hq=>hq).free (r:=.el TyE [x0,x1,x2,x3,x4] (parts j)) h8 λ q hq=>hq⟩
  obtain⟨nm,a',c',pa',pc',rfl,rfl,rfl,rfl,rfl⟩:=hF.tyForm5 0 rfl;refine⟨b,o,cur,e,f,nm,a',c',pa',pc',e5.trans q1,?_,?_,λ i hi=>h7 i hj hi,hF⟩
  ·rw[e6];exact h6.2.2.2.2.2.2.2.2.1
  rw[e6];exact h6.2.2.2.2.2.2.2.2.2
theorem Fr.slTy (h:Fr B w L) (i:Nat) {l : List T.Ty} (hi:L[i]?=some (.sl TyE (.slice a n c) 83 5 l)) (j:Nat) (hj:j<l.length):
  ∃b o cur f nm_u a_u c_u pa_u pc_u,a=some ⟨b,o,none⟩∧n=l.length∧n≤c∧c≤maxLen∧(∀i,i<5→cur[o+j*5+i]?=([.int .i64 (tyk l[j]),.string nm_u,.slice a_u (tnn l[j]) c_u,.slice pa_u (tpn l[j]) pc_u,.bool (tmy l[j])]:List Value)[i]?)∧Fr B w (.el TyE [.int .i64 (tyk l[j]),.string nm_u,.slice a_u (tnn l[j]) c_u,.slice pa_u (tpn l[j]) pc_u,.bool (tmy l[j])] l[j]::.kn b cur 83 f::L):=by
 obtain⟨g,o,c',cur,f,cs,e,h2,h3,h4,h5,h6⟩:=h.elem i hi j hj;cases e;obtain⟨x0,x1,x2,x3,x4,rfl⟩:=five_of h4;obtain⟨nm,a',c',pa',pc',rfl,rfl,rfl,rfl,rfl⟩:=h6.tyForm5 0 rfl;exact⟨g,o,cur,f,nm,a',c',pa',pc',rfl,rfl,h2,h3,h5,h6⟩
theorem field106 (h:Fr B w L) (i:Nat) {t : T.Ty} (hi:L[i]?=some (.el TyE [.int .i64 (tyk t),.string nm_t,.slice a_t (tnn t) c_t,.slice pa_t (tpn t) pc_t,.bool (tmy t)] t)) (hm:may t=true) (x:ByteArray) (a:Nat):Calls prog 106 #[.string x,.int .i64 a,.agg #[.int .i64 (tyk t),.string nm_t,.slice a_t (tnn t) c_t,.slice pa_t (tpn t) pc_t,.bool (tmy t)]] w (PT0 (f6 x a t) B L):=by
 have HF:=h.dup i hi;clear h hi;go_enter func106,ntmps106;replace HF:=yT HF w.heap.size (tyk t) nm_t a_t (tnn t) c_t pa_t (tpn t) pc_t (tmy t);replace HF:=bx HF (w.heap.size+1) tyz 83;have c_t5:=HF.cell 2 rfl;by_cases h3:tyk t=3
 ·have hk:(tyk t == 3)=true:=by simpa using h3
  have H3:=ah h3;clear h3;go_wp2_with fail;go_at_call 69;refine (aL HF 3 a).mono ?_;rintro e w1 ⟨rfl,HF⟩;clear c_t5;clear hk;have c_t5:=HF.cell 2 rfl;go_wp2_with fail;go_at_call 93;refine (index93 HF 0 rfl x).mono ?_;rintro e w2 ⟨rfl,HF⟩;have HI:Hid (f6 x a t=match idxT t x with|some i=>.ok (tpt t i)|none=>.no 4 a):=by
   show _=_;simp only[f6,decide_eq_true H3.out,askC,if_true];rfl
  have HL:Hid (∀k,idxT t x=some k→k<tpn t):=λ k hk=>by
   rw[← may_struct hm H3.out];unfold idxT at hk;rw[List.find?_range_eq_some] at hk;exact List.mem_range.1 hk.2.1
  cases hq:idxT t x with
  | none=>
   rw[hq] at HI;clear hq HL;simp only[idxI];go_wp2_with fail;go_at_call 69;refine (aU HF 4 a).mono ?_;rintro e w6 ⟨rfl,HF⟩;exact⟨rfl,PT0.no HI HF.lose⟩
  | some k=>
   have hk:=HL k hq;rw[hq] at HI;clear hq HL;simp only[idxI];have hk0:(0:Int)≤(k:Int):=by omega
   go_wp2_with fail;go_at_call 69;refine (aL HF 4 a).mono ?_;rintro e w6 ⟨rfl,HF⟩;obtain⟨b,o,cur,te,ff,nm_u,a_u,c_u,pa_u,pc_u,rfl,hc1,hc2,hcur,HF⟩:=HF.part 0 rfl k hk;obtain⟨e0,e1,e2,e3,e4⟩:=bK (HF.knc 1 rfl) hcur;have hk1:(k:Int)<(tpn t:Int):=by omega
   have hpt:=may_part hm hk;clear hcur;have HP:=ah hpt;clear hpt;generalize tpt t k=u at *;have c_t5:=HF.cell 4 rfl;obtain⟨c_res,f_res⟩:=cf HF 3;replace HF:=sT HF 3 (tyk u) nm_u a_u (tnn u) c_u pa_u (tpn u) pc_u (tmy u);go_wp2;refine br (rt83 results106 rfl (HF.blkAt 3 rfl)) ?_;exact PT0.yes HI HP HF.lose
 have hk:(tyk t == 3)=false:=by simpa using h3
 have H3:=ah h3;clear h3;go_wp2_with fail;go_at_call 69;refine (aU HF 3 a).mono ?_;rintro e w1 ⟨rfl,HF⟩;clear c_t5;exact⟨rfl,PT0.no (by simp only[f6,decide_eq_false H3.out,askC,Bool.false_eq_true,if_false]) HF.lose⟩
theorem and_one (m:Int):bits .and .i64 m 1=m % 2:=by
 have h:(BitVec.ofInt 64 m &&& BitVec.ofInt 64 1).toNat=(m % 18446744073709551616).toNat % 2:=by
  rw[BitVec.toNat_and,BitVec.toNat_ofInt,BitVec.toNat_ofInt];exact Nat.and_one_is_mod _
 show IntKind.i64.wrap ((BitVec.ofInt 64 m &&& BitVec.ofInt 64 1).toNat:Int)=_;rw[h];have:(((m % 18446744073709551616).toNat % 2:Nat):Int)=m % 2:=by omega
 rw[this];simp only[IntKind.wrap,IntKind.bits,IntKind.signed];simp;omega
theorem numV_any (h:Fr B w L) (x:Nd) (a:Option Addr) (n c:Nat) (hr:R64 x.num):Calls prog 30 #[.agg #[.int .i64 x.kind,.string x.text,.int .i64 x.num,.slice a n c]] w (PVa B (numN x) L):=by
 have HF:=h;clear h;by_cases hk:x.kind=22
 ·have hq:(x.kind == 22)=true:=by simpa using hk
  rw[show numN x=vL x.num from if_pos hk];clear hk;go_enter func30,ntmps30;replace HF:=aN HF w.heap.size x.kind x.text x.num a n c;replace HF:=ax HF (w.heap.size+1) vz 48;have c_x:=HF.cell 1 rfl;go_wp2_with fail;clear c_x;go_at_call 39;refine (long_any HF x.num hr).mono ?_;rintro e w1 ⟨a_v,c_v,pa_v,pc_v,rfl,r_v,HF⟩;obtain⟨c_r,f_r⟩:=cf HF 1;replace HF:=sV HF 1 (vL x.num).kind (vL x.num).num a_v (vL x.num).names.length c_v pa_v (vL x.num).parts.length pc_v;go_wp2;clear c_r f_r;refine br (rt48 results30 rfl (HF.blkAt 1 rfl)) ?_;exact PVa.got (v:=vL x.num) r_v HF.lose
 have hq:(x.kind == 22)=false:=by simpa using hk
 rw[show numN x=vI (wrap32 x.num) from if_neg hk];clear hk;have hw:=aZ x.num;go_enter func30,ntmps30;replace HF:=aN HF w.heap.size x.kind x.text x.num a n c;replace HF:=ax HF (w.heap.size+1) vz 48;have c_x:=HF.cell 1 rfl;go_wp2_with fail;clear c_x;go_at_call 40;refine (cC HF (wrap32 x.num) hw.1 hw.2).mono ?_;rintro e w1 ⟨a_v,c_v,pa_v,pc_v,rfl,r_v,HF⟩;obtain⟨c_r,f_r⟩:=cf HF 1;replace HF:=sV HF 1 (vI (wrap32 x.num)).kind (vI (wrap32 x.num)).num a_v (vI (wrap32 x.num)).names.length c_v pa_v (vI (wrap32 x.num)).parts.length pc_v;go_wp2;clear c_r f_r;refine br (rt48 results30 rfl (HF.blkAt 1 rfl)) ?_;exact PVa.got (v:=(vI (wrap32 x.num))) r_v HF.lose
theorem negated_any (h:Fr B w L) {v : Va} {a_v pa_v : Option Addr} {c_v pc_v : Nat}:Calls prog 89 #[.agg #[.int .i64 v.kind,.int .i64 v.num,.slice a_v v.names.length c_v,.slice pa_v v.parts.length pc_v]] w (PVa B (negM v) L):=by
 have HF:=h;clear h;by_cases hk:v.kind=2
 ·have hq:(v.kind == 2)=true:=by simpa using hk
  rw[show negM v=vL (wrap64 (-v.num)) from if_pos hk];clear hk;go_enter func89,ntmps89;replace HF:=aV HF w.heap.size v.kind v.num a_v v.names.length c_v pa_v v.parts.length pc_v;replace HF:=ax HF (w.heap.size+1) vz 48;have c_x:=HF.cell 1 rfl;go_wp2_with fail;clear c_x;go_at_call 39;refine (long_any HF (wrap64 (-v.num)) (gB _)).mono ?_;rintro e w1 ⟨a_u,c_u,pa_u,pc_u,rfl,r_u,HF⟩;obtain⟨c_r,f_r⟩:=cf HF 1;replace HF:=sV HF 1 (vL (wrap64 (-v.num))).kind (vL (wrap64 (-v.num))).num a_u (vL (wrap64 (-v.num))).names.length c_u pa_u (vL (wrap64 (-v.num))).parts.length pc_u;go_wp2;clear c_r f_r;refine br (rt48 results89 rfl (HF.blkAt 1 rfl)) ?_;exact PVa.got (v:=(vL (wrap64 (-v.num)))) r_u HF.lose
 have hq:(v.kind == 2)=false:=by simpa using hk
 rw[show negM v=vI (wrap32 (-(wrap32 v.num))) from if_neg hk];clear hk;have hw:=aZ (-(wrap32 v.num));go_enter func89,ntmps89;replace HF:=aV HF w.heap.size v.kind v.num a_v v.names.length c_v pa_v v.parts.length pc_v;replace HF:=ax HF (w.heap.size+1) vz 48;have c_x:=HF.cell 1 rfl;go_wp2_with fail;clear c_x;go_at_call 40;refine (cC HF (wrap32 (-(wrap32 v.num))) hw.1 hw.2).mono ?_;rintro e w1 ⟨a_u,c_u,pa_u,pc_u,rfl,r_u,HF⟩;obtain⟨c_r,f_r⟩:=cf HF 1;replace HF:=sV HF 1 (vI (wrap32 (-(wrap32 v.num)))).kind (vI (wrap32 (-(wrap32 v.num)))).num a_u (vI (wrap32 (-(wrap32 v.num)))).names.length c_u pa_u (vI (wrap32 (-(wrap32 v.num)))).parts.length pc_u;go_wp2;clear c_r f_r;refine br (rt48 results89 rfl (HF.blkAt 1 rfl)) ?_;exact PVa.got (v:=(vI (wrap32 (-(wrap32 v.num))))) r_u HF.lose
theorem split_any (n:Int) (w:World) (hr:R64 n):Calls prog 31 #[.int .i64 n] w λ e w'=>e=.returned (.tuple #[.int .i32 (wrap32 n),.int .i32 (wrap32 (n / 4294967296))])∧w'=w:=by
 obtain⟨h1,h2⟩:=hr;go_enter func31,ntmps31;go_wp2;go_ret2
 exact⟨by rw[show wrap32 (n / 4294967296)=n / 4294967296 by unfold wrap32;omega];rfl,rfl⟩
theorem Fr.i32El (h:Fr B w L) (n:Int) (hr:-2147483648≤n∧n≤2147483647):Fr B w (.el I32E [.int .i32 n] n::L):=h.sure ⟨λ H=>I32E.p H [.int .i32 n] n,λ H H' h hl=>h⟩ λ H=>⟨rfl,hr⟩
theorem info21:(prog.info? 21).map (λ i=>(i.zero,i.size,i.bytes))=some (some (.int .i32 0),1,4):=by kernel_rfl
theorem Fr.vaHere (h:Fr B w L) (i:Nat) {l : List Va} (hi:L[i]?=some (.sl VaE (.slice a n c) 48 4 l)) (j:Nat) (hj:j<l.length):∃g o b d pb pd,a=some ⟨g,o,none⟩∧n=l.length∧n≤c∧c≤maxLen ∧
  w.cell? ⟨g,o+j*4,none⟩=some (.int .i64 l[j].kind)∧w.cell? ⟨g,o+j*4+1,none⟩=some (.int .i64 l[j].num)∧w.cell? ⟨g,o+j*4+2,none⟩=some (.slice b l[j].names.length d)∧w.cell? ⟨g,o+j*4+3,none⟩=some (.slice pb l[j].parts.length pd)∧R64 l[j].num∧Fr B w (.el VaE (vac l[j].kind l[j].num b l[j].names.length d pb l[j].parts.length pd) l[j]::L):=by
 obtain⟨g,o,c',cur,f,cs,e,h2,h3,h4,h5,h6⟩:=h.elem i hi j hj;cases e;obtain⟨b,d,pb,pd,rfl,r1,r2⟩:=h6.vaForm 0 rfl;have hc:=h6.knc 1 rfl;exact⟨g,o,b,d,pb,pd,rfl,rfl,h2,h3,(hc _).trans (h5 0 (by omega)),(hc _).trans (h5 1 (by omega)),(hc _).trans (h5 2 (by omega)),(hc _).trans (h5 3 (by omega)),⟨r1,r2⟩,h6.tail2⟩
theorem wrap_i32 (n:Int):-2147483648≤IntKind.i32.wrap n∧IntKind.i32.wrap n≤2147483647:=by
 simp only[IntKind.wrap,IntKind.bits,IntKind.signed];simp;omega
theorem wrap_i64 (n:Int):R64 (IntKind.i64.wrap n):=by
 unfold R64;simp only[IntKind.wrap,IntKind.bits,IntKind.signed];simp;omega
theorem cW {p : Int→Prop} {c : Prop} [Decidable c] {a b : Int} (ha:p a) (hb:p b):p (if c then a else b):=by
 split
 ·exact ha
 exact hb
def R32 (n:Int):Prop:=-2147483648≤n∧n≤2147483647
theorem tmod_R32 {a b : Int} (h:R32 a):R32 (a.tmod b):=by
 obtain⟨h0,h1⟩:=h;have hm:(a.tmod b).natAbs≤a.natAbs:=by rw[Int.natAbs_tmod];exact Nat.mod_le _ _
 unfold R32;by_cases ha:0≤a
 ·have:=Int.tmod_nonneg b ha;omega
 have:a.tmod b≤0:=by
  have:=Int.tmod_nonneg b (a:=-a) (by omega);rw[Int.neg_tmod] at this;omega
 omega
theorem zero_R32:R32 0:=by unfold R32;omega
theorem one_R32:R32 1:=by unfold R32;omega
theorem opN_range (op a b:Int) (h:R32 a):R32 (opN op a b):=by
 unfold opN;exact cW (aZ _) (cW (aZ _) (cW (aZ _) (cW (aZ _) (cW (cW zero_R32 (aZ _)) (cW (cW zero_R32 (tmod_R32 h)) (cW (wrap_i32 _) (cW (wrap_i32 _) (cW (wrap_i32 _) (cW (cW one_R32 zero_R32) (cW (cW one_R32 zero_R32) (cW (cW one_R32 zero_R32) zero_R32)))))))))))
theorem zero_R64:R64 0:=by unfold R64;omega
theorem one_R64:R64 1:=by unfold R64;omega
theorem wdN_range (op a b:Int):R64 (wdN op a b):=by
 unfold wdN;exact cW (gB _) (cW (gB _) (cW (gB _) (cW (wrap_i64 _) (cW (wrap_i64 _) (cW (wrap_i64 _) (cW (cW one_R64 zero_R64) (cW (cW one_R64 zero_R64) zero_R64)))))))
theorem rt48b {fn : Func} {t u : Tmp} {c0 c1 c2 c3 : Value} {tmps : Array Value} (h:fn.results=#[.cell t 48,.tmp u]) (ht:tmps.getD t undef=.pointer (some ⟨q,0,none⟩)) (hu:tmps.getD u undef=v) (hb:w.heap[q]?=some (.cells #[c0,c1,c2,c3] 48 (0,0))):(results fn tmps).run prog w=.ok (.tuple #[.agg #[c0,c1,c2,c3],v]) w:=by
 have ht':tmps[t]?.getD undef=.pointer (some ⟨q,0,none⟩):=by simpa using ht
 have hu':tmps[u]?.getD undef=v:=by simpa using hu
 have hc:=aA hb;have hl:=(Array.getElem?_eq_some_iff.1 hb).1;simp [results,h,asAddr,ht',hu',loadVar,go_sem,hc,hl]
theorem flat_take (h:j<vs.length):(vs.take (j+1)).flatMap aQ=(vs.take j).flatMap aQ++aQ vs[j]:=by
 rw[List.take_add_one,List.getElem?_eq_getElem h,List.flatMap_append];congr 1
 show [vs[j]].flatMap aQ=_;simp [List.flatMap_cons]
theorem flat_len2 (vs:List Va):(vs.flatMap aQ).length≤2*vs.length:=by
 induction vs with
 | nil=>simp
 | cons v vs ih=>
  rw[List.flatMap_cons,List.length_append,List.length_cons];have:(aQ v).length≤2:=by unfold aQ;split<;>simp
  omega
theorem words_any (h:Fr B w (.sl VaE (.slice a vs.length c) 48 4 vs::L)) (hn:vs.length≤1000):Calls prog 24 #[.slice a vs.length c] w λ e w'=>∃v,e=.returned v∧Fr B w' (.els I32E v 21 1 (vs.flatMap aQ)::L):=by
 go_enter func24,ntmps24;go_wp2;go_loopw [3,6,7,10] (λ nv _ _ iv wr=>Hid (∃j:Nat,j≤vs.length∧iv=.int .i64 (j:Int)∧Fr B wr (.els I32E nv 21 1 ((vs.take j).flatMap aQ)::.sl VaE (.slice a vs.length c) 48 4 vs::L))) (λ_ _ _ iv _=>vs.length - (intOf iv).toNat)
 case atStart=>exact⟨0,Nat.zero_le _,rfl,h.noEls I32E 21 1⟩
 clear h;obtain⟨j,hj,rfl,hf⟩:=hrel.out;clear hrel;obtain⟨na,nc,rfl,-,-⟩:=hf.elsForm 0 rfl;by_cases hlt:j<vs.length
 ·obtain⟨g,o,ga,gc,gpa,gpc,rfl,-,hc1,hc2,e0,e1,e2,e3,hr,hkd⟩:=hf.vaHere 1 rfl j hlt;have HY:Hid ((vs.take (j+1)).flatMap aQ=(vs.take j).flatMap aQ++aQ vs[j]):=flat_take hlt;have hnl:((vs.take j).flatMap aQ).length+2≤16000:=by have:=flat_len2 (vs.take j);rw[List.length_take] at this;omega
  generalize vs[j]=y at *;generalize (vs.take j).flatMap aQ=NS at *;have HF:=hkd;have hli:(j:Int)<(vs.length:Int):=by omega
  have HLT:=ah hlt;have HJ:Hid (wrap64 ((j:Int)+1)=(j:Int)+1):=by
   show _=_;unfold maxLen at hc2;unfold wrap64;omega
  clear hc1 hc2 hf hkd;replace HF:=aV HF wr.heap.size y.kind y.num ga y.names.length gc gpa y.parts.length gpc;have c_b:=HF.cell 0 rfl;go_wp2_with fail;clear c_b;clear e0 e1 e2 e3;go_at_call 31;refine (split_any y.num _ hr).mono ?_;rintro e w11 ⟨rfl,rfl⟩;replace HF:=HF.i32El (wrap32 y.num) (aZ _);by_cases hk:y.kind=2
  ·have hq:(y.kind == 2)=true:=by simpa using hk
   have HW:Hid (aQ y=[wrap32 y.num]++[wrap32 (y.num / 4294967296)]):=by
    show _=_;unfold aQ;rw[if_pos hk];rfl
   clear hk;have c_b:=HF.cell 1 rfl;go_wp2_with (at_builtin;first|(refine Fr.elAppL 23 info21 underlying23 rfl (by decide) (by decide) (HF.alloc (q:=wr.heap.size+1) (by simp) #[.int .i32 (wrap32 y.num)] 21) 3 rfl (by omega) 0 rfl _ _ rfl rfl (by rfl) (by rfl) rfl rfl ?_;intro g12 cap12 w12 hF hgr;(try simp only[List.length_append,List.length_singleton] at hF);replace HF:=ah (hF.i32El (wrap32 (y.num / 4294967296)) (aZ _));clear hF hgr;have c_b:=HF.cell 2 rfl)|(refine Fr.elAppL 23 info21 underlying23 rfl (by decide) (by decide) (HF.alloc (q:=w12.heap.size) (by simp) #[.int .i32 (wrap32 (y.num / 4294967296))] 21) 4 rfl (by rw[List.length_append];simp only[List.length_singleton];omega) 0 rfl _ _ rfl rfl (by rfl) (by rfl) rfl rfl ?_;intro g13 cap13 w13 hF hgr;(try simp only[List.length_append,List.length_singleton] at hF);replace HF:=ah hF;clear hF hgr))
   go_roundw
   case rel=>exact ah ⟨j+1,HLT,rfl,by rw[HY.out,HW.out,← List.append_assoc];exact (HF.lose)⟩
   case measure=>simp only[intOf];omega
  have hq:(y.kind == 2)=false:=by simpa using hk
  have HW:Hid (aQ y=[wrap32 y.num]):=by
   show _=_;unfold aQ;rw[if_neg hk]
  clear hk;have c_b:=HF.cell 1 rfl;go_wp2_with (at_builtin;first|(refine Fr.elAppL 23 info21 underlying23 rfl (by decide) (by decide) (HF.alloc (q:=wr.heap.size+1) (by simp) #[.int .i32 (wrap32 y.num)] 21) 3 rfl (by omega) 0 rfl _ _ rfl rfl (by rfl) (by rfl) rfl rfl ?_;intro g12 cap12 w12 hF hgr;(try simp only[List.length_append,List.length_singleton] at hF);replace HF:=ah hF;clear hF hgr;have c_b:=HF.cell 1 rfl))
  go_roundw
  case rel=>exact ah ⟨j+1,HLT,rfl,by rw[HY.out,HW.out];exact (HF.lose)⟩
  case measure=>simp only[intOf];omega
 have hjn:j=vs.length:=by omega
 have hE:Hid ((vs.take j).flatMap aQ=vs.flatMap aQ):=by
  show _=_;rw[hjn,List.take_length]
 have HF:=hf;clear hf;generalize (vs.take j).flatMap aQ=NS at *;have hli:¬ (vs.length:Int)<(vs.length:Int):=by omega
 subst hjn;go_wp2;go_ret
 rw[← hE.out];exact⟨_,rfl,HF.lose⟩
theorem oper109 (h:Fr B w L) (i j:Nat) {l : T.Ty} {nm_l : ByteArray} {a_l pa_l : Option Addr} {c_l pc_l : Nat} {r : T.Ty} {nm_r : ByteArray} {a_r pa_r : Option Addr} {c_r pc_r : Nat} (hi:L[i]?=some (.el TyE [.int .i64 (tyk l),.string nm_l,.slice a_l (tnn l) c_l,.slice pa_l (tpn l) pc_l,.bool (tmy l)] l)) (hj:L[j]?=some (.el TyE [.int .i64 (tyk r),.string nm_r,.slice a_r (tnn r) c_r,.slice pa_r (tpn r) pc_r,.bool (tmy r)] r)) (op:Int) (a:Nat):Calls prog 109 #[.int .i64 op,.int .i64 a,.agg #[.int .i64 (tyk l),.string nm_l,.slice a_l (tnn l) c_l,.slice pa_l (tpn l) pc_l,.bool (tmy l)],.agg #[.int .i64 (tyk r),.string nm_r,.slice a_r (tnn r) c_r,.slice pa_r (tpn r) pc_r,.bool (tmy r)]] w (PT0 (operC op a l r) B L):=by
 have HF:=(h.dup j hj).dup (i+1) hi;clear h hi hj;go_enter func109,ntmps109;replace HF:=yT HF w.heap.size (tyk l) nm_l a_l (tnn l) c_l pa_l (tpn l) pc_l (tmy l);replace HF:=yT HF (w.heap.size+1) (tyk r) nm_r a_r (tnn r) c_r pa_r (tpn r) pc_r (tmy r);replace HF:=bx HF (w.heap.size+1+1) tyz 83;have c_t6:=HF.cell 3 rfl;go_wp2_with fail;clear c_t6;go_at_call 73;refine (eT HF 0 rfl).mono ?_;rintro e w1 ⟨rfl,HF⟩;cases hq:cA l
 ·have HQ:=ah hq;clear hq;go_wp2_with fail;go_at_call 69;refine (aU HF 3 a).mono ?_;rintro e w2 ⟨rfl,HF⟩;exact⟨rfl,PT0.no (by simp only[operC,HQ.out,Bool.false_and,askC,Bool.false_eq_true,if_false]) HF.lose⟩
 have HQ:=ah hq;clear hq;have c_t6:=HF.cell 3 rfl;have c_t7:=HF.cell 2 rfl;go_wp2_with fail;clear c_t6 c_t7;go_at_call 74;refine (same74 HF 0 4 rfl rfl).mono ?_;rintro e w2 ⟨rfl,HF⟩;cases hq:same l r
 ·have HS:=ah hq;clear hq;go_wp2_with fail;go_at_call 69;refine (aU HF 3 a).mono ?_;rintro e w3 ⟨rfl,HF⟩;exact⟨rfl,PT0.no (by simp only[operC,HQ.out,HS.out,Bool.and_false,askC,Bool.false_eq_true,if_false]) HF.lose⟩
 have HS:=ah hq;clear hq;go_wp2_with fail;go_at_call 69;refine (aL HF 3 a).mono ?_;rintro e w3 ⟨rfl,HF⟩;have hml:may l=true:=by
  have:=HS.out;simp only[same,Bool.and_eq_true] at this;exact this.1.1
 have HE:Hid (operC op a l r=if op=5∨op=6 then askC (decide (tyk l=1)) 3 a (.ok l) else if op=12∨op=10 then .ok tI else .ok l):=by
  show _=_;simp only[operC,HQ.out,HS.out,Bool.and_true,askC,if_true]
 by_cases h:op=5
 ·subst h;simp only[true_or,or_true,if_true,reduceCtorEq,Int.reduceEq,or_false,false_or,if_pos] at HE;have c_t6:=HF.cell 3 rfl;by_cases h1:tyk l=1
  ·have hk:(tyk l == 1)=true:=by simpa using h1
   rw[decide_eq_true h1] at HE;clear h1;go_wp2_with fail;go_at_call 69;refine (aL HF 3 a).mono ?_;rintro e w4 ⟨rfl,HF⟩;clear c_t6;clear hk;have c_t6:=HF.cell 3 rfl;obtain⟨c_res,f_res⟩:=cf HF 1;replace HF:=sT HF 1 (tyk l) nm_l a_l (tnn l) c_l pa_l (tpn l) pc_l (tmy l);go_wp2;refine br (rt83 results109 rfl (HF.blkAt 1 rfl)) ?_;exact PT0.yes HE hml HF.lose
  have hk:(tyk l == 1)=false:=by simpa using h1
  rw[decide_eq_false h1] at HE;clear h1;go_wp2_with fail;go_at_call 69;refine (aU HF 3 a).mono ?_;rintro e w4 ⟨rfl,HF⟩;clear c_t6;exact⟨rfl,PT0.no HE HF.lose⟩
 have n5:=h;clear h;by_cases h:op=6
 ·subst h;simp only[true_or,or_true,if_true,reduceCtorEq,Int.reduceEq,or_false,false_or,if_pos] at HE;have c_t6:=HF.cell 3 rfl;by_cases h1:tyk l=1
  ·have hk:(tyk l == 1)=true:=by simpa using h1
   rw[decide_eq_true h1] at HE;clear h1;go_wp2_with fail;go_at_call 69;refine (aL HF 3 a).mono ?_;rintro e w4 ⟨rfl,HF⟩;clear c_t6;clear hk;have c_t6:=HF.cell 3 rfl;obtain⟨c_res,f_res⟩:=cf HF 1;replace HF:=sT HF 1 (tyk l) nm_l a_l (tnn l) c_l pa_l (tpn l) pc_l (tmy l);go_wp2;refine br (rt83 results109 rfl (HF.blkAt 1 rfl)) ?_;exact PT0.yes HE hml HF.lose
  have hk:(tyk l == 1)=false:=by simpa using h1
  rw[decide_eq_false h1] at HE;clear h1;go_wp2_with fail;go_at_call 69;refine (aU HF 3 a).mono ?_;rintro e w4 ⟨rfl,HF⟩;clear c_t6;exact⟨rfl,PT0.no HE HF.lose⟩
 have n6:=h;clear h;by_cases h:op=12
 ·subst h;simp only[true_or,or_true,if_true,reduceCtorEq,Int.reduceEq,or_false,false_or,if_pos,if_false] at HE;obtain⟨c_res,f_res⟩:=cf HF 1;replace HF:=sT HF 1 1 eB none 0 0 none 0 0 false;go_wp2;refine br (rt83 results109 rfl (HF.blkAt 1 rfl)) ?_;exact PT0.yes (t:=tI) HE may_tI ((HF.tyBare 1 (by omega)).lose (K:=.el TyE (tyc 1 eB none 0 0 none 0 0 false) tI::L))
 have n12:=h;clear h;by_cases h:op=10
 ·subst h;simp only[true_or,or_true,if_true,reduceCtorEq,Int.reduceEq,or_false,false_or,if_pos,if_false] at HE;obtain⟨c_res,f_res⟩:=cf HF 1;replace HF:=sT HF 1 1 eB none 0 0 none 0 0 false;go_wp2;refine br (rt83 results109 rfl (HF.blkAt 1 rfl)) ?_;exact PT0.yes (t:=tI) HE may_tI ((HF.tyBare 1 (by omega)).lose (K:=.el TyE (tyc 1 eB none 0 0 none 0 0 false) tI::L))
 have n10:=h;clear h;rw[if_neg (by omega),if_neg (by omega)] at HE;have q5:(op == 5)=false:=by simpa using n5
 have q6:(op == 6)=false:=by simpa using n6
 have q12:(op == 12)=false:=by simpa using n12
 have q10:(op == 10)=false:=by simpa using n10
 clear n5 n6 n10 n12;have c_t6:=HF.cell 3 rfl;obtain⟨c_res,f_res⟩:=cf HF 1;replace HF:=sT HF 1 (tyk l) nm_l a_l (tnn l) c_l pa_l (tpn l) pc_l (tmy l);go_wp2;refine br (rt83 results109 rfl (HF.blkAt 1 rfl)) ?_;exact PT0.yes HE hml HF.lose
theorem all_no (hj:j<n) (h:f j=false):(List.range n).all f=false:=by
 rw[List.all_eq_false];exact⟨j,List.mem_range.2 hj,by simp [h]⟩
theorem all_yes (h:∀i,i<n→f i=true):(List.range n).all f=true:=by
 rw[List.all_eq_true];exact λ i hi=>h i (List.mem_range.1 hi)
theorem fC {l : List T.Ty} (h:j<l.length):l.getD j .leaf=l[j]:=by rw[List.getD_eq_getElem?_getD,List.getElem?_eq_getElem h];rfl
theorem Fr.slDup {l : List α} (h:Fr B w L) (i:Nat) (hi:L[i]?=some (.sl E v e z l)):Fr B w (.sl E v e z l::L):=
 h.know (K:=[.sl E v e z l]) λ H w hr x hx=>by
  obtain rfl:=List.mem_singleton.1 hx;exact⟨hr _ (List.mem_of_getElem? hi),λ q hq=>hq⟩
theorem made107 (h:Fr B w (.cs b p s::L)) (i:Nat) {vs : List T.Ty} (hi:L[i]?=some (.sl TyE (.slice va vn vc) 83 5 vs)) (x:ByteArray) (hx:x.size≤maxLen) (a:Nat):Calls prog 107 #[ptr b,.string x,.int .i64 a,.slice va vn vc] w (PTz (madeC s.st x a vs) B b p s L):=by
 have HF:=ah (h.slDup (i+1) hi).swap;obtain⟨_,_,e1,hc1,hc2⟩:=h.slForm (i+1) hi;cases e1;have hvl:vs.length≤9223372036854775807:=by unfold maxLen at hc2;omega
 clear h hi hc1 hc2;go_enter func107,ntmps107;replace HF:=bx HF w.heap.size tyz 83;go_wp2_with fail;go_at_call 104;refine (structOf_any HF x hx a).mono ?_;rintro e w1 (⟨c1,p1,h3,rfl,hf⟩|⟨t,v1,nm_t,a_t,c_t,pa_t,pc_t,h3,hm,rfl,hf⟩)
 ·exact⟨rfl,PTz.no (by simp only[madeC,h3,CR.bind]) hf.lose⟩
 have H1:=ah h3;have HM_t:=ah hm;replace HF:=hf;clear h3 hf hm;replace HF:=yT HF w1.heap.size (tyk t) nm_t a_t (tnn t) c_t pa_t (tpn t) pc_t (tmy t);have c_t9:=HF.cell 1 rfl;have HE:Hid (madeC s.st x a vs=askC (decide (vs.length=tpn t)) 6 a (askC ((List.range (tpn t)).all λ i=>same (vs.getD i .leaf) (tpt t i)) 3 a (.ok t))):=by
  show _=_;simp only[madeC,H1.out,CR.bind]
 have hpn:=may_pn HM_t;by_cases hl:vs.length=tpn t
 ·have hb:((vs.length:Int) == (tpn t:Int))=true:=by rw[hl];simp
  rw[decide_eq_true hl] at HE;have HL:=ah hl;clear hl;go_wp2_with fail;go_at_call 69;refine (aL HF 6 a).mono ?_;rintro e w2 ⟨rfl,HF⟩;clear c_t9;clear hb;have c_t9:=HF.cell 1 rfl;go_wp2;clear c_t9;generalize w1.heap.size=q9 at *;generalize w.heap.size=qr at *;go_loopw [27] (λ iv wr=>Hid (∃(j:Nat),j≤tpn t∧iv=.int .i64 (j:Int)∧(∀i,i<j→same (vs.getD i .leaf) (tpt t i)=true)∧Fr B wr (.cs b p s::.blk q9 #[.int .i64 (tyk t),.string nm_t,.slice a_t (tnn t) c_t,.slice pa_t (tpn t) pc_t,.bool (tmy t)] 83::.el TyE [.int .i64 (tyk t),.string nm_t,.slice a_t (tnn t) c_t,.slice pa_t (tpn t) pc_t,.bool (tmy t)] t::.blk qr tyz 83::.sl TyE (.slice va vs.length vc) 83 5 vs::L))) (λ iv _=>tpn t - (intOf iv).toNat)
  case atStart=>exact⟨0,Nat.zero_le _,rfl,λ i hi=>absurd hi (by omega),HF⟩
  clear HF;obtain⟨j,hj,rfl,hall,hf⟩:=hrel.out;clear hrel;have HA:=ah hall;clear hall;by_cases hlt:j<tpn t
  ·have hlv:j<vs.length:=by rw[HL.out];exact hlt
   have c_t9:=hf.cell 1 rfl;obtain⟨g1,o1,cur1,te1,f1,nm_u,a_u,c_u,pa_u,pc_u,hpa,hd1,hd2,hcu,hf2⟩:=hf.part 2 rfl j hlt;obtain⟨g2,o2,cur2,f2,nm_v,a_v,c_v,pa_v,pc_v,hva,-,hd3,hd4,hcv,hf3⟩:=hf2.slTy 6 rfl j hlv;subst hpa hva;have HF:=hf3.perm (List.perm_middle (l₁:=[_,_,_,_]));obtain⟨e0,e1,e2,e3,e4⟩:=bK (HF.knc 4 rfl) hcu;have HV:Hid (vs.getD j .leaf=vs[j]):=fC hlv;have HU:Hid (tpt t j=tpt t j):=rfl;have hli:(j:Int)<(tpn t:Int):=by omega
   have hli2:(j:Int)<(vs.length:Int):=by omega
   have HLT:=ah hlt;clear hcu hf hf2 hf3;generalize vs[j]=v at *;generalize hu:tpt t j=u at *;have HU2:=ah hu;clear hu HU;replace HF:=yT HF wr.heap.size (tyk u) nm_u a_u (tnn u) c_u pa_u (tpn u) pc_u (tmy u);clear c_t9;have c_t9:=HF.cell 6 rfl;go_wp2;clear c_t9;refine regK [] HF (λ w h=>aI (h.cell 1 rfl) (bK (h.knc 3 rfl) hcv)) (λ wd11 HF hC=>?_);clear e0 e1 e2 e3 e4;refine tq4 0 1 2 3 ?_;refine tq2 4 6 ?_;refine rq 5 λ K hK=>?_;go_simp;refine (same74 HF 2 4 rfl rfl).mono ?_;rintro e w12 ⟨rfl,HF⟩;refine uq hK ⟨(HF.cell 1 rfl),(bK (HF.knc 3 rfl) hcv)⟩ λ hC=>?_;try simp only[qq]
   cases hq:same v u
   ·have HQ:=ah hq;clear hq;refine rq 7 λ K hK=>?_;go_simp;refine (aU HF 3 a).mono ?_;rintro e w13 ⟨rfl,hf⟩;exact⟨rfl,PTz.no (by rw[HE.out];simp only[askC,if_true];rw[all_no HLT.out (by rw[HV.out,HU2.out];exact HQ.out)];rfl) hf.lose⟩
   have HQ:=ah hq;clear hq;refine rq 7 λ K hK=>?_;go_simp;refine (aL HF 3 a).mono ?_;rintro e w13 ⟨rfl,HF⟩;refine uq hK ⟨(HF.cell 1 rfl),(bK (HF.knc 3 rfl) hcv)⟩ λ hC=>?_;refine dq ?_;go_wp2;go_roundw
   case rel=>exact⟨j+1,HLT,by go_num,λ i hi=>by
     rcases Nat.lt_succ_iff_lt_or_eq.1 hi with h|rfl
     ·exact HA i h
     rw[HV.out,HU2.out];exact HQ,HF.lose⟩
   case measure=>exact aO HLT
  have hje:j=tpn t:=by omega
  subst hje;have hli:¬ ((tpn t:Nat):Int)<(tpn t:Int):=by omega
  have HF:=hf;clear hf;have c_t9:=HF.cell 1 rfl;obtain⟨c_res,f_res⟩:=cf HF 3;replace HF:=sT HF 3 (tyk t) nm_t a_t (tnn t) c_t pa_t (tpn t) pc_t (tmy t);go_wp2;refine br (rt83 results107 rfl (HF.blkAt 3 rfl)) ?_;exact PTz.yes (by rw[HE.out];simp only[askC,if_true];rw[all_yes HA.out];rfl) HM_t HF.lose
 have hb:((vs.length:Int) == (tpn t:Int))=false:=by simpa using λ e:(vs.length:Int)=(tpn t:Int)=>hl (by omega)
 rw[decide_eq_false hl] at HE;clear hl;go_wp2_with fail;go_at_call 69;refine (aU HF 6 a).mono ?_;rintro e w2 ⟨rfl,HF⟩;clear c_t9;exact⟨rfl,PTz.no HE HF.lose⟩
theorem result108 (h:Fr B w L) (i j:Nat) {t : T.Ty} {ar : List T.Ty} (hi:L[i]?=some (.el TyE [.int .i64 (tyk t),.string nm_t,.slice a_t (tnn t) c_t,.slice pa_t (tpn t) pc_t,.bool (tmy t)] t)) (hj:L[j]?=some (.sl TyE (.slice va vn vc) 83 5 ar)) (hm:may t=true) (hal:ar.length≤16000) (a:Nat):Calls prog 108 #[.int .i64 a,.agg #[.int .i64 (tyk t),.string nm_t,.slice a_t (tnn t) c_t,.slice pa_t (tpn t) pc_t,.bool (tmy t)],.slice va vn vc] w (PT0 (resultC a t ar) B L):=by
 have HF:=(h.slDup j hj).dup (i+1) hi;obtain⟨_,_,e1,hc1,hc2⟩:=h.slForm j hj;cases e1;clear h hi hj hc1 hc2;have HE:Hid (resultC a t ar=askC (decide (tyk t=4)) 3 a (askC (decide (ar.length=tpn t - 1) || (decide (tpn t - 1<ar.length) && tmy t)) 6 a (askC ((List.range ar.length).all λ i=>if i<tpn t - 1 then same (ar.getD i .leaf) (tpt t i) else cA (ar.getD i .leaf)) 3 a (askC (decide (ar.length≤tpn t - 1+6)) 1 a (.ok (tpt t (tpn t - 1))))))):=rfl;go_enter func108,ntmps108;replace HF:=yT HF w.heap.size (tyk t) nm_t a_t (tnn t) c_t pa_t (tpn t) pc_t (tmy t);replace HF:=bx HF (w.heap.size+1) tyz 83;have c_t4:=HF.cell 2 rfl;by_cases h4:tyk t=4
 ·have hk:(tyk t == 4)=true:=by simpa using h4
  rw[decide_eq_true h4] at HE;have hp1:=may_fn hm h4;have hp7:=may_pn hm;clear h4;go_wp2_with fail;go_at_call 69;refine (aL HF 3 a).mono ?_;rintro e w1 ⟨rfl,HF⟩;clear c_t4;clear hk;obtain⟨m,hmp⟩:∃m,tpn t=m+1:=⟨tpn t - 1,by omega⟩
  have hpm:(tpn t:Int) - 1=(m:Int):=by omega
  have HMP:=ah hmp;have hm1:tpn t - 1=m:=by omega
  rw[hm1] at HE;obtain⟨dd,hdd⟩:∃dd:Int,(ar.length:Int) - (m:Int)=dd:=⟨_,rfl⟩
  have hdl:-7≤dd∧dd≤16000:=by omega
  have HDD:=ah hdd;clear hmp hm1;have c_t4:=HF.cell 2 rfl;have hcase:(dd=0∧ar.length=m)∨(0<dd∧m<ar.length∧tmy t=true)∨(0<dd∧m<ar.length∧tmy t=false)∨(dd<0∧ar.length<m):=by
   rcases Int.lt_trichotomy dd 0 with h|h|h
   ·exact Or.inr (Or.inr (Or.inr ⟨h,by omega⟩))
   ·exact Or.inl ⟨h,by omega⟩
   cases hq:tmy t
   ·exact Or.inr (Or.inr (Or.inl ⟨h,by omega,rfl⟩))
   exact Or.inr (Or.inl ⟨h,by omega,rfl⟩)
  have HC:=ah hcase;clear hcase;go_upto_region 4 with fail
  clear c_t4;go_cut [] from 24 to 35 (λ wx=>Hid (((decide (ar.length=m) || (decide (m<ar.length) && tmy t))=true)∧Fr B wx (.el TyE [.int .i64 (tyk t),.string nm_t,.slice a_t (tnn t) c_t,.slice pa_t (tpn t) pc_t,.bool (tmy t)] t::.blk (w.heap.size+1) tyz 83::.blk w.heap.size #[.int .i64 (tyk t),.string nm_t,.slice a_t (tnn t) c_t,.slice pa_t (tpn t) pc_t,.bool (tmy t)] 83::.sl TyE (.slice va ar.length vc) 83 5 ar::L)))
  case first=>
   have c_t4:=HF.cell 2 rfl;rcases HC with⟨h1,h2⟩|⟨h1,h2,h3⟩|⟨h1,h2,h3⟩|⟨h1,h2⟩
   ·subst h1;have HH:=ah h2;clear h2;go_wp2_with fail;go_at_call 69;refine (aL HF 6 a).mono ?_;rintro e w2 ⟨rfl,HF⟩;clear c_t4;go_wp2;go_meet
    case rel=>exact⟨by rw[decide_eq_true HH.out];rfl,HF⟩
   ·have hd0:(dd == 0)=false:=by simpa using (show dd≠0 by omega)
    have HH:=ah h2;have HT:=ah h3;clear h2;rw[h3] at c_t4;clear h3;go_wp2_with fail;go_at_call 69;refine (aL HF 6 a).mono ?_;rintro e w2 ⟨rfl,HF⟩;clear c_t4;go_wp2;go_meet
    case rel=>exact⟨by rw[decide_eq_true HH.out,HT.out];simp,HF⟩
   ·have hd0:(dd == 0)=false:=by simpa using (show dd≠0 by omega)
    have HH:=ah h2;have HT:=ah h3;clear h2;rw[h3] at c_t4;clear h3;go_wp2_with fail;go_at_call 69;refine (aU HF 6 a).mono ?_;rintro e w2 ⟨rfl,HF⟩;clear c_t4;exact⟨rfl,PT0.no (by rw[HE.out,show (decide (ar.length=m) || (decide (m<ar.length) && tmy t))=false from by rw[HT.out,decide_eq_false (by have:=HH.out;omega)];simp];rfl) HF.lose⟩
   have hd0:(dd == 0)=false:=by simpa using (show dd≠0 by omega)
   have hd1:¬ 0<dd:=by omega
   have HH:=ah h2;clear h2;go_wp2_with fail;go_at_call 69;refine (aU HF 6 a).mono ?_;rintro e w2 ⟨rfl,HF⟩;clear c_t4;exact⟨rfl,PT0.no (by rw[HE.out,show (decide (ar.length=m) || (decide (m<ar.length) && tmy t))=false from by rw[decide_eq_false (by have:=HH.out;omega),decide_eq_false (by have:=HH.out;omega)];rfl];rfl) HF.lose⟩
  case rest=>
   clear HF HC;obtain⟨hbb,hF⟩:=hcut.out;clear hcut;rw[hbb] at HE;have HF:=hF;clear hF hbb;go_wp2;go_loopw [38] (λ iv wr=>Hid (∃(j:Nat),j≤ar.length∧iv=.int .i64 (j:Int)∧(∀i,i<j→(if i<m then same (ar.getD i .leaf) (tpt t i) else cA (ar.getD i .leaf))=true)∧Fr B wr (.el TyE [.int .i64 (tyk t),.string nm_t,.slice a_t (tnn t) c_t,.slice pa_t (tpn t) pc_t,.bool (tmy t)] t::.blk (w.heap.size+1) tyz 83::.blk w.heap.size #[.int .i64 (tyk t),.string nm_t,.slice a_t (tnn t) c_t,.slice pa_t (tpn t) pc_t,.bool (tmy t)] 83::.sl TyE (.slice va ar.length vc) 83 5 ar::L))) (λ iv _=>ar.length - (intOf iv).toNat)
   case atStart=>exact⟨0,Nat.zero_le _,rfl,λ i hi=>absurd hi (by omega),HF⟩
   clear HF;obtain⟨j,hj,rfl,hall,hf⟩:=hrel.out;clear hrel;have HA:=ah hall;clear hall;by_cases hlt:j<ar.length
   ·obtain⟨g2,o2,cur2,f2,nm_v,a_v,c_v,pa_v,pc_v,hva,-,hd3,hd4,hcv,hf3⟩:=hf.slTy 3 rfl j hlt;subst hva;have HF:=hf3.perm (List.perm_middle (l₁:=[_,_]));obtain⟨e0,e1,e2,e3,e4⟩:=bK (HF.knc 2 rfl) hcv;have HV:Hid (ar.getD j .leaf=ar[j]):=fC hlt;have hli2:(j:Int)<(ar.length:Int):=by omega
    have HLT:=ah hlt;clear hcv hf hf3;generalize ar[j]=v at *;replace HF:=yT HF wr.heap.size (tyk v) nm_v a_v (tnn v) c_v pa_v (tpn v) pc_v (tmy v);by_cases hjm:j<m
    ·have hjm2:(j:Int)<(m:Int):=by omega
     have hjt:j<tpn t:=by have:=HMP.out;omega
     have hjt2:(j:Int)<(tpn t:Int):=by omega
     have HJM:=ah hjm;have c_t4:=HF.cell 5 rfl;obtain⟨g1,o1,cur1,te1,f1,nm_u,a_u,c_u,pa_u,pc_u,hpa,hd1,hd2,hcu,hf2⟩:=HF.part 0 rfl j hjt;subst hpa;replace HF:=hf2.perm (List.perm_middle (l₁:=[_,_]));clear hf2;generalize hu:tpt t j=u at *;have HU:=ah hu;clear hu;go_wp2;refine regK [] HF (λ w h=>aI (h.cell 3 rfl) (aI (h.cell 7 rfl) (bK (h.knc 2 rfl) hcu))) (λ wd31 HF hC=>?_);clear e0 e1 e2 e3 e4;refine tq4 0 1 2 3 ?_;refine tq3 4 5 7 ?_;refine rq 6 λ K hK=>?_;go_simp;refine (same74 HF 4 1 rfl rfl).mono ?_;rintro e w32 ⟨rfl,HF⟩;refine uq hK ⟨(HF.cell 3 rfl),(HF.cell 7 rfl),(bK (HF.knc 2 rfl) hcu)⟩ λ hC=>?_;try simp only[qq]
     cases hq:same v u
     ·have HQ:=ah hq;clear hq;refine rq 8 λ K hK=>?_;go_simp;refine (aU HF 3 a).mono ?_;rintro e w33 ⟨rfl,hf⟩;exact⟨rfl,PT0.no (by rw[HE.out];simp only[askC,if_true];rw[all_no HLT.out (by rw[if_pos HJM.out,HV.out,HU.out];exact HQ.out)];rfl) hf.lose⟩
     have HQ:=ah hq;clear hq;refine rq 8 λ K hK=>?_;go_simp;refine (aL HF 3 a).mono ?_;rintro e w33 ⟨rfl,HF⟩;refine uq hK ⟨(HF.cell 3 rfl),(HF.cell 7 rfl),(bK (HF.knc 2 rfl) hcu)⟩ λ hC=>?_;refine dq ?_;go_wp2;go_roundw
     case rel=>exact⟨j+1,HLT,by go_num,λ i hi=>by
       rcases Nat.lt_succ_iff_lt_or_eq.1 hi with h|rfl
       ·exact HA i h
       rw[if_pos HJM.out,HV.out,HU.out];exact HQ,HF.lose⟩
     case measure=>exact aO HLT
    have hjm2:¬ (j:Int)<(m:Int):=by omega
    have HJM:=ah hjm;have c_b10:=HF.cell 1 rfl;go_wp2_with fail;clear c_b10;clear e0 e1 e2 e3 e4;go_at_call 73;refine (eT HF 2 rfl).mono ?_;rintro e w31 ⟨rfl,HF⟩;cases hq:cA v
    ·have HQ:=ah hq;clear hq;go_wp2_with fail;go_at_call 69;refine (aU HF 3 a).mono ?_;rintro e w32 ⟨rfl,hf⟩;exact⟨rfl,PT0.no (by rw[HE.out];simp only[askC,if_true];rw[all_no HLT.out (by rw[if_neg HJM.out,HV.out];exact HQ.out)];rfl) hf.lose⟩
    have HQ:=ah hq;clear hq;go_wp2_with fail;go_at_call 69;refine (aL HF 3 a).mono ?_;rintro e w32 ⟨rfl,HF⟩;go_wp2;go_roundw
    case rel=>exact⟨j+1,HLT,by go_num,λ i hi=>by
      rcases Nat.lt_succ_iff_lt_or_eq.1 hi with h|rfl
      ·exact HA i h
      rw[if_neg HJM.out,HV.out];exact HQ,HF.lose⟩
    case measure=>exact aO HLT
   have hje:j=ar.length:=by omega
   subst hje;have hli:¬ ((ar.length:Nat):Int)<(ar.length:Int):=by omega
   have hall:((List.range ar.length).all λ i=>if i<m then same (ar.getD i .leaf) (tpt t i) else cA (ar.getD i .leaf))=true:=all_yes HA;rw[hall] at HE;have HF:=hf;clear hf hall;have HD2:=ah hdl;by_cases hb:ar.length≤m+6
   ·have HB2:=ah hb;have hd6:dd≤6:=by have:=HDD.out;omega
    rw[decide_eq_true hb] at HE;clear hb;go_wp2_with fail;go_at_call 69;refine (aL HF 1 a).mono ?_;rintro e w31 ⟨rfl,HF⟩;clear hd6;have hjt:m<tpn t:=by have:=HMP.out;omega
    have hjt2:(m:Int)<(tpn t:Int):=by omega
    obtain⟨g1,o1,cur1,te1,f1,nm_u,a_u,c_u,pa_u,pc_u,hpa,hd1,hd2,hcu,hf2⟩:=HF.part 0 rfl m hjt;subst hpa;replace HF:=hf2.perm (List.perm_middle (l₁:=[_,_]));obtain⟨e0,e1,e2,e3,e4⟩:=bK (HF.knc 2 rfl) hcu;have HP:=ah (may_part hm hjt);clear hf2 hcu;generalize tpt t m=u at *;have c_t4:=HF.cell 4 rfl;obtain⟨c_res,f_res⟩:=cf HF 3;replace HF:=sT HF 3 (tyk u) nm_u a_u (tnn u) c_u pa_u (tpn u) pc_u (tmy u);go_wp2;refine br (rt83 results108 rfl (HF.blkAt 3 rfl)) ?_;exact PT0.yes HE HP HF.lose
   have hd6:¬ dd≤6:=by have:=HDD.out;omega
   rw[decide_eq_false hb] at HE;clear hb;go_wp2_with fail;go_at_call 69;refine (aU HF 1 a).mono ?_;rintro e w31 ⟨rfl,HF⟩;exact⟨rfl,PT0.no HE HF.lose⟩
 have hk:(tyk t == 4)=false:=by simpa using h4
 rw[decide_eq_false h4] at HE;clear h4;go_wp2_with fail;go_at_call 69;refine (aU HF 3 a).mono ?_;rintro e w1 ⟨rfl,HF⟩;clear c_t4;exact⟨rfl,PT0.no HE HF.lose⟩
theorem Fr.dmLt (h:Fr B w (.cs b p s::L)):p.dm<w.heap.size:=by
 obtain⟨H,h2,-⟩:=h.csOpen.get (i:=4) rfl;exact (Rs.mp zMe VMe p.dm s.n s.de).lt H w h2 _ rfl
theorem Fr.smLt (h:Fr B w (.cs b p s::L)):p.sm<w.heap.size:=by
 obtain⟨H,h2,-⟩:=h.csOpen.get (i:=3) rfl;exact (Rs.mp zTy VTy p.sm s.n s.st).lt H w h2 _ rfl
theorem Fr.slTail {x : α} {l : List α} (h:Fr B w L) (i:Nat) (hi:L[i]?=some (.sl E (.slice a n c) e z (x::l))):Fr B w (.sl E (.slice (if c=1 then a else a.map (λ x=>x.add (1*z))) (n - 1) (c - 1)) e z l::L):=
 h.know (K:=[_]) λ H w hr k hk=>by
  obtain rfl:=List.mem_singleton.1 hk;exact⟨SlP.tail (hr _ (List.mem_of_getElem? hi)),λ q hq=>hq⟩
section
variable (h:Fr B w (.cs b p s::L)) (i:Nat) {kn : Nat} {ts : List T.Ty} (hi:L[i]?=some (.sl TyE (.slice va vn vc) 83 5 ts)) (hm:∀t,t∈ts→may t=true) (tx:ByteArray) (nm:Int) (kids:List Nd) (hx:tx.size≤maxLen)
include h kn hi hm nm kids hx
theorem value_21 (at_:Nat):Calls prog 71 #[ptr b,.agg #[.int .i64 21,.string tx,.int .i64 nm,.slice ka kn kc],.int .i64 at_,.slice va vn vc] w (PTz (bB s (.mk 21 tx nm kids) at_ ts) B b p s L):=by
 have HF:=ah (h.slDup (i+1) hi).swap;obtain⟨_,_,e1,-,-⟩:=h.slForm (i+1) hi;cases e1;clear h hi;go_enter func71,ntmps71;replace HF:=yN HF w.heap.size 21 tx nm ka kn kc;replace HF:=yT HF (w.heap.size+1) 1 eB none 0 0 none 0 0 false;replace HF:=yT HF (w.heap.size+1+1) 1 eB none 0 0 none 0 0 false;replace HF:=yT HF (w.heap.size+1+1+1) 2 eB none 0 0 none 0 0 false;have HE:Hid (bB s (.mk 21 tx nm kids) at_ ts=.ok tI):=rfl;go_wp2;refine br (rt83 results71 rfl (HF.blkAt 3 rfl)) ?_;exact PTz.yes (t:=tI) HE may_tI ((HF.tyBare 1 (by omega)).swap.lose)
theorem value_22 (at_:Nat):Calls prog 71 #[ptr b,.agg #[.int .i64 22,.string tx,.int .i64 nm,.slice ka kn kc],.int .i64 at_,.slice va vn vc] w (PTz (bB s (.mk 22 tx nm kids) at_ ts) B b p s L):=by
 have HF:=ah (h.slDup (i+1) hi).swap;obtain⟨_,_,e1,-,-⟩:=h.slForm (i+1) hi;cases e1;clear h hi;go_enter func71,ntmps71;replace HF:=yN HF w.heap.size 22 tx nm ka kn kc;replace HF:=yT HF (w.heap.size+1) 2 eB none 0 0 none 0 0 false;replace HF:=yT HF (w.heap.size+1+1) 1 eB none 0 0 none 0 0 false;replace HF:=yT HF (w.heap.size+1+1+1) 2 eB none 0 0 none 0 0 false;have HE:Hid (bB s (.mk 22 tx nm kids) at_ ts=.ok tL):=rfl;go_wp2;refine br (rt83 results71 rfl (HF.blkAt 3 rfl)) ?_;exact PTz.yes (t:=tL) HE may_tL ((HF.tyBare 2 (by omega)).swap.lose)
theorem value_23 (at_:Nat):Calls prog 71 #[ptr b,.agg #[.int .i64 23,.string tx,.int .i64 nm,.slice ka kn kc],.int .i64 at_,.slice va vn vc] w (PTz (bB s (.mk 23 tx nm kids) at_ ts) B b p s L):=by
 have HF:=ah (h.slDup (i+1) hi).swap;obtain⟨_,_,e1,-,-⟩:=h.slForm (i+1) hi;cases e1;clear h hi;go_enter func71,ntmps71;replace HF:=yN HF w.heap.size 23 tx nm ka kn kc;replace HF:=bx HF (w.heap.size+1) tyz 83;replace HF:=yT HF (w.heap.size+1+1) 1 eB none 0 0 none 0 0 false;replace HF:=yT HF (w.heap.size+1+1+1) 2 eB none 0 0 none 0 0 false;have HE:Hid (bB s (.mk 23 tx nm kids) at_ ts=fI s tx at_):=rfl;have c_n:=HF.cell 4 rfl;go_wp2_with fail;clear c_n;go_at_call 105;refine (name105 HF tx hx at_).mono ?_;rintro e w1 (⟨c1,p1,h3,rfl,hf⟩|⟨t,v1,nm_t,a_t,c_t,pa_t,pc_t,h3,hmt,rfl,hf⟩)
 ·exact⟨rfl,PTz.no (HE.trans h3) hf.lose⟩
 have H3:=ah (HE.trans h3);replace HF:=hf;clear h3 hf;obtain⟨c_res,f_res⟩:=cf HF 4;replace HF:=sT HF 4 (tyk t) nm_t a_t (tnn t) c_t pa_t (tpn t) pc_t (tmy t);go_wp2;refine br (rt83 results71 rfl (HF.blkAt 4 rfl)) ?_;exact PTz.yes H3 hmt HF.lose
theorem value_24 (hn:1≤ts.length) (at_:Nat):Calls prog 71 #[ptr b,.agg #[.int .i64 24,.string tx,.int .i64 nm,.slice ka kn kc],.int .i64 at_,.slice va vn vc] w (PTz (bB s (.mk 24 tx nm kids) at_ ts) B b p s L):=by
 have HF:=ah (h.slDup (i+1) hi).swap;obtain⟨_,_,e1,-,-⟩:=h.slForm (i+1) hi;cases e1;clear h hi;obtain⟨g1,o1,cur1,f1,nm_u,a_u,c_u,pa_u,pc_u,hva,-,hle,hmx,hcu,hf⟩:=HF.slTy 1 rfl 0 (by omega);subst hva;replace HF:=hf.perm (List.perm_middle (l₁:=[_,_]));have hn0:0<ts.length:=by omega
 have HV:Hid (arg ts 0=ts[0]'(by omega)):=fC _;have hmu:=hm _ (List.getElem_mem (show 0<ts.length by omega));simp only[Nat.zero_mul,Nat.add_zero] at hcu;clear hf;generalize ts[0]'(by omega)=u at *;go_enter func71,ntmps71;replace HF:=yN HF w.heap.size 24 tx nm ka kn kc;replace HF:=bx HF (w.heap.size+1) tyz 83;replace HF:=yT HF (w.heap.size+1+1) 1 eB none 0 0 none 0 0 false;replace HF:=yT HF (w.heap.size+1+1+1) 2 eB none 0 0 none 0 0 false;have HE:Hid (bB s (.mk 24 tx nm kids) at_ ts=f6 tx at_ u):=by show _=_;rw[← HV.out];rfl
 go_wp2;refine regK [7] HF (λ w h=>aI (h.cell 4 rfl) (bK (h.knc 6 rfl) hcu)) (λ wd1 HF hC=>?_);refine tq4 0 1 2 3 ?_;refine tq2 4 5 ?_;refine rq 6 λ K hK=>?_;go_simp;refine (field106 HF 5 rfl hmu tx at_).mono ?_;rintro e w2 (⟨c1,p1,h3,rfl,hf⟩|⟨t,nm_t,a_t,c_t,pa_t,pc_t,h3,hmt,rfl,hf⟩)
 ·exact⟨rfl,PTz.no (HE.trans h3) hf.lose⟩
 have H3:=ah (HE.trans h3);replace HF:=ah hf.swap;clear h3 hf;refine uq hK ⟨(HF.cell 5 rfl),(bK (HF.knc 7 rfl) hcu)⟩ λ hC=>?_;refine rqb 7 λ K hK=>?_;obtain⟨c_res,f_res⟩:=cf HF 4;replace HF:=sT HF 4 (tyk t) nm_t a_t (tnn t) c_t pa_t (tpn t) pc_t (tmy t);go_simp;refine ub hK ?_;refine dq ?_;go_wp2;refine br (rt83 results71 rfl (HF.blkAt 4 rfl)) ?_;exact PTz.yes H3 hmt HF.lose
theorem value_27 (at_:Nat):Calls prog 71 #[ptr b,.agg #[.int .i64 27,.string tx,.int .i64 nm,.slice ka kn kc],.int .i64 at_,.slice va vn vc] w (PTz (bB s (.mk 27 tx nm kids) at_ ts) B b p s L):=by
 have HF:=ah (h.slDup (i+1) hi).swap;obtain⟨_,_,e1,-,-⟩:=h.slForm (i+1) hi;cases e1;clear h hi;go_enter func71,ntmps71;replace HF:=yN HF w.heap.size 27 tx nm ka kn kc;replace HF:=bx HF (w.heap.size+1) tyz 83;replace HF:=yT HF (w.heap.size+1+1) 1 eB none 0 0 none 0 0 false;replace HF:=yT HF (w.heap.size+1+1+1) 2 eB none 0 0 none 0 0 false;have HE:Hid (bB s (.mk 27 tx nm kids) at_ ts=madeC s.st tx at_ ts):=rfl;have c_n:=HF.cell 4 rfl;go_wp2_with fail;clear c_n;go_at_call 107;refine (made107 HF 4 rfl tx hx at_).mono ?_;rintro e w1 (⟨c1,p1,h3,rfl,hf⟩|⟨t,v1,nm_t,a_t,c_t,pa_t,pc_t,h3,hmt,rfl,hf⟩)
 ·exact⟨rfl,PTz.no (HE.trans h3) hf.lose⟩
 have H3:=ah (HE.trans h3);replace HF:=hf;clear h3 hf;obtain⟨c_res,f_res⟩:=cf HF 4;replace HF:=sT HF 4 (tyk t) nm_t a_t (tnn t) c_t pa_t (tpn t) pc_t (tmy t);go_wp2;refine br (rt83 results71 rfl (HF.blkAt 4 rfl)) ?_;exact PTz.yes H3 hmt HF.lose
theorem value_28 (hn:1≤ts.length) (at_:Nat):Calls prog 71 #[ptr b,.agg #[.int .i64 28,.string tx,.int .i64 nm,.slice ka kn kc],.int .i64 at_,.slice va vn vc] w (PTz (bB s (.mk 28 tx nm kids) at_ ts) B b p s L):=by
 have HF:=ah (h.slDup (i+1) hi).swap;obtain⟨_,_,e1,-,-⟩:=h.slForm (i+1) hi;cases e1;clear h hi;obtain⟨g1,o1,cur1,f1,nm_u,a_u,c_u,pa_u,pc_u,hva,-,hle,hmx,hcu,hf⟩:=HF.slTy 1 rfl 0 (by omega);subst hva;replace HF:=hf.perm (List.perm_middle (l₁:=[_,_]));have hn0:0<ts.length:=by omega
 have HV:Hid (arg ts 0=ts[0]'(by omega)):=fC _;have hmu:=hm _ (List.getElem_mem (show 0<ts.length by omega));simp only[Nat.zero_mul,Nat.add_zero] at hcu;clear hf;generalize ts[0]'(by omega)=u at *;go_enter func71,ntmps71;replace HF:=yN HF w.heap.size 28 tx nm ka kn kc;replace HF:=bx HF (w.heap.size+1) tyz 83;replace HF:=yT HF (w.heap.size+1+1) 1 eB none 0 0 none 0 0 false;replace HF:=yT HF (w.heap.size+1+1+1) 2 eB none 0 0 none 0 0 false;have HE:Hid (bB s (.mk 28 tx nm kids) at_ ts=askC (cA u) 3 at_ (.ok u)):=by show _=_;rw[← HV.out];rfl
 obtain⟨e0,e1,e2,e3,e4⟩:=bK (HF.knc 6 rfl) hcu;have c_n:=HF.cell 4 rfl;go_wp2_with fail;clear c_n;clear e0 e1 e2 e3 e4;go_at_call 73;refine (eT HF 5 rfl).mono ?_;rintro e w1 ⟨rfl,HF⟩;cases hq:cA u
 ·rw[hq] at HE;clear hq;go_wp2_with fail;go_at_call 69;refine (aU HF 3 at_).mono ?_;rintro e w2 ⟨rfl,HF⟩;exact⟨rfl,PTz.no HE HF.lose⟩
 rw[hq] at HE;clear hq;go_wp2_with fail;go_at_call 69;refine (aL HF 3 at_).mono ?_;rintro e w2 ⟨rfl,HF⟩;obtain⟨e0,e1,e2,e3,e4⟩:=bK (HF.knc 6 rfl) hcu;obtain⟨c_res,f_res⟩:=cf HF 3;replace HF:=sT HF 3 (tyk u) nm_u a_u (tnn u) c_u pa_u (tpn u) pc_u (tmy u);go_wp2;refine br (rt83 results71 rfl (HF.blkAt 3 rfl)) ?_;exact PTz.yes HE hmu HF.lose
theorem value_29 (hn:1≤ts.length) (at_:Nat):Calls prog 71 #[ptr b,.agg #[.int .i64 29,.string tx,.int .i64 nm,.slice ka kn kc],.int .i64 at_,.slice va vn vc] w (PTz (bB s (.mk 29 tx nm kids) at_ ts) B b p s L):=by
 have HF:=ah (h.slDup (i+1) hi).swap;obtain⟨_,_,e1,-,-⟩:=h.slForm (i+1) hi;cases e1;clear h hi;obtain⟨g1,o1,cur1,f1,nm_u,a_u,c_u,pa_u,pc_u,hva,-,hle,hmx,hcu,hf⟩:=HF.slTy 1 rfl 0 (by omega);subst hva;replace HF:=hf.perm (List.perm_middle (l₁:=[_,_]));have hn0:0<ts.length:=by omega
 have HV:Hid (arg ts 0=ts[0]'(by omega)):=fC _;have hmu:=hm _ (List.getElem_mem (show 0<ts.length by omega));simp only[Nat.zero_mul,Nat.add_zero] at hcu;clear hf;generalize ts[0]'(by omega)=u at *;go_enter func71,ntmps71;replace HF:=yN HF w.heap.size 29 tx nm ka kn kc;replace HF:=bx HF (w.heap.size+1) tyz 83;replace HF:=yT HF (w.heap.size+1+1) 1 eB none 0 0 none 0 0 false;replace HF:=yT HF (w.heap.size+1+1+1) 2 eB none 0 0 none 0 0 false;have HE:Hid (bB s (.mk 29 tx nm kids) at_ ts=askC (decide (tyk u=1)) 3 at_ (.ok tI)):=by show _=_;rw[← HV.out];rfl
 obtain⟨e0,e1,e2,e3,e4⟩:=bK (HF.knc 6 rfl) hcu;by_cases h1:tyk u=1
 ·have hk:(tyk u == 1)=true:=by simpa using h1
  rw[decide_eq_true h1] at HE;clear h1;go_wp2_with fail;clear e0 e1 e2 e3 e4;go_at_call 69;refine (aL HF 3 at_).mono ?_;rintro e w1 ⟨rfl,HF⟩;clear hk;have c_t9:=HF.cell 2 rfl;obtain⟨c_res,f_res⟩:=cf HF 3;replace HF:=sT HF 3 1 eB none 0 0 none 0 0 false;go_wp2;refine br (rt83 results71 rfl (HF.blkAt 3 rfl)) ?_;exact PTz.yes (t:=tI) HE may_tI ((HF.tyBare 1 (by omega)).swap.lose)
 have hk:(tyk u == 1)=false:=by simpa using h1
 rw[decide_eq_false h1] at HE;clear h1;go_wp2_with fail;clear e0 e1 e2 e3 e4;go_at_call 69;refine (aU HF 3 at_).mono ?_;rintro e w1 ⟨rfl,HF⟩;clear hk;exact⟨rfl,PTz.no HE HF.lose⟩
end
end Go.Proofs.YtdnhbedbpbgeeaaGreatDoor.K
