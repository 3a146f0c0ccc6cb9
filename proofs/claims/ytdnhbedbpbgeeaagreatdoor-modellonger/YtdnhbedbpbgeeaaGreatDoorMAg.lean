/- 6 -/
import Derived.Test.YtdnhbedbpbgeeaaGreatDoorMAf
import Derived.Deep.AppendLies
set_option maxRecDepth 100000
set_option maxHeartbeats 4000000
set_option linter.all false
namespace Go.Proofs.YtdnhbedbpbgeeaaGreatDoor.T
open Go.RowKit Go.Proofs.Tryz
variable {e t : TypeId} {xs : List Value} {n d z : Nat} {w W : World} {v : Value}
section
open Go.RowKit Go.Shelf
attribute [local go_sem] Oper.semAt_some
theorem cells_at {b : Nat} {cur : Array Value} (h:W.heap[b]?=some (.cells cur t (0,0))):∀o,W.cell? ⟨b,o,none⟩=cur[o]?:=λ o=>by simp [World.cell?,h]
variable {kind : Int} {name : ByteArray} {nn : Nat} {names : Nat → ByteArray} {pn : Nat} {parts : Nat → Ty} {many : Bool}
theorem fields1_in (n:Nat) (hn:1≤n) (hfew:pn≤7) (sz:Nat→Nat) (ev:Nat→Bool) (hsm:∀i,i<pn→sz i≤12) (hev:Hid (∀i,i<pn→ev i=gA (parts i)))
  (hsize:Hid (∀i,i<pn→∀v w,TyV w (parts i) v→Calls prog 84 #[v] w λ e w'=>e=.returned (.int .i64 (sz i))∧Below w.heap.size w w'))
  (w:World) (na pa:Option Addr) (nc pc:Nat) (pv:Nat→Value) (hpv:Hid (PartsAt w pa pn parts pv)) (l Bn:Nat) (J Jx:List (Fin pn)→World→Prop) (W:World) (hJ:Hid (AbidesFrom W.heap.size J))
  (hY:Hid (∀pre (x:Fin pn) W1,J pre W1→pre.length<pn→YieldAt Fence.wide (n - 1) prog l #[.int .i64 (bR sz ev x),pv x] W1 λ e W'=>(e=.returned (.bool true)∧J (pre++[x]) W'∧Kp w.heap.size W1 W')∨(e=.returned (.bool false)∧Jx (pre++[x]) W')))
  (hB:Hid (Below w.heap.size w W)) (hbox:∀o,W.cell? ⟨Bn,o,none⟩=(#[Value.int .i64 kind,.string name,.slice na nn nc,.slice pa pn pc,.bool many])[o]?) (h0:Hid (J [] W)):
  CallsIn Fence.wide n prog 134 #[.func (.yield l) #[] #[],.pointer (some ⟨Bn,0,none⟩)] W λ e W'=>(∃v,e=.returned v)∧((∃ys,ys=List.finRange pn∧J ys W')∨(∃pre,True∧Jx pre W')):=by
 refine callsIn_of_wp func134 rfl trivial ?_ rfl;simp only[ntmps134,List.size_toArray,List.length_cons,List.length_nil,Nat.reduceAdd,Nat.reduceSub,Array.replicate_succ,Array.replicate_zero,List.push_toArray,List.append_toArray,List.nil_append,List.cons_append];have hpl0:∀i,i≤pn→bR sz ev i≤13*i:=λ i hi=>place_le (λ j hj=>hsm j hj) i hi;gi_wp2
 gi_loopw [3,9] (λ p i wr=>∃k:Nat,k≤pn∧p=.int .i64 (endN sz ev k)∧i=.int .i64 k∧Hid (Below w.heap.size w wr)∧Hid (J (upto pn k) wr)) (λ_ i _=>pn - (intOf i).toNat)
 case atStart=>exact⟨0,Nat.zero_le _,rfl,rfl,hB,h0⟩
 obtain⟨k,hk,rfl,rfl,HB,HJ⟩:=hrel;by_cases hlt:k<pn
 ·have hlt':(k:Int)<pn:=by omega
  have hidx:(0:Int)≤k∧(k:Int)<pn:=by omega
  obtain⟨b,o,kd,nm,xa,xn,xc,ya,yn,yc,my,rfl,hb,hpe,g0,g1,g2,g3,g4,g5⟩:=hpv.out k hlt;have e0:wr.cell? ⟨b,o+k*5,none⟩=some (.int .i64 kd):=(HB.cell (p:=⟨b,o+k*5,none⟩) hb).trans g0;have e1:wr.cell? ⟨b,o+k*5+1,none⟩=some (.string nm):=(HB.cell (p:=⟨b,o+k*5+1,none⟩) hb).trans g1;have e2:wr.cell? ⟨b,o+k*5+2,none⟩=some (.slice xa xn xc):=(HB.cell (p:=⟨b,o+k*5+2,none⟩) hb).trans g2;have e3:wr.cell? ⟨b,o+k*5+3,none⟩=some (.slice ya yn yc):=(HB.cell (p:=⟨b,o+k*5+3,none⟩) hb).trans g3;have e4:wr.cell? ⟨b,o+k*5+4,none⟩=some (.bool my):=(HB.cell (p:=⟨b,o+k*5+4,none⟩) hb).trans g4;rw[hpe] at g5;have hevc:=λ w' (hw:Below w.heap.size w w')=>peven_any (parts k) _ w' (g5.below hw);rw[← hev.out k hlt] at hevc;have hszc:=λ w' (hw:Below w.heap.size w w')=>hsize.out k hlt _ w' (g5.below hw);clear g0 g1 g2 g3 g4;have l1:=hpl0 k hk;have l2:=hsm k hlt;have HPL:=place_end sz ev k;have hle:=(rnd_le (ev k) (endN sz ev k)).1;rw[← HPL] at hle;have hen1:endN sz ev (k+1)=bR sz ev k+sz k:=rfl;have HH:=ah (And.intro HPL hen1);generalize endN sz ev k=en at *;clear HPL hen1;cases hE:ev k with
  | false=>
   rw[hE] at hevc;have HPE:Hid (bR sz ev k=en):=by show _=_;rw[HH.out.1,hE];simp [rnd]
   have hadd:IntKind.i64.wrap ((en:Int)+(sz k:Int))=((endN sz ev (k+1):Nat):Int):=by rw[IntKind.wrap_i64,HH.out.2,HPE.out];have:=HPE.out;omega
   gi_wp2
   refine⟨trivial,?_⟩;refine (callsIn_wide.2 (hevc _ (HB.alloc HB.size _))).mono ?_;rintro e w1 ⟨rfl,hb1⟩;have hbw:Below wr.heap.size wr w1:=((Below.refl _ wr).alloc (Nat.le_refl _) _).trans (hb1.mono (by simp));have HB1:Hid (Below w.heap.size w w1):=HB.trans (hbw.mono HB.size);have HJ1:Hid (J (upto pn k) w1):=hJ.out _ _ _ none HJ (grown_of hbw) (λ r e=>by cases e);have hbk:w1.heap[wr.heap.size]?=some (.cells #[.int .i64 kd,.string nm,.slice xa xn xc,.slice ya yn yc,.bool my] 83 (0,0)):=(hb1.block _ (by simp)).trans (World.alloc_heap_new wr _);have hq:=cells_at hbk;have HBK:=ah hbk;have hyk:=hY.out (upto pn k) ⟨k,hlt⟩ w1 HJ1 (by rw[upto_len hk];exact hlt);dsimp only at hyk;rw[hpe,HPE.out] at hyk;try rw[show ((en+1:Nat):Int)=(en:Int)+1 from rfl] at hyk
   obtain⟨fn,tmps,assign,body,hy,hR⟩:=hyk;have HR:=ah hR;clear hb1 hbw hbk hR;gi_wp2
   refine HR.mono ?_;rintro e w3 (⟨rfl,hJ3,hk3⟩|⟨rfl,hJx3⟩)
   ·have HB3:Hid (Below w.heap.size w w3):=HB1.trans hk3.below;have hq3:=cells_at (hk3.types _ _ HBK ⟨_,rfl⟩);have HJ3:=ah hJ3;clear hq hy hJ3 hk3;gi_wp2
    refine⟨trivial,?_⟩;refine (callsIn_wide.2 (hszc _ HB3)).mono ?_;rintro e w4 ⟨rfl,hb4⟩;have HB4:Hid (Below w.heap.size w w4):=HB3.trans (hb4.mono HB3.size);have HJ4:Hid (J (upto pn (k+1)) w4):=by
     show J _ _;rw[upto_succ hlt];exact hJ.out _ _ _ none HJ3 (grown_of hb4) (λ r e=>by cases e)
    clear hb4 hq3;gi_wp2
    go_roundw
    case rel=>exact⟨k+1,by omega,by go_num,by go_num,HB4,HJ4⟩
    case measure=>simp [intOf];omega
   gi_wp2
   refine br (results_none rfl _ _ _) ?_;exact⟨⟨_,rfl⟩,.inr ⟨_,trivial,hJx3⟩⟩
  | true=>
   rw[hE] at hevc;by_cases od:en % 2=1
   ·have HPE:Hid (bR sz ev k=en+1):=by show _=_;rw[HH.out.1,hE];simp [rnd,od]
    have hrm:(en:Int).tmod 2=1:=by rw[Int.tmod_eq_emod_of_nonneg (by omega)];omega
    have hrm2:(en:Int) % 2=1:=by omega
    have hw1:IntKind.i64.wrap ((en:Int)+1)=((en+1:Nat):Int):=by rw[IntKind.wrap_i64];omega
    have hadd:IntKind.i64.wrap ((en:Int)+1+(sz k:Int))=((endN sz ev (k+1):Nat):Int):=by rw[IntKind.wrap_i64,HH.out.2,HPE.out];have:=HPE.out;omega
    have HOD:=ah od;clear od;gi_wp2
    refine⟨trivial,?_⟩;refine (callsIn_wide.2 (hevc _ (HB.alloc HB.size _))).mono ?_;rintro e w1 ⟨rfl,hb1⟩;have hbw:Below wr.heap.size wr w1:=((Below.refl _ wr).alloc (Nat.le_refl _) _).trans (hb1.mono (by simp));have HB1:Hid (Below w.heap.size w w1):=HB.trans (hbw.mono HB.size);have HJ1:Hid (J (upto pn k) w1):=hJ.out _ _ _ none HJ (grown_of hbw) (λ r e=>by cases e);have hbk:w1.heap[wr.heap.size]?=some (.cells #[.int .i64 kd,.string nm,.slice xa xn xc,.slice ya yn yc,.bool my] 83 (0,0)):=(hb1.block _ (by simp)).trans (World.alloc_heap_new wr _);have hq:=cells_at hbk;have HBK:=ah hbk;have hyk:=hY.out (upto pn k) ⟨k,hlt⟩ w1 HJ1 (by rw[upto_len hk];exact hlt);dsimp only at hyk;rw[hpe,HPE.out] at hyk;try rw[show ((en+1:Nat):Int)=(en:Int)+1 from rfl] at hyk
    obtain⟨fn,tmps,assign,body,hy,hR⟩:=hyk;have HR:=ah hR;clear hb1 hbw hbk hR;gi_wp2
    refine HR.mono ?_;rintro e w3 (⟨rfl,hJ3,hk3⟩|⟨rfl,hJx3⟩)
    ·have HB3:Hid (Below w.heap.size w w3):=HB1.trans hk3.below;have hq3:=cells_at (hk3.types _ _ HBK ⟨_,rfl⟩);have HJ3:=ah hJ3;clear hq hy hJ3 hk3;gi_wp2
     refine⟨trivial,?_⟩;refine (callsIn_wide.2 (hszc _ HB3)).mono ?_;rintro e w4 ⟨rfl,hb4⟩;have HB4:Hid (Below w.heap.size w w4):=HB3.trans (hb4.mono HB3.size);have HJ4:Hid (J (upto pn (k+1)) w4):=by
      show J _ _;rw[upto_succ hlt];exact hJ.out _ _ _ none HJ3 (grown_of hb4) (λ r e=>by cases e)
     clear hb4 hq3;gi_wp2
     go_roundw
     case rel=>exact⟨k+1,by omega,by go_num,by go_num,HB4,HJ4⟩
     case measure=>simp [intOf];omega
    gi_wp2
    refine br (results_none rfl _ _ _) ?_;exact⟨⟨_,rfl⟩,.inr ⟨_,trivial,hJx3⟩⟩
   have HPE:Hid (bR sz ev k=en):=by show _=_;rw[HH.out.1,hE];simp [rnd,od]
   have hrm:(en:Int).tmod 2=0:=by rw[Int.tmod_eq_emod_of_nonneg (by omega)];omega
   have hrm2:(en:Int) % 2=0:=by omega
   have hw1:IntKind.i64.wrap ((en:Int)+0)=(en:Int):=by rw[IntKind.wrap_i64];omega
   have hw2:IntKind.i64.wrap (en:Int)=(en:Int):=by rw[IntKind.wrap_i64];omega
   have hadd:IntKind.i64.wrap ((en:Int)+(sz k:Int))=((endN sz ev (k+1):Nat):Int):=by rw[IntKind.wrap_i64,HH.out.2,HPE.out];have:=HPE.out;omega
   have HOD:=ah od;clear od;gi_wp2
   refine⟨trivial,?_⟩;refine (callsIn_wide.2 (hevc _ (HB.alloc HB.size _))).mono ?_;rintro e w1 ⟨rfl,hb1⟩;have hbw:Below wr.heap.size wr w1:=((Below.refl _ wr).alloc (Nat.le_refl _) _).trans (hb1.mono (by simp));have HB1:Hid (Below w.heap.size w w1):=HB.trans (hbw.mono HB.size);have HJ1:Hid (J (upto pn k) w1):=hJ.out _ _ _ none HJ (grown_of hbw) (λ r e=>by cases e);have hbk:w1.heap[wr.heap.size]?=some (.cells #[.int .i64 kd,.string nm,.slice xa xn xc,.slice ya yn yc,.bool my] 83 (0,0)):=(hb1.block _ (by simp)).trans (World.alloc_heap_new wr _);have hq:=cells_at hbk;have HBK:=ah hbk;have hyk:=hY.out (upto pn k) ⟨k,hlt⟩ w1 HJ1 (by rw[upto_len hk];exact hlt);dsimp only at hyk;rw[hpe,HPE.out] at hyk;try rw[show ((en+1:Nat):Int)=(en:Int)+1 from rfl] at hyk
   obtain⟨fn,tmps,assign,body,hy,hR⟩:=hyk;have HR:=ah hR;clear hb1 hbw hbk hR;gi_wp2
   refine HR.mono ?_;rintro e w3 (⟨rfl,hJ3,hk3⟩|⟨rfl,hJx3⟩)
   ·have HB3:Hid (Below w.heap.size w w3):=HB1.trans hk3.below;have hq3:=cells_at (hk3.types _ _ HBK ⟨_,rfl⟩);have HJ3:=ah hJ3;clear hq hy hJ3 hk3;gi_wp2
    refine⟨trivial,?_⟩;refine (callsIn_wide.2 (hszc _ HB3)).mono ?_;rintro e w4 ⟨rfl,hb4⟩;have HB4:Hid (Below w.heap.size w w4):=HB3.trans (hb4.mono HB3.size);have HJ4:Hid (J (upto pn (k+1)) w4):=by
     show J _ _;rw[upto_succ hlt];exact hJ.out _ _ _ none HJ3 (grown_of hb4) (λ r e=>by cases e)
    clear hb4 hq3;gi_wp2
    go_roundw
    case rel=>exact⟨k+1,by omega,by go_num,by go_num,HB4,HJ4⟩
    case measure=>simp [intOf];omega
   gi_wp2
   refine br (results_none rfl _ _ _) ?_;exact⟨⟨_,rfl⟩,.inr ⟨_,trivial,hJx3⟩⟩
 obtain rfl:k=pn:=by omega
 have hlt':¬ (k:Int)<k:=by omega
 gi_wp2
 go_end0
 exact⟨⟨_,rfl⟩,.inl (by rw[← upto_all];exact HJ)⟩
theorem fields_in (n:Nat) (kind:Int) (name:ByteArray) (na pa:Option Addr) (nn nc pn pc:Nat) (many:Bool) (w:World):
  Calls prog 112 #[.agg #[.int .i64 kind,.string name,.slice na nn nc,.slice pa pn pc,.bool many]] w λ e w'=>e=.returned (.func (.func 134) #[] #[.pointer (some ⟨w.heap.size,0,none⟩)])∧w'=w.alloc (.cells #[.int .i64 kind,.string name,.slice na nn nc,.slice pa pn pc,.bool many] 83):=by
 go_enter func112,ntmps112;go_wp2;go_ret
 exact⟨rfl,rfl⟩
theorem fields_stops (n:Nat) (hn:1≤n) (hfew:pn≤7) (sz:Nat→Nat) (ev:Nat→Bool) (hsm:∀i,i<pn→sz i≤12) (hev:Hid (∀i,i<pn→ev i=gA (parts i)))
  (hsize:Hid (∀i,i<pn→∀v w,TyV w (parts i) v→Calls prog 84 #[v] w λ e w'=>e=.returned (.int .i64 (sz i))∧Below w.heap.size w w'))
  (w:World) (na pa:Option Addr) (nc pc:Nat) (pv:Nat→Value) (hpv:Hid (PartsAt w pa pn parts pv)) (Bn:Nat) (W:World) (hB:Below w.heap.size w W) (hBn:Bn<W.heap.size)
  (hbox:∀o,W.cell? ⟨Bn,o,none⟩=(#[Value.int .i64 kind,.string name,.slice na nn nc,.slice pa pn pc,.bool many])[o]?):
  SeqStopsK Fence.wide n prog 134 #[.pointer (some ⟨Bn,0,none⟩)] (λ x:Fin pn=>#[.int .i64 (bR sz ev x),pv x]) (Kp w.heap.size) (λ ys=>ys=List.finRange pn) (λ_=>True) pn W:=λ l J Jx W' hW hJ _ hY h0=>
 fields1_in n hn hfew sz ev hsm hev hsize w na pa nc pc pv hpv l Bn J Jx W' hJ hY (hB.trans (hW.mono hB.size)) (λ o=>(hW.cell (p:=⟨Bn,o,none⟩) hBn).trans (hbox o)) h0
end
section
open Go.RowKit Go.Shelf
attribute [local go_sem] Oper.semAt_some
def lastEnd {pn:Nat}(sz:Nat→Nat)(ev:Nat→Bool)(pre:List (Fin pn)):Nat:=match pre.getLast? with|none=>0|some x=>bR sz ev x+sz x
theorem lastEnd_snoc {pn : Nat} (sz:Nat→Nat) (ev:Nat→Bool) (pre:List (Fin pn)) (x:Fin pn):lastEnd sz ev (pre++[x])=bR sz ev x+sz x:=by simp [lastEnd]
theorem lastEnd_all (pn:Nat) (sz:Nat→Nat) (ev:Nat→Bool):lastEnd sz ev (List.finRange pn)=endN sz ev pn:=by
 cases pn with
 | zero=>rfl
 | succ m=>
  rw[← upto_all,upto_succ (Nat.lt_succ_self m),lastEnd_snoc];rfl
theorem own_block {β : Type} (b:Nat) (cur:Array Value) (t:TypeId):Own (λ (_:β) W=>W.heap[b]?=some (.cells cur t (0,0))):=λ s X Y row hs hg hrow=>
 (hg.block b (Array.getElem?_eq_some_iff.1 hs).1 (λ e'=>by obtain⟨o,ho,hc⟩:=hrow b e'.symm;rw[hs] at ho;cases ho;cases hc)).trans hs
theorem kp_set {E : Nat} {u : Value} (h:Boxed W E t u) (ht:t≠83) (hn:n≤E) (v:Value):Kp n W (W.setCell ⟨E,0,none⟩ v):=by
 refine⟨(Below.refl n W).setCell (p:=⟨E,0,none⟩) hn _,λ k o hk ho=>(Below.heap_setCell _ _ _ k (λ e=>?_)).trans hk⟩;obtain⟨cur,rfl⟩:=ho;rw[e,show W.heap[E]?=_ from h] at hk;simp at hk;exact ht hk.2
theorem words_any:∀(T:Ty),Few T→∀(v:Value) (w:World),TyV w T v→Calls prog 84 #[v] w λ e w'=>e=.returned (.int .i64 (sizeT T))∧Below w.heap.size w w':=by
 intro T;induction T with
 | leaf=>intro _ v w hv;exact (TyV_leaf hv).elim
 | mk kind name nn names pn parts many ih=>
  intro hF v w hv;have hF':=hF;unfold Few at hF';have HI:Hid (∀i,i<pn→∀v w,TyV w (parts i) v→Calls prog 84 #[v] w λ e w'=>e=.returned (.int .i64 (sizeT (parts i)))∧Below w.heap.size w w'):=λ i hi v w hv=>ih i (hF'.2 i hi).1 v w hv;have hsm:∀i,i<pn→sizeT (parts i)≤12:=λ i hi=>(hF'.2 i hi).2;have hfew:=hF'.1;rw[sizeT_mk];obtain⟨na,nc,pa,pc,rfl,hS,q1,q2,q3,q4,q5,q6,q7,HP⟩:=hv.part;have HT:=ah hv;clear ih hv hS hF hF';have hB0:Below w.heap.size w (w.alloc (.cells #[.int .i64 kind,.string name,.slice na nn nc,.slice pa pn pc,.bool many] 83)):=(Below.refl _ _).alloc (Nat.le_refl _) _;by_cases k2:kind=2
  ·subst k2;rw[if_pos rfl];go_enter func84,ntmps84;go_wp2;go_ret
   exact⟨rfl,hB0⟩
  have k2':(kind == 2)=false:=by simpa using k2
  rw[if_neg k2];by_cases k3:kind=3
  ·rw[if_pos k3];subst k3;obtain⟨pv,hpv⟩:=parts_at HP;have HPV:=ah hpv;obtain⟨sz,hsz⟩:∃sz:Nat→Nat,(λ i=>sizeT (parts i))=sz:=⟨_,rfl⟩
   have HI2:Hid (∀i,i<pn→∀v w,TyV w (parts i) v→Calls prog 84 #[v] w λ e w'=>e=.returned (.int .i64 (sz i))∧Below w.heap.size w w'):=by rw[← hsz];exact HI
   have hsm2:∀i,i<pn→sz i≤12:=by rw[← hsz];exact hsm
   rw[hsz];obtain⟨ev,hev⟩:∃ev:Nat→Bool,evs (.mk 3 name nn names pn parts many) pn parts=ev:=⟨_,rfl⟩
   have HEV:Hid (∀i,i<pn→ev i=gA (parts i)):=λ i hi=>by rw[← hev];unfold evs;rw[if_pos hi]
   have hEVe:ev pn=gA (.mk 3 name nn names pn parts many):=by rw[← hev];unfold evs;rw[if_neg (by omega)]
   rw[hev];clear hpv hsz hev HI hsm HP;refine (callsIn_wide (n:=5)).1 ?_;refine callsIn_of_wp_marks func84 rfl trivial ?_ rfl;simp only[ntmps84,List.size_toArray,List.length_cons,List.length_nil,Nat.reduceAdd,Nat.reduceSub,Array.replicate_succ,Array.replicate_zero,List.push_toArray,List.append_toArray,List.nil_append,List.cons_append];gi_wp2
   refine⟨trivial,?_⟩;refine (callsIn_wide.2 (fields_in 5 _ _ _ _ _ _ _ _ _ _)).mono ?_;rintro e w1 ⟨rfl,rfl⟩;gi_wp2
   -- the loop
   have hB1:Below w.heap.size w (((w.alloc (.cells #[Value.int .i64 3,.string name,.slice na nn nc,.slice pa pn pc,.bool many] 83)).alloc (.cells #[.int .i64 0] 3)).alloc (.cells #[Value.int .i64 3,.string name,.slice na nn nc,.slice pa pn pc,.bool many] 83)):=(hB0.alloc (by simp) _).alloc (by simp;omega) _;have hsz0:(((w.alloc (.cells #[Value.int .i64 3,.string name,.slice na nn nc,.slice pa pn pc,.bool many] 83)).alloc (.cells #[.int .i64 0] 3)).alloc (.cells #[Value.int .i64 3,.string name,.slice na nn nc,.slice pa pn pc,.bool many] 83)).heap.size=w.heap.size+1+1+1:=by simp
   have bT:(((w.alloc (.cells #[Value.int .i64 3,.string name,.slice na nn nc,.slice pa pn pc,.bool many] 83)).alloc (.cells #[.int .i64 0] 3)).alloc (.cells #[Value.int .i64 3,.string name,.slice na nn nc,.slice pa pn pc,.bool many] 83)).heap[w.heap.size]?=some (.cells #[Value.int .i64 3,.string name,.slice na nn nc,.slice pa pn pc,.bool many] 83 (0,0)):=(Below.heap_alloc _ _ _ (by simp;omega)).trans ((Below.heap_alloc _ _ _ (by simp)).trans (World.alloc_heap_new w _));have bE:Boxed (((w.alloc (.cells #[Value.int .i64 3,.string name,.slice na nn nc,.slice pa pn pc,.bool many] 83)).alloc (.cells #[.int .i64 0] 3)).alloc (.cells #[Value.int .i64 3,.string name,.slice na nn nc,.slice pa pn pc,.bool many] 83)) (w.heap.size+1) 3 (.int .i64 0):=by
    have:=(Boxed.new (w.alloc (.cells #[Value.int .i64 3,.string name,.slice na nn nc,.slice pa pn pc,.bool many] 83)) 3 (.int .i64 0)).alloc (.cells #[Value.int .i64 3,.string name,.slice na nn nc,.slice pa pn pc,.bool many] 83);simpa only [World.size_alloc] using this
   have bN:(((w.alloc (.cells #[Value.int .i64 3,.string name,.slice na nn nc,.slice pa pn pc,.bool many] 83)).alloc (.cells #[.int .i64 0] 3)).alloc (.cells #[Value.int .i64 3,.string name,.slice na nn nc,.slice pa pn pc,.bool many] 83)).heap[w.heap.size+1+1]?=some (.cells #[Value.int .i64 3,.string name,.slice na nn nc,.slice pa pn pc,.bool many] 83 (0,0)):=by
    have:=World.alloc_heap_new ((w.alloc (.cells #[Value.int .i64 3,.string name,.slice na nn nc,.slice pa pn pc,.bool many] 83)).alloc (.cells #[.int .i64 0] 3)) (.cells #[Value.int .i64 3,.string name,.slice na nn nc,.slice pa pn pc,.bool many] 83);simpa only [World.size_alloc] using this
   generalize (((w.alloc (.cells #[Value.int .i64 3,.string name,.slice na nn nc,.slice pa pn pc,.bool many] 83)).alloc (.cells #[.int .i64 0] 3)).alloc (.cells #[Value.int .i64 3,.string name,.slice na nn nc,.slice pa pn pc,.bool many] 83))=W0 at *;have hpl0:∀i,i≤pn→bR sz ev i≤13*i:=λ i hi=>place_le (λ j hj=>hsm2 j hj) i hi;clear hB0;refine wpIn_rangeFunc_ownH rfl (by omega) (gf:=134) (lb:=#[.pointer (some ⟨w.heap.size+1+1,0,none⟩)]) rfl trivial (enters_of func134 (by kernel_rfl) rfl)
    (fields_stops 4 (by omega) hfew sz ev hsm2 HEV HI2 w na pa nc pc pv HPV (w.heap.size+1+1) W0 hB1 (by omega) (cells_at bN)) Kp.trans (kp_put (by omega)) (Below.refl _ _) (λ_=>rfl)
    (λ pre W=>(Boxed W (w.heap.size+1) 3 (.int .i64 (lastEnd sz ev pre))∧W.heap[w.heap.size]?=some (.cells #[Value.int .i64 3,.string name,.slice na nn nc,.slice pa pn pc,.bool many] 83 (0,0)))∧Below w.heap.size w W)
    (λ_ _ _=>False)
    (OwnFrom.and (OwnFrom.and (Own.from (boxed_own _ _ _) _) (Own.from (own_block _ _ _) _)) (ownFrom_below (Nat.le_refl _) (by omega)))
    (λ_ _ _ _ _ hs _ _=>hs)
    ⟨⟨bE,bT⟩,hB1⟩
    (λ x a' W=>∃Bx kd nm xa xn xc ya yn yc my,pv x=.agg #[Value.int .i64 kd,.string nm,.slice xa xn xc,.slice ya yn yc,.bool my]∧w.heap.size+1<Bx∧W.heap[Bx]?=some (.cells #[Value.int .i64 kd,.string nm,.slice xa xn xc,.slice ya yn yc,.bool my] 83 (0,0))∧a'={ tmps:=#[.agg #[.int .i64 3,.string name,.slice na nn nc,.slice pa pn pc,.bool many],.pointer (some ⟨w.heap.size,0,none⟩),.int .i64 0,.pointer (some ⟨w.heap.size+1,0,none⟩),.int .i64 (bR sz ev x),.pointer (some ⟨Bx,0,none⟩),.pointer (some ⟨w.heap.size,0,none⟩),.int .i64 3,.bool false,.bool false,.bool true,.bool true,.agg #[.int .i64 3,.string name,.slice na nn nc,.slice pa pn pc,.bool many],.func (.func 134) #[] #[.pointer (some ⟨w.heap.size+1+1,0,none⟩)],.int .i64 (bR sz ev x),.agg #[Value.int .i64 kd,.string nm,.slice xa xn xc,.slice ya yn yc,.bool my],undef,undef,undef,undef,undef,undef,undef,undef,undef,undef,undef],defers:=[] })
    (λ x a' _ X Y row hs hg hr=>by obtain⟨Bx,kd,nm,xa,xn,xc,ya,yn,yc,my,h1,h2,h3,h4⟩:=hs;exact⟨Bx,kd,nm,xa,xn,xc,ya,yn,yc,my,h1,h2,own_block Bx #[Value.int .i64 kd,.string nm,.slice xa xn xc,.slice ya yn yc,.bool my] 83 () X Y row h3 hg (λ r e=>(hr r e).2),h4⟩)
    ?assign ?body ?done ?stop
   case assign=>
    rintro l pre x W K ⟨⟨bE1,bT1⟩,hB2⟩ hK;obtain⟨b,o,kd,nm,xa,xn,xc,ya,yn,yc,my,hpa,hb,hpe,-⟩:=HPV x x.2;rw[hpe];clear hpa hb;have HKK:=ah hK;clear hK;gi_wp2
    exact HKK _ _ ((KeepsOthers.alloc _ _).from _) (Kp.of ((Below.refl _ W).alloc (Nat.le_refl _) _) hB2.size) ⟨⟨bE1.alloc _,(Below.heap_alloc _ _ _ (Array.getElem?_eq_some_iff.1 bT1).1).trans bT1⟩,hB2.alloc hB2.size _⟩ ⟨W.heap.size,kd,nm,xa,xn,xc,ya,yn,yc,my,hpe,bE1.lt,World.alloc_heap_new W _,rfl⟩
   case body=>
    rintro l pre x a' W hl ⟨r,hr⟩ ⟨⟨bE1,bT1⟩,hB2⟩ ⟨Bx,kd,nm,xa,xn,xc,ya,yn,yc,my,hpe,hBx,bX,rfl⟩ hlt;have cX:=cells_at bX;obtain⟨b,o,_,_,_,_,_,_,_,_,_,hpa,hb,_,_,_,_,_,_,g5⟩:=HPV x x.2;rw[hpe] at g5;have hcal:=HI2 x x.2 _ W (g5.below hB2);have HE1:=ah bE1;have HT1:=ah bT1;have HB2:=ah hB2;have hsx:=hsm2 x x.2;have hpx:=hpl0 x (Nat.le_of_lt x.2);have hadd:IntKind.i64.wrap ((bR sz ev x:Int)+(sz x:Int))=((lastEnd sz ev (pre++[x]):Nat):Int):=by
     rw[IntKind.wrap_i64,lastEnd_snoc];have:=x.2;omega
    clear bE1 bT1 hB2 hr hpa bX;gi_wp2
    refine⟨trivial,?_⟩;refine (CallsIn.inRound l (callsIn_wide.2 hcal)).mono ?_;rintro e w1 ⟨rfl,hb1⟩;have bE2:=Boxed.below HE1 hb1;have HB3:Hid (Below w.heap.size w w1):=HB2.trans (hb1.mono HB2.size);have cE:=bE2.cell;have fE:=bE2.frozen;have HE2:=ah bE2;have HT2:Hid (w1.heap[w.heap.size]?=some (.cells #[Value.int .i64 3,.string name,.slice na nn nc,.slice pa pn pc,.bool many] 83 (0,0))):=(hb1.block _ (Array.getElem?_eq_some_iff.1 HT1).1).trans HT1;have Hb1:=ah hb1;clear bE2 hb1 hcal cX;gi_wp2
    exact⟨(keeps_of Hb1).trans ((KeepsOthers.setCell _ _ _).from _),(Kp.of Hb1 HB2.size).trans (kp_set HE2 (by decide) (by omega) _),⟨⟨HE2.set _,(Below.heap_setCell _ _ _ _ (by simp)).trans HT2⟩,HB3.setCell (p:=⟨w.heap.size+1,0,none⟩) (by simp) _⟩⟩
   case done=>
    rintro D ys W hD rfl ⟨⟨bE1,bT1⟩,hB2⟩ hK;rw[lastEnd_all] at bE1;have hpe:=place_end sz ev pn;have hle:=(rnd_le (ev pn) (endN sz ev pn)).1;rw[← hpe] at hle;have l1:=hpl0 pn (Nat.le_refl _);have hevc:=peven_any _ _ W (HT.below hB2);rw[← hEVe] at hevc;have cT:=cells_at bT1;have HE1:=ah bE1;have HT1:=ah bT1;have HB2:=ah hB2;have HK:=ah hK;generalize endN sz ev pn=en at *;clear bE1 bT1 hB2 hK;cases hE:ev pn with
    | false=>
     have HPE:Hid (bR sz ev pn=en):=by show _=_;rw[hpe,hE];simp [rnd]
     rw[hE] at hevc;clear hpe;gi_wp2
     refine⟨trivial,?_⟩;refine (callsIn_wide.2 hevc).mono ?_;rintro e w2 ⟨rfl,hb2⟩;have bE2:=Boxed.below HE1 hb2;have cE:=bE2.cell;have fE:=bE2.frozen;have HK2:Hid (w2.heap[D]?=some (.deferred (some []))):=(hb2.block D (Array.getElem?_eq_some_iff.1 HK).1).trans HK;have HB3:Hid (Below w.heap.size w w2):=HB2.trans (hb2.mono HB2.size);have HE2:=ah bE2;clear bE2 hb2 hevc cT;gi_wp2
     refine⟨by simp,.inl ⟨_,_,rfl,run_takeDeferred HK2,?_⟩⟩;exact⟨_,results_tmp rfl _ _ _,by rw[HPE.out];rfl,HB3.trans (belowK_b (w:=w) (Nat.le_refl _) w2 D _ _ (by omega) HK2 rfl rfl)⟩
    | true=>
     rw[hE] at hevc;by_cases od:en % 2=1
     ·have HPE:Hid (bR sz ev pn=en+1):=by show _=_;rw[hpe,hE];simp [rnd,od]
      have hrm:(en:Int).tmod 2=1:=by rw[Int.tmod_eq_emod_of_nonneg (by omega)];omega
      have hrm2:(en:Int) % 2=1:=by omega
      have hw1:IntKind.i64.wrap ((en:Int)+1)=((en+1:Nat):Int):=by rw[IntKind.wrap_i64];omega
      have HOD:=ah od;clear od hpe;gi_wp2
      refine⟨trivial,?_⟩;refine (callsIn_wide.2 hevc).mono ?_;rintro e w2 ⟨rfl,hb2⟩;have bE2:=Boxed.below HE1 hb2;have cE:=bE2.cell;have fE:=bE2.frozen;have HK2:Hid (w2.heap[D]?=some (.deferred (some []))):=(hb2.block D (Array.getElem?_eq_some_iff.1 HK).1).trans HK;have HB3:Hid (Below w.heap.size w w2):=HB2.trans (hb2.mono HB2.size);have HE2:=ah bE2;clear bE2 hb2 hevc cT;gi_wp2
      have cS:(w2.setCell ⟨w.heap.size+1,0,none⟩ (.int .i64 ((en:Int)+1))).cell? ⟨w.heap.size+1,0,none⟩=some (.int .i64 ((en:Int)+1)):=(HE2.set _).cell;have HK3:Hid ((w2.setCell ⟨w.heap.size+1,0,none⟩ (.int .i64 ((en:Int)+1))).heap[D]?=some (.deferred (some []))):=(KeepsOthers.setCell _ _ _).same D _ HK2 rfl;have HB4:Hid (Below w.heap.size w (w2.setCell ⟨w.heap.size+1,0,none⟩ (.int .i64 ((en:Int)+1)))):=HB3.setCell (p:=⟨w.heap.size+1,0,none⟩) (by simp) _;gi_wp2
      refine⟨by simp,.inl ⟨_,_,rfl,run_takeDeferred HK3,?_⟩⟩;exact⟨_,results_tmp rfl _ _ _,by rw[HPE.out];rfl,HB4.trans (belowK_b (w:=w) (Nat.le_refl _) _ D _ _ (by omega) HK3 rfl rfl)⟩
     have HPE:Hid (bR sz ev pn=en):=by show _=_;rw[hpe,hE];simp [rnd,od]
     have hrm:(en:Int).tmod 2=0:=by rw[Int.tmod_eq_emod_of_nonneg (by omega)];omega
     have hrm2:(en:Int) % 2=0:=by omega
     have hw1:IntKind.i64.wrap ((en:Int)+0)=(en:Int):=by rw[IntKind.wrap_i64];omega
     have hw2:IntKind.i64.wrap (en:Int)=(en:Int):=by rw[IntKind.wrap_i64];omega
     have HOD:=ah od;clear od hpe;gi_wp2
     refine⟨trivial,?_⟩;refine (callsIn_wide.2 hevc).mono ?_;rintro e w2 ⟨rfl,hb2⟩;have bE2:=Boxed.below HE1 hb2;have cE:=bE2.cell;have fE:=bE2.frozen;have HK2:Hid (w2.heap[D]?=some (.deferred (some []))):=(hb2.block D (Array.getElem?_eq_some_iff.1 HK).1).trans HK;have HB3:Hid (Below w.heap.size w w2):=HB2.trans (hb2.mono HB2.size);have HE2:=ah bE2;clear bE2 hb2 hevc cT;gi_wp2
     have cS:(w2.setCell ⟨w.heap.size+1,0,none⟩ (.int .i64 en)).cell? ⟨w.heap.size+1,0,none⟩=some (.int .i64 en):=(HE2.set _).cell;have HK3:Hid ((w2.setCell ⟨w.heap.size+1,0,none⟩ (.int .i64 en)).heap[D]?=some (.deferred (some []))):=(KeepsOthers.setCell _ _ _).same D _ HK2 rfl;have HB4:Hid (Below w.heap.size w (w2.setCell ⟨w.heap.size+1,0,none⟩ (.int .i64 en))):=HB3.setCell (p:=⟨w.heap.size+1,0,none⟩) (by simp) _;gi_wp2
     refine⟨by simp,.inl ⟨_,_,rfl,run_takeDeferred HK3,?_⟩⟩;exact⟨_,results_tmp rfl _ _ _,by rw[HPE.out];rfl,HB4.trans (belowK_b (w:=w) (Nat.le_refl _) _ D _ _ (by omega) HK3 rfl rfl)⟩
   case stop=>
    rintro D c pre W _ _ h _;exact h.elim
  have k3':(kind == 3)=false:=by simpa using k3
  rw[if_neg k3];go_enter func84,ntmps84;go_wp2;go_ret
  exact⟨rfl,hB0⟩
end
section
variable {kind : Int} {name : ByteArray} {nn : Nat} {names : Nat → ByteArray} {pn : Nat} {parts : Nat → Ty} {many : Bool}
theorem partsMay_any (d:Nat) (hd:d≤1000) (ih:Hid (∀T v w,TyV w T v→Calls prog 54 #[v,.int .i64 d] w λ e w'=>e=.returned (.bool (mayN d T))∧Below w.heap.size w w')) (lo hi:Nat) (hlo:lo≤9223372036854775807) (hhi:hi≤9223372036854775807)
  (bt bd:Nat) (w:World) (na pa:Option Addr) (nc pc:Nat) (hv:TyV w (.mk kind name nn names pn parts many) (.agg #[.int .i64 kind,.string name,.slice na nn nc,.slice pa pn pc,.bool many]))
  (hbt:bt<w.heap.size) (hbd:bd<w.heap.size) (hct:∀o,w.cell? ⟨bt,o,none⟩=(#[Value.int .i64 kind,.string name,.slice na nn nc,.slice pa pn pc,.bool many])[o]?) (hcd:w.cell? ⟨bd,0,none⟩=some (.int .i64 ((d:Int)+1))):
  Calls prog 81 #[.int .i64 lo,.int .i64 hi,.pointer (some ⟨bt,0,none⟩),.pointer (some ⟨bd,0,none⟩)] w λ e w'=>e=.returned (.bool (decide (lo≤pn) && decide (pn≤hi) && (List.range pn).all λ i=>mayN d (parts i)))∧Below w.heap.size w w':=by
 have q2:pn≤9223372036854775807:=by obtain⟨_,_,_,_,_,_,_,q2,_⟩:=hv.part;exact q2
 obtain⟨na',nc',pa',pc',e,_,_,_,_,_,_,_,_,HP⟩:=hv.part;cases e;have HT:=ah hv;clear hv;have HXc:Hid (∀w',Below w.heap.size w w'→(∀o,w'.cell? ⟨bt,o,none⟩=(#[Value.int .i64 kind,.string name,.slice na nn nc,.slice pa pn pc,.bool many])[o]?)∧w'.cell? ⟨bd,0,none⟩=some (.int .i64 ((d:Int)+1))):=λ w' hw=>⟨λ o=>(hw.cell (p:=⟨bt,o,none⟩) hbt).trans (hct o),(hw.cell (p:=⟨bd,0,none⟩) hbd).trans hcd⟩
 by_cases a1:pn<lo
 ·rw[decide_eq_false (show ¬ lo≤pn by omega)];have d1:(pn:Int)<lo:=by omega
  go_enter func81,ntmps81;go_wp2;go_ret
  exact⟨rfl,Below.refl _ _⟩
 have d1:¬ (pn:Int)<lo:=by omega
 by_cases a2:hi<pn
 ·rw[decide_eq_false (show ¬ pn≤hi by omega),Bool.and_false,Bool.false_and];have d2:(hi:Int)<pn:=by omega
  go_enter func81,ntmps81;go_wp2;go_ret
  exact⟨rfl,Below.refl _ _⟩
 have d2:¬ (hi:Int)<pn:=by omega
 rw[decide_eq_true (show lo≤pn by omega),decide_eq_true (show pn≤hi by omega),Bool.and_self,Bool.true_and];have hdw:IntKind.i64.wrap ((d:Int)+1 - 1)=(d:Int):=by rw[IntKind.wrap_i64];omega
 go_enter func81,ntmps81;go_wp2;clear hct hcd;go_loopw [24] (λ i wr=>∃k:Nat,k≤pn∧i=.int .i64 k∧Hid (Below w.heap.size w wr)∧Hid (∀j,j<k→mayN d (parts j)=true)) (λ i _=>pn - (intOf i).toNat)
 case atStart=>exact⟨0,Nat.zero_le _,rfl,Below.refl _ _,λ j hj=>by omega⟩
 obtain⟨k,hk,rfl,HB,HK⟩:=hrel;by_cases hlt:k<pn
 ·have hlt':(k:Int)<pn:=by omega
  have hidx:(0:Int)≤k∧(k:Int)<pn:=by omega
  obtain⟨b,o,rfl,hb,hc⟩:=HP (by omega);obtain⟨c0,c1,c2,c3,c4,g0,g1,g2,g3,g4,g5⟩:=hc k hlt;obtain⟨kd,nm,xa,xn,xc,ya,yn,yc,my,rfl,rfl,rfl,rfl,rfl⟩:=g5.shape;have hcal:=λ w' hw=>ih.out _ _ w' (g5.below hw);have e0:wr.cell? ⟨b,o+k*5,none⟩=some (.int .i64 kd):=(HB.cell (p:=⟨b,o+k*5,none⟩) hb).trans g0;have e1:wr.cell? ⟨b,o+k*5+1,none⟩=some (.string nm):=(HB.cell (p:=⟨b,o+k*5+1,none⟩) hb).trans g1;have e2:wr.cell? ⟨b,o+k*5+2,none⟩=some (.slice xa xn xc):=(HB.cell (p:=⟨b,o+k*5+2,none⟩) hb).trans g2;have e3:wr.cell? ⟨b,o+k*5+3,none⟩=some (.slice ya yn yc):=(HB.cell (p:=⟨b,o+k*5+3,none⟩) hb).trans g3;have e4:wr.cell? ⟨b,o+k*5+4,none⟩=some (.bool my):=(HB.cell (p:=⟨b,o+k*5+4,none⟩) hb).trans g4;clear g0 g1 g2 g3 g4 g5 hc;have hcd:(wr.alloc (.cells #[.int .i64 kd,.string nm,.slice xa xn xc,.slice ya yn yc,.bool my] 83)).cell? ⟨bd,0,none⟩=some (.int .i64 ((d:Int)+1)):=(HXc _ (HB.alloc HB.size _)).2;cases hE:mayN d (parts k) with
  | false=>
   rw[hE] at hcal;go_wp2_with fail;go_at_call 54;refine (hcal _ (HB.alloc HB.size _)).mono ?_;rintro e w1 ⟨rfl,hb1⟩;have HB1:Hid (Below w.heap.size w w1):=(HB.alloc HB.size _).trans (hb1.mono (HB.alloc HB.size _).size);clear hb1;go_wp2;go_ret
   exact⟨by rw[all_at hlt hE];rfl,HB1⟩
  | true=>
   rw[hE] at hcal;have HK1:Hid (∀j,j<k+1→mayN d (parts j)=true):=λ j hj=>by
    by_cases e:j=k
    ·subst e;exact hE
    exact HK j (by omega)
   go_wp2_with fail;go_at_call 54;refine (hcal _ (HB.alloc HB.size _)).mono ?_;rintro e w1 ⟨rfl,hb1⟩;have HB1:Hid (Below w.heap.size w w1):=(HB.alloc HB.size _).trans (hb1.mono (HB.alloc HB.size _).size);clear hb1;go_wp2;go_roundw
   case rel=>exact⟨k+1,by omega,by go_num,HB1,HK1⟩
   case measure=>simp [intOf];omega
 obtain rfl:k=pn:=by omega
 have hlt':¬ (k:Int)<k:=by omega
 go_wp2;go_ret
 exact⟨by rw[all_upto HK.out];rfl,HB⟩
end
section
theorem pmay_zero (T:Ty) (v:Value) (w:World) (hv:TyV w T v):Calls prog 54 #[v,.int .i64 0] w λ e w'=>e=.returned (.bool (mayN 0 T))∧Below w.heap.size w w':=by
 rcases T with _|⟨kind,name,nn,names,pn,parts,many⟩
 ·exact (TyV_leaf hv).elim
 obtain⟨na,nc,pa,pc,rfl,hS,q1,q2,q3,q4,q5,q6,q7,HP⟩:=hv.part;have hB0:Below w.heap.size w (w.alloc (.cells #[.int .i64 kind,.string name,.slice na nn nc,.slice pa pn pc,.bool many] 83)):=(Below.refl _ _).alloc (Nat.le_refl _) _;clear hv hS;go_enter func54,ntmps54;go_wp2;go_ret
 exact⟨rfl,hB0.alloc (by simp) _⟩
variable {kind : Int} {name : ByteArray} {nn : Nat} {names : Nat → ByteArray} {pn : Nat} {parts : Nat → Ty} {many : Bool}
theorem parts_zero (d:Nat) (b:Bool):(decide (pn≤7) && decide (0≤6) && ((List.range pn).all λ i=>mayN d (parts i)) && (true && decide (0=0) && (decide (pn=0) && b)))=(b && (decide (0≤pn) && decide (pn≤0) && (List.range pn).all λ i=>mayN d (parts i))):=by
 by_cases h:pn=0
 ·subst h;cases b<;>simp
 rw[decide_eq_false h,decide_eq_false (show ¬ pn≤0 by omega)];cases b<;>simp
theorem parts_fn (d:Nat):(decide (pn≤7) && decide (0≤6) && ((List.range pn).all λ i=>mayN d (parts i)) && (true && decide (0=0) && decide (1≤pn)))=(decide (1≤pn) && decide (pn≤7) && (List.range pn).all λ i=>mayN d (parts i)):=by
 cases decide (1≤pn)<;>cases decide (pn≤7)<;>cases ((List.range pn).all λ i=>mayN d (parts i))<;>rfl
theorem pmay_step (d:Nat) (hd:d≤1000) (ih:Hid (∀T v w,TyV w T v→Calls prog 54 #[v,.int .i64 d] w λ e w'=>e=.returned (.bool (mayN d T))∧Below w.heap.size w w')) (v:Value) (w:World)
  (hv:TyV w (.mk kind name nn names pn parts many) v) (r:Bool) (HM:Hid (r=mayN (d+1) (.mk kind name nn names pn parts many))):Calls prog 54 #[v,.int .i64 ((d:Int)+1)] w λ e w'=>e=.returned (.bool r)∧Below w.heap.size w w':=by
 have HMs:Hid (r=(decide (pn≤7) && decide (nn≤6) && ((List.range pn).all λ i=>mayN d (parts i)) &&
  (if kind=3 then !many && nameB (bytes name) && decide (1≤pn) && decide (pn≤6) && decide (nn=pn) && ((List.range pn).all λ i=>dY names i) && decide (sizeT (.mk kind name nn names pn parts many)≤12)
   else decide (name.size=0) && decide (nn=0) && (if kind=4 then decide (1≤pn) else (decide (kind=1) || decide (kind=2)) && decide (pn=0) && !many)))):=by
  show _=_;rw[HM.out,mayN_succ]
 obtain⟨na,nc,pa,pc,rfl,hS,q1,q2,q3,q4,q5,q6,q7,HP⟩:=hv.part;have HT:=ah hv;have HS:=ah hS;clear hv hS;have hd1:¬ ((d:Int)+1)<1:=by omega
 have hd2:(0:Int)<(d:Int)+1:=by omega
 have hml:maxLen=9223372036854775807:=rfl;have hB0:Below w.heap.size w ((w.alloc (.cells #[Value.int .i64 kind,.string name,.slice na nn nc,.slice pa pn pc,.bool many] 83)).alloc (.cells #[.int .i64 ((d:Int)+1)] 3)):=((Below.refl _ _).alloc (Nat.le_refl _) _).alloc (by simp) _;have hx0:∀o,((w.alloc (.cells #[Value.int .i64 kind,.string name,.slice na nn nc,.slice pa pn pc,.bool many] 83)).alloc (.cells #[.int .i64 ((d:Int)+1)] 3)).cell? ⟨w.heap.size,o,none⟩=(#[Value.int .i64 kind,.string name,.slice na nn nc,.slice pa pn pc,.bool many])[o]?:=λ o=>(World.cell?_alloc_past _ _ _ (by simp)).trans (World.cell?_alloc_at _ _ _ _ rfl);have hy0:((w.alloc (.cells #[Value.int .i64 kind,.string name,.slice na nn nc,.slice pa pn pc,.bool many] 83)).alloc (.cells #[.int .i64 ((d:Int)+1)] 3)).cell? ⟨w.heap.size+1,0,none⟩=some (.int .i64 ((d:Int)+1)):=World.cell?_alloc_at _ _ _ _ (by simp);have hz0:((w.alloc (.cells #[Value.int .i64 kind,.string name,.slice na nn nc,.slice pa pn pc,.bool many] 83)).alloc (.cells #[.int .i64 ((d:Int)+1)] 3)).heap.size=w.heap.size+1+1:=by simp
 obtain⟨W,hW⟩:∃W,(w.alloc (.cells #[Value.int .i64 kind,.string name,.slice na nn nc,.slice pa pn pc,.bool many] 83)).alloc (.cells #[.int .i64 ((d:Int)+1)] 3)=W:=⟨_,rfl⟩
 have HWE:=ah hW;rw[hW] at hB0 hx0 hy0 hz0;clear hW;have HW:Hid (∀w',Below W.heap.size W w'→Below w.heap.size w w'):=λ w' hw=>hB0.trans (hw.mono (by omega));have HXc:Hid (∀w',Below W.heap.size W w'→∀o,w'.cell? ⟨w.heap.size,o,none⟩=(#[Value.int .i64 kind,.string name,.slice na nn nc,.slice pa pn pc,.bool many])[o]?):=λ w' hw o=>(hw.cell (p:=⟨w.heap.size,o,none⟩) (by show w.heap.size<_;omega)).trans (hx0 o);have HPM:Hid (∀(lo hi:Nat),lo≤9223372036854775807→hi≤9223372036854775807→∀w',Below W.heap.size W w'→Calls prog 81 #[.int .i64 lo,.int .i64 hi,.pointer (some ⟨w.heap.size,0,none⟩),.pointer (some ⟨w.heap.size+1,0,none⟩)] w' λ e w''=>e=.returned (.bool (decide (lo≤pn) && decide (pn≤hi) && (List.range pn).all λ i=>mayN d (parts i)))∧Below w'.heap.size w' w''):=λ lo hi h1 h2 w' hw=>
  partsMay_any d hd ih lo hi h1 h2 w.heap.size (w.heap.size+1) w' na pa nc pc (HT.below (HW w' hw)) (by have:=hw.size;omega) (by have:=hw.size;omega) (HXc w' hw) ((hw.cell (p:=⟨w.heap.size+1,0,none⟩) (by show w.heap.size+1<_;omega)).trans hy0)
 clear hx0 hy0 hz0 hB0;by_cases k1:kind=1
 ·subst k1;have HR:Hid (r=(decide (pn≤7) && decide (nn≤6) && ((List.range pn).all λ i=>mayN d (parts i)) && (decide (name.size=0) && decide (nn=0) && (decide (pn=0) && !many)))):=by
   show _=_;rw[HMs.out];rfl
  clear HMs HM;by_cases ns:name.size=0
  ·obtain rfl:name=⟨#[]⟩:=ba_empty ns rfl;by_cases n0:nn=0
   ·subst n0;cases many with
    | true=>
     obtain rfl:r=false:=by rw[HR.out];simp
     go_enter func54,ntmps54;go_wp2;go_ret
     exact⟨rfl,by simp only[HWE.out];exact HW W (Below.refl _ _)⟩
    | false=>
     have HR2:Hid (r=(decide (0≤pn) && decide (pn≤0) && (List.range pn).all λ i=>mayN d (parts i))):=by
      show _=_;rw[HR.out];exact (parts_zero (pn:=pn) (parts:=parts) d true).trans (Bool.true_and _)
     have hpm:=HPM 0 0 (by omega) (by omega) W (Below.refl _ _);rw[← HR2.out] at hpm;go_enter func54,ntmps54;go_wp2_with fail;simp only[HWE.out];go_at_call 81;refine hpm.mono ?_;rintro e w1 ⟨rfl,hb⟩;have HB1:Hid (Below W.heap.size W w1):=hb;have hx1:=HXc w1 HB1;clear hb;go_wp2;go_ret
     exact⟨rfl,HW _ HB1⟩
   have n0':((nn:Int) == 0)=false:=by simp;omega
   have n1':¬ (nn:Int)=0:=by omega
   obtain rfl:r=false:=by rw[HR.out,decide_eq_false n0];simp
   go_enter func54,ntmps54;go_wp2;go_ret
   exact⟨rfl,by simp only[HWE.out];exact HW W (Below.refl _ _)⟩
  have nb:=bytes_eq name [] (λ e=>ns (by have:=congrArg List.length e;exact this));obtain rfl:r=false:=by rw[HR.out,decide_eq_false ns];simp
  go_enter func54,ntmps54;go_wp2;go_ret
  exact⟨rfl,by simp only[HWE.out];exact HW W (Below.refl _ _)⟩
 have k1':(kind == 1)=false:=by simpa using k1
 by_cases k2:kind=2
 ·subst k2;have HR:Hid (r=(decide (pn≤7) && decide (nn≤6) && ((List.range pn).all λ i=>mayN d (parts i)) && (decide (name.size=0) && decide (nn=0) && (decide (pn=0) && !many)))):=by
   show _=_;rw[HMs.out];rfl
  clear HMs HM;by_cases ns:name.size=0
  ·obtain rfl:name=⟨#[]⟩:=ba_empty ns rfl;by_cases n0:nn=0
   ·subst n0;cases many with
    | true=>
     obtain rfl:r=false:=by rw[HR.out];simp
     go_enter func54,ntmps54;go_wp2;go_ret
     exact⟨rfl,by simp only[HWE.out];exact HW W (Below.refl _ _)⟩
    | false=>
     have HR2:Hid (r=(decide (0≤pn) && decide (pn≤0) && (List.range pn).all λ i=>mayN d (parts i))):=by
      show _=_;rw[HR.out];exact (parts_zero (pn:=pn) (parts:=parts) d true).trans (Bool.true_and _)
     have hpm:=HPM 0 0 (by omega) (by omega) W (Below.refl _ _);rw[← HR2.out] at hpm;go_enter func54,ntmps54;go_wp2_with fail;simp only[HWE.out];go_at_call 81;refine hpm.mono ?_;rintro e w1 ⟨rfl,hb⟩;have HB1:Hid (Below W.heap.size W w1):=hb;have hx1:=HXc w1 HB1;clear hb;go_wp2;go_ret
     exact⟨rfl,HW _ HB1⟩
   have n0':((nn:Int) == 0)=false:=by simp;omega
   have n1':¬ (nn:Int)=0:=by omega
   obtain rfl:r=false:=by rw[HR.out,decide_eq_false n0];simp
   go_enter func54,ntmps54;go_wp2;go_ret
   exact⟨rfl,by simp only[HWE.out];exact HW W (Below.refl _ _)⟩
  have nb:=bytes_eq name [] (λ e=>ns (by have:=congrArg List.length e;exact this));obtain rfl:r=false:=by rw[HR.out,decide_eq_false ns];simp
  go_enter func54,ntmps54;go_wp2;go_ret
  exact⟨rfl,by simp only[HWE.out];exact HW W (Below.refl _ _)⟩
 have k2':(kind == 2)=false:=by simpa using k2
 by_cases k3:kind=3
 ·subst k3;have HR:Hid (r=(decide (pn≤7) && decide (nn≤6) && ((List.range pn).all λ i=>mayN d (parts i)) && (!many && nameB (bytes name) && decide (1≤pn) && decide (pn≤6) && decide (nn=pn) && ((List.range pn).all λ i=>dY names i) && decide (sizeT (.mk 3 name nn names pn parts many)≤12)))):=by
   show _=_;rw[HMs.out];rfl
  clear HMs HM;have hnm:=λ w'=>pname_any name w' (by omega);have hfn:=λ w' (hw:Below W.heap.size W w')=>fieldNames_any na nn nc names w' (λ hp=>by obtain⟨b,o,e1,e2,e3⟩:=HS hp;exact⟨b,o,e1,Nat.lt_of_lt_of_le e2 (HW w' hw).size,λ j hj=>((HW w' hw).cell (p:=⟨b,o+j,none⟩) e2).trans (e3 j hj)⟩) q1 q6;have hpm:=HPM nn nn q1 q1;cases hN:nameB (bytes name) with
  | false=>
   rw[hN] at hnm;obtain rfl:r=false:=by rw[HR.out,hN];simp
   clear hfn hpm;go_enter func54,ntmps54;go_wp2_with fail;simp only[HWE.out];go_at_call 82;refine (hnm _).mono ?_;rintro e w0 ⟨rfl,hw0⟩;obtain rfl:W=w0:=hw0.symm;have hx_W:=HXc _ (Below.refl _ _);go_wp2;go_ret
   exact⟨rfl,HW _ (Below.refl _ _)⟩
  | true=>
  rw[hN] at hnm;cases many with
  | true=>
   obtain rfl:r=false:=by rw[HR.out];simp
   clear hfn hpm;go_enter func54,ntmps54;go_wp2_with fail;simp only[HWE.out];go_at_call 82;refine (hnm _).mono ?_;rintro e w0 ⟨rfl,hw0⟩;obtain rfl:W=w0:=hw0.symm;have hx_W:=HXc _ (Below.refl _ _);go_wp2;go_ret
   exact⟨rfl,HW _ (Below.refl _ _)⟩
  | false=>
  cases hF:(decide (1≤nn) && decide (nn≤6) && (List.range nn).all λ i=>dY names i) with
  | false=>
   rw[hF] at hfn;obtain rfl:r=false:=by
    rw[HR.out];by_cases e:nn=pn
    ·subst e;cases h1:decide (1≤nn)<;>cases h2:decide (nn≤6)<;>cases h3:((List.range nn).all λ i=>dY names i)<;>simp_all
    rw[decide_eq_false e];simp
   clear hpm;go_enter func54,ntmps54;go_wp2_with fail;simp only[HWE.out];go_at_call 82;refine (hnm _).mono ?_;rintro e w0 ⟨rfl,hw0⟩;obtain rfl:W=w0:=hw0.symm;have hx_W:=HXc _ (Below.refl _ _);go_wp2_with fail;go_at_call 83;refine (hfn _ (Below.refl _ _)).mono ?_;rintro e w1 ⟨rfl,hb⟩;have Hw1:Hid (Below W.heap.size W w1):=(Below.refl W.heap.size W).trans (hb.mono (Below.refl W.heap.size W).size);have hx_w1:=HXc w1 Hw1;clear hb;go_wp2;go_ret
   exact⟨rfl,HW _ Hw1⟩
  | true=>
  rw[hF] at hfn;cases hP:(decide (nn≤pn) && decide (pn≤nn) && (List.range pn).all λ i=>mayN d (parts i)) with
  | false=>
   rw[hP] at hpm;obtain rfl:r=false:=by
    rw[HR.out];by_cases e:nn=pn
    ·subst e;rw[decide_eq_true (Nat.le_refl nn)] at hP;rw[show ((List.range nn).all λ i=>mayN d (parts i))=false from hP];simp
    rw[decide_eq_false e];simp
   go_enter func54,ntmps54;go_wp2_with fail;simp only[HWE.out];go_at_call 82;refine (hnm _).mono ?_;rintro e w0 ⟨rfl,hw0⟩;obtain rfl:W=w0:=hw0.symm;have hx_W:=HXc _ (Below.refl _ _);go_wp2_with fail;go_at_call 83;refine (hfn _ (Below.refl _ _)).mono ?_;rintro e w1 ⟨rfl,hb⟩;have Hw1:Hid (Below W.heap.size W w1):=(Below.refl W.heap.size W).trans (hb.mono (Below.refl W.heap.size W).size);have hx_w1:=HXc w1 Hw1;clear hb;go_wp2_with fail;go_at_call 81;refine (hpm _ Hw1).mono ?_;rintro e w2 ⟨rfl,hb⟩;have Hw2:Hid (Below W.heap.size W w2):=Hw1.trans (hb.mono Hw1.size);have hx_w2:=HXc w2 Hw2;clear hb;go_wp2;go_ret
   exact⟨rfl,HW _ Hw2⟩
  | true=>
  rw[hP] at hpm;obtain rfl:nn=pn:=by
   simp only[Bool.and_eq_true,decide_eq_true_eq] at hP;omega
  rw[decide_eq_true (Nat.le_refl nn),Bool.and_self,Bool.true_and] at hP;have HALL:Hid (∀i,i<nn→mayN d (parts i)=true):=λ i hi=>(List.all_eq_true.1 hP) i (List.mem_range.2 hi);have hn6:1≤nn∧nn≤6:=by
   simp only[Bool.and_eq_true,decide_eq_true_eq] at hF;exact hF.1
  have HR2:Hid (r=decide (sizeT (.mk 3 name nn names nn parts false)≤12)):=by
   show _=_;rw[HR.out,hN,hP,decide_eq_true (show nn≤7 by omega),decide_eq_true hn6.1,decide_eq_true hn6.2,show ((List.range nn).all λ i=>dY names i)=true by simp only[Bool.and_eq_true] at hF;exact hF.2,decide_eq_true (rfl:nn=nn)];rfl
  have HFew:Hid (Few (.mk 3 name nn names nn parts false)):=by
   show Few _;unfold Few;exact⟨by omega,λ i hi=>sizeT_le (HALL i hi)⟩
  have hwd:=λ w' (hw:Below W.heap.size W w')=>words_any _ HFew _ w' (HT.below (HW w' hw));have hle:sizeT (.mk 3 name nn names nn parts false)≤13*nn:=by
   rw[sizeT_mk,if_neg (by decide),if_pos rfl];exact place_le (λ i hi=>(sizeT_le (HALL i hi)).2) nn (Nat.le_refl _)
  generalize sizeT (.mk 3 name nn names nn parts false)=z at *;clear HR hF hP;by_cases hz:z≤12
  ·have hz':(z:Int)≤12:=by omega
   obtain rfl:r=true:=by rw[HR2.out,decide_eq_true hz]
   go_enter func54,ntmps54;go_wp2_with fail;simp only[HWE.out];go_at_call 82;refine (hnm _).mono ?_;rintro e w0 ⟨rfl,hw0⟩;obtain rfl:W=w0:=hw0.symm;have hx_W:=HXc _ (Below.refl _ _);go_wp2_with fail;go_at_call 83;refine (hfn _ (Below.refl _ _)).mono ?_;rintro e w1 ⟨rfl,hb⟩;have Hw1:Hid (Below W.heap.size W w1):=(Below.refl W.heap.size W).trans (hb.mono (Below.refl W.heap.size W).size);have hx_w1:=HXc w1 Hw1;clear hb;go_wp2_with fail;go_at_call 81;refine (hpm _ Hw1).mono ?_;rintro e w2 ⟨rfl,hb⟩;have Hw2:Hid (Below W.heap.size W w2):=Hw1.trans (hb.mono Hw1.size);have hx_w2:=HXc w2 Hw2;clear hb;go_wp2_with fail;go_at_call 84;refine (hwd _ Hw2).mono ?_;rintro e w3 ⟨rfl,hb⟩;have Hw3:Hid (Below W.heap.size W w3):=Hw2.trans (hb.mono Hw2.size);have hx_w3:=HXc w3 Hw3;clear hb;go_wp2;go_ret
   exact⟨rfl,HW _ Hw3⟩
  have hz':¬ (z:Int)≤12:=by omega
  obtain rfl:r=false:=by rw[HR2.out,decide_eq_false hz]
  go_enter func54,ntmps54;go_wp2_with fail;simp only[HWE.out];go_at_call 82;refine (hnm _).mono ?_;rintro e w0 ⟨rfl,hw0⟩;obtain rfl:W=w0:=hw0.symm;have hx_W:=HXc _ (Below.refl _ _);go_wp2_with fail;go_at_call 83;refine (hfn _ (Below.refl _ _)).mono ?_;rintro e w1 ⟨rfl,hb⟩;have Hw1:Hid (Below W.heap.size W w1):=(Below.refl W.heap.size W).trans (hb.mono (Below.refl W.heap.size W).size);have hx_w1:=HXc w1 Hw1;clear hb;go_wp2_with fail;go_at_call 81;refine (hpm _ Hw1).mono ?_;rintro e w2 ⟨rfl,hb⟩;have Hw2:Hid (Below W.heap.size W w2):=Hw1.trans (hb.mono Hw1.size);have hx_w2:=HXc w2 Hw2;clear hb;go_wp2_with fail;go_at_call 84;refine (hwd _ Hw2).mono ?_;rintro e w3 ⟨rfl,hb⟩;have Hw3:Hid (Below W.heap.size W w3):=Hw2.trans (hb.mono Hw2.size);have hx_w3:=HXc w3 Hw3;clear hb;go_wp2;go_ret
  exact⟨by show Ending.returned (Value.bool (decide ((z:Int)≤12)))=_;rw[show decide ((z:Int)≤12)=false from decide_eq_false (by omega)],HW _ Hw3⟩
 have k3':(kind == 3)=false:=by simpa using k3
 by_cases k4:kind=4
 ·subst k4;have HR:Hid (r=(decide (pn≤7) && decide (nn≤6) && ((List.range pn).all λ i=>mayN d (parts i)) && (decide (name.size=0) && decide (nn=0) && decide (1≤pn)))):=by
   show _=_;rw[HMs.out];rfl
  clear HMs HM;by_cases ns:name.size=0
  ·obtain rfl:name=⟨#[]⟩:=ba_empty ns rfl;by_cases n0:nn=0
   ·subst n0;have HR2:Hid (r=(decide (1≤pn) && decide (pn≤7) && (List.range pn).all λ i=>mayN d (parts i))):=by
     show _=_;rw[HR.out];exact parts_fn d
    have hpm:=HPM 1 7 (by omega) (by omega) W (Below.refl _ _);rw[← HR2.out] at hpm;go_enter func54,ntmps54;go_wp2_with fail;simp only[HWE.out];go_at_call 81;refine hpm.mono ?_;rintro e w1 ⟨rfl,hb⟩;have HB1:Hid (Below W.heap.size W w1):=hb;have hx1:=HXc w1 HB1;clear hb;go_wp2;go_ret
    exact⟨rfl,HW _ HB1⟩
   have n0':((nn:Int) == 0)=false:=by simp;omega
   have n1':¬ (nn:Int)=0:=by omega
   obtain rfl:r=false:=by rw[HR.out,decide_eq_false n0];simp
   go_enter func54,ntmps54;go_wp2;go_ret
   exact⟨rfl,by simp only[HWE.out];exact HW W (Below.refl _ _)⟩
  have nb:=bytes_eq name [] (λ e=>ns (by have:=congrArg List.length e;exact this));obtain rfl:r=false:=by rw[HR.out,decide_eq_false ns];simp
  go_enter func54,ntmps54;go_wp2;go_ret
  exact⟨rfl,by simp only[HWE.out];exact HW W (Below.refl _ _)⟩
 have k4':(kind == 4)=false:=by simpa using k4
 obtain rfl:r=false:=by rw[HMs.out,if_neg k3,if_neg k4,decide_eq_false k1,decide_eq_false k2];simp
 go_enter func54,ntmps54;go_wp2;go_ret
 exact⟨rfl,by simp only[HWE.out];exact HW W (Below.refl _ _)⟩
theorem pmay_all:∀d:Nat,d≤1000→∀(T:Ty) (v:Value) (w:World),TyV w T v→Calls prog 54 #[v,.int .i64 d] w λ e w'=>e=.returned (.bool (mayN d T))∧Below w.heap.size w w':=by
 intro d;induction d with
 | zero=>intro _ T v w hv;exact pmay_zero T v w hv
 | succ d ih=>
  intro hd T v w hv;rcases T with _|⟨kind,name,nn,names,pn,parts,many⟩
  ·exact (TyV_leaf hv).elim
  exact pmay_step d (by omega) (λ T v w hv=>ih (by omega) T v w hv) v w hv _ rfl
theorem pMay_any (T:Ty) (v:Value) (w:World) (hv:TyV w T v):Calls prog 37 #[v] w λ e w'=>e=.returned (.bool (mayN 4 T))∧Below w.heap.size w w':=by
 rcases T with _|⟨kind,name,nn,names,pn,parts,many⟩
 ·exact (TyV_leaf hv).elim
 obtain⟨na,nc,pa,pc,rfl,hS,q1,q2,q3,q4,q5,q6,q7,HP⟩:=hv.part;have hB0:Below w.heap.size w (w.alloc (.cells #[.int .i64 kind,.string name,.slice na nn nc,.slice pa pn pc,.bool many] 83)):=(Below.refl _ _).alloc (Nat.le_refl _) _;have hcal:=pmay_all 4 (by omega) _ _ _ (hv.below hB0);have HB0:=ah hB0;clear hv hS hB0;generalize mayN 4 (.mk kind name nn names pn parts many)=r at *;go_enter func37,ntmps37;go_wp2_with fail;go_at_call 54;refine hcal.mono ?_;rintro e w1 ⟨rfl,hb1⟩;have HB1:Hid (Below w.heap.size w w1):=HB0.trans (hb1.mono HB0.size);clear hb1;go_wp2;go_ret
 exact⟨rfl,HB1⟩
end
section
def strOf (l:List UInt8):ByteArray:=⟨l.toArray⟩
theorem dQ (l:List UInt8):bytes (strOf l)=l:=rfl
theorem aR (a b:ByteArray):bytes (a++b)=bytes a++bytes b:=by
 unfold bytes;rw[ByteArray.data_append,Array.toList_append]
theorem textT_mk (kind:Int) (name:ByteArray) (nn:Nat) (names:Nat→ByteArray) (pn:Nat) (parts:Nat→Ty) (many:Bool):textT (.mk kind name nn names pn parts many) =
  if kind=1 then [105,110,116] else if kind=2 then [108,111,110,103] else if kind=3 then
   [115,116,114,117,99,116,32]++bytes name++[123]++((List.range pn).flatMap λ i=>textT (parts i)++[32]++bytes (names i)++[59])++[125]
  else [102,110,40]++((List.range (pn - 1)).flatMap λ i=>textT (parts i)++(if i+1<pn - 1∨many=true then [44] else []))++(if many=true then [46,46,46] else [])++[41]++textT (parts (pn - 1)):=by rw[textT]
def lenB:Nat→Nat
 | 0=>0
 | d+1=>7*lenB d+400
theorem name_len {s : List UInt8} (h:nameB s=true):s.length≤16:=by
 simp only[nameB,Bool.and_eq_true,decide_eq_true_eq] at h;exact h.1.1.2
theorem flat_len {f:Nat→List UInt8}{c:Nat}:∀n,(∀i,i<n→(f i).length≤c)→((List.range n).flatMap f).length≤n*c
 | 0,_=>by simp
 | n+1,h=>by
  have h1:=flat_len n (λ i hi=>h i (by omega));have h2:=h n (by omega);rw[List.range_succ,List.flatMap_append,List.length_append,List.flatMap_singleton,Nat.add_mul];omega
theorem text_len :∀{T:Ty},mayN d T=true→(textT T).length≤lenB d:=by
 induction d with
 | zero=>intro T h;simp [mayN] at h
 | succ d ih=>
  intro T h;rcases T with _|⟨kind,name,nn,names,pn,parts,many⟩
  ·rw[mayN_leaf] at h;cases h
  have f:=may_facts h;have hp:∀i,i<pn→(textT (parts i)).length≤lenB d:=λ i hi=>ih (f.2.2.1 i hi);rw[textT_mk];show _≤7*lenB d+400;rcases f.2.2.2 with⟨rfl,a1,a2,a3,a4,rfl,a6,_⟩|⟨rfl,a1,rfl,a3⟩|⟨rfl,a1,rfl,rfl,rfl⟩|⟨rfl,a1,rfl,rfl,rfl⟩
  ·have h1:=name_len a2;have h2:=flat_len (f:=λ i=>textT (parts i)++[32]++bytes (names i)++[59]) (c:=lenB d+18) nn (λ i hi=>by
    have:=hp i hi;have:=name_len (a6 i hi);simp only[List.length_append,List.length_cons,List.length_nil];omega)
   have h3:nn*(lenB d+18)≤6*(lenB d+18):=Nat.mul_le_mul_right _ a4;rw[if_neg (by decide),if_neg (by decide),if_pos rfl];simp only[List.length_append,List.length_cons,List.length_nil];omega
  ·have h2:=flat_len (f:=λ i=>textT (parts i)++(if i+1<pn - 1∨many=true then [44] else [])) (c:=lenB d+1) (pn - 1) (λ i hi=>by
    have:=hp i (by omega);rw[List.length_append];split<;>simp<;>omega)
   have h3:(pn - 1)*(lenB d+1)≤6*(lenB d+1):=Nat.mul_le_mul_right _ (by have:=f.1;omega);have h4:=hp (pn - 1) (by omega);have h5:(if many=true then [46,46,46] else ([]:List UInt8)).length≤3:=by split<;>simp
   rw[if_neg (by decide),if_neg (by decide),if_neg (by decide)];simp only[List.length_append,List.length_cons,List.length_nil];omega
  ·simp
  simp
theorem lenB_le (h:d≤3):lenB d≤22800:=by
 have:d=0∨d=1∨d=2∨d=3:=by omega
 rcases this with rfl|rfl|rfl|rfl<;>decide
theorem size_bytes (x:ByteArray):(bytes x).length=x.size:=rfl
variable {kind : Int} {name : ByteArray} {nn : Nat} {names : Nat → ByteArray} {pn : Nat} {parts : Nat → Ty} {many : Bool}
end
section
variable {kind : Int} {name : ByteArray} {nn : Nat} {names : Nat → ByteArray} {pn : Nat} {parts : Nat → Ty} {many : Bool}
theorem ptext_struct (d:Nat) (hd3:d≤3) (ih:Hid (∀i,i<pn→∀v w,TyV w (parts i) v→Calls prog 38 #[v] w λ e w'=>e=.returned (.string (strOf (textT (parts i))))∧Below w.heap.size w w')) (hm:mayN (d+1) (.mk 3 name nn names pn parts many)=true) (v:Value) (w:World)
  (hv:TyV w (.mk 3 name nn names pn parts many) v):Calls prog 55 #[v] w λ e w'=>e=.returned (.string (strOf (textT (.mk 3 name nn names pn parts many))))∧Below w.heap.size w w':=by
 have F:=may_facts hm;obtain⟨na,nc,pa,pc,rfl,hS,q1,q2,q3,q4,q5,q6,q7,HP⟩:=hv.part;have hB0:Below w.heap.size w (w.alloc (.cells #[.int .i64 3,.string name,.slice na nn nc,.slice pa pn pc,.bool many] 83)):=(Below.refl _ _).alloc (Nat.le_refl _) _;have HT:=ah hv;have HS:=ah hS;clear hv hS hm;have HLn:Hid (∀i,i<pn→(textT (parts i)).length≤22800):=λ i hi=>Nat.le_trans (text_len (F.2.2.1 i hi)) (lenB_le hd3);obtain⟨hp7,hn16,HN16,rfl⟩:pn≤7∧name.size≤16∧Hid (∀i,i<pn→(names i).size≤16)∧nn=pn:=by
  rcases F.2.2.2 with⟨_,_,a2,_,_,e,a6,_⟩|⟨e,_⟩|⟨e,_⟩|⟨e,_⟩
  ·exact⟨F.1,name_len a2,λ i hi=>name_len (a6 i hi),e⟩
  all_goals omega
 clear F;have HE:Hid (textT (.mk 3 name nn names nn parts many)=[115,116,114,117,99,116,32]++bytes name++[123]++((List.range nn).flatMap λ i=>textT (parts i)++[32]++bytes (names i)++[59])++[125]):=by
  show _=_;rw[textT_mk,if_neg (by decide),if_neg (by decide),if_pos rfl]
 go_enter func55,ntmps55;go_wp2_with fail;have hx0:∀o,(w.alloc (.cells #[Value.int .i64 3,.string name,.slice na nn nc,.slice pa nn pc,.bool many] 83)).cell? ⟨w.heap.size,o,none⟩=(#[Value.int .i64 3,.string name,.slice na nn nc,.slice pa nn pc,.bool many])[o]?:=λ o=>World.cell?_alloc_at _ _ _ _ rfl;have hz0:(w.alloc (.cells #[Value.int .i64 3,.string name,.slice na nn nc,.slice pa nn pc,.bool many] 83)).heap.size=w.heap.size+1:=by simp
 generalize w.alloc (.cells #[Value.int .i64 3,.string name,.slice na nn nc,.slice pa nn pc,.bool many] 83)=W at *;have HW:Hid (∀w',Below W.heap.size W w'→Below w.heap.size w w'):=λ w' hw=>hB0.trans (hw.mono (by omega));have HXc:Hid (∀w',Below W.heap.size W w'→∀o,w'.cell? ⟨w.heap.size,o,none⟩=(#[Value.int .i64 3,.string name,.slice na nn nc,.slice pa nn pc,.bool many])[o]?):=λ w' hw o=>(hw.cell (p:=⟨w.heap.size,o,none⟩) (by show w.heap.size<_;omega)).trans (hx0 o);clear hx0 hz0 hB0;go_loopw [3,13] (λ s i wr=>∃(k:Nat) (x:ByteArray),k≤nn∧x.size≤30+k*30000∧s=.string x∧i=.int .i64 k∧Hid (Below W.heap.size W wr)∧Hid (bytes x=[115,116,114,117,99,116,32]++bytes name++[123]++((List.range k).flatMap λ i=>textT (parts i)++[32]++bytes (names i)++[59]))) (λ_ i _=>nn - (intOf i).toNat)
 case atStart=>exact⟨0,_,Nat.zero_le _,by rw[← size_bytes,aR,aR,List.length_append,List.length_append,size_bytes name];show 7+name.size+1≤_;omega,rfl,rfl,Below.refl _ _,by show _=_;rw[aR,aR];simp;rfl⟩
 obtain⟨k,x,hk,hxs,rfl,rfl,HB,HX⟩:=hrel;have hx1:=HXc wr HB;by_cases hlt:k<nn
 ·have hlt':(k:Int)<nn:=by omega
  have hidx:(0:Int)≤k∧(k:Int)<nn:=by omega
  obtain⟨b,o,rfl,hb,hc⟩:=HP (by omega);obtain⟨c0,c1,c2,c3,c4,g0,g1,g2,g3,g4,g5⟩:=hc k hlt;obtain⟨kd,nm,xa,xn,xc,ya,yn,yc,my,rfl,rfl,rfl,rfl,rfl⟩:=g5.shape;have hcal:=λ w' (hw:Below W.heap.size W w')=>ih.out k hlt _ w' (g5.below (HW w' hw));have e0:wr.cell? ⟨b,o+k*5,none⟩=some (.int .i64 kd):=((HW _ HB).cell (p:=⟨b,o+k*5,none⟩) hb).trans g0;have e1:wr.cell? ⟨b,o+k*5+1,none⟩=some (.string nm):=((HW _ HB).cell (p:=⟨b,o+k*5+1,none⟩) hb).trans g1;have e2:wr.cell? ⟨b,o+k*5+2,none⟩=some (.slice xa xn xc):=((HW _ HB).cell (p:=⟨b,o+k*5+2,none⟩) hb).trans g2;have e3:wr.cell? ⟨b,o+k*5+3,none⟩=some (.slice ya yn yc):=((HW _ HB).cell (p:=⟨b,o+k*5+3,none⟩) hb).trans g3;have e4:wr.cell? ⟨b,o+k*5+4,none⟩=some (.bool my):=((HW _ HB).cell (p:=⟨b,o+k*5+4,none⟩) hb).trans g4;clear g0 g1 g2 g3 g4 g5 hc;obtain⟨b',o',rfl,hb',hc'⟩:=HS (by omega);have HC':=ah hc';clear hc';have hts:=HLn k hlt;have hns:=HN16 k hlt;generalize hte:textT (parts k)=te at *;have hts2:(strOf te).size≤22800:=hts;have HTe:=ah hte;clear hte;go_wp2_with fail;have HBa:Hid (Below W.heap.size W (wr.alloc (.cells #[Value.int .i64 kd,.string nm,.slice xa xn xc,.slice ya yn yc,.bool my] 83))):=HB.alloc HB.size _;have hpx:∀o,(wr.alloc (.cells #[Value.int .i64 kd,.string nm,.slice xa xn xc,.slice ya yn yc,.bool my] 83)).cell? ⟨wr.heap.size,o,none⟩=(#[Value.int .i64 kd,.string nm,.slice xa xn xc,.slice ya yn yc,.bool my])[o]?:=λ o=>World.cell?_alloc_at _ _ _ _ rfl;have hzx:(wr.alloc (.cells #[Value.int .i64 kd,.string nm,.slice xa xn xc,.slice ya yn yc,.bool my] 83)).heap.size=wr.heap.size+1:=by simp
  have HSb:Hid (∀w',Below (wr.heap.size+1) (wr.alloc (.cells #[Value.int .i64 kd,.string nm,.slice xa xn xc,.slice ya yn yc,.bool my] 83)) w'→(λ w'=>(∀oo,w'.cell? ⟨w.heap.size,oo,none⟩=(#[Value.int .i64 3,.string name,.slice (some ⟨b',o',none⟩) nn nc,.slice (some ⟨b,o,none⟩) nn pc,.bool many])[oo]?)∧(∀o,w'.cell? ⟨wr.heap.size,o,none⟩=(#[Value.int .i64 kd,.string nm,.slice xa xn xc,.slice ya yn yc,.bool my])[o]?)∧w'.cell? ⟨b',o'+k,none⟩=some (.string (names k))) w'):=λ w' hw=>
   ⟨HXc w' (HBa.trans (hw.mono (by have:=HB.size;omega))),λ o=>(hw.cell (p:=⟨wr.heap.size,o,none⟩) (by show wr.heap.size<_;omega)).trans (hpx o),((HW _ (HBa.trans (hw.mono (by have:=HB.size;omega)))).cell (p:=⟨b',o'+k,none⟩) hb').trans (HC' k hlt)⟩
  clear hx1 e0 e1 e2 e3 e4;have HBd:Hid (Below (wr.heap.size+1) (wr.alloc (.cells #[Value.int .i64 kd,.string nm,.slice xa xn xc,.slice ya yn yc,.bool my] 83)) (wr.alloc (.cells #[Value.int .i64 kd,.string nm,.slice xa xn xc,.slice ya yn yc,.bool my] 83)).drew):=(Below.refl _ _).drew;refine wp_region_held_drew (S:=(λ w'=>(∀oo,w'.cell? ⟨w.heap.size,oo,none⟩=(#[Value.int .i64 3,.string name,.slice (some ⟨b',o',none⟩) nn nc,.slice (some ⟨b,o,none⟩) nn pc,.bool many])[oo]?)∧(∀o,w'.cell? ⟨wr.heap.size,o,none⟩=(#[Value.int .i64 kd,.string nm,.slice xa xn xc,.slice ya yn yc,.bool my])[o]?)∧w'.cell? ⟨b',o'+k,none⟩=some (.string (names k)))) (by kernel_rfl) (HSb _ HBd) (λ hHeld=>?_);refine th 0 ?_;refine th 1 ?_;refine th 4 ?_;refine th 5 ?_;refine th 6 ?_;refine th 7 ?_;refine th 8 ?_;refine wpAnyH_ready (rs:=[2]) (by kernel_rfl) (by simp) ?_;refine AllReadyH.cons rfl (λ K hK=>?_) AllReadyH.nil;go_simp;refine (hcal _ (HBa.drew)).mono ?_;rintro e w1 ⟨rfl,hb1⟩;have hb2:Below (wr.heap.size+1) (wr.alloc (.cells #[Value.int .i64 kd,.string nm,.slice xa xn xc,.slice ya yn yc,.bool my] 83)) w1:=HBd.trans (hb1.mono (by have:(wr.alloc (.cells #[Value.int .i64 kd,.string nm,.slice xa xn xc,.slice ya yn yc,.bool my] 83)).drew.heap.size=wr.heap.size+1:=hzx;omega));have HB1:Hid (Below W.heap.size W w1):=HBa.trans (hb2.mono (by have:=HB.size;omega));refine hK.out _ _ (HSb _ hb2) (λ hHeld1=>?_);clear hK K hb1 hb2;try simp only[qq]
  refine wpAnyH_take (i:=3) (v:=?_) rfl (by kernel_rfl) (by kernel_rfl) (by kernel_rfl) (λ_ _ _ h=>h) (Or.inl ⟨by rfl,?_⟩) (by assumption) ?_;rotate_left
  ·(intro w hSw;(try dsimp only at hSw);go_simp;rw[if_neg (by omega)])<;>with_reducible rfl
  simp only[qq];refine wpAnyH_take (i:=9) (v:=?_) rfl (by kernel_rfl) (by kernel_rfl) (by kernel_rfl) (λ_ _ _ h=>h) (Or.inl ⟨by rfl,?_⟩) (by assumption) ?_;rotate_left
  ·(intro w hSw;(try dsimp only at hSw);go_simp;rw[if_neg (by omega)])<;>with_reducible rfl
  simp only[qq];refine wpAnyH_take (i:=10) (v:=?_) rfl (by kernel_rfl) (by kernel_rfl) (by kernel_rfl) (λ_ _ _ h=>h) (Or.inl ⟨by rfl,?_⟩) (by assumption) ?_;rotate_left
  ·(intro w hSw;(try dsimp only at hSw);go_simp;rw[if_neg (by omega)])<;>with_reducible rfl
  simp only[qq];refine wpAnyH_take (i:=11) (v:=?_) rfl (by kernel_rfl) (by kernel_rfl) (by kernel_rfl) (λ_ _ _ h=>h) (Or.inl ⟨by rfl,?_⟩) (by assumption) ?_;rotate_left
  ·(intro w hSw;(try dsimp only at hSw);go_simp;rw[if_neg (by omega)])<;>with_reducible rfl
  simp only[qq];refine th 12 ?_;refine wpAnyH_done (by kernel_rfl) ?_ _;go_wp2;go_roundw
  case rel=>
   refine⟨k+1,_,by omega,?_,rfl,by go_num,HB1,?_⟩
   ·rw[← size_bytes,aR,aR,aR,aR];simp only[List.length_append,size_bytes];have u1:(⟨#[32]⟩:ByteArray).size=1:=rfl;have u2:(⟨#[59]⟩:ByteArray).size=1:=rfl;omega
   show bytes _=_;rw[aR,aR,aR,aR,HX.out,List.range_succ,List.flatMap_append,List.flatMap_singleton,HTe.out,dQ];simp only[List.append_assoc];rfl
  case measure=>simp [intOf];omega
 obtain rfl:k=nn:=by omega
 have hlt':¬ (k:Int)<k:=by omega
 go_wp2;go_ret
 refine⟨?_,HW _ HB⟩;show Ending.returned (.string (x++(⟨#[125]⟩:ByteArray)))=_;rw[HE.out,← HX.out];rw[show x++(⟨#[125]⟩:ByteArray)=strOf (bytes x++[125]) from bytes_inj (by rw[aR];rfl)]
end
theorem own_below {w' : World} {ob : Nat} (h:w.ownsRow ob e z v n xs) (hb:Below w.heap.size w w'):w'.ownsRow ob e z v n xs:=by
 refine⟨h.1,?_⟩;rcases h.2 with h2|⟨g,cap,cur,hv,hg,hh,r⟩
 ·exact Or.inl h2
 exact Or.inr ⟨g,cap,cur,hv,hg,(hb.block g (Array.getElem?_eq_some_iff.1 hh).1).trans hh,r⟩
theorem own_ge {ob : Nat} (h:w.ownsRow ob e z v n xs) (k:Nat) (hk:v.ownBlock=some k):ob≤k∧k<w.heap.size:=h.lt k hk
theorem info_parts {P : Program} {z : Value} {m : Nat} (h:(P.info? e).map (λ i=>(i.zero,i.size,i.bytes))=some (some z,n,m)):∃i,P.info? e=some i∧i.zero=some z∧i.size=n∧i.bytes=m:=by
 cases hi:P.info? e with
 | none=>rw[hi] at h;cases h
 | some i=>
  rw[hi] at h;simp at h;exact⟨i,rfl,h.1,h.2.1,h.2.2⟩
def ints (l:List Nat):List Value:=l.map λ (n:Nat)=>Value.int .i64 n
section
theorem join_snoc (s:List UInt8)(x:List UInt8):∀L:List (List UInt8),s.intercalate (L++[x])=(L.flatMap λ y=>y++s)++x
 | []=>by simp
 | [a]=>by simp [List.intercalate]
 | a::b::r=>by
  have h:=join_snoc s x (b::r);simp only[List.intercalate,List.cons_append,List.intersperse_cons_cons,List.flatten_cons,List.flatMap_cons] at h ⊢;rw[h];simp
theorem join_text (t:Nat→List UInt8) (l:Nat) (many:Bool):Lib.join ((List.range l).map t++(if many=true then [[46,46,46]] else [])) [44]=((List.range l).flatMap λ i=>t i++(if i+1<l∨many=true then [44] else []))++(if many=true then [46,46,46] else []):=by
 unfold Lib.join;cases many with
 | true=>simp [join_snoc,List.flatMap_map]
 | false=>
  cases l with
  | zero=>rfl
  | succ m=>
   have e:((List.range m).flatMap λ i=>t i++(if i+1<m+1∨false=true then [44] else []))=(List.range m).flatMap λ i=>t i++[44]:=by
    have:∀n,n≤m→((List.range n).flatMap λ i=>t i++(if i+1<m+1∨false=true then [44] else []))=(List.range n).flatMap λ i=>t i++[44]:=by
     intro n;induction n with
     | zero=>intro _;rfl
     | succ n ih=>
      intro hn;rw[List.range_succ,List.flatMap_append,List.flatMap_append,ih (by omega),List.flatMap_singleton,List.flatMap_singleton,if_pos (Or.inl (by omega))]
    exact this m (Nat.le_refl _)
   rw[List.range_succ,List.map_append,List.map_singleton,if_neg (by decide),if_neg (by decide),List.append_nil,List.append_nil,join_snoc,List.flatMap_append,List.flatMap_singleton,e,if_neg (by simp),List.append_nil,List.flatMap_map]
def strs (L:List (List UInt8)):List Value:=L.map λ x=>Value.string (strOf x)
theorem info9:(prog.info? 9).map (λ i=>(i.zero,i.size,i.bytes))=some (some (.string ⟨#[]⟩),1,16):=by kernel_rfl
theorem list_str {ops : Array Oper} {rest : List Oper} {o : Oper} {a : Act} {Q : Exit→Act→World→Prop} (p q:Operand) (hgd:o.guard=none)
  (ho:o.op=.call { callee:=.builtin .append,args:=#[p,q],argTypes:=#[22,22] })
  (ob:Nat) (v:Value) (n:Nat) (L:List Value) (hs:a.eval p=v) (hown:w.ownsRow ob 9 1 v n L)
  (B:Nat) (x:ByteArray) (hx:a.eval q=.slice (some ⟨B,0,none⟩) 1 1) (hB:w.heap[B]?=some (.cells #[.string x] 9 (0,0)))
  (hn:n≤16000) (hob:ob≤w.heap.size)
  (h:∀g cap w',w'.ownsRow ob 9 1 (.slice (some ⟨g,0,none⟩) (n+1) cap) (n+1) (L++[.string x])→w.grownBy w' v.ownBlock→wpList prog ops Q rest (a.put o.dst (.slice (some ⟨g,0,none⟩) (n+1) cap)) w'):
  wpList prog ops Q (o::rest) a w:=by
 obtain⟨i0,hi,hz0,hz1,hz2⟩:=info_parts info9;refine wpList_append_lies w hgd p q 22 ho ob 9 i0 (.string ⟨#[]⟩) 1 16 underlying22 hi hz0 hz1 hz2 rfl (by decide) v n L hs hown ⟨B,0,none⟩ 1 1 [.string x] hx rfl (World.news_of_block hB) ?_ (by decide) (by unfold maxLen;omega) (by omega) hob w.heap.size rfl ?_
 ·intro u hu;simp at hu;subst hu;rfl
 intro g cap w' h1 h2 _ _;exact h g cap w' h1 h2
theorem join_row (xs:List (List UInt8)) (ob:Nat) (v:Value) (w:World) (h:w.ownsRow ob 9 1 v xs.length (strs xs)) (hn:xs.length≤1000) (hl:(Lib.join xs [44]).length≤1000000):
  Calls prog 85 #[v,.string ⟨#[44]⟩] w λ e w'=>e=.returned (.string (strOf (Lib.join xs [44])))∧Below w.heap.size w w':=by
 rcases h with⟨h1,⟨rfl,h3⟩|⟨g,cap,cur,rfl,h4,h5,h6,h7,h8,h9⟩⟩
 ·obtain rfl:xs=[]:=List.length_eq_zero_iff.1 h3;exact (strings_Join_none none 0 ⟨#[44]⟩ w).mono λ e w' ⟨h1,h2⟩=>⟨h1,h2 ▸ Below.refl _ _⟩
 have e:(xs.map strOf).map (·.data.toList)=xs:=by rw[List.map_map];exact List.map_id'' (λ_=>rfl) xs
 have hj:=strings_Join g 0 cap (xs.map strOf) ⟨#[44]⟩ w (λ j x hx=>?_) (Array.getElem?_eq_some_iff.1 h5).1 (by rw[List.length_map];omega) (by rw[List.length_map];exact h6) (by rw[e];show (Lib.join xs [44]).length≤_;omega)
 ·rw[e,List.length_map] at hj;exact hj
 have hx2:(strs xs)[j]?=some (.string x):=by
  unfold strs;rw[List.getElem?_map] at hx ⊢;cases hq:xs[j]? with
  | none=>rw[hq] at hx;cases hx
  | some y=>rw[hq] at hx;cases hx;rfl
 have hj':j<xs.length:=by
  have:=(List.getElem?_eq_some_iff.1 hx).1;rwa [List.length_map] at this
 rw[← h9,List.getElem?_take] at hx2;rw[if_pos (by omega)] at hx2;rw[cells_at h5];rw[Nat.zero_add];simpa using hx2
variable {kind : Int} {name : ByteArray} {nn : Nat} {names : Nat → ByteArray} {pn : Nat} {parts : Nat → Ty} {many : Bool}
theorem ptext_fn (d:Nat) (hd3:d≤3) (ih:Hid (∀i,i<pn→∀v w,TyV w (parts i) v→Calls prog 38 #[v] w λ e w'=>e=.returned (.string (strOf (textT (parts i))))∧Below w.heap.size w w')) (hm:mayN (d+1) (.mk 4 name nn names pn parts many)=true) (v:Value) (w:World)
  (hv:TyV w (.mk 4 name nn names pn parts many) v):Calls prog 56 #[v] w λ e w'=>e=.returned (.string (strOf (textT (.mk 4 name nn names pn parts many))))∧Below w.heap.size w w':=by
 have F:=may_facts hm;obtain⟨na,nc,pa,pc,rfl,hS,q1,q2,q3,q4,q5,q6,q7,HP⟩:=hv.part;have hB0:Below w.heap.size w (w.alloc (.cells #[.int .i64 4,.string name,.slice na nn nc,.slice pa pn pc,.bool many] 83)):=(Below.refl _ _).alloc (Nat.le_refl _) _;have HT:=ah hv;have HS:=ah hS;clear hv hS hm;have HLn:Hid (∀i,i<pn→(textT (parts i)).length≤22800):=λ i hi=>Nat.le_trans (text_len (F.2.2.1 i hi)) (lenB_le hd3);obtain⟨l,rfl,hl⟩:∃l,pn=l+1∧l≤6:=by
  rcases F.2.2.2 with⟨e,_⟩|⟨_,_,_,e⟩|⟨e,_⟩|⟨e,_⟩
  ·omega
  ·have:=F.1;exact⟨pn - 1,by omega,by omega⟩
  all_goals omega
 clear F;have HE:Hid (textT (.mk 4 name nn names (l+1) parts many)=[102,110,40]++(((List.range l).flatMap λ i=>textT (parts i)++(if i+1<l∨many=true then [44] else []))++(if many=true then [46,46,46] else []))++[41]++textT (parts l)):=by
  show _=_;rw[textT_mk,if_neg (by decide),if_neg (by decide),if_neg (by decide)];simp only[List.append_assoc];rfl
 have HJT:Hid (Lib.join ((List.range l).map (λ i=>textT (parts i))++(if many=true then [[46,46,46]] else [])) [44]=((List.range l).flatMap λ i=>textT (parts i)++(if i+1<l∨many=true then [44] else []))++(if many=true then [46,46,46] else [])):=join_text (λ i=>textT (parts i)) l many;have hjl:(Lib.join ((List.range l).map (λ i=>textT (parts i))++(if many=true then [[46,46,46]] else [])) [44]).length≤200000:=by
  rw[HJT.out,List.length_append];have h1:=flat_len (f:=λ i=>textT (parts i)++(if i+1<l∨many=true then [44] else [])) (c:=22801) l (λ i hi=>by
   have:=HLn i (by omega);rw[List.length_append];split<;>simp<;>omega)
  have h2:l*22801≤6*22801:=Nat.mul_le_mul_right _ hl;have h3:(if many=true then [46,46,46] else ([]:List UInt8)).length≤3:=by split<;>simp
  omega
 obtain⟨jt,hjt⟩:∃jt,jt=Lib.join ((List.range l).map (λ i=>textT (parts i))++(if many=true then [[46,46,46]] else [])) [44]:=⟨_,rfl⟩
 have HJ:=ah hjt;rw[← HJ.out] at HJT hjl;clear hjt;have hjs:(strOf jt).size≤200000:=hjl;have hlw:IntKind.i64.wrap (((l+1:Nat):Int) - 1)=(l:Int):=by rw[IntKind.wrap_i64];omega
 have hs1:(0:Int)≤l∧(l:Int)≤pc:=by omega
 have hts:=HLn l (by omega);have hcl0:=λ v w=>ih.out l (by omega) v w;generalize hte:textT (parts l)=tl at *;have hts2:(strOf tl).size≤22800:=hts;obtain⟨b,o,rfl,hb,hc⟩:=HP (by omega);have HC:=ah hc;obtain⟨c0,c1,c2,c3,c4,g0,g1,g2,g3,g4,g5⟩:=hc l (by omega);have HG:=ah (And.intro g0 (And.intro g1 (And.intro g2 (And.intro g3 g4))));have H5:=ah g5;clear g0 g1 g2 g3 g4 g5 hc hte;go_enter func56,ntmps56;go_wp2_with fail;have hx0:∀oo,(w.alloc (.cells #[Value.int .i64 4,.string name,.slice na nn nc,.slice (some ⟨b,o,none⟩) (l+1) pc,.bool many] 83)).cell? ⟨w.heap.size,oo,none⟩=(#[Value.int .i64 4,.string name,.slice na nn nc,.slice (some ⟨b,o,none⟩) (l+1) pc,.bool many])[oo]?:=λ o=>World.cell?_alloc_at _ _ _ _ rfl;have hz0:(w.alloc (.cells #[Value.int .i64 4,.string name,.slice na nn nc,.slice (some ⟨b,o,none⟩) (l+1) pc,.bool many] 83)).heap.size=w.heap.size+1:=by simp
 generalize w.alloc (.cells #[Value.int .i64 4,.string name,.slice na nn nc,.slice (some ⟨b,o,none⟩) (l+1) pc,.bool many] 83)=W at *;have HW:Hid (∀w',Below W.heap.size W w'→Below w.heap.size w w'):=λ w' hw=>hB0.trans (hw.mono (by omega));have HXc:Hid (∀w',Below W.heap.size W w'→∀oo,w'.cell? ⟨w.heap.size,oo,none⟩=(#[Value.int .i64 4,.string name,.slice na nn nc,.slice (some ⟨b,o,none⟩) (l+1) pc,.bool many])[oo]?):=λ w' hw oo=>(hw.cell (p:=⟨w.heap.size,oo,none⟩) (by show w.heap.size<_;omega)).trans (hx0 oo);clear hx0 hz0 hB0;have hcl:=λ w' (hw:Below W.heap.size W w')=>hcl0 _ w' (H5.below (HW w' hw));clear hcl0;have HCL:=ah hcl;clear hcl;go_loopw [4,16] (λ s i wr=>∃k:Nat,k≤l∧i=.int .i64 k∧Hid (Below W.heap.size W wr)∧Hid (wr.ownsRow W.heap.size 9 1 s k (strs ((List.range k).map λ i=>textT (parts i))))) (λ_ i _=>l - (intOf i).toNat)
 case atStart=>exact⟨0,Nat.zero_le _,rfl,Below.refl _ _,World.ownsRow_nil _ _ _ _⟩
 obtain⟨k,hk,rfl,HB,HO⟩:=hrel;have hx1:=HXc wr HB;by_cases hlt:k<l
 ·have hlt':(k:Int)<l:=by omega
  have hidx:(0:Int)≤k∧(k:Int)<l:=by omega
  obtain⟨c0',c1',c2',c3',c4',g0,g1,g2,g3,g4,g5⟩:=HC k (by omega);obtain⟨kd,nm,xa,xn,xc,ya,yn,yc,my,rfl,rfl,rfl,rfl,rfl⟩:=g5.shape;have hcal:=λ w' (hw:Below W.heap.size W w')=>ih.out k (by omega) _ w' (g5.below (HW w' hw));have e0:wr.cell? ⟨b,o+k*5,none⟩=some (.int .i64 kd):=((HW _ HB).cell (p:=⟨b,o+k*5,none⟩) hb).trans g0;have e1:wr.cell? ⟨b,o+k*5+1,none⟩=some (.string nm):=((HW _ HB).cell (p:=⟨b,o+k*5+1,none⟩) hb).trans g1;have e2:wr.cell? ⟨b,o+k*5+2,none⟩=some (.slice xa xn xc):=((HW _ HB).cell (p:=⟨b,o+k*5+2,none⟩) hb).trans g2;have e3:wr.cell? ⟨b,o+k*5+3,none⟩=some (.slice ya yn yc):=((HW _ HB).cell (p:=⟨b,o+k*5+3,none⟩) hb).trans g3;have e4:wr.cell? ⟨b,o+k*5+4,none⟩=some (.bool my):=((HW _ HB).cell (p:=⟨b,o+k*5+4,none⟩) hb).trans g4;clear g0 g1 g2 g3 g4 g5;generalize hte:textT (parts k)=te at *;have HTe:=ah hte;clear hte;go_wp2_with fail;go_at_call 38;refine (hcal _ (HB.alloc HB.size _)).mono ?_;rintro e w1 ⟨rfl,hb1⟩;have hbw:Below wr.heap.size wr w1:=((Below.refl _ wr).alloc (Nat.le_refl _) _).trans (hb1.mono (by simp));have HB1:Hid (Below W.heap.size W w1):=HB.trans (hbw.mono HB.size);have HO1:=own_below HO hbw;have hBa:Below w1.heap.size w1 (w1.alloc (.cells #[.string (strOf te)] 9)):=(Below.refl _ _).alloc (Nat.le_refl _) _;have HN:=ah (And.intro (own_below HO1 hBa) (And.intro (heap_alloc_new w1 (.cells #[.string (strOf te)] 9)) (And.intro (show W.heap.size≤(w1.alloc (.cells #[.string (strOf te)] 9)).heap.size from Nat.le_trans HB1.size hBa.size) (HB1.trans (hBa.mono HB1.size)))));clear hb1 HO1 hBa hbw hcal e0 e1 e2 e3 e4;go_wp2_with (at_builtin;refine list_str _ _ rfl rfl W.heap.size u4 k (strs ((List.range k).map λ i=>textT (parts i))) ?e1 ?e2 w1.heap.size (strOf te) ?e3 ?e4 (by omega) ?e5 ?_;(case e1=>rfl);(case e2=>exact HN.1);(case e3=>rfl);(case e4=>exact HN.2.1);(case e5=>exact HN.2.2.1);intro g cap w2 hown hgr;have HB2:Hid (Below W.heap.size W w2):=HN.2.2.2.grown hgr HN.2.2.1 (λ i hi=>(own_ge HN.1 i hi).1);have O1:=ah hown;clear hown hgr)
  go_roundw
  case rel=>
   refine⟨k+1,by omega,by go_num,HB2,?_⟩;have e:strs ((List.range (k+1)).map λ i=>textT (parts i))=strs ((List.range k).map λ i=>textT (parts i))++[.string (strOf te)]:=by unfold strs;rw[List.range_succ,List.map_append,List.map_append,← HTe.out];rfl
   show World.ownsRow _ _ _ _ _ _ _;rw[e];exact O1.out
  case measure=>simp [intOf];omega
 obtain rfl:k=l:=by omega
 have hlt':¬ (k:Int)<k:=by omega
 have hkk:(k:Int)<(k:Int)+1:=by omega
 cases many with
 | false=>
  have hjn:=λ w' (hw:Below W.heap.size W w') (ho:w'.ownsRow W.heap.size 9 1 u4 k (strs ((List.range k).map λ i=>textT (parts i))))=>join_row ((List.range k).map λ i=>textT (parts i)) W.heap.size u4 w' (by rw[List.length_map,List.length_range];exact ho) (by rw[List.length_map,List.length_range];omega) (by have:=hjl;rw[HJ.out,if_neg (by decide),List.append_nil] at this;omega);have HJN:=ah (hjn _ HB.drew HO);clear hjn;have e:Lib.join ((List.range k).map λ i=>textT (parts i)) [44]=jt:=by rw[HJ.out,if_neg (by decide),List.append_nil]
  rw[e] at HJN;have HBF:=HB;clear e;go_wp2;have hjn:=HJN.out;have hcl:=HCL.out;have HSb:Hid (∀w',Below W.heap.size W w'→(λ w'=>(∀oo,w'.cell? ⟨w.heap.size,oo,none⟩=(#[Value.int .i64 4,.string name,.slice na nn nc,.slice (some ⟨b,o,none⟩) (k+1) pc,.bool false])[oo]?)∧w'.cell? ⟨b,o+k*5,none⟩=some c0∧w'.cell? ⟨b,o+k*5+1,none⟩=some c1∧w'.cell? ⟨b,o+k*5+2,none⟩=some c2∧w'.cell? ⟨b,o+k*5+3,none⟩=some c3∧w'.cell? ⟨b,o+k*5+4,none⟩=some c4) w'):=λ w' hw=>⟨HXc w' hw,((HW w' hw).cell (p:=⟨b,o+k*5,none⟩) hb).trans HG.1,((HW w' hw).cell (p:=⟨b,o+k*5+1,none⟩) hb).trans HG.2.1,((HW w' hw).cell (p:=⟨b,o+k*5+2,none⟩) hb).trans HG.2.2.1,((HW w' hw).cell (p:=⟨b,o+k*5+3,none⟩) hb).trans HG.2.2.2.1,((HW w' hw).cell (p:=⟨b,o+k*5+4,none⟩) hb).trans HG.2.2.2.2⟩
  refine wp_region_held_drew (S:=(λ w'=>(∀oo,w'.cell? ⟨w.heap.size,oo,none⟩=(#[Value.int .i64 4,.string name,.slice na nn nc,.slice (some ⟨b,o,none⟩) (k+1) pc,.bool false])[oo]?)∧w'.cell? ⟨b,o+k*5,none⟩=some c0∧w'.cell? ⟨b,o+k*5+1,none⟩=some c1∧w'.cell? ⟨b,o+k*5+2,none⟩=some c2∧w'.cell? ⟨b,o+k*5+3,none⟩=some c3∧w'.cell? ⟨b,o+k*5+4,none⟩=some c4)) (by kernel_rfl) (HSb _ HBF.drew) (λ hHeld=>?_);refine th 0 ?_;refine th 4 ?_;refine th 5 ?_;refine th 6 ?_;refine th 7 ?_;refine th 8 ?_;refine wpAnyH_ready (rs:=[1]) (by kernel_rfl) (by simp) ?_;refine AllReadyH.cons rfl (λ K hK=>?_) AllReadyH.nil;go_simp;refine hjn.mono ?_;rintro e w5 ⟨rfl,hb5⟩;have HB5:Hid (Below W.heap.size W w5):=HBF.drew.trans (hb5.mono HBF.drew.size);refine hK.out _ _ (HSb _ HB5) (λ hHeld1=>?_);clear hK K hb5;try simp only[qq]
  refine wpAnyH_take (i:=2) (v:=?_) rfl (by kernel_rfl) (by kernel_rfl) (by kernel_rfl) (λ_ _ _ h=>h) (Or.inl ⟨by rfl,?_⟩) (by assumption) ?_;rotate_left
  ·(intro w hSw;(try dsimp only at hSw);go_simp;rw[if_neg (by omega)])<;>with_reducible rfl
  simp only[qq];refine wpAnyH_take (i:=3) (v:=?_) rfl (by kernel_rfl) (by kernel_rfl) (by kernel_rfl) (λ_ _ _ h=>h) (Or.inl ⟨by rfl,?_⟩) (by assumption) ?_;rotate_left
  ·(intro w hSw;(try dsimp only at hSw);go_simp;rw[if_neg (by omega)])<;>with_reducible rfl
  simp only[qq];refine wpAnyH_ready (rs:=[9]) (by kernel_rfl) (by simp) ?_;refine AllReadyH.cons rfl (λ K hK=>?_) AllReadyH.nil;go_simp;refine (hcl _ HB5).mono ?_;rintro e w6 ⟨rfl,hb6⟩;have HB6:Hid (Below W.heap.size W w6):=HB5.trans (hb6.mono HB5.size);refine hK.out _ _ (HSb _ HB6) (λ hHeld2=>?_);clear hK K hb6;try simp only[qq]
  refine wpAnyH_take (i:=10) (v:=?_) rfl (by kernel_rfl) (by kernel_rfl) (by kernel_rfl) (λ_ _ _ h=>h) (Or.inl ⟨by rfl,?_⟩) (by assumption) ?_;rotate_left
  ·(intro w hSw;(try dsimp only at hSw);go_simp;rw[if_neg (by omega)])<;>with_reducible rfl
  simp only[qq];refine th 11 ?_;refine wpAnyH_done (by kernel_rfl) ?_ _;go_wp2;go_ret
  refine⟨?_,HW _ HB6⟩;rw[HE.out];exact congrArg (λ x=>Ending.returned (Value.string x)) (bytes_inj (by rw[aR,aR,aR,dQ,dQ,dQ,HJT.out];simp only[List.append_assoc];rfl))
 | true=>
  have hBa:Below wr.heap.size wr (wr.alloc (.cells #[.string ⟨#[46,46,46]⟩] 9)):=(Below.refl _ _).alloc (Nat.le_refl _) _;have HN:=ah (And.intro (own_below HO hBa) (And.intro (heap_alloc_new wr (.cells #[.string ⟨#[46,46,46]⟩] 9)) (And.intro (show W.heap.size≤(wr.alloc (.cells #[.string ⟨#[46,46,46]⟩] 9)).heap.size from Nat.le_trans HB.size hBa.size) (HB.trans (hBa.mono HB.size)))));clear hBa;go_wp2_with (at_builtin;refine list_str _ _ rfl rfl W.heap.size u4 k (strs ((List.range k).map λ i=>textT (parts i))) ?e1 ?e2 wr.heap.size ⟨#[46,46,46]⟩ ?e3 ?e4 (by omega) ?e5 ?_;(case e1=>rfl);(case e2=>exact HN.1);(case e3=>rfl);(case e4=>exact HN.2.1);(case e5=>exact HN.2.2.1);intro g cap w2 hown hgr;have HBF:Hid (Below W.heap.size W w2):=HN.2.2.2.grown hgr HN.2.2.1 (λ i hi=>(own_ge HN.1 i hi).1);have O1:=ah hown;clear hown hgr)
  have hcl:=HCL.out;have e:Lib.join ((List.range k).map (λ i=>textT (parts i))++[[46,46,46]]) [44]=jt:=by rw[HJ.out];simp
  have hjn:=join_row ((List.range k).map (λ i=>textT (parts i))++[[46,46,46]]) W.heap.size (.slice (some ⟨g,0,none⟩) (k+1) cap) w2.drew (by
   rw[List.length_append,List.length_map,List.length_range];have e2:strs ((List.range k).map (λ i=>textT (parts i))++[[46,46,46]])=strs ((List.range k).map λ i=>textT (parts i))++[.string ⟨#[46,46,46]⟩]:=by unfold strs;rw[List.map_append];rfl
   rw[e2];exact O1.out) (by rw[List.length_append,List.length_map,List.length_range];show k+1≤1000;omega) (by rw[e];omega)
  rw[e] at hjn;clear e;have HSb:Hid (∀w',Below W.heap.size W w'→(λ w'=>(∀oo,w'.cell? ⟨w.heap.size,oo,none⟩=(#[Value.int .i64 4,.string name,.slice na nn nc,.slice (some ⟨b,o,none⟩) (k+1) pc,.bool true])[oo]?)∧w'.cell? ⟨b,o+k*5,none⟩=some c0∧w'.cell? ⟨b,o+k*5+1,none⟩=some c1∧w'.cell? ⟨b,o+k*5+2,none⟩=some c2∧w'.cell? ⟨b,o+k*5+3,none⟩=some c3∧w'.cell? ⟨b,o+k*5+4,none⟩=some c4) w'):=λ w' hw=>⟨HXc w' hw,((HW w' hw).cell (p:=⟨b,o+k*5,none⟩) hb).trans HG.1,((HW w' hw).cell (p:=⟨b,o+k*5+1,none⟩) hb).trans HG.2.1,((HW w' hw).cell (p:=⟨b,o+k*5+2,none⟩) hb).trans HG.2.2.1,((HW w' hw).cell (p:=⟨b,o+k*5+3,none⟩) hb).trans HG.2.2.2.1,((HW w' hw).cell (p:=⟨b,o+k*5+4,none⟩) hb).trans HG.2.2.2.2⟩
  refine wp_region_held_drew (S:=(λ w'=>(∀oo,w'.cell? ⟨w.heap.size,oo,none⟩=(#[Value.int .i64 4,.string name,.slice na nn nc,.slice (some ⟨b,o,none⟩) (k+1) pc,.bool true])[oo]?)∧w'.cell? ⟨b,o+k*5,none⟩=some c0∧w'.cell? ⟨b,o+k*5+1,none⟩=some c1∧w'.cell? ⟨b,o+k*5+2,none⟩=some c2∧w'.cell? ⟨b,o+k*5+3,none⟩=some c3∧w'.cell? ⟨b,o+k*5+4,none⟩=some c4)) (by kernel_rfl) (HSb _ HBF.drew) (λ hHeld=>?_);refine th 0 ?_;refine th 4 ?_;refine th 5 ?_;refine th 6 ?_;refine th 7 ?_;refine th 8 ?_;refine wpAnyH_ready (rs:=[1]) (by kernel_rfl) (by simp) ?_;refine AllReadyH.cons rfl (λ K hK=>?_) AllReadyH.nil;go_simp;refine hjn.mono ?_;rintro e w5 ⟨rfl,hb5⟩;have HB5:Hid (Below W.heap.size W w5):=HBF.drew.trans (hb5.mono HBF.drew.size);refine hK.out _ _ (HSb _ HB5) (λ hHeld1=>?_);clear hK K hb5;try simp only[qq]
  refine wpAnyH_take (i:=2) (v:=?_) rfl (by kernel_rfl) (by kernel_rfl) (by kernel_rfl) (λ_ _ _ h=>h) (Or.inl ⟨by rfl,?_⟩) (by assumption) ?_;rotate_left
  ·(intro w hSw;(try dsimp only at hSw);go_simp;rw[if_neg (by omega)])<;>with_reducible rfl
  simp only[qq];refine wpAnyH_take (i:=3) (v:=?_) rfl (by kernel_rfl) (by kernel_rfl) (by kernel_rfl) (λ_ _ _ h=>h) (Or.inl ⟨by rfl,?_⟩) (by assumption) ?_;rotate_left
  ·(intro w hSw;(try dsimp only at hSw);go_simp;rw[if_neg (by omega)])<;>with_reducible rfl
  simp only[qq];refine wpAnyH_ready (rs:=[9]) (by kernel_rfl) (by simp) ?_;refine AllReadyH.cons rfl (λ K hK=>?_) AllReadyH.nil;go_simp;refine (hcl _ HB5).mono ?_;rintro e w6 ⟨rfl,hb6⟩;have HB6:Hid (Below W.heap.size W w6):=HB5.trans (hb6.mono HB5.size);refine hK.out _ _ (HSb _ HB6) (λ hHeld2=>?_);clear hK K hb6;try simp only[qq]
  refine wpAnyH_take (i:=10) (v:=?_) rfl (by kernel_rfl) (by kernel_rfl) (by kernel_rfl) (λ_ _ _ h=>h) (Or.inl ⟨by rfl,?_⟩) (by assumption) ?_;rotate_left
  ·(intro w hSw;(try dsimp only at hSw);go_simp;rw[if_neg (by omega)])<;>with_reducible rfl
  simp only[qq];refine th 11 ?_;refine wpAnyH_done (by kernel_rfl) ?_ _;go_wp2;go_ret
  refine⟨?_,HW _ HB6⟩;rw[HE.out];exact congrArg (λ x=>Ending.returned (Value.string x)) (bytes_inj (by rw[aR,aR,aR,dQ,dQ,dQ,HJT.out];simp only[List.append_assoc];rfl))
end
end Go.Proofs.YtdnhbedbpbgeeaaGreatDoor.T
