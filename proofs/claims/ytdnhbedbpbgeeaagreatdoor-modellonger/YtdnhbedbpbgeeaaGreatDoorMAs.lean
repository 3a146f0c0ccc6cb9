/- 18 -/
import Derived.Test.YtdnhbedbpbgeeaaGreatDoorMAr
set_option maxRecDepth 100000
set_option maxHeartbeats 8000000
set_option linter.all false
namespace Go.Proofs.YtdnhbedbpbgeeaaGreatDoor.K
open Go.RowKit Go.Proofs.Tryz
variable {F F0 : List (NM × NM)} {l sg : List ByteArray} {j : Jn} {q k a c mb i dm nn pn pc N : Nat} {α β γ : Type} {s : Cs} {us : List Uq} {d n : Nd} {name nm : ByteArray} {x0 x1 x2 x3 x4 x5 x6 x7 x8 : Value} {many : Bool} {st me me' : NM} {u : Uq} {pa : Option Addr} {fn : Func} {w : World} {y : Int} {x : α}
variable {B : Bs} {w' : World} {L : List Rs}
theorem TyH.congr {H : Snap} {cs : List Value} {kind : Int} {names : Nat→ByteArray} {parts : Nat→T.Ty} (h:TyH H cs (.mk kind name nn names pn parts many)):∃a c pa pc,cs=tyc kind name a nn c pa pn pc many∧(∃e1,SlP StE (.slice a nn c) e1 1 ((List.range nn).map names) H)∧∃e2,SlP TyE (.slice pa pn pc) e2 5 ((List.range pn).map parts) H:=by
 cases h with
 | mk _ _ _ _ _ _ _ a c pa pc b1 o1 cur1 e1 f1 b o cur e f E h1 h2 h3 h4 h5 h6=>
  refine⟨a,c,pa,pc,rfl,⟨e1,a,c,by simp,by simp only[List.length_map,List.length_range];omega,by unfold maxLen;omega,λ hne=>?_⟩,e,pa,pc,by simp,by simp only[List.length_map,List.length_range];omega,by unfold maxLen;omega,λ hne=>?_⟩
  ·have hn:0<nn:=Nat.pos_of_ne_zero λ e=>hne (by subst e;rfl);obtain⟨q1,q2,q3⟩:=h1 hn;refine⟨b1,o1,cur1,f1,q1,q2,λ j hj=>?_⟩;simp only[List.length_map,List.length_range] at hj;exact⟨[.string (names j)],rfl,λ i hi=>by
    obtain rfl:i=0:=by omega
    simpa using q3 j hj,by simp only[List.getElem_map,List.getElem_range];exact⟨rfl,h6.2.2.2.2.2.1 j hj⟩⟩
  have hn:0<pn:=Nat.pos_of_ne_zero λ e=>hne (by subst e;rfl);obtain⟨q1,q2⟩:=h2 hn;refine⟨b,o,cur,f,q1,q2,λ j hj=>?_⟩;simp only[List.length_map,List.length_range] at hj;exact⟨E j,h3 j hj,λ i hi=>h4 j i hj hi,by simp only[List.getElem_map,List.getElem_range];exact h5 j hj⟩
theorem Fr.tyRows (h:Fr B w L) (i:Nat) {kind : Int} {names : Nat→ByteArray} {parts : Nat→T.Ty} {a : Option Addr} (hi:L[i]?=some (.el TyE [.int .i64 kind,.string nm,.slice a nn c,.slice pa pn pc,.bool many] (.mk kind name nn names pn parts many))):
  nm=name∧∃e1 e2,Fr B w (.sl StE (.slice a nn c) e1 1 ((List.range nn).map names)::.sl TyE (.slice pa pn pc) e2 5 ((List.range pn).map parts)::L):=by
 obtain⟨H,h⟩:=h;obtain⟨a',c',pa',pc',e,⟨e1,h1⟩,e2,h2⟩:=TyH.congr (show TyH H _ _ from h.ok _ (List.mem_of_getElem? hi));cases e;exact⟨rfl,e1,e2,H,(h.free (r:=.sl TyE (.slice pa pn pc) e2 5 ((List.range pn).map parts)) h2 λ q hq=>hq).free (r:=.sl StE (.slice a nn c) e1 1 ((List.range nn).map names)) h1 λ q hq=>hq⟩
theorem Fr.tyBack (h:Fr B w L) (i j m:Nat) {kind : Int} {names : Nat→ByteArray} {parts : Nat→T.Ty} {cs : List Value} {a : Option Addr} (hi:L[i]?=some (.sl StE (.slice a nn c) 9 1 ((List.range nn).map names))) (hj:L[j]?=some (.sl TyE (.slice pa pn pc) 83 5 ((List.range pn).map parts))) (hm:L[m]?=some (.el TyE cs (.mk kind name nn names pn parts many))):
  Fr B w (.el TyE (tyc kind name a nn c pa pn pc many) (.mk kind name nn names pn parts many)::L):=
 h.know (K:=[_]) λ H w0 hr x hx=>by
  obtain rfl:=List.mem_singleton.1 hx;refine⟨?_,λ q hq=>hq⟩;have h1:SlP StE (.slice a nn c) 9 1 ((List.range nn).map names) H:=hr _ (List.mem_of_getElem? hi);have h2:SlP TyE (.slice pa pn pc) 83 5 ((List.range pn).map parts) H:=hr _ (List.mem_of_getElem? hj);have h3:TyH H cs (.mk kind name nn names pn parts many):=hr _ (List.mem_of_getElem? hm);obtain⟨a1,c1,e1,a2,a3,a4⟩:=h1;obtain⟨b1,d1,f1,b2,b3,b4⟩:=h2;rw[List.length_map,List.length_range] at e1 f1;cases e1;cases f1;simp only[List.length_map,List.length_range] at a2 b2 a4 b4;unfold maxLen at a3 b3;cases h3 with
  | mk _ _ _ _ _ _ _ _ _ _ _ _ _ _ _ _ _ _ _ _ _ _ _ _ _ _ _ h6=>
   have hs:∃(g o:Nat) (cur:Array Value) (f:Nat × Nat),0<nn→a=some ⟨g,o,none⟩∧H g=some (.cells cur 9 f)∧∀j,j<nn→cur[o+j]?=some (.string (names j)):=by
    by_cases hn:nn=0
    ·exact⟨0,0,#[],(0,0),λ h=>absurd h (by omega)⟩
    obtain⟨g,o,cur,f,q1,q2,q3⟩:=a4 (λ e=>hn (by have:=congrArg List.length e;simpa using this));refine⟨g,o,cur,f,λ_=>⟨q1,q2,λ j hj=>?_⟩⟩;obtain⟨cs,p1,p2,p3⟩:=q3 j hj;simp only[List.getElem_map,List.getElem_range] at p3;have:=p2 0 (by omega);rw[p3.1] at this;simpa using this
   have hp:∃(g o:Nat) (cur:Array Value) (f:Nat × Nat) (E:Nat→List Value),(0<pn→pa=some ⟨g,o,none⟩∧H g=some (.cells cur 83 f))∧(∀j,j<pn→(E j).length=5)∧(∀j i,j<pn→i<5→cur[o+j*5+i]?=(E j)[i]?)∧∀j,j<pn→TyH H (E j) (parts j):=by
    by_cases hn:pn=0
    ·exact⟨0,0,#[],(0,0),λ_=>[],λ h=>absurd h (by omega),λ j hj=>absurd hj (by omega),λ j i hj=>absurd hj (by omega),λ j hj=>absurd hj (by omega)⟩
    obtain⟨g,o,cur,f,q1,q2,q3⟩:=b4 (λ e=>hn (by have:=congrArg List.length e;simpa using this));refine⟨g,o,cur,f,λ j=>if hj:j<pn then (q3 j hj).choose else [],λ_=>⟨q1,q2⟩,λ j hj=>?_,λ j i hj hi=>?_,λ j hj=>?_⟩
    ·dsimp only;rw[dif_pos hj];exact (q3 j hj).choose_spec.1
    ·dsimp only;rw[dif_pos hj];exact (q3 j hj).choose_spec.2.1 i hi
    dsimp only;rw[dif_pos hj];have h5:=(q3 j hj).choose_spec.2.2;have h7:parts j=((List.range pn).map parts)[j]'(by simpa using hj):=by simp
    rw[h7];exact h5
   obtain⟨g,o,cur,f,hs⟩:=hs;obtain⟨g2,o2,cur2,f2,E,hp1,hp2,hp3,hp4⟩:=hp;exact .mk kind name nn names pn parts many a c pa pc g o cur 9 f g2 o2 cur2 83 f2 E hs hp1 hp2 hp3 hp4 ⟨h6.1,h6.2.1,h6.2.2.1,h6.2.2.2.1,h6.2.2.2.2.1,h6.2.2.2.2.2.1,a2,a3,b2,b3⟩
theorem st_one (H:Snap) (c:List Value) (x:ByteArray) (h:StE.p H c x):c.all (λ u=>u.oneCell')=true:=by
 obtain⟨rfl,_⟩:=h;rfl
theorem ty_one' (H:Snap) (c:List Value) (x:T.Ty) (h:TyE.p H c x):c.all (λ u=>u.oneCell')=true:=by
 have h:TyH H c x:=h;cases h;rfl
theorem clone80_no (a:Option Addr) (c:Nat) (w:World):Calls prog 80 #[.slice a 0 c] w λ e' w'=>∃v',e'=.returned v'∧w'.ownsRow w.heap.size 83 5 v' 0 []∧Below w.heap.size w w':=by
 obtain⟨i0,hi,hz0,hz1,hz2⟩:=gF fZ;have q22:∀(w:World) (a:Option Addr) (n c n' c':Nat),(binOp .eql 81 (.slice a n c) (.slice none n' c')).run prog w=.ok (.bool a.isNone) w:=λ w a n c n' c'=>Lib.run_eql_slice_nil w _ _ a n c n' c' underlying81;cases a with
 | none=>
  go_enter func80,ntmps80;go_wp2;go_ret
  exact⟨.slice none 0 0,rfl,⟨by simp,Or.inl ⟨rfl,rfl⟩⟩,Below.refl _ w⟩
 | some a=>
  go_enter func80,ntmps80;go_wp2_with (at_builtin;refine wpList_append_own _ rfl _ _ 81 rfl w.heap.size 83 i0 _ 5 80 underlying81 hi hz0 hz1 hz2 rfl (by decide) _ _ _ rfl (World.ownsRow_made w #[] 0 (Nat.le_refl _) (Nat.zero_le _) (by simp)) a 0 c [] rfl ?qc1 ?qc2 ?qc3 ?qc4 ?qc5 ?qc6 ?_)
  case qc1=>rfl
  case qc2=>intro j u hj;simp at hj
  case qc3=>simp
  case qc4=>exact Nat.zero_le _
  case qc5=>simp
  case qc6=>simp
  intro v' w1 hown hgrow hnil;go_wp2;go_ret
  refine⟨v',rfl,by simpa using hown,?_⟩;exact ((Below.refl _ w).alloc (Nat.le_refl _) _).grown hgrow (by simp) (by intro k hk;simp [Value.ownBlock] at hk;omega)
theorem clone79_no (a:Option Addr) (c:Nat) (w:World):Calls prog 79 #[.slice a 0 c] w λ e' w'=>∃v',e'=.returned v'∧w'.ownsRow w.heap.size 9 1 v' 0 []∧Below w.heap.size w w':=by
 obtain⟨i0,hi,hz0,hz1,hz2⟩:=gF T.info9;have q22:∀(w:World) (a:Option Addr) (n c n' c':Nat),(binOp .eql 22 (.slice a n c) (.slice none n' c')).run prog w=.ok (.bool a.isNone) w:=λ w a n c n' c'=>Lib.run_eql_slice_nil w _ _ a n c n' c' underlying22;cases a with
 | none=>
  go_enter func79,ntmps79;go_wp2;go_ret
  exact⟨.slice none 0 0,rfl,⟨by simp,Or.inl ⟨rfl,rfl⟩⟩,Below.refl _ w⟩
 | some a=>
  go_enter func79,ntmps79;go_wp2_with (at_builtin;refine wpList_append_own _ rfl _ _ 22 rfl w.heap.size 9 i0 _ 1 16 underlying22 hi hz0 hz1 hz2 rfl (by decide) _ _ _ rfl (World.ownsRow_made w #[] 0 (Nat.le_refl _) (Nat.zero_le _) (by simp)) a 0 c [] rfl ?qc1 ?qc2 ?qc3 ?qc4 ?qc5 ?qc6 ?_)
  case qc1=>rfl
  case qc2=>intro j u hj;simp at hj
  case qc3=>simp
  case qc4=>exact Nat.zero_le _
  case qc5=>simp
  case qc6=>simp
  intro v' w1 hown hgrow hnil;go_wp2;go_ret
  refine⟨v',rfl,by simpa using hown,?_⟩;exact ((Below.refl _ w).alloc (Nat.le_refl _) _).grown hgrow (by simp) (by intro k hk;simp [Value.ownBlock] at hk;omega)
theorem clone_els2 {E : El α} {F : FuncId} {e e' : TypeId} {z : Nat} (hC:CloneH F e z) (hN:∀(a:Option Addr) (c:Nat) (w:World),Calls prog F #[.slice a 0 c] w λ e' w'=>∃v',e'=.returned v'∧w'.ownsRow w.heap.size e z v' 0 []∧Below w.heap.size w w') (hz0:0<z) (hone:∀H c x,E.p H c x→c.all (λ u=>u.oneCell')=true) (h:Fr B w L) (i:Nat) {a : Option Addr} {n : Nat} {l : List α} (hi:L[i]?=some (.sl E (.slice a n c) e' z l)) (hl:n=l.length) (hn:l.length≤16000):
  Calls prog F #[.slice a n c] w λ e' w'=>∃v',e'=.returned v'∧Fr B w' (.els E v' e z l::L):=by
 by_cases hne:l=[]
 ·subst hne;subst hl;refine (hN a c w).mono ?_;rintro e' w' ⟨v',rfl,hv,hb⟩;exact⟨v',rfl,h.takeEls (css:=[]) hb rfl (by simp) hv λ H hH j hj=>by simp at hj⟩
 have hF:=h;obtain⟨H,h⟩:=h;obtain⟨g,o,cur,f,css,rfl,rfl,h1,h2,h3,h4,h5⟩:=sl_css (h.ok _ (List.mem_of_getElem? hi)) hz0 hne;have hlen:css.flatten.length=l.length*z:=by rw[flat_len h3,h2]
 refine (hC g o l.length c css.flatten w hlen hn (λ j u hu=>(aA (h.snap _ _ h1) _).trans (h4 j u hu)) λ u hu=>?_).mono ?_
 ·obtain⟨x,hx,hu⟩:=List.mem_flatten.1 hu;obtain⟨j,hj,rfl⟩:=List.getElem_of_mem hx;exact List.all_eq_true.1 (hone H _ _ (h5 j (by omega) hj)) u hu
 rintro e' w' ⟨v',rfl,hv,hb⟩;refine⟨v',rfl,?_⟩;refine⟨H,h.new hb (r:=.els E v' e z l) ⟨css,h2,h3,⟨hv.1,?_⟩,h5⟩ λ q hq=>(World.ownsRow.lt hv q hq).1⟩;rcases hv.2 with h2|⟨g,cap,cur,hv,hg,r⟩
 ·exact Or.inl h2
 exact Or.inr ⟨g,cap,cur,hv,Nat.zero_le _,r⟩
section
variable (h:Fr B w L) (i:Nat) {T : TypeId} (hi:L[i]?=some (.blk q #[x0,x1,x2,x3,x4] T)) (v:Value)
include h hi v
theorem Fr.set52:Fr B (w.setCell ⟨q,2,none⟩ v) (L.set i (.blk q #[x0,x1,v,x3,x4] T)):=by simpa using h.set i hi 2 v
theorem Fr.set53:Fr B (w.setCell ⟨q,3,none⟩ v) (L.set i (.blk q #[x0,x1,x2,v,x4] T)):=by simpa using h.set i hi 3 v
end
def PTv (t:T.Ty)(nm:ByteArray)(B:Bs)(L:List Rs)(e:Ending)(w':World):Prop:=∃a c pa pc,e=.returned (.agg #[.int .i64 (tyk t),.string nm,.slice a (tnn t) c,.slice pa (tpn t) pc,.bool (tmy t)])∧Fr B w' (.el TyE [.int .i64 (tyk t),.string nm,.slice a (tnn t) c,.slice pa (tpn t) pc,.bool (tmy t)] t::L)
def CloneT (d:Nat):Prop:=∀{B:Bs} {w:World} {L:List Rs} {t:T.Ty} {nm:ByteArray} {a pa:Option Addr} {c pc:Nat} (hm:T.mayN d t=true) (h:Fr B w L) (i:Nat) (hi:L[i]?=some (.el TyE [.int .i64 (tyk t),.string nm,.slice a (tnn t) c,.slice pa (tpn t) pc,.bool (tmy t)] t)),
 Calls prog 53 #[.agg #[.int .i64 (tyk t),.string nm,.slice a (tnn t) c,.slice pa (tpn t) pc,.bool (tmy t)]] w (PTv t nm B L)
theorem map_set {n : Nat} {f : Nat→α}:((List.range n).map f).set k (f k)=(List.range n).map f:=by
 apply List.ext_getElem
 ·simp
 intro i h1 h2;simp only[List.length_set,List.length_map,List.length_range] at h1;by_cases e:k=i
 ·subst e;simp
 rw[List.getElem_set_ne e]
theorem clone_step {d : Nat} (ih:CloneT d):CloneT (d+1):=by
 intro B w L t nm a pa c pc hm h i hi;cases t with
 | leaf=>rw[T.mayN] at hm;cases hm
 | mk kind name nn names pn parts many=>
  obtain⟨hp7,hn6,hps⟩:pn≤7∧nn≤6∧∀j,j<pn→T.mayN d (parts j)=true:=by
   rw[T.mayN] at hm;simp only[Bool.and_eq_true,decide_eq_true_eq,List.all_eq_true,List.mem_range] at hm;exact⟨hm.1.1.1,hm.1.1.2,hm.1.2⟩
  dsimp only [tyk,tnn,tpn,tmy] at hi ⊢;obtain⟨rfl,E1,E2,hF⟩:=(h.dup i hi).tyRows 0 rfl;have HPS:=ah hps;have HF:=hF;clear h hi hm hps hF;go_enter func53,ntmps53;replace HF:=aT HF w.heap.size kind nm a nn c pa pn pc many;replace HF:=aT HF (w.heap.size+1) 0 ⟨#[]⟩ none 0 0 none 0 0 false;go_wp2;refine regK [7,8,9] HF (λ w h=>(h.cell 1 rfl)) (λ wd1 HF hC=>?_);refine tq4 0 1 3 4 ?_;refine rq 2 λ K hK=>?_;go_simp;refine (clone_els2 clone79 clone79_no (by decide) st_one HF 2 rfl (by simp) (by simp only[List.length_map,List.length_range];omega)).mono ?_;rintro e w1 ⟨nv,rfl,hf⟩;obtain⟨na,nc,rfl,-,-⟩:=hf.elsForm 0 rfl;rw[show ((List.range nn).map names).length=nn by simp] at hf ⊢;replace HF:=hf.give 0 rfl;clear hf;refine uq hK (HF.cell 2 rfl) λ hC=>?_;refine tq 6 ?_;refine rq 5 λ K hK=>?_;go_simp;refine (clone_els2 clone80 clone80_no (by decide) ty_one' HF 4 rfl (by simp) (by simp only[List.length_map,List.length_range];omega)).mono ?_;rintro e w5 ⟨pv,rfl,hf⟩;obtain⟨pa2,pc2,rfl,hpl,-⟩:=hf.elsForm 0 rfl;rw[show ((List.range pn).map parts).length=pn by simp] at hf hpl ⊢;replace HF:=hf;clear hf;refine uq hK (HF.cell 3 rfl) λ hC=>?_;refine rqb 7 λ K hK=>?_;obtain⟨c_r,f_r⟩:=cf HF 3;replace HF:=HF.set52 3 rfl (.slice na nn nc);go_simp;clear c_r f_r;refine ub hK ?_;refine tqP 8 ?_;refine rqb 9 λ K hK=>?_;obtain⟨c_r,f_r⟩:=cf HF 3;replace HF:=HF.set53 3 rfl (.slice pa2 pn pc2);go_simp;clear c_r f_r;refine ub hK ?_;refine dq ?_;generalize hWm:((w5.setCell ⟨w.heap.size,2,none⟩ (.slice na nn nc)).setCell ⟨w.heap.size,3,none⟩ (.slice pa2 pn pc2))=wm at HF ⊢;clear hWm;have c_t1:=HF.cell 3 rfl;go_wp2;clear c_t1;go_loopw [3,4,16] (λ_ _ iv wr=>Hid (∃k:Nat,k≤pn∧iv=.int .i64 (k:Int)∧Fr B wr (.els TyE (.slice pa2 pn pc2) 83 5 ((List.range pn).map parts)::.sl StE (.slice na nn nc) 9 1 ((List.range nn).map names)::.blk (w.heap.size+1) #[.int .i64 0,.string ⟨#[]⟩,.slice none 0 0,.slice none 0 0,.bool false] 83::.blk w.heap.size #[.int .i64 kind,.string nm,.slice na nn nc,.slice pa2 pn pc2,.bool many] 83::.el TyE [.int .i64 kind,.string nm,.slice a nn c,.slice pa pn pc,.bool many] (.mk kind nm nn names pn parts many)::L))) (λ_ _ iv _=>pn - (intOf iv).toNat)
  case atStart=>exact ah ⟨0,Nat.zero_le _,rfl,HF.lose⟩
  clear HF;obtain⟨k,hk,rfl,hf⟩:=hrel.out;clear hrel;have HF:=hf;clear hf;by_cases hlt:k<pn
  ·have HP:=ah (HPS k hlt);have hlb:(k:Int)<(pn:Int):=by omega
   obtain⟨g,ha,-,-,cs,hcl,hcc,hf⟩:=HF.elsGet 0 rfl k (by simpa using hlt);rw[show ((List.range pn).map parts)[k]'(by simpa using hlt)=parts k by simp] at hf;subst ha;obtain⟨x0,x1,x2,x3,x4,rfl⟩:=five_of hcl;obtain⟨nm_y,a_y,c_y,pa_y,pc_y,rfl,rfl,rfl,rfl,rfl⟩:=hf.tyForm5 0 rfl;have e0:wr.cell? ⟨g,k*5,none⟩=some (.int .i64 (tyk (parts k))):=hcc 0 (by omega);have e1:wr.cell? ⟨g,k*5+1,none⟩=some (.string nm_y):=hcc 1 (by omega);have e2:wr.cell? ⟨g,k*5+2,none⟩=some (.slice a_y (tnn (parts k)) c_y):=hcc 2 (by omega);have e3:wr.cell? ⟨g,k*5+3,none⟩=some (.slice pa_y (tpn (parts k)) pc_y):=hcc 3 (by omega);have e4:wr.cell? ⟨g,k*5+4,none⟩=some (.bool (tmy (parts k))):=hcc 4 (by omega);replace HF:=hf;clear hf hcc hcl;replace HF:=aT HF wr.heap.size (tyk (parts k)) nm_y a_y (tnn (parts k)) c_y pa_y (tpn (parts k)) pc_y (tmy (parts k));have c_t4:=HF.cell 0 rfl;have c_t1:=HF.cell 5 rfl;go_wp2;clear e0 e1 e2 e3 e4 c_t4 c_t1;refine regK [] HF (λ w h=>aI (h.cell 5 rfl) (h.cell 0 rfl)) (λ wd11 HF hC=>?_);refine tq4 0 1 2 3 ?_;refine rq 4 λ K hK=>?_;go_simp;refine (ih HP HF 1 rfl).mono ?_;rintro e w6 ⟨a_z,c_z,pa_z,pc_z,rfl,HF⟩;refine uq hK ⟨(HF.cell 6 rfl),(HF.cell 1 rfl)⟩ λ hC=>?_;refine tq 5 ?_;refine rq 6 λ K hK=>?_;obtain⟨g',ha',-,hfz,cs,hcl,hcc,-⟩:=HF.elsGet 3 rfl k (by simpa using hlt);cases ha';have HFF:=HF.put5 3 rfl k (by simpa using hlt) (x:=parts k) 0 rfl (o:=k*5) rfl rfl rfl rfl rfl;rw[map_set] at HFF;obtain⟨x0,x1,x2,x3,x4,rfl⟩:=five_of hcl;have e0:=hcc 0 (by omega);have e1:=hcc 1 (by omega);have e2:=hcc 2 (by omega);have e3:=hcc 3 (by omega);have e4:=hcc 4 (by omega);simp only[Nat.add_zero,List.getElem?_cons_zero,List.getElem?_cons_succ] at e0 e1 e2 e3 e4;replace HF:=HFF;clear HFF hcc;go_simp;clear e0 e1 e2 e3 e4 hfz;refine uq hK ⟨(HF.cell 6 rfl),(HF.cell 1 rfl)⟩ λ hC=>?_;refine dq ?_;have HLT:=ah hlt;go_wp2;exact⟨ah ⟨k+1,HLT,rfl,HF.lose⟩,by simp only[intOf];omega⟩
  have hkn:k=pn:=by omega
  subst hkn;have hli:¬ (k:Int)<(k:Int):=by omega
  have c_t1:=HF.cell 3 rfl;obtain⟨c_t2,f_t2⟩:=cf HF 2;have hG:=HF.nd5 2 rfl (.int .i64 kind) (.string nm) (.slice na nn nc) (.slice pa2 k pc2) (.bool many);go_wp2;clear c_t1 c_t2 f_t2;have hG2:=(hG.give 0 rfl).tyBack 1 0 4 rfl rfl rfl;refine br (rt83 results53 rfl (hG.blkAt 2 rfl)) ?_;exact⟨na,nc,pa2,pc2,rfl,hG2.lose⟩
theorem clone_zero:CloneT 0:=by
 intro B w L t nm a pa c pc hm h i hi;rw[T.mayN] at hm;cases hm
theorem clone_all:∀d,CloneT d
 | 0=>clone_zero
 | d+1=>clone_step (clone_all d)
theorem clone36 {t : T.Ty} {a : Option Addr} (hm:may t=true) (h:Fr B w L) (i:Nat) (hi:L[i]?=some (.el TyE [.int .i64 (tyk t),.string nm,.slice a (tnn t) c,.slice pa (tpn t) pc,.bool (tmy t)] t)):Calls prog 36 #[.agg #[.int .i64 (tyk t),.string nm,.slice a (tnn t) c,.slice pa (tpn t) pc,.bool (tmy t)]] w (PTv t nm B L):=by
 have HM:=ah hm;have HF:=h.dup i hi;clear h hi hm;go_enter func36,ntmps36;replace HF:=aT HF w.heap.size (tyk t) nm a (tnn t) c pa (tpn t) pc (tmy t);replace HF:=aT HF (w.heap.size+1) 0 ⟨#[]⟩ none 0 0 none 0 0 false;have c_t1:=HF.cell 1 rfl;go_wp2_with fail;clear c_t1;go_at_call 37;refine (may37 HF 2 rfl).mono ?_;rintro e w1 ⟨rfl,hf⟩;rw[HM.out];replace HF:=hf;clear hf;have c_t1:=HF.cell 1 rfl;go_wp2_with fail;clear c_t1;go_at_call 53;refine (clone_all 4 HM HF 2 rfl).mono ?_;rintro e w2 ⟨a_z,c_z,pa_z,pc_z,rfl,HF⟩;obtain⟨c_t2,f_t2⟩:=cf HF 1;have hG:=HF.nd5 1 rfl (.int .i64 (tyk t)) (.string nm) (.slice a_z (tnn t) c_z) (.slice pa_z (tpn t) pc_z) (.bool (tmy t));go_wp2;clear c_t2 f_t2;refine br (rt83 results36 rfl (hG.blkAt 1 rfl)) ?_;exact⟨a_z,c_z,pa_z,pc_z,rfl,hG.lose⟩
def SmgP {α:Type}(zv:Value)(E:VE α)(mb:Nat)(f:ByteArray→Option α)(t:TypeId)(H:Snap):Prop:=∀s:ByteArray,s.size≤maxLen→∃v,(∀w':World,(∀q o,H q=some o→w'.heap[q]?=some o)→(Instr.lookup t (.map (some mb)) (.string s) false).run prog w'=.ok v w')∧(f s=none→v=zv)∧∀x,f s=some x→E.p H v x
def Rs.smg {α:Type}(zv:Value)(E:VE α)(mb:Nat)(f:ByteArray→Option α)(t:TypeId):Rs:=.fact ⟨SmgP zv E mb f t,λ H H' h hl s hs=>by
 obtain⟨v,h1,h2,h3⟩:=h s hs;exact⟨v,λ w' hw=>h1 w' λ q o e=>hw q o (hl q o e),h2,λ x hx=>E.up H H' v x (h3 x hx) hl⟩⟩
def Rs.lkf (t:TypeId)(mb:Nat)(s:ByteArray)(v:Value):Rs:=.fact ⟨λ H=>∀w':World,(∀q o,H q=some o→w'.heap[q]?=some o)→(Instr.lookup t (.map (some mb)) (.string s) false).run prog w'=.ok v w',λ H H' h hl w' hw=>h w' λ q o e=>hw q o (hl q o e)⟩
theorem Fr.lkfAt (h:Fr B w L) (i:Nat) {t : TypeId} {s : ByteArray} {v : Value} (hi:L[i]?=some (.lkf t mb s v)):(Instr.lookup t (.map (some mb)) (.string s) false).run prog w=.ok v w:=by
 obtain⟨H,h1,h2⟩:=h.get hi;exact h1 w h2
theorem Fr.smgGive {zv : Value} {E : VE α} {f : ByteArray→Option α} (h:Fr B w L) (i:Nat) (hi:L[i]?=some (.mp zv E mb N f)) (t e:TypeId) (ht:prog.underlying t=some (.map 9 e)) (hz:∀w,(zeroValue e).run prog w=.ok zv w):Fr B w (L.set i (.smg zv E mb f t)):=by
 obtain⟨H,h⟩:=h;have hok:(Rs.mp zv E mb N f).ok H w:=h.ok _ (List.mem_of_getElem? hi);have hlt:=(Rs.mp zv E mb N f).lt H w hok mb rfl;have hlo:=h.lo _ (List.mem_of_getElem? hi) mb rfl;obtain⟨D,k,hk,hown,h2,h3,h4,h5⟩:=hok;obtain⟨es,clock,hb,r⟩:=hown;refine⟨_,h.giveOne i hi (g:=mb) rfl (Array.getElem?_eq_getElem hlt) (λ s hs=>?_) λ q hq=>hq⟩;have key:∀w':World,w'.heap[mb]?=w.heap[mb]?→w'.ownsMap prog 9 rdV mb k D:=λ w' e=>⟨es,clock,e.trans hb,r⟩
 have run:∀w':World,w'.heap[mb]?=w.heap[mb]?→∀v,D.atKey (.string s.data.toList) (.held zv)=.held v→(Instr.lookup t (.map (some mb)) (.string s) false).run prog w'=.ok v w':=λ w' ew v hv=>by
  obtain⟨v2,ps2,hrun2,hv2⟩:=(key w' ew).lookup (t:=t) (e:=e) (Maps.string_keyed underlying9) ht (hz w') (zd:=.held zv) (zp:=[]) rfl (WideMaps.keyOf_string_mk underlying9 hs);rw[hv] at hv2;unfold rdV at hv2;simp at hv2;rw[hrun2,hv2.1]
 have same:∀w':World,(∀q o,(H.add mb w.heap[mb]) q=some o→w'.heap[q]?=some o)→w'.heap[mb]?=w.heap[mb]?:=λ w' hw=>by rw[hw mb _ (Snap.add_at _ _ _),Array.getElem?_eq_getElem hlt]
 cases e':f s with
 | none=>exact⟨zv,λ w' hw=>run w' (same w' hw) _ (h4 s e'),λ_=>rfl,λ x hx=>(by cases hx)⟩
 | some x=>
  obtain⟨v,h6,h7⟩:=h5 s x e';exact⟨v,λ w' hw=>run w' (same w' hw) _ h7,λ hx=>(by cases hx),λ y hy=>by cases hy;exact E.up H _ v x h6 (Snap.le_add hlo.2)⟩
theorem Fr.smDe (h:Fr B w L) (i:Nat) {f : ByteArray→Option (T.Ty × Bool)} (hi:L[i]?=some (.smg zMe VMe dm f 88)) (x:ByteArray) (hx:x.size≤maxLen):∃t nm a c pa pc,t=(f x).getD (tZ,false)∧Fr B w (.lkf 88 dm x (.agg #[.int .i64 (tyk t.1),.string nm,.slice a (tnn t.1) c,.slice pa (tpn t.1) pc,.bool (tmy t.1),.bool t.2])::.el TyE [.int .i64 (tyk t.1),.string nm,.slice a (tnn t.1) c,.slice pa (tpn t.1) pc,.bool (tmy t.1)] t.1::L):=by
 obtain⟨H,h⟩:=h;obtain⟨v,h1,h2,h3⟩:∃v,_∧_∧_:=(show SmgP zMe VMe dm f 88 H from h.ok _ (List.mem_of_getElem? hi)) x hx;have key:∃x0 x1 x2 x3 x4,v=.agg #[x0,x1,x2,x3,x4,.bool ((f x).getD (tZ,false)).2]∧Fr B w (.lkf 88 dm x v::.el TyE [x0,x1,x2,x3,x4] ((f x).getD (tZ,false)).1::L):=by
  cases e:f x with
  | none=>
   have hF:Fr B w (.lkf 88 dm x v::L):=⟨H,h.free (r:=.lkf 88 dm x v) h1 λ q hq=>hq⟩
   exact⟨_,_,_,_,_,h2 e,(hF.tyBare 0 (by omega)).swap⟩
  | some t=>
   obtain⟨x0,x1,x2,x3,x4,rfl,h5⟩:=h3 t e;exact⟨x0,x1,x2,x3,x4,rfl,H,(h.free (r:=.el TyE [x0,x1,x2,x3,x4] t.1) h5 λ q hq=>hq).free (r:=.lkf 88 dm x _) h1 λ q hq=>hq⟩
 obtain⟨x0,x1,x2,x3,x4,rfl,h4⟩:=key;obtain⟨nm,a,c,pa,pc,rfl,rfl,rfl,rfl,rfl⟩:=h4.tyForm5 1 rfl;exact⟨_,nm,a,c,pa,pc,rfl,h4⟩
theorem Fr.smSt (h:Fr B w L) (i:Nat) {f : TM} (hi:L[i]?=some (.smg zTy VTy dm f 87)) (x:ByteArray) (hx:x.size≤maxLen):∃t nm a c pa pc,t=(f x).getD tZ∧Fr B w (.lkf 87 dm x (.agg #[.int .i64 (tyk t),.string nm,.slice a (tnn t) c,.slice pa (tpn t) pc,.bool (tmy t)])::.el TyE [.int .i64 (tyk t),.string nm,.slice a (tnn t) c,.slice pa (tpn t) pc,.bool (tmy t)] t::L):=by
 obtain⟨H,h⟩:=h;obtain⟨v,h1,h2,h3⟩:∃v,_∧_∧_:=(show SmgP zTy VTy dm f 87 H from h.ok _ (List.mem_of_getElem? hi)) x hx;have key:∃x0 x1 x2 x3 x4,v=.agg #[x0,x1,x2,x3,x4]∧Fr B w (.lkf 87 dm x v::.el TyE [x0,x1,x2,x3,x4] ((f x).getD tZ)::L):=by
  cases e:f x with
  | none=>
   have hF:Fr B w (.lkf 87 dm x v::L):=⟨H,h.free (r:=.lkf 87 dm x v) h1 λ q hq=>hq⟩
   exact⟨_,_,_,_,_,h2 e,(hF.tyBare 0 (by omega)).swap⟩
  | some t=>
   obtain⟨x0,x1,x2,x3,x4,rfl,h5⟩:=h3 t e;exact⟨x0,x1,x2,x3,x4,rfl,H,(h.free (r:=.el TyE [x0,x1,x2,x3,x4] t) h5 λ q hq=>hq).free (r:=.lkf 87 dm x _) h1 λ q hq=>hq⟩
 obtain⟨x0,x1,x2,x3,x4,rfl,h4⟩:=key;obtain⟨nm,a,c,pa,pc,rfl,rfl,rfl,rfl,rfl⟩:=h4.tyForm5 1 rfl;exact⟨_,nm,a,c,pa,pc,rfl,h4⟩
theorem Fr.csStand {b : Nat} {p : CP} (h:Fr B w (.cs b p s::L)):Fr B w (.blk b (csC p s) 90::.smg zTy VTy p.sm s.st 87::.smg zMe VMe p.dm s.de 88::L):=by
 have h1:=h.csOpen.smgGive 3 rfl 87 83 underlying87 zeroValue83;have h2:=h1.smgGive 4 rfl 88 99 underlying88 zeroValue99;exact h2.sub (.cons_cons _ (.cons _ (.cons _ (.cons_cons _ (.cons_cons _ (.cons _ (.cons _ (List.sublist_append_right _ _))))))))
def cD (s:Cs)(d:Nd):T.Ty:=if d.kind=2 then (s.st d.text).getD tZ else (s.de d.text).elim tZ Prod.fst
theorem signsC_eq (n:Nd) (s:Cs):signsC n s=(n.kids.map (cD s)).map eA:=by unfold signsC;rw[List.map_map];rfl
theorem tyOfD_yes (h:d.kind=2):(s.st d.text).getD tZ=cD s d:=by unfold cD;rw[if_pos h]
theorem tyOfD_no (h:¬ d.kind=2):((s.de d.text).getD (tZ,false)).1=cD s d:=by
 unfold cD;rw[if_neg h];cases s.de d.text<;>rfl
theorem fO {t : ByteArray} (h:cV t=.inl (n,s)):parseQ t=.inl n∧unitC n=.ok s:=by
 unfold cV at h;split at h
 ·cases h
 rename_i n' e
 split at h
 ·cases h
 rename_i s' e'
 cases h;exact⟨e,e'⟩
theorem tyOfD_may (hn:Un n) (hc:unitC n=.ok s):∀d,d∈n.kids→may (cD s d)=true:=λ d hd=>by
 have hun:=unit_ok hn hc;by_cases k2:d.kind=2
 ·obtain⟨t,e,hm,_⟩:=((hun.ok d hd).1 k2).it;rw[← tyOfD_yes k2,e];exact hm
 obtain⟨t,b,e,hm,_⟩:=((hun.ok d hd).2 k2).it;rw[← tyOfD_no k2,e];exact hm
theorem results_csc {P : Program} {t u v : Tmp} {ty ty2 : TypeId} {q q2 : Addr} {x y z : Value} (h:fn.results=#[.cell t ty,.tmp u,.cell v ty2]) (tmps:Array Value) (ht:tmps.getD t undef=.pointer (some q)) (hu:tmps.getD u undef=y) (hv:tmps.getD v undef=.pointer (some q2)) (w:World) (hr:(loadVar ty q).run P w=.ok x w) (hr2:(loadVar ty2 q2).run P w=.ok z w):(results fn tmps).run P w=.ok (.tuple #[x,y,z]) w:=by
 have ht':tmps[t]?.getD undef=.pointer (some q):=by simpa using ht
 have hu':tmps[u]?.getD undef=y:=by simpa using hu
 have hv':tmps[v]?.getD undef=.pointer (some q2):=by simpa using hv
 simp [results,h,asAddr,ht',hu',hv',hr,hr2]
theorem take_map {l : List α} {f : α→β} (h:l[k]?=some x):(l.take (k+1)).map f=(l.take k).map f++[f x]:=by
 rw[List.take_add_one,h];simp
theorem field99 (a b c d e f:Value) (w:World):(Instr.field 99 (.agg #[a,b,c,d,e,f]) 0).run prog w=.ok (.agg #[a,b,c,d,e]) w:=by simp [Instr.field,asAgg,go_sem]
def PU (t:ByteArray)(B:Bs)(L:List Rs)(e:Ending)(w':World):Prop:=
 (∃c p,cV t=.inr (c,p)∧c≠0∧e=.returned (.tuple #[.agg ndz,.slice none 0 0,.agg #[.int .i64 c,.int .i64 p]])∧Fr B w' L) ∨
 (∃n s a c v,cV t=.inl (n,s)∧Un n∧e=.returned (.tuple #[.agg #[.int .i64 n.kind,.string n.text,.int .i64 n.num,.slice a n.kids.length c],v,.agg #[.int .i64 0,.int .i64 0]])∧Fr B w' (.els TyE v 83 5 (n.kids.map (cD s))::.el NdE (ndc n.kind n.text n.num a n.kids.length c) n::L))
theorem unit27 (t:ByteArray) (ht:t.size≤9223372036854775807) (h:Fr B w (.glo::.er::L)):Calls prog 27 #[.string t] w (PU t B (.glo::.er::L)):=by
 have HT:=ah ht;have HF:=h;clear h ht;go_enter func27,ntmps27;replace HF:=ax HF w.heap.size ndz 52;replace HF:=ax HF (w.heap.size+1) #[.int .i64 0,.int .i64 0] 54;go_wp2_with fail;replace HF:=HF.perm (List.perm_append_comm (l₁:=[_,_]) (l₂:=[_,_]) |>.append_right L);go_at_call 26;refine (checked26 t HT HF).mono ?_;rintro e w1 (⟨c,p,v,h3,hc,rfl,hf⟩|⟨n,s,b,p,a_n,c_n,h3,hun,q0,q1,q2,q3,rfl,hf⟩)
 ·have H3:=ah h3;have HC:=ah hc;replace HF:=hf;clear hf h3;replace HF:=ax HF w1.heap.size #[.int .i64 c,.int .i64 p] 54;have c_t6:=HF.cell 0 rfl;go_wp2;clear c_t6;refine regK [] HF (λ w h=>(h.cell 0 rfl)) (λ wd1 HF hC=>?_);refine tq2 0 1 ?_;refine rq 2 λ K hK=>?_;obtain⟨c_nn,f_nn⟩:=cf HF 4;replace HF:=sN HF 4 0 ⟨#[]⟩ 0 none 0 0;go_simp;clear c_nn f_nn;refine uq hK (HF.cell 0 rfl) λ hC=>?_;refine tq 3 ?_;refine rq 4 λ K hK=>?_;obtain⟨c_r,f_r⟩:=cf HF 3;replace HF:=HF.two2 3 rfl (.int .i64 c) (.int .i64 p);go_simp;clear c_r f_r;refine uq hK (HF.cell 0 rfl) λ hC=>?_;refine dq ?_;go_wp2;refine br (results_csc results27 _ rfl rfl rfl _ (load52 (HF.blkAt 4 rfl)) (eL (HF.blkAt 3 rfl))) ?_;exact Or.inl ⟨c,p,H3,HC,rfl,HF.lose⟩
 have H3:=ah h3;have HUN:=ah hun;have HMY:=ah (tyOfD_may hun (fO h3).2);have HTX:=ah (parse_a (fO h3).1);have hkn:n.kids.length≤700:=by have:=(parse_a (fO h3).1).2;have:=bU n;have:=fA n.kids;omega
 replace hf:=hf.csStand;rw[show csC p s=#[.int .i64 n.kind,.string n.text,.int .i64 n.num,.slice a_n n.kids.length c_n,p.r0,p.r1,p.r2,p.r3,p.r4,.bool s.many,p.bv,.int .i64 s.wo,p.kv,.map (some p.sm),.map (some p.dm)] by simp only[csC,q0,q1,q2,q3]] at hf;replace HF:=hf;clear hf h3 hun q0 q1 q2 q3;replace HF:=ax HF w1.heap.size #[.int .i64 0,.int .i64 0] 54;have c_t6:=HF.cell 0 rfl;have c_cb:=HF.cell 1 rfl;have HF2:=ah (HF.noEls TyE 83 5);go_wp2;generalize hWm:w1.alloc (.cells #[.int .i64 0,.int .i64 0] 54)=wm at HF2 ⊢;go_loopw [7,9,10,27] (λ sv _ _ iv wr=>Hid (∃k:Nat,k≤n.kids.length∧iv=.int .i64 (k:Int)∧Fr B wr (.els TyE sv 83 5 ((n.kids.take k).map (cD s))::.blk w1.heap.size #[.int .i64 0,.int .i64 0] 54::.blk b #[.int .i64 n.kind,.string n.text,.int .i64 n.num,.slice a_n n.kids.length c_n,p.r0,p.r1,p.r2,p.r3,p.r4,.bool s.many,p.bv,.int .i64 s.wo,p.kv,.map (some p.sm),.map (some p.dm)] 90::.smg zTy VTy p.sm s.st 87::.smg zMe VMe p.dm s.de 88::.el NdE (ndc n.kind n.text n.num a_n n.kids.length c_n) n::.glo::.er::.blk (w.heap.size+1) #[.int .i64 0,.int .i64 0] 54::.blk w.heap.size ndz 52::L))) (λ_ _ _ iv _=>n.kids.length - (intOf iv).toNat)
 case atStart=>exact ah ⟨0,Nat.zero_le _,rfl,HF2⟩
 clear HF HF2 hWm c_t6 c_cb;obtain⟨k,hk,rfl,hf⟩:=hrel.out;clear hrel;have HF:=hf;clear hf;by_cases hlt:k<n.kids.length
 ·obtain⟨x,hx⟩:∃x,n.kids[k]?=some x:=⟨_,List.getElem?_eq_getElem hlt⟩
  have hxm:=List.mem_of_getElem? hx;have HXM:=ah (HMY x hxm);have hxt:x.text.size≤maxLen:=Nat.le_trans (HTX.1.kids x hxm).text (by decide);have HST:=ah (take_map (f:=cD s) hx);have HLT:=ah hlt;obtain⟨g_x,o_x,a_x,c_x,cur_x,f_x,ha_x,hc1,hc2,hk_x,hf⟩:=HF.kidK 5 rfl k hx;have HK_x:=ah hk_x;have hlb:(k:Int)<(n.kids.length:Int):=by omega
  obtain⟨⟨u,ub⟩,nm_u,a_u,c_u,pa_u,pc_u,hu,hf⟩:=hf.smDe 6 rfl x.text hxt;dsimp only at hf;have HU:=ah hu;obtain⟨v,nm_v,a_v,c_v,pa_v,pc_v,hv,hf⟩:=hf.smSt 7 rfl x.text hxt;have HV:=ah hv;replace HF:=hf;clear hf hk_x hc1 hc2 hx hxm hxt hu hv hlt;subst ha_x;obtain⟨e0,e1,e2,e3⟩:=aC (HF.knc 5 rfl) HK_x;replace HF:=aM HF wr.heap.size x a_x c_x;have c_t9:=HF.cell 0 rfl;have hf99:=field99;go_wp2;clear e0 e1 e2 e3 c_t9;refine regK [] HF (λ w h=>aI (h.cell 9 rfl) (aI (h.cell 0 rfl) (h.lkfAt 3 rfl))) (λ wd21 HF hC=>?_);refine tq4 0 1 2 3 ?_;refine tq4 4 5 6 7 ?_;refine rq 8 λ K hK=>?_;have HFp:=HF;replace HF:=aT HF wd21.heap.size 0 ⟨#[]⟩ none 0 0 none 0 0 false;go_simp;refine uq hK ⟨(HF.cell 10 rfl),(HF.cell 1 rfl),(HF.lkfAt 4 rfl)⟩ λ hC=>?_;refine rq 9 λ K hK=>?_;obtain⟨c_r,f_r⟩:=cf HF 0;go_simp;clear c_r f_r;replace HF:=aT HFp wd21.heap.size (tyk u) nm_u a_u (tnn u) c_u pa_u (tpn u) pc_u (tmy u);clear HFp;refine uq hK ⟨(HF.cell 10 rfl),(HF.cell 1 rfl),(HF.lkfAt 4 rfl)⟩ λ hC=>?_;refine dq ?_;have c_t9:=HF.cell 1 rfl;by_cases hk2:x.kind=2
  ·have HTE:=ah (HV.trans (tyOfD_yes hk2));go_wp2;clear c_t9;refine regK [] HF (λ w h=>aI (h.cell 10 rfl) (aI (h.cell 1 rfl) (h.lkfAt 2 rfl))) (λ wd22 HF hC=>?_);refine tq4 0 1 2 3 ?_;refine tq3 4 5 6 ?_;refine rq 7 λ K hK=>?_;obtain⟨c_r,f_r⟩:=cf HF 0;replace HF:=sT HF 0 (tyk v) nm_v a_v (tnn v) c_v pa_v (tpn v) pc_v (tmy v);go_simp;clear c_r f_r;refine uq hK ⟨(HF.cell 10 rfl),(HF.cell 1 rfl),(HF.lkfAt 2 rfl)⟩ λ hC=>?_;refine dq ?_;have c_t10:=HF.cell 0 rfl;go_wp2_with fail;clear c_t10;go_at_call 36;refine (clone36 (by rw[HTE.out];exact HXM) HF 3 rfl).mono ?_;rintro e w9 ⟨a_z,c_z,pa_z,pc_z,rfl,hf⟩;rw[HTE.out] at hf ⊢;replace HF:=hf;clear hf;go_wp2_with (at_builtin;refine Fr.elAppL 81 fZ underlying81 rfl (by decide) (by decide) (HF.alloc (q:=w9.heap.size) (by simp) #[.int .i64 (tyk (cD s x)),.string nm_v,.slice a_z (tnn (cD s x)) c_z,.slice pa_z (tpn (cD s x)) pc_z,.bool (tmy (cD s x))] 83) 9 rfl (by rw[List.length_map,List.length_take];omega) 0 rfl _ _ rfl rfl (by rfl) (by rfl) rfl rfl ?_;intro g23 cap23 w23 hF hgr)
   replace HF:=hF;clear hF hgr;go_wp2;have hf:=HF;simp only[← HST.out] at hf;rw[show ((n.kids.take k).map (cD s)).length=k by rw[List.length_map,List.length_take];have:=HLT.out;omega] at hf;exact⟨ah ⟨k+1,HLT,rfl,hf.lose⟩,by simp only[intOf];have:=HLT.out;omega⟩
  have HTE:Hid (u=cD s x):=ah ((congrArg Prod.fst HU).trans (tyOfD_no hk2));have c_t10:=HF.cell 0 rfl;go_wp2_with fail;clear c_t9 c_t10;go_at_call 36;refine (clone36 (by rw[HTE.out];exact HXM) HF 5 rfl).mono ?_;rintro e w9 ⟨a_z,c_z,pa_z,pc_z,rfl,hf⟩;rw[HTE.out] at hf ⊢;replace HF:=hf;clear hf;go_wp2_with (at_builtin;refine Fr.elAppL 81 fZ underlying81 rfl (by decide) (by decide) (HF.alloc (q:=w9.heap.size) (by simp) #[.int .i64 (tyk (cD s x)),.string nm_u,.slice a_z (tnn (cD s x)) c_z,.slice pa_z (tpn (cD s x)) pc_z,.bool (tmy (cD s x))] 83) 9 rfl (by rw[List.length_map,List.length_take];omega) 0 rfl _ _ rfl rfl (by rfl) (by rfl) rfl rfl ?_;intro g22 cap22 w22 hF hgr)
  replace HF:=hF;clear hF hgr;go_wp2;have hf:=HF;simp only[← HST.out] at hf;rw[show ((n.kids.take k).map (cD s)).length=k by rw[List.length_map,List.length_take];have:=HLT.out;omega] at hf;exact⟨ah ⟨k+1,HLT,rfl,hf.lose⟩,by simp only[intOf];have:=HLT.out;omega⟩
 have hkl:k=n.kids.length:=by omega
 subst hkl;have hli:¬ (n.kids.length:Int)<(n.kids.length:Int):=by omega
 go_wp2;refine regK [] HF (λ w h=>aI (h.cell 2 rfl) (h.cell 1 rfl)) (λ wd21 HF hC=>?_);refine tq4 0 1 2 3 ?_;refine tq2 4 5 ?_;refine rq 6 λ K hK=>?_;obtain⟨c_nn,f_nn⟩:=cf HF 9;replace HF:=sN HF 9 n.kind n.text n.num a_n n.kids.length c_n;go_simp;clear c_nn f_nn;refine uq hK ⟨(HF.cell 2 rfl),(HF.cell 1 rfl)⟩ λ hC=>?_;refine tq 7 ?_;refine rq 8 λ K hK=>?_;obtain⟨c_r,f_r⟩:=cf HF 8;replace HF:=HF.two2 8 rfl (.int .i64 0) (.int .i64 0);go_simp;clear c_r f_r;refine uq hK ⟨(HF.cell 2 rfl),(HF.cell 1 rfl)⟩ λ hC=>?_;refine dq ?_;go_wp2;refine br (results_csc results27 _ rfl rfl rfl _ (load52 (HF.blkAt 9 rfl)) (eL (HF.blkAt 8 rfl))) ?_;have hf:=HF;rw[List.take_length] at hf;exact Or.inr ⟨n,s,a_n,c_n,_,H3,HUN,rfl,hf.lose⟩
theorem textB_size (t:T.Ty):(eA t).size≤9223372036854775807:=by
 by_cases h:may t=true
 ·rw[eA,if_pos h];have h1:=T.text_len h;have h2:T.lenB 4=160000:=by decide
  show (T.strOf (T.textT t)).size≤_;rw[show (T.strOf (T.textT t)).size=(T.textT t).length from by simp [T.strOf,ByteArray.size]];omega
 rw[eA,if_neg h];decide
theorem text28 (h:Fr B w L) (i:Nat) {cs : List Value} {t : T.Ty} (hi:L[i]?=some (.el TyE cs t)):Calls prog 28 #[.agg cs.toArray] w λ e w'=>e=.returned (.string (eA t))∧Fr B w' L:=by
 by_cases hm:may t=true
 ·refine (T.pText_t t _ w hm (h.tyAt i hi)).mono λ e w' h'=>⟨?_,h.call h'.2⟩
  rw[h'.1,eA,if_pos hm]
 refine (T.pText_f t _ w (by simpa using hm) (h.tyAt i hi)).mono λ e w' h'=>⟨?_,h.call h'.2⟩
 rw[h'.1,eA,if_neg hm]
theorem Fr.stEl (h:Fr B w L) (x:ByteArray) (hx:x.size≤9223372036854775807):Fr B w (.el StE [.string x] x::L):=h.sure ⟨λ H=>StE.p H [.string x] x,λ H H' h hl=>h⟩ λ H=>⟨rfl,hx⟩
theorem take_map2 {l : List α} {f : α→β} {g : β→γ} (h:l[k]?=some x):((l.take (k+1)).map f).map g=((l.take k).map f).map g++[g (f x)]:=by
 rw[take_map h];simp
theorem declared18 {t : ByteArray} (hc:cV t=.inl (n,s)) (ht:t.size≤9223372036854775807) (h:Fr B w (.glo::.er::L)):Calls prog 18 #[.string t] w λ e w'=>∃v,e=.returned (.tuple #[v,.agg #[.int .i64 0,.int .i64 0]])∧Fr B w' (.els StE v 9 1 (signsC n s)::.glo::.er::L):=by
 have HT:=ah ht;have HC:=ah hc;have HF:=h;clear h ht hc;go_enter func18,ntmps18;replace HF:=ax HF w.heap.size #[.int .i64 0,.int .i64 0] 54;go_wp2_with fail;replace HF:=HF.perm (List.perm_append_comm (l₁:=[_]) (l₂:=[_,_]) |>.append_right L);go_at_call 27;refine (unit27 t HT HF).mono ?_;rintro e w1 (⟨c,p,h3,hc,rfl,hf⟩|⟨n',s',a_n,c_n,sv,h3,hun,rfl,hf⟩)
 ·rw[HC.out] at h3;cases h3
 rw[HC.out] at h3;cases h3;obtain⟨sa,sc,rfl,hsl,-⟩:=hf.elsForm 0 rfl;rw[show (n.kids.map (cD s)).length=n.kids.length by simp] at hf hsl ⊢;have hkn:n.kids.length≤700:=by have:=(parse_a (fO HC).1).2;have:=bU n;have:=fA n.kids;omega
 replace HF:=hf;clear hf hun;replace HF:=aM HF w1.heap.size n a_n c_n;replace HF:=ax HF (w1.heap.size+1) #[.int .i64 0,.int .i64 0] 54;have HF2:=ah (HF.noEls StE 9 1);go_wp2;generalize hWm:((w1.alloc (.cells #[.int .i64 n.kind,.string n.text,.int .i64 n.num,.slice a_n n.kids.length c_n] 52)).alloc (.cells #[.int .i64 0,.int .i64 0] 54))=wm at HF2 ⊢;go_loopw [7,9,18] (λ sv _ iv wr=>Hid (∃k:Nat,k≤n.kids.length∧iv=.int .i64 (k:Int)∧Fr B wr (.els StE sv 9 1 (((n.kids.take k).map (cD s)).map eA)::.blk (w1.heap.size+1) #[.int .i64 0,.int .i64 0] 54::.els TyE (.slice sa n.kids.length sc) 83 5 (n.kids.map (cD s))::.glo::.er::.blk w.heap.size #[.int .i64 0,.int .i64 0] 54::L))) (λ_ _ iv _=>n.kids.length - (intOf iv).toNat)
 case atStart=>exact ah ⟨0,Nat.zero_le _,rfl,HF2.lose⟩
 clear HF HF2 hWm;obtain⟨k,hk,rfl,hf⟩:=hrel.out;clear hrel;have HF:=hf;clear hf;by_cases hlt:k<n.kids.length
 ·obtain⟨x,hx⟩:∃x,n.kids[k]?=some x:=⟨_,List.getElem?_eq_getElem hlt⟩
  have HST:=ah (take_map2 (f:=cD s) (g:=eA) hx);have HLT:=ah hlt;have hlm:k<(n.kids.map (cD s)).length:=by simpa using hlt
  have hlb:(k:Int)<(n.kids.length:Int):=by omega
  obtain⟨g,ha,-,-,cs,hcl,hcc,hf⟩:=HF.elsGet 2 rfl k hlm;rw[show (n.kids.map (cD s))[k]=cD s x by rw[List.getElem_map];rw[List.getElem?_eq_getElem hlt] at hx;rw[Option.some.inj hx]] at hf;subst ha;obtain⟨x0,x1,x2,x3,x4,rfl⟩:=five_of hcl;obtain⟨ty,hty⟩:∃ty,ty=cD s x:=⟨_,rfl⟩
  rw[← hty] at hf HST;obtain⟨nm_y,a_y,c_y,pa_y,pc_y,rfl,rfl,rfl,rfl,rfl⟩:=hf.tyForm5 0 rfl;have e0:wr.cell? ⟨g,k*5,none⟩=some (.int .i64 (tyk ty)):=hcc 0 (by omega);have e1:wr.cell? ⟨g,k*5+1,none⟩=some (.string nm_y):=hcc 1 (by omega);have e2:wr.cell? ⟨g,k*5+2,none⟩=some (.slice a_y (tnn ty) c_y):=hcc 2 (by omega);have e3:wr.cell? ⟨g,k*5+3,none⟩=some (.slice pa_y (tpn ty) pc_y):=hcc 3 (by omega);have e4:wr.cell? ⟨g,k*5+4,none⟩=some (.bool (tmy ty)):=hcc 4 (by omega);replace HF:=hf;clear hf hcc hcl hx hlm hlt hty;replace HF:=aT HF wr.heap.size (tyk ty) nm_y a_y (tnn ty) c_y pa_y (tpn ty) pc_y (tmy ty);have c_t9:=HF.cell 0 rfl;go_wp2_with fail;clear e0 e1 e2 e3 e4 c_t9;go_at_call 28;refine (text28 HF 1 rfl).mono ?_;rintro e w9 ⟨rfl,hf⟩;replace HF:=hf.stEl (eA ty) (textB_size ty);clear hf;go_wp2_with (at_builtin;refine Fr.elAppL 22 T.info9 underlying22 rfl (by decide) (by decide) (HF.alloc (q:=w9.heap.size) (by simp) #[.string (eA ty)] 9) 3 rfl (by rw[List.length_map,List.length_map,List.length_take];omega) 0 rfl _ _ rfl rfl (by rfl) (by rfl) rfl rfl ?_;intro g21 cap21 w21 hF hgr)
  replace HF:=hF;clear hF hgr;go_wp2;have hf:=HF;simp only[← HST.out] at hf;rw[show (((n.kids.take k).map (cD s)).map eA).length=k by rw[List.length_map,List.length_map,List.length_take];have:=HLT.out;omega] at hf;exact⟨ah ⟨k+1,HLT,rfl,hf.lose⟩,by simp only[intOf];have:=HLT.out;omega⟩
 have hkl:k=n.kids.length:=by omega
 subst hkl;have hli:¬ (n.kids.length:Int)<(n.kids.length:Int):=by omega
 go_wp2;refine regK [] HF (λ w h=>(h.cell 1 rfl)) (λ wd21 HF hC=>?_);refine tq2 0 1 ?_;refine rq 2 λ K hK=>?_;go_simp;refine uq hK (HF.cell 1 rfl) λ hC=>?_;refine rq 3 λ K hK=>?_;obtain⟨c_r,f_r⟩:=cf HF 5;replace HF:=HF.two2 5 rfl (.int .i64 0) (.int .i64 0);go_simp;clear c_r f_r;refine uq hK (HF.cell 1 rfl) λ hC=>?_;refine dq ?_;go_wp2;refine br (bD results18 _ rfl rfl _ (eL (HF.blkAt 5 rfl))) ?_;have hf:=HF;rw[List.take_length,← signsC_eq] at hf;exact⟨_,rfl,hf.lose⟩
theorem info62:(prog.info? 62).map (λ i=>(i.zero,i.size,i.bytes))=some (some (.agg #[.int .i64 0,.string ⟨#[]⟩,.int .i64 0,.slice none 0 0,.slice none 0 0,.slice none 0 0,.map none,.map none]),8,120):=by kernel_rfl
theorem info67:(prog.info? 67).map (λ i=>(i.zero,i.size,i.bytes))=some (some (.agg #[.int .i64 0,.string ⟨#[]⟩,.int .i64 0,.slice none 0 0,.int .i64 0,.string ⟨#[]⟩,.int .i64 0,.int .i64 0,.slice none 0 0,.slice none 0 0]),10,144):=by kernel_rfl
theorem Fr.stAt (h:Fr B w L) (i:Nat) {a : Option Addr} {n : Nat} (hi:L[i]?=some (.sl StE (.slice a n c) 9 1 l)) (j:Nat) {s : ByteArray} (hj:l[j]?=some s):
  ∃g o,a=some ⟨g,o,none⟩∧s.size≤9223372036854775807∧∃cur f,cur[o+j]?=some (.string s)∧Fr B w (.kn g cur 9 f::L):=by
 obtain⟨hl,rfl⟩:=List.getElem?_eq_some_iff.1 hj;obtain⟨H,h⟩:=h;obtain⟨a',c',e,-,-,h4⟩:SlP StE (.slice a n c) 9 1 l H:=h.ok _ (List.mem_of_getElem? hi);cases e;obtain⟨g,o,cur,f,rfl,q2,q3⟩:=h4 (λ e=>by rw[e] at hl;simp at hl);obtain⟨cs,p1,p2,p3,p4⟩:=q3 j hl;have:=p2 0 (by omega);rw[p3] at this;exact⟨g,o,rfl,p4,cur,f,by simpa using this,H,h.free (r:=.kn g cur 9 f) q2 λ q hq=>hq⟩
theorem Fr.inAt (h:Fr B w L) (i:Nat) {a : Option Addr} {n : Nat} {l : List Nat} (hi:L[i]?=some (.sl IntE (.slice a n c) 3 1 l)) (j:Nat) {s : Nat} (hj:l[j]?=some s):
  ∃g o,a=some ⟨g,o,none⟩∧∃cur f,cur[o+j]?=some (.int .i64 (s:Int))∧Fr B w (.kn g cur 3 f::L):=by
 obtain⟨hl,rfl⟩:=List.getElem?_eq_some_iff.1 hj;obtain⟨H,h⟩:=h;obtain⟨a',c',e,-,-,h4⟩:SlP IntE (.slice a n c) 3 1 l H:=h.ok _ (List.mem_of_getElem? hi);cases e;obtain⟨g,o,cur,f,rfl,q2,q3⟩:=h4 (λ e=>by rw[e] at hl;simp at hl);obtain⟨cs,p1,p2,p3⟩:=q3 j hl;have:=p2 0 (by omega);rw[p3] at this;exact⟨g,o,rfl,cur,f,by simpa using this,H,h.free (r:=.kn g cur 3 f) q2 λ q hq=>hq⟩
theorem Fr.nd3 (h:Fr B w L) (i:Nat) {T : TypeId} (hi:L[i]?=some (.blk q #[x0,x1,x2] T)) (y0 y1 y2:Value):Fr B (((w.setCell ⟨q,0,none⟩ y0).setCell ⟨q,1,none⟩ y1).setCell ⟨q,2,none⟩ y2) (L.set i (.blk q #[y0,y1,y2] T)):=by
 have hl:i<L.length:=(List.getElem?_eq_some_iff.1 hi).1;have h1:=h.set i hi 0 y0;have h2:=h1.set i (q:=q) (cs:=#[y0,x1,x2]) (T:=T) (by rw[List.getElem?_set_self hl];rfl) 1 y1;have h3:=h2.set i (q:=q) (cs:=#[y0,y1,x2]) (T:=T) (by rw[List.getElem?_set_self (by simpa using hl)];rfl) 2 y2;simpa using h3
theorem fY (h:w.heap[q]?=some (.cells #[x0,x1,x2] 28 (0,0))):(loadVar 28 ⟨q,0,none⟩).run prog w=.ok (.agg #[x0,x1,x2]) w:=by
 have hc:=aA h;simp [loadVar,go_sem,hc]
theorem rt28 {t : Tmp} {tmps : Array Value} (h:fn.results=#[.cell t 28]) (ht:tmps.getD t undef=.pointer (some ⟨q,0,none⟩)) (hb:w.heap[q]?=some (.cells #[x0,x1,x2] 28 (0,0))):(results fn tmps).run prog w=.ok (.agg #[x0,x1,x2]) w:=by
 have ht':tmps[t]?.getD undef=.pointer (some ⟨q,0,none⟩):=by simpa using ht
 simp [results,h,asAddr,ht',fY hb]
section
variable (h:Fr B w L) (i:Nat) {T : TypeId} (hi:L[i]?=some (.blk q #[x0,x1,x2,x3,x4,x5,x6,x7,x8] T)) (v:Value)
include h hi v
theorem Fr.set94:Fr B (w.setCell ⟨q,4,none⟩ v) (L.set i (.blk q #[x0,x1,x2,x3,v,x5,x6,x7,x8] T)):=by simpa using h.set i hi 4 v
theorem Fr.set95:Fr B (w.setCell ⟨q,5,none⟩ v) (L.set i (.blk q #[x0,x1,x2,x3,x4,v,x6,x7,x8] T)):=by simpa using h.set i hi 5 v
theorem Fr.set97:Fr B (w.setCell ⟨q,7,none⟩ v) (L.set i (.blk q #[x0,x1,x2,x3,x4,x5,x6,v,x8] T)):=by simpa using h.set i hi 7 v
end
section
variable {a b c : Rs} (h:Fr B w (a::b::c::L))
include h
theorem Fr.p213:Fr B w (b::a::c::L):=h.perm (.swap _ _ _)
theorem Fr.p132:Fr B w (a::c::b::L):=h.perm (.cons _ (.swap _ _ _))
theorem Fr.p231:Fr B w (b::c::a::L):=h.p213.p132
theorem Fr.p312:Fr B w (c::a::b::L):=h.p132.p213
theorem Fr.p321:Fr B w (c::b::a::L):=h.p213.p132.p213
theorem Fr.p123:Fr B w (a::b::c::L):=h
end
theorem dT {l : List α} (h:l[k]?=some x):l.drop k=x::l.drop (k+1):=by
 obtain⟨hl,rfl⟩:=List.getElem?_eq_some_iff.1 h;exact List.drop_eq_getElem_cons hl
theorem readQ_no {t : ByteArray} {c a : Int} (h:l[k]?=some t) (hc:checkQ t=.inr (c,a)):eQ k (l.drop k)=.no k c a:=by
 rw[dT h,eQ,hc]
theorem readQ_yes {t : ByteArray} (h:l[k]?=some t) (hc:checkQ t=.inl (n,sg)):eQ k (l.drop k)=(eQ (k+1) (l.drop (k+1))).bind λ us=>.ok (⟨n,sg⟩::us):=by
 rw[dT h,eQ,hc]
def ReadS (l:List ByteArray)(k:Nat)(us:List Uq):Prop:=eQ 0 l=(eQ k (l.drop k)).bind λ r=>.ok (us++r)
theorem ReadS.start (l:List ByteArray):ReadS l 0 []:=by
 unfold ReadS;rw[List.drop_zero];cases eQ 0 l<;>rfl
theorem ReadS.no {t : ByteArray} {c a : Int} (h:ReadS l k us) (ht:l[k]?=some t) (hc:checkQ t=.inr (c,a)):eQ 0 l=.no k c a:=by
 unfold ReadS at h;rw[h,readQ_no ht hc];rfl
theorem ReadS.yes {t : ByteArray} (h:ReadS l k us) (ht:l[k]?=some t) (hc:checkQ t=.inl (n,sg)):ReadS l (k+1) (us++[⟨n,sg⟩]):=by
 unfold ReadS at h ⊢;rw[h,readQ_yes ht hc];cases eQ (k+1) (l.drop (k+1)) with
 | no u c a=>rfl
 | ok r=>show JR.ok _=JR.ok _;rw[List.append_assoc];rfl
theorem ReadS.fin (h:ReadS l l.length us):eQ 0 l=.ok us:=by
 unfold ReadS at h;rw[h,List.drop_length];show JR.ok _=JR.ok _;rw[List.append_nil]
abbrev bpA (uv tv:Value)(mo:Nat):Array Value:=#[.int .i64 0,.int .i32 0,.slice none 0 0,.int .i64 0,uv,tv,.map (some mo),.int .i64 0,.bool false]
def fN (K:List Uk):List (NM × NM):=K.map λ_=>(noN,noN)
theorem fN_len (K:List Uk):K.length=(fN K).length:=by simp [fN]
theorem Fr.bmRead {m1 m2 : Nat} {K : List Uk} (u:Uq) (h:Fr B w (.mp zN VNat m1 0 (λ_=>none)::.mp zN VNat m2 0 (λ_=>none)::.bm 0 K (fN K)::L)):Fr B w (.bm 0 (K++[(u,m1,m2)]) (fN (K++[(u,m1,m2)]))::L):=by
 have:=Fr.bmSnoc (f:=noN) (g:=noN) u h (fN_len K);rw[show fN (K++[(u,m1,m2)])=fN K++[(noN,noN)] by simp [fN]];exact this
def UsI (us:List Uq):Prop:=∀u,u∈us→(∃S,UqOk u S)∧UqI u
theorem UsI.nil:UsI []:=λ u h=>by cases h
theorem UsI.snoc {t : ByteArray} (h:UsI us) (hc:cV t=.inl (n,s)) (hn:Un n):UsI (us++[⟨n,signsC n s⟩]):=λ u hu=>by
 rcases List.mem_append.1 hu with hu|hu
 ·exact h u hu
 obtain rfl:=List.mem_singleton.1 hu;obtain⟨h1,h2⟩:=fO hc;obtain⟨h3,h4⟩:=parse_a h1;exact⟨⟨s,hn,h2,rfl⟩,hn,un_nk hn h3,h4,by simp [signsC]⟩
def PRead (l:List ByteArray)(B:Bs)(bp:Nat)(tv:Value)(mo:Nat)(L:List Rs)(e:Ending)(w':World):Prop:=
 (∃u c a:Int,eQ 0 l=.no u c a∧c≠0∧e=.returned (.agg #[.int .i64 u,.int .i64 c,.int .i64 a])∧Fr B w' L) ∨
 (∃uv K,eQ 0 l=.ok (K.map Prod.fst)∧UsI (K.map Prod.fst)∧K.length=l.length∧e=.returned (.agg #[.int .i64 0,.int .i64 0,.int .i64 0])∧Fr B w' (.bm 0 K (fN K)::.els UkE uv 62 8 K::.blk bp (bpA uv tv mo) 42::L))
theorem uisB_set:∀(K:List Uk)(F:List (NM × NM))(a b:Nat)(x:NM × NM),a≤b→uisB (K.take a) (F.set b x)=uisB (K.take a) F
 | [],F,a,b,x,h=>by rw[List.take_nil];rfl
 | k::K,F,0,b,x,h=>rfl
 | k::K,[],a+1,b,x,h=>rfl
 | k::K,f::F,a+1,0,x,h=>absurd h (Nat.not_succ_le_zero _)
 | k::K,f::F,a+1,b+1,x,h=>by
  rw[List.take_succ_cons,List.set_cons_succ];show _::uisB (K.take a) (F.set b x)=_::uisB (K.take a) F;rw[uisB_set K F a b x (by omega)]
theorem uisB_snoc:∀{K:List Uk}{F:List (NM × NM)}{a:Nat}{k:Uk}{f:NM × NM},K[a]?=some k→F[a]?=some f→uisB (K.take (a+1)) F=uisB (K.take a) F++[⟨k.1.node,f.1,f.2⟩]
 | [],_,a,k,f,hk,_=>by simp at hk
 | _::_,[],a,k,f,_,hf=>by simp at hf
 | k0::K,f0::F,0,k,f,hk,hf=>by
  simp at hk hf;subst hk hf;rfl
 | k0::K,f0::F,a+1,k,f,hk,hf=>by
  rw[List.take_succ_cons,List.take_succ_cons];show _::uisB (K.take (a+1)) F=_::(uisB (K.take a) F++_);rw[uisB_snoc (K:=K) (F:=F) (by simpa using hk) (by simpa using hf)]
def j0:Jn:=⟨noN,[],[]⟩
abbrev usK (K:List Uk):List Uq:=K.map Prod.fst
structure GatO (K:List Uk)(F:List (NM × NM))(a:Nat)(j:Jn):Prop where
 rest:∀b,a≤b→b<K.length→F[b]?=some (noN,noN)
 len:F.length=K.length
 now:j.now.length=j.ts.length
 eq:bI 0 [] (usK K) j0=bI a (uisB (K.take a) F) ((usK K).drop a) j
structure GatN (K:List Uk)(F:List (NM × NM))(a:Nat)(u:Uq)(i:Nat)(st me:NM)(j:Jn):Prop where
 rest:∀b,a<b→b<K.length→F[b]?=some (noN,noN)
 len:F.length=K.length
 at_:F[a]?=some (st,me)
 now:j.now.length=j.ts.length
 eq:bI 0 [] (usK K) j0=(gatherL a u i (u.node.kids.drop i) ⟨st,me,j⟩).bind λ m=>bI (a+1) (uisB (K.take a) F++[⟨u.node,m.st,m.me⟩]) ((usK K).drop (a+1)) m.j
theorem GatO.start (K:List Uk):GatO K (fN K) 0 j0:=⟨λ b _ hb=>by simp [fN,hb],(fN_len K).symm,rfl,rfl⟩
theorem GatO.opn {K : List Uk} {k : Uk} (h:GatO K F a j) (hk:K[a]?=some k):GatN K F a k.1 0 noN noN j:=by
 have ha:a<K.length:=(List.getElem?_eq_some_iff.1 hk).1;have hu:(usK K)[a]?=some k.1:=by simp [usK,hk]
 refine⟨λ b hb=>h.rest b (by omega),h.len,h.rest a (Nat.le_refl _) ha,h.now,?_⟩;rw[h.eq,dT hu,List.drop_zero];rfl
theorem GatN.step {K : List Uk} {st' : NM} {j' : Jn} (h:GatN K F a u i st me j) (hd:u.node.kids[i]?=some d) (hD:dJ a u i d ⟨st,me,j⟩=.ok ⟨st',me',j'⟩) (hn:j'.now.length=j'.ts.length):GatN K (F.set a (st',me')) a u (i+1) st' me' j':=by
 refine⟨λ b hb hb2=>?_,by rw[List.length_set];exact h.len,?_,hn,?_⟩
 ·rw[List.getElem?_set_ne (by omega)];exact h.rest b hb hb2
 ·exact List.getElem?_set_self (List.getElem?_eq_some_iff.1 h.at_).1
 rw[h.eq,dT hd,uisB_set K F a a _ (Nat.le_refl _)];show ((dJ a u i d ⟨st,me,j⟩).bind _).bind _=_;rw[hD];rfl
theorem GatN.no {K : List Uk} {x z : Int} (h:GatN K F a u i st me j) (hd:u.node.kids[i]?=some d) (hD:dJ a u i d ⟨st,me,j⟩=.no x y z):bI 0 [] (usK K) j0=.no x y z:=by
 rw[h.eq,dT hd];show ((dJ a u i d ⟨st,me,j⟩).bind _).bind _=_;rw[hD];rfl
theorem set_same {l : List α} (h:l[a]?=some x):l.set a x=l:=by
 obtain⟨hl,rfl⟩:=List.getElem?_eq_some_iff.1 h;exact List.set_getElem_self ..
theorem GatN.close {K : List Uk} {k : Uk} (h:GatN K F a k.1 k.1.node.kids.length st me j) (hk:K[a]?=some k):GatO K F (a+1) j:=by
 refine⟨λ b hb=>h.rest b hb,h.len,h.now,?_⟩;rw[h.eq,List.drop_length,uisB_snoc hk h.at_];rfl
theorem GatO.fin {K : List Uk} (h:GatO K F K.length j):bI 0 [] (usK K) j0=.ok (uisB K F,j):=by
 rw[h.eq,List.take_length,List.drop_eq_nil_of_le (by simp [usK])];rfl
section
theorem gat_struct (k:d.kind=2):dJ a u i d ⟨st,me,j⟩=.ok ⟨putM st d.text i,me,j⟩:=if_pos k
theorem gat_other (k2:¬ d.kind=2) (k7:¬ d.kind=7) (k6:¬ d.kind=6):dJ a u i d ⟨st,me,j⟩=.ok ⟨st,me,j⟩:=by
 unfold dJ;rw[if_neg k2,if_neg (by omega)]
theorem gat_twice (k:d.kind=7∨d.kind=6) (h1:(j.op d.text).isSome=true) (h2:dN d=false):dJ a u i d ⟨st,me,j⟩=.no a 5 (numAt u i):=by
 unfold dJ;rw[if_neg (by omega),if_pos k,if_pos ⟨h1,h2⟩]
theorem gat_thing (k:d.kind=7∨d.kind=6) (h:¬ ((j.op d.text).isSome=true∧dN d=false)):dJ a u i d ⟨st,me,j⟩=.ok ⟨st,putM me d.text j.ts.length,⟨if dN d=true then j.op else putM j.op d.text j.ts.length,j.ts++[⟨d,a,signOf u i⟩],j.now++[firstV d]⟩⟩:=by
 unfold dJ;rw[if_neg (by omega),if_pos k,if_neg h]
end
def PGat (K:List Uk)(B:Bs)(bp:Nat)(uv:Value)(mo:Nat)(L:List Rs)(e:Ending)(w':World):Prop:=
 (∃u c a:Int,bI 0 [] (usK K) j0=.no u c a∧c≠0∧e=.returned (.agg #[.int .i64 u,.int .i64 c,.int .i64 a])∧Fr B w' L) ∨
 (∃N F j tv,bI 0 [] (usK K) j0=.ok (uisB K F,j)∧N≤2804∧F.length=K.length∧j.now.length=j.ts.length∧j.ts.length≤N∧e=.returned (.agg #[.int .i64 0,.int .i64 0,.int .i64 0])∧Fr B w' (.bm N K F::.sl UkE uv 62 8 K::.blk bp (bpA uv tv mo) 42::.mp zN VNat mo N j.op::.els ThE tv 67 10 (j.ts.zip j.now)::L))
theorem zip_len (h:j.now.length=j.ts.length):(j.ts.zip j.now).length=j.ts.length:=by rw[List.length_zip,h,Nat.min_self]
theorem zip_snoc {l : List α} {k : List β} (h:k.length=l.length) (x:α) (y:β):(l++[x]).zip (k++[y])=l.zip k++[(x,y)]:=by rw[List.zip_append h.symm];rfl
theorem Fr.npTwo (h:Fr B w L) (i:Nat) {f : NM} (hi:L[i]?=some (.mp zN VNat mb N f)) (s:ByteArray) (hs:s.size≤maxLen) {tw : Bool} (ht:tw=(f s).isSome):(Instr.lookup 40 (.map (some mb)) (.string s) true).run prog w=.ok (.tuple #[.int .i64 ((f s).getD 0:Nat),.bool tw]) w:=by
 subst ht;exact (h.npLook i hi s hs).1
theorem gather12 {Ks : List Uk} {bp mo : Nat} {uv : Value} (h:Fr B w (.bm 0 Ks (fN Ks)::.sl UkE uv 62 8 Ks::.blk bp (bpA uv (.slice none 0 0) mo) 42::.mp zN VNat mo 0 noN::L)) (hu:∀u,u∈usK Ks→UqI u) (hl:Ks.length≤4):Calls prog 12 #[ptr bp] w (PGat Ks B bp uv mo L):=by
 have HU:=ah hu;have HKL:=ah hl;obtain⟨ua,ud,rfl,hul,-⟩:=h.slForm 1 rfl;have h0:Fr B w (.bm 0 Ks (fN Ks)::.sl UkE (.slice ua Ks.length ud) 62 8 Ks::.blk bp (bpA (.slice ua Ks.length ud) (.slice none 0 0) mo) 42::.mp zN VNat mo 0 j0.op::.els ThE (.slice none 0 0) 67 10 (j0.ts.zip j0.now)::L):=(h.noEls ThE 67 10).perm (List.perm_middle (l₁:=[_,_,_,_])).symm;have h1:=(h0.alloc (q:=w.heap.size) rfl #[.int .i64 0,.int .i64 0,.int .i64 0] 28).perm (List.perm_middle (l₁:=[_,_,_,_,_])).symm;have c_bp:=h1.cell 2 rfl;go_enter func12,ntmps12;go_wp2;clear c_bp;generalize (w.alloc (.cells #[.int .i64 0,.int .i64 0,.int .i64 0] 28))=wm at h1 ⊢;go_loopw [14] (λ iv wr=>Hid (∃(a N:Nat) (F:List (NM × NM)) (j:Jn) (tv:Value),a≤Ks.length∧iv=.int .i64 (a:Int)∧N≤701*a∧j.ts.length≤N∧GatO Ks F a j∧Fr B wr (.bm N Ks F::.sl UkE (.slice ua Ks.length ud) 62 8 Ks::.blk bp (bpA (.slice ua Ks.length ud) tv mo) 42::.mp zN VNat mo N j.op::.els ThE tv 67 10 (j.ts.zip j.now)::.blk w.heap.size #[.int .i64 0,.int .i64 0,.int .i64 0] 28::L))) (λ iv _=>Ks.length - (intOf iv).toNat)
 case atStart=>exact ah ⟨0,0,_,j0,_,Nat.zero_le _,rfl,Nat.zero_le _,Nat.zero_le _,GatO.start Ks,h1⟩
 clear h h0 h1 hu hl;obtain⟨a,N,F,j,tv,ha,rfl,hN,hT,hG,hf⟩:=hrel.out;clear hrel;obtain⟨wo,rfl⟩:∃wo:World,wo=wr:=⟨_,rfl⟩
 have HF:=hf;clear hf;by_cases hlt:a<Ks.length
 ·obtain⟨uk,huk⟩:∃uk,Ks[a]?=some uk:=⟨_,List.getElem?_eq_getElem hlt⟩
  have HA:=ah huk;have HLT:=ah hlt;have HUI:=ah (HU uk.1 (List.mem_map.2 ⟨uk,List.mem_of_getElem? huk,rfl⟩));have hkk:uk.1.node.kids.length≤700:=by have:=HUI.sz;have:=bU uk.1.node;have:=fA uk.1.node.kids;omega
  have ha4:a<4:=by have:=HKL.out;omega
  have hlb:(a:Int)<(Ks.length:Int):=by omega
  have HGN:=ah (hG.opn huk);obtain⟨g_u,o_u,d_u,a_u,c_u,sa,sc,na,nc,cur_u,f_u,huv,-,-,hu8,hsc,hnc,hf⟩:=HF.ukAt 1 rfl a huk;cases huv;obtain⟨u0,u1,u2,u3,u4,u5,u6,u7⟩:=eight_kn (hf.knc 0 rfl) hu8;replace HF:=hf;clear hf hu8 huk hlt hG;replace HF:=ax HF wo.heap.size #[.int .i64 uk.1.node.kind,.string uk.1.node.text,.int .i64 uk.1.node.num,.slice a_u uk.1.node.kids.length c_u,.slice sa uk.1.signs.length sc,.slice na uk.1.node.kids.length nc,.map (some uk.2.1),.map (some uk.2.2)] 62;have c_t4:=HF.cell 0 rfl;go_wp2;clear c_t4 u0 u1 u2 u3 u4 u5 u6 u7;generalize (wo.alloc (.cells #[.int .i64 uk.1.node.kind,.string uk.1.node.text,.int .i64 uk.1.node.num,.slice a_u uk.1.node.kids.length c_u,.slice sa uk.1.signs.length sc,.slice na uk.1.node.kids.length nc,.map (some uk.2.1),.map (some uk.2.2)] 62))=wm at HF ⊢;have hf:Fr B wm (([.blk wo.heap.size #[.int .i64 uk.1.node.kind,.string uk.1.node.text,.int .i64 uk.1.node.num,.slice a_u uk.1.node.kids.length c_u,.slice sa uk.1.signs.length sc,.slice na uk.1.node.kids.length nc,.map (some uk.2.1),.map (some uk.2.2)] 62,.sl StE (.slice sa uk.1.signs.length sc) 9 1 uk.1.signs,.sl IntE (.slice na uk.1.node.kids.length nc) 3 1 (dM 1 uk.1.node.kids),.el NdE (ndc uk.1.node.kind uk.1.node.text uk.1.node.num a_u uk.1.node.kids.length c_u) uk.1.node]++[.bm N Ks F,.sl UkE (.slice (some ⟨g_u,o_u,none⟩) Ks.length ud) 62 8 Ks,.blk bp (bpA (.slice (some ⟨g_u,o_u,none⟩) Ks.length ud) tv mo) 42,.mp zN VNat mo N j.op,.els ThE tv 67 10 (j.ts.zip j.now),.blk w.heap.size #[.int .i64 0,.int .i64 0,.int .i64 0] 28])++L):=HF.lose;have hf2:=hf.perm (List.Perm.append_right L (List.perm_append_comm (l₁:=[_,_,_,_]) (l₂:=[_,_,_,_,_,_])));go_loopw [23] (λ iv wr=>Hid (∃(i N:Nat) (F:List (NM × NM)) (st me:NM) (j:Jn) (tv:Value),i≤uk.1.node.kids.length∧iv=.int .i64 (i:Int)∧N≤701*a+i∧j.ts.length≤N∧GatN Ks F a uk.1 i st me j∧Fr B wr (.bm N Ks F::.sl UkE (.slice (some ⟨g_u,o_u,none⟩) Ks.length ud) 62 8 Ks::.blk bp (bpA (.slice (some ⟨g_u,o_u,none⟩) Ks.length ud) tv mo) 42::.mp zN VNat mo N j.op::.els ThE tv 67 10 (j.ts.zip j.now)::.blk w.heap.size #[.int .i64 0,.int .i64 0,.int .i64 0] 28::.blk wo.heap.size #[.int .i64 uk.1.node.kind,.string uk.1.node.text,.int .i64 uk.1.node.num,.slice a_u uk.1.node.kids.length c_u,.slice sa uk.1.signs.length sc,.slice na uk.1.node.kids.length nc,.map (some uk.2.1),.map (some uk.2.2)] 62::.sl StE (.slice sa uk.1.signs.length sc) 9 1 uk.1.signs::.sl IntE (.slice na uk.1.node.kids.length nc) 3 1 (dM 1 uk.1.node.kids)::.el NdE (ndc uk.1.node.kind uk.1.node.text uk.1.node.num a_u uk.1.node.kids.length c_u) uk.1.node::L))) (λ iv _=>uk.1.node.kids.length - (intOf iv).toNat)
  case atStart=>exact ah ⟨0,N,F,noN,noN,j,tv,Nat.zero_le _,rfl,by omega,hT,HGN,hf2⟩
  clear HF hf hf2 HGN hT hN;obtain⟨i,N,F,st,me,j,tv,hi,rfl,hN,hT,hG,hf⟩:=hrel.out;clear hrel;obtain⟨ta,tc,rfl,htl,-⟩:=hf.elsForm 4 rfl;rw[zip_len hG.now] at hf htl;have HG:=ah hG;have HF:=hf;clear hf hG;by_cases hlt:i<uk.1.node.kids.length
  ·obtain⟨d,hd⟩:∃d,uk.1.node.kids[i]?=some d:=⟨_,List.getElem?_eq_getElem hlt⟩
   have hdm:=List.mem_of_getElem? hd;obtain⟨sg,hs⟩:∃sg,uk.1.signs[i]?=some sg:=⟨_,List.getElem?_eq_getElem (by rw[HUI.out.sg];exact hlt)⟩
   obtain⟨m,hm⟩:∃m,(dM 1 uk.1.node.kids)[i]?=some m:=⟨_,List.getElem?_eq_getElem (by rw[dG];exact hlt)⟩
   have HD:=ah hd;have HDM:=ah hdm;have HSG:Hid (signOf uk.1 i=sg):=ah (by unfold signOf;rw[List.getD_eq_getElem?_getD,hs];rfl);have HNU:Hid (numAt uk.1 i=(m:Int)):=ah (by unfold numAt;rw[List.getD_eq_getElem?_getD,hm];rfl);have HNK:=ah (HUI.nk.kids d hdm);have HDE:Hid (De d):=ah (by obtain⟨l,e,hl⟩:=HUI.un;rw[e] at hdm;exact hl d hdm);have hxt:d.text.size≤maxLen:=Nat.le_trans HNK.text (by decide);have HLT:=ah hlt;have hlb2:(i:Int)<(uk.1.node.kids.length:Int):=by omega
   have hlb3:(i:Int)<(uk.1.signs.length:Int):=by rw[HUI.out.sg];omega
   obtain⟨g_d,o_d,a_d,c_d,cur_d,f_d,ha_d,hc1,hc2,hk_d,hf⟩:=HF.kidK 9 rfl i hd;have HK_d:=ah hk_d;obtain⟨g_s,o_s,hsa,-,cur_s,f_s,hc_s,hf⟩:=hf.stAt 9 rfl i hs;have HCS:=ah hc_s;obtain⟨g_m,o_m,hma,cur_m,f_m,hc_m,hf⟩:=hf.inAt 11 rfl i hm;have HCM:=ah hc_m;replace HF:=hf;clear hf hk_d hc1 hc2 hd hdm hs hm hc_s hc_m hlt;subst ha_d hsa hma;obtain⟨e0,e1,e2,e3⟩:=aC (HF.knc 3 rfl) HK_d;replace HF:=aM HF wr.heap.size d a_d c_d;replace HF:=Fr.fr51 HF;have c_t6:=HF.cell 1 rfl;have c_t4:=HF.cell 11 rfl;by_cases k2:d.kind=2
   ·obtain⟨w6,hup,hf6⟩:=HF.bmPut1 (a:=a) HA HG.at_ d.text hxt i (by omega);have HK2:=ah k2;have q2:(d.kind=2)=True:=eq_true k2;have q2b:(d.kind == 2)=true:=by rw[k2];decide
    clear k2;replace HF:=hf6.lose (K:=.bm (N+1) Ks (F.set a (putM st d.text i,me))::.sl UkE (.slice (some ⟨g_u,o_u,none⟩) Ks.length ud) 62 8 Ks::.blk bp (bpA (.slice (some ⟨g_u,o_u,none⟩) Ks.length ud) (.slice ta j.ts.length tc) mo) 42::.mp zN VNat mo N j.op::.els ThE (.slice ta j.ts.length tc) 67 10 (j.ts.zip j.now)::.blk w.heap.size #[.int .i64 0,.int .i64 0,.int .i64 0] 28::.blk wo.heap.size #[.int .i64 uk.1.node.kind,.string uk.1.node.text,.int .i64 uk.1.node.num,.slice (some ⟨g_d,o_d,none⟩) uk.1.node.kids.length c_u,.slice (some ⟨g_s,o_s,none⟩) uk.1.signs.length sc,.slice (some ⟨g_m,o_m,none⟩) uk.1.node.kids.length nc,.map (some uk.2.1),.map (some uk.2.2)] 62::.sl StE (.slice (some ⟨g_s,o_s,none⟩) uk.1.signs.length sc) 9 1 uk.1.signs::.sl IntE (.slice (some ⟨g_m,o_m,none⟩) uk.1.node.kids.length nc) 3 1 (dM 1 uk.1.node.kids)::.el NdE (ndc uk.1.node.kind uk.1.node.text uk.1.node.num (some ⟨g_d,o_d,none⟩) uk.1.node.kids.length c_u) uk.1.node::L);clear hf6;go_wp2;exact⟨ah ⟨i+1,N+1,F.set a (putM st d.text i,me),putM st d.text i,me,j,_,HLT,rfl,by omega,by omega,HG.step HD (gat_struct HK2) HG.now,HF.mpMore 3 rfl (Nat.le_succ N)⟩,by simp only[intOf];have:=HLT.out;omega⟩
   by_cases k7:d.kind=7
   focus (
    have HK67:Hid (d.kind=7∨d.kind=6):=ah (by first|exact .inl k7|exact .inr k7);have qa2:(d.kind=2)=False:=by rw[k7];exact eq_false (by decide)
    have qb2:(d.kind == 2)=false:=by rw[k7];decide
    have qa7:(d.kind=7)=True:=eq_true k7;have qb7:(d.kind == 7)=true:=by rw[k7];decide
    have qa6:(d.kind=6)=False:=by rw[k7];exact eq_false (by decide)
    have qb6:(d.kind == 6)=false:=by rw[k7];decide
    clear k7 k2;go_wp2;clear qa2 qb2 qa7 qb7 qa6 qb6;clear e0 e1 e2 e3 c_t6 c_t4)
   rotate_left;by_cases k6:d.kind=6
   focus (
    have HK67:Hid (d.kind=7∨d.kind=6):=ah (by first|exact .inl k6|exact .inr k6);have qa2:(d.kind=2)=False:=by rw[k6];exact eq_false (by decide)
    have qb2:(d.kind == 2)=false:=by rw[k6];decide
    have qa7:(d.kind=7)=False:=by rw[k6];exact eq_false (by decide)
    have qb7:(d.kind == 7)=false:=by rw[k6];decide
    have qa6:(d.kind=6)=True:=eq_true k6;have qb6:(d.kind == 6)=true:=by rw[k6];decide
    clear k6 k2 k7;go_wp2;clear qa2 qb2 qa7 qb7 qa6 qb6;clear e0 e1 e2 e3 c_t6 c_t4)
   rotate_left
   ·have HK2:=ah k2;have HK7:=ah k7;have HK6:=ah k6;have qa2:(d.kind=2)=False:=eq_false k2;have qb2:(d.kind == 2)=false:=by simpa using k2
    have qa7:(d.kind=7)=False:=eq_false k7;have qb7:(d.kind == 7)=false:=by simpa using k7
    have qa6:(d.kind=6)=False:=eq_false k6;have qb6:(d.kind == 6)=false:=by simpa using k6
    clear k2 k7 k6;go_wp2;exact⟨ah ⟨i+1,N,F.set a (st,me),st,me,j,_,HLT,rfl,by omega,hT,HG.step HD (gat_other HK2 HK7 HK6) HG.now,by rw[set_same HG.out.at_];exact HF.lose⟩,by simp only[intOf];have:=HLT.out;omega⟩
   all_goals (
    obtain⟨tw,htw⟩:∃tw,tw=(j.op d.text).isSome:=⟨_,rfl⟩
    have HTW:=ah htw;clear htw;refine regK [] HF (λ w h=>aI (h.cell 7 rfl) (aI (h.cell 1 rfl) (h.npTwo 8 rfl d.text hxt HTW))) (λ wd11 HF hC=>?_);refine tq4 0 1 2 3 ?_;refine tq4 4 5 6 7 ?_;refine tq4 8 9 10 11 ?_;refine dq ?_;obtain⟨wy,rfl⟩:∃wy:World,wy=wd11:=⟨_,rfl⟩
    have c_t6:=HF.cell 1 rfl;rcases tw with _|_;focus (
     have HC:Hid (¬ ((j.op d.text).isSome=true∧dN d=false)):=ah (by rw[← HTW.out];exact λ h=>absurd h.1 (by decide));go_wp2;clear c_t6)
    rotate_left;focus (
     go_wp2_with fail;clear c_t6;go_at_call 20;refine (isStatic_any HF d _ _ _).mono ?_;rintro e wz ⟨rfl,HF⟩;obtain⟨tb,htb⟩:∃tb,tb=dN d:=⟨_,rfl⟩
     rw[← htb];have HTB:=ah htb;clear htb;obtain⟨wy,rfl⟩:∃wy:World,wy=wz:=⟨_,rfl⟩)
    rcases tb with _|_
    ·have c_t4:=HF.cell 11 rfl;obtain⟨c_r,f_r⟩:=cf HF 10;have c_km:=(HF.knc 2 rfl (o_m+i)).trans HCM;replace HF:=HF.nd3 10 rfl (.int .i64 a) (.int .i64 5) (.int .i64 m);go_wp2;clear c_t4 c_r f_r c_km;refine br (rt28 results12 rfl (HF.blkAt 10 rfl)) ?_;exact Or.inl ⟨a,5,m,HG.no HD (by rw[gat_twice HK67.out HTW.out.symm HTB.out.symm,HNU.out]),by decide,rfl,HF.lose⟩
    focus (
     have HC:Hid (¬ ((j.op d.text).isSome=true∧dN d=false)):=ah (by rw[← HTB.out];exact λ h=>absurd h.2 (by decide));clear HTB;go_wp2_with fail)
    rotate_left;all_goals (
     refine regK [] HF (λ w h=>aI (h.cell 11 rfl) (aI (h.cell 1 rfl) (h.cell 7 rfl))) (λ wd12 HF hC=>?_);refine tq4 0 1 2 3 ?_;refine tq4 4 5 6 7 ?_;refine tq 8 ?_;refine rq 9 λ K hK=>?_;obtain⟨w9,hup,hf9⟩:=HF.bmPut2 (a:=a) HA HG.at_ d.text hxt j.ts.length (by omega);go_simp;replace HF:=hf9;clear hf9 hup;refine uq hK ⟨(HF.cell 11 rfl),(HF.cell 1 rfl),(HF.cell 7 rfl)⟩ λ hC=>?_;refine dq ?_;have c_t6:=HF.cell 1 rfl;go_wp2_with fail;clear c_t6;go_at_call 20;refine (isStatic_any HF d _ _ _).mono ?_;rintro e wz ⟨rfl,HF⟩;obtain⟨op,hop⟩:∃op:NM,op=(if dN d=true then j.op else putM j.op d.text j.ts.length):=⟨_,rfl⟩
     have HOP:=ah hop;clear hop;obtain⟨tb,htb⟩:∃tb,tb=dN d:=⟨_,rfl⟩
     rw[← htb];have HTB:=ah htb;clear htb;rcases tb with _|_;focus (
      have HE:Hid (op=putM j.op d.text j.ts.length):=ah (by rw[HOP.out,← HTB.out];rfl);go_wp2;refine regK [] HF (λ w h=>aI (h.cell 7 rfl) (h.cell 1 rfl)) (λ wd13 HF hC=>?_);refine tq4 0 1 2 3 ?_;refine tq4 4 5 6 7 ?_;refine tq3 8 9 10 ?_;refine rq 11 λ K hK=>?_;obtain⟨w11,hup,hf11⟩:=HF.mpNamedAt 8 rfl d.text hxt j.ts.length (by omega);rw[← HE.out] at hf11;go_simp;replace HF:=hf11;clear hf11 hup HE;refine uq hK ⟨(HF.cell 7 rfl),(HF.cell 1 rfl)⟩ λ hC=>?_;refine dq ?_;go_wp2;clear HTB;obtain⟨wt,rfl⟩:∃wt:World,wt=w11:=⟨_,rfl⟩)
     rotate_left;focus (
      have HE:Hid (op=j.op):=ah (by rw[HOP.out,← HTB.out];rfl);have hf:=HF.mpMore 8 rfl (Nat.le_succ N);rw[← HE.out] at hf;replace HF:=hf;clear hf HE HTB;go_wp2;obtain⟨wt,rfl⟩:∃wt:World,wt=wz:=⟨_,rfl⟩)
     rotate_left;all_goals (
      refine regK [17,18,19] HF (λ w h=>aI (h.cell 7 rfl) (aI (h.cell 1 rfl) (aI (h.cell 11 rfl) ((h.knc 3 rfl (o_s+i)).trans HCS)))) (λ wd13 HF hC=>?_);refine tq4 0 1 2 3 ?_;refine tq4 4 5 6 7 ?_;refine tq4 8 9 10 11 ?_;refine tq 12 ?_;refine rq 13 λ K hK=>?_;go_simp;refine (firstV_any HF 4 rfl HNK (de_kid1 HDE)).mono ?_;rintro e w13 ⟨a_v,c_v,pa_v,pc_v,rfl,r_v,hf⟩;obtain⟨v,hv⟩:∃v,v=firstV d:=⟨_,rfl⟩
      rw[← hv] at hf r_v ⊢;have HV:=ah hv;replace HF:=hf;clear hf hv;refine uq hK ⟨(HF.cell 8 rfl),(HF.cell 2 rfl),(HF.cell 12 rfl),((HF.knc 4 rfl (o_s+i)).trans HCS)⟩ λ hC=>?_;refine tq 14 ?_;refine rq 15 λ K hK=>?_;replace HF:=HF.thOf 5 0 rfl rfl a sg;replace HF:=ax HF w13.heap.size #[.int .i64 d.kind,.string d.text,.int .i64 d.num,.slice a_d d.kids.length c_d,.int .i64 a,.string sg,.int .i64 v.kind,.int .i64 v.num,.slice a_v v.names.length c_v,.slice pa_v v.parts.length pc_v] 67;go_simp;refine uq hK ⟨(HF.cell 10 rfl),(HF.cell 4 rfl),(HF.cell 14 rfl),((HF.knc 6 rfl (o_s+i)).trans HCS)⟩ λ hC=>?_;refine rq 16 λ K hK=>?_;refine fR (by rfl) (Fr.elApp info67 underlying39 rfl (by decide) (by decide) HF 11 rfl (by rw[zip_len HG.out.now];omega) 0 rfl _ _ rfl rfl (by rfl) rfl (by rfl) λ g7 cap7 w7 hF hgr=>?_);clear hgr;rw[zip_len HG.out.now] at hF ⊢;replace HF:=hF;clear hF;refine uq hK ⟨(HF.cell 9 rfl),(HF.cell 3 rfl),(HF.cell 13 rfl),((HF.knc 5 rfl (o_s+i)).trans HCS)⟩ λ hC=>?_;refine tqP 17 ?_;refine tqP 18 ?_;refine rqb 19 λ K hK=>?_;obtain⟨c_r,f_r⟩:=cf HF 9;replace HF:=HF.set95 9 rfl (.slice (some ⟨g7,0,none⟩) (j.ts.length+1) cap7);go_simp;clear c_r f_r;refine ub hK ?_;refine dq ?_;go_wp2;have hf:=HF;rw[← zip_snoc HG.out.now] at hf;have hD:=gat_thing (a:=a) (i:=i) (u:=uk.1) (st:=st) (me:=me) HK67 HC;rw[← HOP.out,HSG.out,← HV.out] at hD;exact⟨ah ⟨i+1,N+1,F.set a (st,putM me d.text j.ts.length),st,putM me d.text j.ts.length,⟨op,j.ts++[⟨d,a,sg⟩],j.now++[v]⟩,_,HLT,rfl,by omega,by show (j.ts++[_]).length≤_;rw[List.length_append];show j.ts.length+1≤N+1;omega,HG.step HD hD (by show (j.now++[_]).length=(j.ts++[_]).length;rw[List.length_append,List.length_append,HG.out.now];rfl),hf.lose⟩,by simp only[intOf];have:=HLT.out;omega⟩)))
  have hil:i=uk.1.node.kids.length:=by omega
  subst hil;have hli:¬ (uk.1.node.kids.length:Int)<(uk.1.node.kids.length:Int):=by omega
  go_wp2;exact⟨ah ⟨a+1,N,F,j,_,HLT,rfl,by omega,hT,HG.close HA,HF.lose⟩,by simp only[intOf];have:=HLT.out;omega⟩
 have hal:a=Ks.length:=by omega
 subst hal;have hli:¬ (Ks.length:Int)<(Ks.length:Int):=by omega
 obtain⟨c_r,f_r⟩:=cf HF 5;replace HF:=HF.nd3 5 rfl (.int .i64 0) (.int .i64 0) (.int .i64 0);go_wp2;clear c_r f_r;refine br (rt28 results12 rfl (HF.blkAt 5 rfl)) ?_;exact Or.inr ⟨N,F,j,tv,hG.fin,by have:=HKL.out;omega,hG.len,hG.now,hT,rfl,HF.lose⟩
structure ResO (K:List Uk)(F0 F:List (NM × NM))(a:Nat)(j:Jn):Prop where
 rest:∀b,a≤b→F[b]?=F0[b]?
 len:F.length=K.length
 eq:bF j 0 [] (usK K) (uisB K F0)=bF j a (uisB (K.take a) F) ((usK K).drop a) ((uisB K F0).drop a)
structure ResN (K:List Uk)(F0 F:List (NM × NM))(a:Nat)(u:Uq)(i:Nat)(st me:NM)(j:Jn):Prop where
 rest:∀b,a<b→F[b]?=F0[b]?
 len:F.length=K.length
 at_:F[a]?=some (st,me)
 eq:bF j 0 [] (usK K) (uisB K F0)=(resolveL a u j i (u.node.kids.drop i) me).bind λ me'=>bF j (a+1) (uisB (K.take a) F++[⟨u.node,st,me'⟩]) ((usK K).drop (a+1)) ((uisB K F0).drop (a+1))
theorem ResO.start {K : List Uk} (h:F0.length=K.length) (j:Jn):ResO K F0 F0 0 j:=⟨λ b _=>rfl,h,rfl⟩
theorem ResO.opn {K : List Uk} {k : Uk} (h:ResO K F0 F a j) (hk:K[a]?=some k):∃st me,ResN K F0 F a k.1 0 st me j:=by
 have ha:a<K.length:=(List.getElem?_eq_some_iff.1 hk).1;have hu:(usK K)[a]?=some k.1:=by simp [usK,hk]
 obtain⟨f,hF⟩:∃f,F[a]?=some f:=⟨_,List.getElem?_eq_getElem (by rw[h.len];exact ha)⟩
 refine⟨f.1,f.2,λ b hb=>h.rest b (by omega),h.len,hF,?_⟩;have hF0:F0[a]?=some f:=by rw[← h.rest a (Nat.le_refl _)];exact hF
 rw[h.eq,dT hu,dT (uisB_at hk hF0),List.drop_zero];rfl
theorem ResN.step {K : List Uk} (h:ResN K F0 F a u i st me j) (hd:u.node.kids[i]?=some d) (hD:bZ a u j i d me=.ok me'):ResN K F0 (F.set a (st,me')) a u (i+1) st me' j:=by
 refine⟨λ b hb=>?_,by rw[List.length_set];exact h.len,?_,?_⟩
 ·rw[List.getElem?_set_ne (by omega)];exact h.rest b hb
 ·exact List.getElem?_set_self (List.getElem?_eq_some_iff.1 h.at_).1
 rw[h.eq,dT hd,uisB_set K F a a _ (Nat.le_refl _)];show ((bZ a u j i d me).bind _).bind _=_;rw[hD];rfl
theorem ResN.no {K : List Uk} {x z : Int} (h:ResN K F0 F a u i st me j) (hd:u.node.kids[i]?=some d) (hD:bZ a u j i d me=.no x y z):bF j 0 [] (usK K) (uisB K F0)=.no x y z:=by
 rw[h.eq,dT hd];show ((bZ a u j i d me).bind _).bind _=_;rw[hD];rfl
theorem ResN.close {K : List Uk} {k : Uk} (h:ResN K F0 F a k.1 k.1.node.kids.length st me j) (hk:K[a]?=some k):ResO K F0 F (a+1) j:=by
 refine⟨λ b hb=>h.rest b hb,h.len,?_⟩;rw[h.eq,List.drop_length,uisB_snoc hk h.at_];rfl
theorem ResO.fin {K : List Uk} (h:ResO K F0 F K.length j):bF j 0 [] (usK K) (uisB K F0)=.ok (uisB K F):=by
 have hd:(usK K).drop K.length=[]:=List.drop_eq_nil_of_le (by simp [usK]);rw[h.eq,List.take_length,hd];simp [bF]
section
variable {p : Nat} {t : Th}
theorem res_other (k4:¬ d.kind=4) (k5:¬ d.kind=5):bZ a u j i d me=.ok me:=by
 unfold bZ;rw[if_neg (by omega)]
theorem res_none (k:d.kind=4∨d.kind=5) (h:j.op d.text=none):bZ a u j i d me=.no a 4 (numAt u i):=by
 unfold bZ;rw[if_pos k,h]
theorem res_sign (k:d.kind=4∨d.kind=5) (h:j.op d.text=some p) (ht:j.ts[p]?=some t) (hs:t.sign≠signOf u i):bZ a u j i d me=.no a 3 (numAt u i):=by
 unfold bZ;rw[if_pos k,h];simp only[ht];exact if_pos hs
theorem res_yes (k:d.kind=4∨d.kind=5) (h:j.op d.text=some p) (ht:j.ts[p]?=some t) (hs:t.sign=signOf u i):bZ a u j i d me=.ok (putM me d.text p):=by
 unfold bZ;rw[if_pos k,h];simp only[ht];exact if_neg (λ h=>h hs)
end
theorem Fr.thAt {ta : Option Addr} {n tc : Nat} (h:Fr B w L) (i:Nat) (hi:L[i]?=some (.els ThE (.slice ta n tc) 67 10 (j.ts.zip j.now))) (hn:j.now.length=j.ts.length) {p : Nat} {t : Th} (hp:j.ts[p]?=some t):
  ∃g,ta=some ⟨g,0,none⟩∧p<j.ts.length∧w.cell? ⟨g,p*10,none⟩=some (.int .i64 t.node.kind)∧w.cell? ⟨g,p*10+5,none⟩=some (.string t.sign):=by
 obtain⟨hl,rfl⟩:=List.getElem?_eq_some_iff.1 hp;have hz:p<(j.ts.zip j.now).length:=by rw[zip_len hn];exact hl
 obtain⟨g,ha,-,-,cs,hcl,hcc,hf⟩:=h.elsGet i hi p hz;rw[List.getElem_zip] at hf;obtain⟨H,h1,-⟩:=hf.get (i:=0) rfl;obtain⟨x0,x1,x2,x3,y0,y1,y2,y3,e1,hn1,-⟩:ThE.p H cs (j.ts[p],j.now[p]'(by omega)):=h1;obtain⟨a,c,e⟩:=NdH.form hn1;cases e;rw[e1] at hcc;exact⟨g,ha,hl,hcc 0 (by omega),hcc 5 (by omega)⟩
def PRes (K:List Uk)(F0:List (NM × NM))(j:Jn)(N0:Nat)(B:Bs)(bp:Nat)(uv tv:Value)(mo:Nat)(L:List Rs)(e:Ending)(w':World):Prop:=
 (∃u c a:Int,bF j 0 [] (usK K) (uisB K F0)=.no u c a∧c≠0∧e=.returned (.agg #[.int .i64 u,.int .i64 c,.int .i64 a])∧Fr B w' L) ∨
 (∃N F,bF j 0 [] (usK K) (uisB K F0)=.ok (uisB K F)∧F.length=K.length∧e=.returned (.agg #[.int .i64 0,.int .i64 0,.int .i64 0])∧Fr B w' (.bm N K F::.sl UkE uv 62 8 K::.blk bp (bpA uv tv mo) 42::.mp zN VNat mo N0 j.op::.els ThE tv 67 10 (j.ts.zip j.now)::L))
end Go.Proofs.YtdnhbedbpbgeeaaGreatDoor.K
