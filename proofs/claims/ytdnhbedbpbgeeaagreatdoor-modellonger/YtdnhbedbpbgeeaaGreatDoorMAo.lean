/- 14 -/
import Derived.Test.YtdnhbedbpbgeeaaGreatDoorMAn
set_option maxRecDepth 100000
set_option maxHeartbeats 2000000
set_option linter.all false
namespace Go.Proofs.YtdnhbedbpbgeeaaGreatDoor.K
open Go.RowKit Go.Proofs.Tryz
variable {t t' b : T.Ty} {a : Option Addr} {v : Va} {τ ts : List T.Ty} {x : ByteArray} {k i n f M bp z N : Nat} {p : Pm} {vs lo : List Va} {α : Type} {pg : Pg} {u : Ui} {m : NM} {ov : Bool} {H : Snap} {s' S' s'' : Cs} {F : TM} {E : El α} {l : List α} {q : CR α}
variable {B : Bs} {w w' : World} {L : List Rs}
theorem Fr.pmThing {q : PQ} (h:Fr B w L) (i:Nat) (hi:L[i]?=some (.pm bp q pg f p ov)) (hn:p.now.length=pg.ts.length) (j:Nat) {t : Th} (ht:pg.ts[j]?=some t):
  ∃(g d:Nat) (a:Option Addr) (c:Nat) (v:Va) (a1:Option Addr) (c1:Nat) (a2:Option Addr) (c2:Nat),q.tv=.slice (some ⟨g,0,none⟩) pg.ts.length d∧j<pg.ts.length∧pg.ts.length≤maxLen ∧
   (∀k,k<10→w.cell? ⟨g,j*10+k,none⟩=[Value.int .i64 t.node.kind,.string t.node.text,.int .i64 t.node.num,.slice a t.node.kids.length c,.int .i64 t.unit,.string t.sign,.int .i64 v.kind,.int .i64 v.num,.slice a1 v.names.length c1,.slice a2 v.parts.length c2][k]?) ∧
   Fr B w (.el NdE (ndc t.node.kind t.node.text t.node.num a t.node.kids.length c) t.node::L):=by
 obtain⟨hj,rfl⟩:=List.getElem?_eq_some_iff.1 ht;obtain⟨tg,d,e,hd1,hd2⟩:=h.pmTv i hi hn (by omega);obtain⟨H,hF⟩:=h;have hels:=(hF.ok _ (List.mem_of_getElem? hi)).1 (.els ThE q.tv 67 10 (pg.ts.zip p.now)) (by simp);rw[e] at hels;have hl:(pg.ts.zip p.now).length=pg.ts.length:=by rw[List.length_zip];omega
 have hz:j<(pg.ts.zip p.now).length:=by omega
 obtain⟨g',css,e1,hn',k1,k2,k4,k5⟩:=fD hels (λ e=>by rw[e] at hz;simp at hz);cases e1;have hj':j<css.length:=by omega
 have hE:=k5 j hz hj';rw[List.getElem_zip] at hE;obtain⟨x0,x1,x2,x3,y0,y1,y2,y3,e4,en,e5⟩:ThE.p H css[j] (pg.ts[j],p.now[j]'(by omega)):=hE;have hF2:Fr B w (.el VaE [y0,y1,y2,y3] (p.now[j]'(by omega))::L):=⟨H,hF.free (r:=.el VaE [y0,y1,y2,y3] (p.now[j]'(by omega))) e5 λ q hq=>hq⟩
 obtain⟨a1,c1,a2,c2,ev,-⟩:=hF2.knFour;have hF3:Fr B w (.el NdE [x0,x1,x2,x3] pg.ts[j].node::L):=⟨H,hF.free (r:=.el NdE [x0,x1,x2,x3] pg.ts[j].node) en λ q hq=>hq⟩
 obtain⟨a,c,ex⟩:=hF3.ndForm 0 rfl;have hc:∀k,k<10→w.cell? ⟨tg,j*10+k,none⟩=css[j][k]?:=λ k hk=>by
  rw[k4.cellAt _ (by calc j*10+k<j*10+10:=by omega
   _=(j+1)*10:=(Nat.succ_mul j 10).symm
   _≤pg.ts.length*10:=Nat.mul_le_mul_right 10 hj),fQ k2 j hj' k hk]
 rw[e4] at hc;cases ex;cases ev;exact⟨tg,d,a,c,_,a1,c1,a2,c2,e,hj,by omega,hc,hF3⟩
theorem Fr.pmUnit {q : PQ} (h:Fr B w L) (i:Nat) (hi:L[i]?=some (.pm bp q pg f p ov)) (j:Nat) (hu:pg.us[j]?=some u):
  ∃(g o d:Nat) (a:Option Addr) (c:Nat) (sg nu:Value) (m1 m2:Nat) (cur:Array Value) (f':Nat × Nat),q.uv=.slice (some ⟨g,o,none⟩) pg.us.length d∧j<pg.us.length ∧
   (∀k,k<8→cur[o+j*8+k]?=[Value.int .i64 u.node.kind,.string u.node.text,.int .i64 u.node.num,.slice a u.node.kids.length c,sg,nu,.map (some m1),.map (some m2)][k]?) ∧
   Fr B w (.kn g cur 62 f'::.sm m1 u.st::.sm m2 u.me::.el NdE (ndc u.node.kind u.node.text u.node.num a u.node.kids.length c) u.node::L):=by
 obtain⟨hj,rfl⟩:=List.getElem?_eq_some_iff.1 hu;obtain⟨H,hF⟩:=h;have hsl:=(hF.ok _ (List.mem_of_getElem? hi)).1 (.sl UiE q.uv 62 8 pg.us) (by simp);obtain⟨a',c',e1,-⟩:=id hsl;have hsl':SlP UiE (.slice a' pg.us.length c') 62 8 pg.us H:=e1 ▸ hsl;obtain⟨g,o,cur,f',css,rfl,-,h2,h3,h4,h5,h6⟩:=sl_css hsl' (by decide) (λ e=>by rw[e] at hj;simp at hj);have hj':j<css.length:=by omega
 obtain⟨x0,x1,x2,x3,sg,nu,m1,m2,e4,en,es1,es2⟩:UiE.p H css[j] pg.us[j]:=h6 j hj hj';have hc:∀k,k<8→cur[o+j*8+k]?=css[j][k]?:=λ k hk=>by
  rw[Nat.add_assoc];have hk':k<css[j].length:=by rw[h4 _ (List.getElem_mem hj')];exact hk
  have h7:css.flatten[j*8+k]?=css[j][k]?:=fQ h4 j hj' k hk;rw[List.getElem?_eq_getElem hk'] at h7 ⊢;exact h5 _ _ h7
 have F1:Fr B w (.el NdE [x0,x1,x2,x3] pg.us[j].node::L):=⟨H,hF.free (r:=.el NdE [x0,x1,x2,x3] pg.us[j].node) en λ q hq=>hq⟩
 obtain⟨a,c,ex⟩:=F1.ndForm 0 rfl;have F2:=hF.free (r:=.el NdE [x0,x1,x2,x3] pg.us[j].node) en λ q hq=>hq;have F3:=F2.free (r:=.sm m2 pg.us[j].me) es2 λ q hq=>hq;have F4:=F3.free (r:=.sm m1 pg.us[j].st) es1 λ q hq=>hq;have F5:=F4.free (r:=.kn g cur 62 f') h2 λ q hq=>hq;rw[e4] at hc;cases ex;exact⟨g,o,c',a,c,sg,nu,m1,m2,cur,f',e1,hj,hc,H,F5⟩
theorem eight_kn {g o : Nat} {cur : Array Value} {v0 v1 v2 v3 v4 v5 v6 v7 : Value} (h:∀o,w.cell? ⟨g,o,none⟩=cur[o]?) (hc:∀k,k<8→cur[o+k]?=[v0,v1,v2,v3,v4,v5,v6,v7][k]?):
  w.cell? ⟨g,o,none⟩=some v0∧w.cell? ⟨g,o+1,none⟩=some v1∧w.cell? ⟨g,o+2,none⟩=some v2∧w.cell? ⟨g,o+3,none⟩=some v3∧w.cell? ⟨g,o+4,none⟩=some v4∧w.cell? ⟨g,o+5,none⟩=some v5∧w.cell? ⟨g,o+6,none⟩=some v6∧w.cell? ⟨g,o+7,none⟩=some v7:=
 ⟨(h _).trans (hc 0 (by omega)),(h _).trans (hc 1 (by omega)),(h _).trans (hc 2 (by omega)),(h _).trans (hc 3 (by omega)),(h _).trans (hc 4 (by omega)),(h _).trans (hc 5 (by omega)),(h _).trans (hc 6 (by omega)),(h _).trans (hc 7 (by omega))⟩
theorem namesL_snoc (y:Nd):∀(l:List Nd) (m:NM) (k:Nat),bW m k (l++[y])=putM (bW m k l) y.text (k+l.length)
 | [],m,k=>rfl
 | x::l,m,k=>by
  show bW (putM m x.text k) (k+1) (l++[y])=putM (bW (putM m x.text k) (k+1) l) y.text (k+(l.length+1));rw[namesL_snoc y l,Nat.add_right_comm,Nat.add_assoc]
theorem namesL_take {l : List Nd} {j : Nat} {y : Nd} (h:l[j]?=some y):bW noN 0 (l.take (j+1))=putM (bW noN 0 (l.take j)) y.text j:=by
 obtain⟨hj,rfl⟩:=List.getElem?_eq_some_iff.1 h;rw[List.take_add_one,List.getElem?_eq_getElem hj];show bW noN 0 (l.take j++[l[j]])=_;rw[namesL_snoc,List.length_take,Nat.min_eq_left (Nat.le_of_lt hj),Nat.zero_add]
theorem Fr.mpNamedAt {mq : Nat} {f : NM} (h:Fr B w L) (i:Nat) (hi:L[i]?=some (.mp zN VNat mq N f)) (s:ByteArray) (hs:s.size≤maxLen) (x:Nat) (hN:N<16000):
  ∃w',(Instr.mapUpdate 40 (.map (some mq)) (.string s) (.int .i64 (x:Int))).run prog w=.ok () w'∧Fr B w' (L.set i (.mp zN VNat mq (N+1) (putM f s x))):=by
 have h1:Fr B w (.ve VNat (.int .i64 (x:Int)) x::L):=h.sure ⟨λ H=>VNat.p H (.int .i64 (x:Int)) x,λ H H' h hl=>h⟩ λ H=>rfl;have hm:maxLen=9223372036854775807:=rfl;obtain⟨w',u1,u2,-⟩:=h1.mpPut (i+1) hi 40 3 u40 s hs (by omega) 0 (v:=.int .i64 (x:Int)) (x:=x) rfl;exact⟨w',u1,u2.tail⟩
theorem Fr.cmMake {bc m1 m2 : Nat} {n0 n1 n2 n3 sg nu lv wv : Value} {be : List Int} (h:Fr B w (.blk bc #[ptr bp,n0,n1,n2,n3,sg,nu,.map (some m1),.map (some m2),.slice none 0 0,lv,wv] 76::.els VaE lv 48 4 lo::.sl I32E wv 21 1 be::.sm m1 u.st::.sm m2 u.me::.el NdE [n0,n1,n2,n3] u.node::L)) (N:Nat):
  Fr B w (.cm bc bp ⟨n0,n1,n2,n3,sg,nu,m1,m2,.slice none 0 0,lv,wv,[],N⟩ ⟨u,[],lo,be⟩::L):=
 Fr.cmShut (k:=⟨n0,n1,n2,n3,sg,nu,m1,m2,.slice none 0 0,lv,wv,[],N⟩) (c:=⟨u,[],lo,be⟩) ((h.nil 40 1).swap)
theorem clone23_no (a:Option Addr) (c:Nat) (w:World):Calls prog 23 #[.slice a 0 c] w λ e' w'=>∃v',e'=.returned v'∧w'.ownsRow w.heap.size 48 4 v' 0 []∧Below w.heap.size w w':=by
 obtain⟨i0,hi,hz0,hz1,hz2⟩:=gF info48;have q22:∀(w:World) (a:Option Addr) (n c n' c':Nat),(binOp .eql 46 (.slice a n c) (.slice none n' c')).run prog w=.ok (.bool a.isNone) w:=λ w a n c n' c'=>Lib.run_eql_slice_nil w _ _ a n c n' c' underlying46;cases a with
 | none=>
  go_enter func23,ntmps23;go_wp2;go_ret
  exact⟨.slice none 0 0,rfl,⟨by simp,Or.inl ⟨rfl,rfl⟩⟩,Below.refl _ w⟩
 | some a=>
  go_enter func23,ntmps23;go_wp2_with (at_builtin;refine wpList_append_own _ rfl _ _ 46 rfl w.heap.size 48 i0 _ 4 64 underlying46 hi hz0 hz1 hz2 rfl (by decide) _ _ _ rfl (World.ownsRow_made w #[] 0 (Nat.le_refl _) (Nat.zero_le _) (by simp)) a 0 c [] rfl ?qc1 ?qc2 ?qc3 ?qc4 ?qc5 ?qc6 ?_)
  case qc1=>rfl
  case qc2=>intro j u hj;simp at hj
  case qc3=>simp
  case qc4=>exact Nat.zero_le _
  case qc5=>simp
  case qc6=>simp
  intro v' w1 hown hgrow hnil;go_wp2;go_ret
  refine⟨v',rfl,by simpa using hown,?_⟩;exact ((Below.refl _ w).alloc (Nat.le_refl _) _).grown hgrow (by simp) (by intro k hk;simp [Value.ownBlock] at hk;omega)
theorem clone_vals (h:Fr B w L) (i:Nat) {c : Nat} {l : List Va} (hi:L[i]?=some (.sl VaE (.slice a n c) 48 4 l)) (hn:l.length≤16000) (hl:n=l.length):Calls prog 23 #[.slice a n c] w λ e' w'=>∃v',e'=.returned v'∧Fr B w' (.els VaE v' 48 4 l::L):=by
 by_cases e:l=[]
 ·subst e;subst hl;refine (clone23_no a c w).mono ?_;rintro e' w' ⟨v',rfl,hv,hb⟩;exact⟨v',rfl,h.takeEls (css:=[]) hb rfl (by simp) hv λ H hH j hj=>by simp at hj⟩
 exact clone_els clone23 (by decide) va_one h i hi e hn
theorem SlP.takeM {c : Nat} {e : TypeId} {r : List α} (h:SlP E (.slice a n c) e z (l++r) H):SlP E (.slice a l.length c) e z l H:=by
 obtain⟨a1,c1,e1,h2,h3,h4⟩:=h;cases e1;refine⟨a,c,rfl,by simp at h2;omega,h3,λ hne=>?_⟩;obtain⟨g,o,cur,f,k1,k2,k3⟩:=h4 (by simp [hne]);refine⟨g,o,cur,f,k1,k2,λ j hj=>?_⟩;obtain⟨cs,q1,q2,q3⟩:=k3 j (by simp;omega);rw[List.getElem_append_left hj] at q3;exact⟨cs,q1,q2,q3⟩
theorem Fr.slTakeM {c : Nat} {e : TypeId} {r : List α} (h:Fr B w L) (i:Nat) (hi:L[i]?=some (.sl E (.slice a n c) e z (l++r))):Fr B w (.sl E (.slice a l.length c) e z l::L):=
 h.know (K:=[_]) λ H w hr k hk=>by
  obtain rfl:=List.mem_singleton.1 hk;exact⟨SlP.takeM (r:=r) (hr _ (List.mem_of_getElem? hi)),λ q hq=>hq⟩
theorem SlP.drop {c : Nat} {e : TypeId} {r : List α} (h:SlP E (.slice a n c) e z (l++r) H):SlP E (.slice (if c=l.length then a else a.map (λ x=>x.add (l.length*z))) (n - l.length) (c - l.length)) e z r H:=by
 obtain⟨a',c',e1,h2,h3,h4⟩:=h;cases e1;simp only[List.length_append] at h2;refine⟨if c=l.length then a else a.map (λ x=>x.add (l.length*z)),c - l.length,by simp,by omega,by omega,λ hne=>?_⟩;have hl:0<r.length:=List.length_pos_iff.2 hne;obtain⟨g,o,cur,f,rfl,e2,e3⟩:=h4 (by simp [hne]);refine⟨g,o+l.length*z,cur,f,by rw[if_neg (by omega)];simp [Addr.add],e2,λ j hj=>?_⟩;obtain⟨cs,k1,k2,k3⟩:=e3 (l.length+j) (by simp;omega);refine⟨cs,k1,λ i hi=>?_,?_⟩
 ·rw[← k2 i hi,Nat.add_mul];congr 1
  omega
 rw[List.getElem_append_right (Nat.le_add_right _ _)] at k3;simpa using k3
theorem Fr.slDrop {c : Nat} {e : TypeId} {r : List α} (h:Fr B w L) (i:Nat) (hi:L[i]?=some (.sl E (.slice a n c) e z (l++r))):Fr B w (.sl E (.slice (if c=l.length then a else a.map (λ x=>x.add (l.length*z))) (n - l.length) (c - l.length)) e z r::L):=
 h.know (K:=[_]) λ H w hr k hk=>by
  obtain rfl:=List.mem_singleton.1 hk;exact⟨SlP.drop (l:=l) (hr _ (List.mem_of_getElem? hi)),λ q hq=>hq⟩
theorem res_open {s : EvS} {i : Int} (h:bM pg s i vs p≠.stuck):∃(j:Nat) (t:Th) (u:Ui) (y:Nd),i=(j:Int)∧pg.ts[j]?=some t∧pg.us[t.unit]?=some u∧2≤t.node.kids.length∧t.node.kids.length - 2≤vs.length∧t.node.kids[t.node.kids.length - 1]?=some y ∧
  bY s (bW noN 0 (t.node.kids.take (t.node.kids.length - 2))) ⟨u,[],vs.take (t.node.kids.length - 2),(vs.drop (t.node.kids.length - 2)).flatMap aQ⟩ y p≠.stuck ∧
  (∀c p',bY s (bW noN 0 (t.node.kids.take (t.node.kids.length - 2))) ⟨u,[],vs.take (t.node.kids.length - 2),(vs.drop (t.node.kids.length - 2)).flatMap aQ⟩ y p≠.ok c p') ∧
  (∀v p',bY s (bW noN 0 (t.node.kids.take (t.node.kids.length - 2))) ⟨u,[],vs.take (t.node.kids.length - 2),(vs.drop (t.node.kids.length - 2)).flatMap aQ⟩ y p=.ret v p'→bM pg s i vs p=.ok v p') ∧
  (∀e p',bY s (bW noN 0 (t.node.kids.take (t.node.kids.length - 2))) ⟨u,[],vs.take (t.node.kids.length - 2),(vs.drop (t.node.kids.length - 2)).flatMap aQ⟩ y p=.fin e p'→bM pg s i vs p=.fin e p'):=by
 have hh:∃Q,Q=bM pg s i vs p:=⟨_,rfl⟩
 obtain⟨Q,hQ⟩:=hh;rw[← hQ] at h ⊢;unfold bM at hQ;by_cases hi:i<0
 ·rw[if_pos hi] at hQ;exact absurd hQ h
 rw[if_neg hi] at hQ;cases ht:pg.ts[i.toNat]? with
 | none=>rw[ht] at hQ;exact absurd hQ h
 | some t=>
  rw[ht] at hQ;dsimp only at hQ;by_cases hk:t.node.kids.length<2∨vs.length<t.node.kids.length - 2
  ·rw[if_pos hk] at hQ;exact absurd hQ h
  rw[if_neg hk] at hQ;cases hu:pg.us[t.unit]? with
  | none=>rw[hu] at hQ;exact absurd hQ h
  | some u=>
   rw[hu] at hQ;dsimp only at hQ;have hlt:t.node.kids.length - 1<t.node.kids.length:=by omega
   have hy:t.node.kids[t.node.kids.length - 1]?=some t.node.kids[t.node.kids.length - 1]:=List.getElem?_eq_getElem hlt;have hl:cY t.node.kids 1=t.node.kids[t.node.kids.length - 1]:=by
    unfold cY;simp [hy]
   rw[hl] at hQ;refine⟨i.toNat,t,u,_,by omega,ht,hu,by omega,by omega,hy,λ e=>?_,λ c p' e=>?_,λ v p' e=>?_,λ v p' e=>?_⟩
   ·rw[e] at hQ;exact h hQ
   ·rw[e] at hQ;exact h hQ
   ·rw[e] at hQ;rw[hQ]
   rw[e] at hQ;rw[hQ]
theorem leaves_res {P:Program}{fn:Func}{tmps tmps':Array Value}{R:Ending→World→Prop}(h:results fn tmps=results fn tmps'):∀(ds:List Deferred) (u:FrameMode) (w:World),Leaves P fn tmps R ds u w→Leaves P fn tmps' R ds u w
 | [],.returning,w,⟨v,h1,h2⟩=>⟨v,h ▸ h1,h2⟩
 | [],.panicking c,w,hl=>hl
 | [],.run,w,hl=>hl
 | d::ds,u,w,⟨h1,fv,cap,f,args,h2,h3,h4⟩=>⟨h1,fv,cap,f,args,h2,h3,h4.mono λ e u' w' he=>by
   cases e with
   | returned _=>exact leaves_res h ds _ _ he
   | panicked ch=>exact leaves_res h ds _ _ he
   | outgrown=>exact he⟩
theorem eW {K : Act→World→Prop} {R : Ending→World→Prop} {v : Value} (i:Nat) (hi:i≠6) (c:List PanicEntry) (a:Act) (w:World) (h:Exit.then K (bodyPostD prog f16 R) (.panic c) (a.put (some i) v) w):Exit.then K (bodyPostD prog f16 R) (.panic c) a w:=
 leaves_res (by
  show results f16 (a.tmps.setIfInBounds i v)=results f16 a.tmps;simp only[results,results16];simp [asAddr,Array.getElem?_setIfInBounds_ne hi]) a.defers _ w h
theorem words_of {c : Nat} (h:Fr B w (.sl VaE (.slice a n c) 48 4 vs::L)) (hn:n=vs.length) (hl:vs.length≤1000):Calls prog 24 #[.slice a n c] w λ e w'=>∃v,e=.returned v∧Fr B w' (.els I32E v 21 1 (vs.flatMap aQ)::L):=by
 subst hn;exact words_any h hl
theorem Fr.perm16 {y ky a0 a1 a2 a3 a4 a5 a6 a7 a8 a9 a10 a11 a12 a13 a14 a15 : Rs} (h:Fr B w (y::ky::a0::a1::a2::a3::a4::a5::a6::a7::a8::a9::a10::a11::a12::a13::a14::a15::L)):Fr B w (a0::a2::a1::a4::a5::a6::a15::a9::a10::a11::a12::a13::y::L):=by
 have h1:Fr B w (y::a0::a1::a2::a4::a5::a6::a9::a10::a11::a12::a13::a15::L):=h.lose;have h2:=h1.perm (List.Perm.cons y (List.Perm.cons a0 ((List.Perm.swap a2 a1 _).trans (.cons a2 (.cons a1 (.cons a4 (.cons a5 (.cons a6 (List.Perm.append_right L (List.perm_append_comm (l₁:=[a9,a10,a11,a12,a13]) (l₂:=[a15])))))))))));exact h2.perm (List.perm_middle (a:=y) (l₁:=[a0,a2,a1,a4,a5,a6,a15,a9,a10,a11,a12,a13]) (l₂:=L)).symm
theorem result_any (hpg:PgI pg) (hun:∀u,u∈pg.us→UnI u) (ihs:StatH f pg N):ResH f pg N:=by
 intro B w L bp q m n0 p pl vs va vc h hp i hi hvl hne;obtain⟨j,t,u,y,rfl,ht,hu,hk2,hkv,hy,hB0,hB1,hB2,hB3⟩:=res_open hne;obtain⟨cnt,hcnt⟩:∃cnt,t.node.kids.length=cnt+2:=⟨t.node.kids.length - 2,by omega⟩
 rw[show t.node.kids.length - 2=cnt by omega] at hkv hB0 hB1 hB2 hB3;rw[show t.node.kids.length - 1=cnt+1 by omega] at hy;have htn:=hpg.ts t (List.mem_of_getElem? ht);have HTN:=ah htn;have HUN:Hid (UnI u):=ah (hun u (List.mem_of_getElem? hu));have HUK:Hid (Nk u.node):=ah (hpg.us u (List.mem_of_getElem? hu));have hks:=(aS htn.1 htn.2).2;obtain⟨QB,hQB⟩:∃QB,QB=bY (evM f pg N).2 (bW noN 0 (t.node.kids.take cnt)) ⟨u,[],vs.take cnt,(vs.drop cnt).flatMap aQ⟩ y p:=⟨_,rfl⟩
 rw[← hQB] at hB0 hB1 hB2 hB3;have HQB:=ah hQB;have HB0:=ah hB0;have HB1:=ah hB1;have HB2:=ah hB2;have HB3:=ah hB3;have HPI:=ah hp;have HT:=ah ht;have HU:=ah hu;have HY:=ah hy;have HCN:=ah hcnt;have hmf:∀(fn:Fn) (first cap:Array Value) (w:World),(Instr.makeFunc fn first cap).run prog w=.ok (.func fn first cap) w:=λ_ _ _ _=>rfl;have hmm:=@run_makeMap prog;have HF:=h.slDup (i+1) hi;clear h hp hi hne ht hu hy hQB hB0 hB1 hB2 hB3 htn;replace HF:=ax HF w.heap.size #[ptr bp] 35;replace HF:=aV HF (w.heap.size+1) 0 0 none 0 0 none 0 0;have c_pb:=HF.cell 1 rfl;have c_pm:=HF.pmCell 3 rfl;obtain⟨tg,td,a_n,c_n,vn,a1,c1,a2,c2,htv,hjl,htl,hten,hF⟩:=HF.pmThing 3 rfl HPI.now j HT;have g0:=hten 0 (by omega);have g1:=hten 1 (by omega);have g2:=hten 2 (by omega);have g3:=hten 3 (by omega);have g4:=hten 4 (by omega);have g5:=hten 5 (by omega);have g6:=hten 6 (by omega);have g7:=hten 7 (by omega);have g8:=hten 8 (by omega);have g9:=hten 9 (by omega);simp only[Nat.add_zero,List.getElem?_cons_zero,List.getElem?_cons_succ] at g0 g1 g2 g3 g4 g5 g6 g7 g8 g9;replace HF:=hF;clear hF hten;obtain⟨na,nc,hna,hn1,hn2⟩:=(HF.ndSl 0 rfl).slForm 0 rfl;cases hna;dsimp only [pmC] at c_pm;rw[htv] at c_pm;have hji:(j:Int)<(pg.ts.length:Int):=by omega
 have hw1:IntKind.i64.wrap ((t.node.kids.length:Int) - 1)=(cnt:Int)+1:=by rw[IntKind.wrap_i64];omega
 have hw2:IntKind.i64.wrap (cnt:Int)=(cnt:Int):=by rw[IntKind.wrap_i64];omega
 have hcc:(cnt:Int)≤(c_n:Int):=by omega
 have hcc2:cnt≤c_n:=by omega
 clear hcnt hk2 hks hn1;replace HF:=ax HF (w.heap.size+1+1) #[.int .i64 t.node.kind,.string t.node.text,.int .i64 t.node.num,.slice a_n t.node.kids.length c_n,.int .i64 t.unit,.string t.sign,.int .i64 vn.kind,.int .i64 vn.num,.slice a1 vn.names.length c1,.slice a2 vn.parts.length c2] 67;have c_t7:=HF.cell 0 rfl;replace HF:=HF.mpMade VNat zN 0 (q:=w.heap.size+1+1+1) (by simp);go_enter_defers func16,ntmps16
 go_wp2;generalize hWm:((((w.alloc (.cells #[ptr bp] 35)).alloc (.cells #[.int .i64 0,.int .i64 0,.slice none 0 0,.slice none 0 0] 48)).alloc (.cells #[.int .i64 t.node.kind,.string t.node.text,.int .i64 t.node.num,.slice a_n t.node.kids.length c_n,.int .i64 t.unit,.string t.sign,.int .i64 vn.kind,.int .i64 vn.num,.slice a1 vn.names.length c1,.slice a2 vn.parts.length c2] 67)).alloc (.map #[] 0))=wm at HF ⊢;go_loopw [11,12,36] (λ_ _ iv wr=>Hid (∃k:Nat,k≤cnt∧iv=.int .i64 (k:Int)∧Fr B wr (.mp zN VNat (w.heap.size+1+1+1) k (bW noN 0 (t.node.kids.take k))::.blk (w.heap.size+1+1) #[.int .i64 t.node.kind,.string t.node.text,.int .i64 t.node.num,.slice a_n t.node.kids.length c_n,.int .i64 t.unit,.string t.sign,.int .i64 vn.kind,.int .i64 vn.num,.slice a1 vn.names.length c1,.slice a2 vn.parts.length c2] 67::.el NdE (ndc t.node.kind t.node.text t.node.num a_n t.node.kids.length c_n) t.node::.blk (w.heap.size+1) #[.int .i64 0,.int .i64 0,.slice none 0 0,.slice none 0 0] 48::.blk w.heap.size #[ptr bp] 35::.sl VaE (.slice va vs.length vc) 48 4 vs::.pm bp q pg f p false::L))) (λ_ _ iv _=>cnt - (intOf iv).toNat)
 case atStart=>exact ah ⟨0,Nat.zero_le _,rfl,HF⟩
 clear HF hWm c_pb c_pm g0 g1 g2 g3 g4 g5 g6 g7 g8 g9 c_t7;obtain⟨k,hk,rfl,hf⟩:=hrel.out;clear hrel;have HF:=hf;clear hf;by_cases hlt:k<cnt
 ·obtain⟨x,hx⟩:∃x,t.node.kids[k]?=some x:=⟨_,List.getElem?_eq_getElem (by have:=HCN.out;omega)⟩
  have hxm:=List.mem_of_getElem? hx;obtain⟨g_x,o_x,a_x,c_x,cur_x,f_x,ha_x,hc1,hc2,hk_x,hf⟩:=HF.kidK 2 rfl k hx;have HK_x:=ah hk_x;have HX:=ah (namesL_take hx);have HXN:=ah (HTN.1.kids x hxm);have HLT:=ah hlt;have hlb:(k:Int)<(cnt:Int):=by omega
  replace HF:=hf;clear hf hk_x hx hxm hc1 hc2;subst ha_x;obtain⟨e0,e1,e2,e3⟩:=aC (HF.knc 1 rfl) HK_x;replace HF:=aM HF wr.heap.size x a_x c_x;have c_t12:=HF.cell 0 rfl;obtain⟨w6,hup,hf6⟩:=HF.mpNamedAt 3 rfl x.text (Nat.le_trans HXN.text (by decide:4000≤maxLen)) k (by have:=HCN.out;have:=(aS HTN.1 HTN.2).2;omega);rw[← HX.out] at hf6;have hf6:Fr B w6 ([_,_,_]++(.mp zN VNat (w.heap.size+1+1+1) (k+1) (bW noN 0 (t.node.kids.take (k+1)))::_)):=hf6;replace HF:=hf6.perm (List.perm_middle (l₁:=[_,_,_]));clear hf6;go_wp2;exact⟨ah ⟨k+1,HLT,rfl,HF.lose⟩,by simp only[intOf];omega⟩
 have hkc:k=cnt:=by omega
 subst hkc;have hli:¬ (k:Int)<(k:Int):=by omega
 have hlt1:(vs.take k).length=k:=by rw[List.length_take];omega
 have hF:Fr B wr (.mp zN VNat (w.heap.size+1+1+1) 700 (bW noN 0 (t.node.kids.take k))::.blk (w.heap.size+1+1) #[.int .i64 t.node.kind,.string t.node.text,.int .i64 t.node.num,.slice a_n t.node.kids.length c_n,.int .i64 t.unit,.string t.sign,.int .i64 vn.kind,.int .i64 vn.num,.slice a1 vn.names.length c1,.slice a2 vn.parts.length c2] 67::.el NdE (ndc t.node.kind t.node.text t.node.num a_n t.node.kids.length c_n) t.node::.blk (w.heap.size+1) #[.int .i64 0,.int .i64 0,.slice none 0 0,.slice none 0 0] 48::.blk w.heap.size #[ptr bp] 35::.sl VaE (.slice va vs.length vc) 48 4 vs::.pm bp q pg f p false::L):=HF.mpMore 0 rfl (M:=700) (by have:=HCN.out;have:=(aS HTN.1 HTN.2).2;omega);have hF:=hF.slTakeM (l:=vs.take k) (r:=vs.drop k) 5 (by rw[List.take_append_drop];rfl);have hF:=hF.slDrop (l:=vs.take k) (r:=vs.drop k) 6 (by rw[List.take_append_drop];rfl);rw[hlt1] at hF;obtain⟨ug,uo,ud,a_u,c_u,sg,nu,m1,m2,cur_u,f_u,huv,hul,hu8,hF⟩:=hF.pmUnit 8 rfl t.unit HU;obtain⟨va',vc',hva,hv1,hv2⟩:=hF.slForm 11 rfl;cases hva;have HU8:=ah hu8;have HUV:=ah huv;replace HF:=hF;clear hF hu8 huv hlt;have hui:(t.unit:Int)<(pg.us.length:Int):=by omega
 have hkv2:(k:Int)≤(vs.length:Int):=by omega
 have hkv3:(k:Int)≤(vc:Int):=by omega
 have hkv4:(vs.length:Int)≤(vc:Int):=by omega
 go_wp2_with fail;go_wp2;refine regK [21] HF (λ w h=>⟨(h.cell 10 rfl),(HUV.out ▸ h.pmCell 12 rfl),(h.cell 7 rfl),(eight_kn (h.knc 0 rfl) HU8)⟩) (λ wd5 HF hC=>?_) (C:=λ w'=>(∀o,w'.cell? ⟨w.heap.size,o,none⟩=(#[ptr bp]:Array Value)[o]?)∧(∀o,w'.cell? ⟨bp,o,none⟩=(#[.int .i64 0,.int .i32 0,q.outv,.int .i64 p.steps,(.slice (some ⟨ug,uo,none⟩) pg.us.length ud),q.tv,q.ov,.int .i64 f,.bool false]:Array Value)[o]?)∧(∀o,w'.cell? ⟨w.heap.size+1+1,o,none⟩=(#[.int .i64 t.node.kind,.string t.node.text,.int .i64 t.node.num,.slice a_n t.node.kids.length c_n,.int .i64 t.unit,.string t.sign,.int .i64 vn.kind,.int .i64 vn.num,.slice a1 vn.names.length c1,.slice a2 vn.parts.length c2]:Array Value)[o]?)∧(w'.cell? ⟨ug,uo+t.unit*8,none⟩=some (.int .i64 u.node.kind)∧w'.cell? ⟨ug,uo+t.unit*8+1,none⟩=some (.string u.node.text)∧w'.cell? ⟨ug,uo+t.unit*8+2,none⟩=some (.int .i64 u.node.num)∧w'.cell? ⟨ug,uo+t.unit*8+3,none⟩=some (.slice a_u u.node.kids.length c_u)∧w'.cell? ⟨ug,uo+t.unit*8+4,none⟩=some (sg)∧w'.cell? ⟨ug,uo+t.unit*8+5,none⟩=some (nu)∧w'.cell? ⟨ug,uo+t.unit*8+6,none⟩=some (.map (some m1))∧w'.cell? ⟨ug,uo+t.unit*8+7,none⟩=some (.map (some m2))));refine tq 0 ?_ (hi:=rfl) (hQ:=eW _ (by decide));refine tq 1 ?_ (hi:=rfl) (hQ:=eW _ (by decide));refine tq 2 ?_ (hi:=rfl) (hQ:=eW _ (by decide));refine tq 3 ?_ (hi:=rfl) (hQ:=eW _ (by decide));refine tq 4 ?_ (hi:=rfl) (hQ:=eW _ (by decide));refine tq 5 ?_ (hi:=rfl) (hQ:=eW _ (by decide));refine tq 6 ?_ (hi:=rfl) (hQ:=eW _ (by decide));refine tq 7 ?_ (hi:=rfl) (hQ:=eW _ (by decide));refine tq 8 ?_ (hi:=rfl) (hQ:=eW _ (by decide));refine tq 9 ?_ (hi:=rfl) (hQ:=eW _ (by decide));refine tq 10 ?_ (hi:=rfl) (hQ:=eW _ (by decide));refine tq 11 ?_ (hi:=rfl) (hQ:=eW _ (by decide));refine tq 12 ?_ (hi:=rfl) (hQ:=eW _ (by decide));refine tq 14 ?_ (hi:=rfl) (hQ:=eW _ (by decide));refine tq 15 ?_ (hi:=rfl) (hQ:=eW _ (by decide));refine tq 16 ?_ (hi:=rfl) (hQ:=eW _ (by decide));refine tq 17 ?_ (hi:=rfl) (hQ:=eW _ (by decide));refine rq 13 λ K hK=>?_;go_simp;refine (clone_vals HF 5 rfl (by rw[hlt1];omega) hlt1.symm).mono ?_;rintro e w13 ⟨lv,rfl,hf⟩;obtain⟨la,ld,rfl,-,-⟩:=hf.elsForm 0 rfl;obtain⟨lk,hlk⟩:∃lk,lk=(vs.take k).length:=⟨_,rfl⟩
 rw[← hlk] at hf ⊢;replace HF:=hf;clear hf hlk;refine uq hK ⟨(HF.cell 11 rfl),(HUV.out ▸ HF.pmCell 13 rfl),(HF.cell 8 rfl),(eight_kn (HF.knc 1 rfl) HU8)⟩ λ hC=>?_;refine rq 18 λ K hK=>?_;go_simp;refine (words_of (HF.slDup 5 rfl) (by rw[List.length_drop]) (by rw[List.length_drop];omega)).mono ?_;rintro e w18 ⟨wv,rfl,hf⟩;obtain⟨wa,wd,rfl,-,-⟩:=hf.elsForm 0 rfl;obtain⟨wk,hwk⟩:∃wk,wk=((vs.drop k).flatMap aQ).length:=⟨_,rfl⟩
 rw[← hwk] at hf ⊢;replace HF:=hf.give 0 rfl;clear hf hwk;refine uq hK ⟨(HF.cell 12 rfl),(HUV.out ▸ HF.pmCell 14 rfl),(HF.cell 9 rfl),(eight_kn (HF.knc 2 rfl) HU8)⟩ λ hC=>?_;refine tq 19 ?_ (hi:=rfl) (hQ:=eW _ (by decide));refine rq 20 λ K hK=>?_;replace HF:=ax HF w18.heap.size #[ptr bp,.int .i64 u.node.kind,.string u.node.text,.int .i64 u.node.num,.slice a_u u.node.kids.length c_u,sg,nu,.map (some m1),.map (some m2),.slice none 0 0,.slice la lk ld,.slice wa wk wd] 76;go_simp;refine uq hK ⟨(HF.cell 13 rfl),(HUV.out ▸ HF.pmCell 15 rfl),(HF.cell 10 rfl),(eight_kn (HF.knc 3 rfl) HU8)⟩ λ hC=>?_;refine tqP 21 ?_ (hi:=rfl) (hQ:=eW _ (by decide));refine dq ?_;obtain⟨g_y,o_y,a_y,c_y,cur_y,f_y,ha_y,hc1,hc2,hk_y,hf⟩:=HF.kidK 11 rfl (k+1) HY;have HK_y:=ah hk_y;have HYN:=ah ((aS HTN.1 HTN.2).1 y (List.mem_of_getElem? HY));have hkl:(k:Int)+1<(t.node.kids.length:Int):=by have:=HCN.out;omega
 replace HF:=hf;clear hf hk_y hc1 hc2;subst ha_y;obtain⟨e0,e1,e2,e3⟩:=aC (HF.knc 1 rfl) HK_y;have c_t7:=HF.cell 12 rfl;go_wp2_with fail;clear c_t7 e0 e1 e2 e3;all_goals (
  have hG:=(HF.perm16).cmMake 700;have hci:CI ⟨.int .i64 u.node.kind,.string u.node.text,.int .i64 u.node.num,.slice a_u u.node.kids.length c_u,sg,nu,m1,m2,.slice none 0 0,.slice la lk ld,.slice wa wk wd,[],700⟩ ⟨u,[],vs.take k,(vs.drop k).flatMap aQ⟩ p.steps:=⟨rfl,Nat.le_add_right _ _,by show (vs.take k).length≤_;rw[List.length_take];omega,Nat.zero_le _,Nat.le_trans HPI.steps HPI.f,HUK⟩
  go_at_call 25;refine (blockM_any ihs hG HUN hci (Nat.zero_le _) HPI 4 rfl HYN.1 HYN.2 HQB HB0).mono ?_;intro e w25 hpost;clear HF hG hci;obtain⟨Q',hQ'⟩:∃Q',Q'=QB:=⟨_,rfl⟩
  rw[← hQ'] at hpost;cases Q' with
  | stuck=>exact absurd hQ'.symm HB0
  | ok c p'=>exact absurd hQ'.symm (HB1 c p')
  | ret v p'=>
   obtain⟨ov,a0,c0,pa0,pc0,rfl,hr0,hi0,hf0⟩:=hpost;refine leaves_cons (f:=22) (args:=#[.pointer (some ⟨w.heap.size,0,none⟩),.pointer (some ⟨w.heap.size+1,0,none⟩)]) (by simp) (by simp [go_sem]) ?_;refine (hand_ret w.heap.size (w.heap.size+1) bp _ _ _ _ _ _ _ _ v.kind v.num a0 pa0 v.names.length v.parts.length c0 pc0 _ _ _ _ [] w25 (hf0.blkAt 5 rfl) (hf0.pmBlk 0 rfl) (hf0.blkAt 4 rfl)).mono ?_;rintro e u' w9 ⟨rfl,rfl,rfl⟩;have h9:=(hf0.nd4 4 rfl (.int .i64 v.kind) (.int .i64 v.num) (.slice a0 v.names.length c0) (.slice pa0 v.parts.length pc0)).alloc rfl #[.int .i64 v.kind,.int .i64 v.num,.slice a0 v.names.length c0,.slice pa0 v.parts.length pc0] 69;refine⟨_,rt48 (q:=w.heap.size+1) results16 rfl (h9.blkAt 5 rfl),?_⟩;exact PMo.ok' (HB2 v p' hQ'.symm) ⟨ov,a0,c0,pa0,pc0,rfl,hr0,hi0,h9.lose⟩
  | fin e0 p'=>
   obtain⟨ov,rfl,hi0,hf0⟩:=hpost;refine leaves_cons (f:=22) (args:=#[.pointer (some ⟨w.heap.size,0,none⟩),.pointer (some ⟨w.heap.size+1,0,none⟩)]) (by simp) (by simp [go_sem]) ?_;refine (hand_over w.heap.size (w.heap.size+1) bp _ _ _ _ _ _ _ _ _ w25 (hf0.blkAt 4 rfl) (hf0.pmBlk 0 rfl)).mono ?_;rintro e u' w9 ⟨rfl,rfl,rfl⟩;show PMr _ B bp q pg f m n0 L (.panicked _) w9;exact PMo.fin' (L:=L) (HB3 e0 p' hQ'.symm) hi0 hf0.lose)
theorem deep_ok {f:Nat}{pg:Pg}(hpg:PgI pg)(hun:∀u,u∈pg.us→UnI u):∀N,ExprH f pg N∧StatH f pg N
 | 0=>⟨by
   intro B w L bc bp k c q m n0 p n a_n c_n h hu hc hp i hi hn hs hne;exact absurd rfl hne,by
   intro B w L bc bp k c q m n0 p n a_n c_n h hu hc hp i hi hn hs hne;exact absurd rfl hne⟩
 | N+1=>
  have h:=deep_ok hpg hun N
  ⟨expr_step_ok h.1 (result_any hpg hun h.2),stat_step_ok h.1 h.2⟩
theorem calls_ok (hpg:PgI pg) (hun:∀u,u∈pg.us→UnI u) (N:Nat):ResH f pg N:=result_any hpg hun (deep_ok hpg hun N).2
theorem run_idle (qp:Nat) (w:World):
  CallsD prog 15 #[.pointer (some ⟨qp,0,none⟩)] .returning w λ e u' w'=>e=.returned (.tuple #[])∧u'=.returning∧w'=w:=by
 have hta:∀(w:World),(Instr.typeAssert .nilIface 20 44 true).run prog w=.ok (.tuple #[.int .i64 0,.bool false]) w:=λ_=>by kernel_rfl
 refine callsD_of_wpS func15 rfl λ c₀ cs hu=>?_;change Code.wpS _ _ _ ⟨#[.pointer (some ⟨qp,0,none⟩),undef,undef,undef,undef,undef,undef,undef,undef,undef,undef,undef,undef,undef],[]⟩ _ _;apply wpS_seq
 apply wpS_region
 simp [wpOpsS,go_sem,recoverD,hu,hta,ntmps15,Exit.thenS];refine wpS_of_wp ?_;go_wp2;cases c₀;simp_all [bodyPostS,results,results15]
theorem run_fin (qp bp:Nat) (how h0:Int) (x1 x2 x3 x4 x5 x6 x7 x8:Value) (older:List PanicEntry) (w:World) (hq:w.heap[qp]?=some (.cells #[ptr bp] 35 (0,0))) (hb:w.heap[bp]?=some (.cells #[.int .i64 h0,x1,x2,x3,x4,x5,x6,x7,x8] 42 (0,0))):
  CallsD prog 15 #[.pointer (some ⟨qp,0,none⟩)] (.panicking ({ v:=.iface 44 (.int .i64 how),recovered:=false }::older)) w λ e u' w'=>
   e=.returned (.tuple #[])∧u'=.panicking ({ v:=.iface 44 (.int .i64 how),recovered:=true }::older)∧w'=w.setCell ⟨bp,0,none⟩ (.int .i64 how):=by
 have hta:∀(w:World),(Instr.typeAssert (.iface 44 (.int .i64 how)) 20 44 true).run prog w=.ok (.tuple #[.int .i64 how,.bool true]) w:=λ_=>by kernel_rfl
 have hcc:=aA hq;have hcb:=aA hb;have hfb:=aX hb;refine callsD_of_wpS func15 rfl λ c₀ cs hu=>?_;change Code.wpS _ _ _ ⟨#[.pointer (some ⟨qp,0,none⟩),undef,undef,undef,undef,undef,undef,undef,undef,undef,undef,undef,undef,undef],[]⟩ _ _;apply wpS_seq
 apply wpS_region
 simp [wpOpsS,go_sem,recoverD,hu,hta,ntmps15,Exit.thenS];refine wpS_of_wp ?_;go_wp2;simp [bodyPostS,results,results15]
section
section
variable {β : Type}
theorem CR.bind_ok {f : α→CR β} {y : β} (h:q.bind f=.ok y):∃x,q=.ok x∧f x=.ok y:=by
 cases q with
 | ok x=>exact⟨x,rfl,h⟩
 | no c a=>cases h
theorem aJ {b : Bool} {c : Int} {a : Nat} {y : α} (h:askC b c a q=.ok y):b=true∧q=.ok y:=by
 unfold askC at h;by_cases e:b=true
 ·rw[if_pos e] at h;exact⟨e,h⟩
 rw[if_neg e] at h;cases h
end
def MayT (t:T.Ty):Prop:=∃d,T.mayN d t=true
theorem may_T (h:may t=true):MayT t:=⟨4,h⟩
theorem MayT.facts (h:MayT t):(∀i,i<tpn t→MayT (tpt t i))∧(tyk t=3→tnn t=tpn t)∧(tyk t=1∨tyk t=2∨tyk t=3∨tyk t=4)∧(tyk t=4→1≤tpn t):=by
 obtain⟨d,h⟩:=h;cases t with
 | leaf=>rw[T.mayN_leaf] at h;cases h
 | mk kind name nn names pn parts many=>
  cases d with
  | zero=>cases h
  | succ d=>
   obtain⟨h1,h2,h3,h4⟩:=T.may_facts h;refine⟨λ i hi=>⟨d,h3 i hi⟩,λ (e:kind=3)=>?_,?_,λ (e:kind=4)=>?_⟩
   ·rcases h4 with h|h|h|h
    ·exact h.2.2.2.2.2.1
    ·have:=h.1;omega
    ·have:=h.1;omega
    have:=h.1;omega
   ·show kind=1∨kind=2∨kind=3∨kind=4;rcases h4 with h|h|h|h
    ·exact .inr (.inr (.inl h.1))
    ·exact .inr (.inr (.inr h.1))
    ·exact .inl h.1
    exact .inr (.inl h.1)
   rcases h4 with h|h|h|h
   ·have:=h.1;omega
   ·exact h.2.2.2
   ·have:=h.1;omega
   have:=h.1;omega
structure Alk (a b:T.Ty):Prop where
 k:tyk a=tyk b
 nn:tnn a=tnn b
 pn:tpn a=tpn b
 my:tmy a=tmy b
 nm:∀j,j<tnn b→tnm a j=tnm b j
 pt:∀j,j<tpn b→T.alikeT (tpt a j) (tpt b j)=true
theorem cI {a : T.Ty} (h:T.alikeT a b=true):Alk a b:=by
 cases a with
 | leaf=>cases b<;>cases h
 | mk kind name nn names pn parts many=>
  cases b with
  | leaf=>cases h
  | mk kind' name' nn' names' pn' parts' many'=>
   unfold T.alikeT at h;simp only[Bool.and_eq_true,decide_eq_true_eq,List.all_eq_true,List.mem_range] at h;obtain⟨⟨⟨⟨⟨⟨a1,a2⟩,a3⟩,a4⟩,a5⟩,a6⟩,a7⟩:=h;subst a1 a3 a4 a5;exact⟨rfl,rfl,rfl,rfl,a6,a7⟩
theorem same_facts {a : T.Ty} (h:same a b=true):MayT a∧MayT b∧T.alikeT a b=true:=by
 unfold same at h;simp only[Bool.and_eq_true] at h;exact⟨may_T h.1.1,may_T h.1.2,h.2⟩
theorem alike_text {a : T.Ty} (ha:MayT a) (hb:MayT b) (h:T.alikeT a b=true):T.textT a=T.textT b:=by
 obtain⟨d,ha⟩:=ha;obtain⟨d',hb⟩:=hb;exact T.text_alike a d d' b ha hb h
theorem fJ {a : T.Ty} (ha:MayT a) (hb:MayT b) (h:T.textT a=T.textT b):T.alikeT a b=true:=by
 obtain⟨d,ha⟩:=ha;obtain⟨d',hb⟩:=hb;rw[← T.text_same ha hb];exact decide_eq_true h
inductive HT (G:Nat→Option T.Ty):Va→T.Ty→Prop
 | int (n:Int) (t:T.Ty):tyk t=1→HT G (vI n) t
 | long (n:Int) (t:T.Ty):tyk t=2→HT G (vL n) t
 | fn (i:Nat) (t g:T.Ty):tyk t=4→MayT t→G i=some g→MayT g→T.textT g=T.textT t→HT G (.mk 4 i [] []) t
 | struct (ns:List ByteArray) (ps:List Va) (t:T.Ty):tyk t=3→ns.length=tnn t→(∀j (h:j<ns.length),ns[j]=tnm t j)→ps.length=tpn t→ns.length=ps.length→(∀j (h:j<ps.length),HT G ps[j] (tpt t j))→HT G (.mk 3 0 ns ps) t
theorem HT.alike {G : Nat→Option T.Ty} (h:HT G v t):∀{t':T.Ty},MayT t→MayT t'→T.alikeT t t'=true→HT G v t':=by
 induction h with
 | int n t h=>intro t' _ _ k;exact .int n t' ((cI k).k ▸ h)
 | long n t h=>intro t' _ _ k;exact .long n t' ((cI k).k ▸ h)
 | fn i t g h1 h2 h3 h4 h5=>intro t' m m' k;exact .fn i t' g ((cI k).k ▸ h1) m' h3 h4 (h5.trans (alike_text m m' k))
 | struct ns ps t h1 h2 h3 h4 h5 h6 ih=>
  intro t' m m' k;have a:=cI k;refine .struct ns ps t' (a.k ▸ h1) (a.nn ▸ h2) (λ j h=>(h3 j h).trans (a.nm j (by rw[← a.nn,← h2];exact h))) (a.pn ▸ h4) h5 λ j h=>?_;have hj:j<tpn t':=by rw[← a.pn,← h4];exact h
  exact ih j h (m.facts.1 j (by rw[a.pn];exact hj)) (m'.facts.1 j hj) (a.pt j hj)
theorem HT.same {G : Nat→Option T.Ty} (h:HT G v t) (k:K.same t t'=true):HT G v t':=h.alike (same_facts k).1 (same_facts k).2.1 (same_facts k).2.2
def dX (G:Nat→Option T.Ty)(now:List Va):Prop:=∀i g,G i=some g→tyk g≠4→∃v,now[i]?=some v∧HT G v g
def Gd {α:Type}(f:Nat)(G:Nat→Option T.Ty)(R:Va→Prop)(P:α→Prop)(p:Pm):O α→Prop
 | .ok x q=>p.steps≤q.steps∧q.steps≤f∧dX G q.now∧P x
 | .ret v q=>p.steps≤q.steps∧q.steps≤f∧dX G q.now∧R v
 | .fin e q=>(e=0∧q.steps=f)∨e=2
 | .stuck=>False
section
variable {β : Type} {G : Nat → Option T.Ty} {R : Va → Prop} {P : α → Prop} {P' : β → Prop} {r : Pm}
theorem Gd.from {a : O α} (h:Gd f G R P r a) (k:p.steps≤r.steps):Gd f G R P p a:=by
 cases a with
 | ok x q=>exact⟨Nat.le_trans k h.1,h.2⟩
 | ret x q=>exact⟨Nat.le_trans k h.1,h.2⟩
 | fin x q=>exact h
 | stuck=>exact h
theorem Gd.bind {a : O α} {g : α→Pm→O β} (h:Gd f G R P p a) (k:∀x r,p.steps≤r.steps→r.steps≤f→dX G r.now→P x→Gd f G R P' r (g x r)):Gd f G R P' p (a.bind g):=by
 cases a with
 | ok x q=>exact (k x q h.1 h.2.1 h.2.2.1 h.2.2.2).from h.1
 | ret x q=>exact h
 | fin x q=>exact h
 | stuck=>exact h
theorem Gd.ok {x : α} (h:p.steps≤f) (hn:dX G p.now) (hp:P x):Gd f G R P p (.ok x p):=⟨Nat.le_refl _,h,hn,hp⟩
theorem Gd.of {q : Option α} {x : α} (e:q=some x) (h:p.steps≤f) (hn:dX G p.now) (hp:P x):Gd f G R P p (O.of q p):=by rw[e];exact .ok h hn hp
theorem Gd.mono {Q : α→Prop} {a : O α} (h:Gd f G R P p a) (k:∀x,P x→Q x):Gd f G R Q p a:=by
 cases a with
 | ok x q=>exact⟨h.1,h.2.1,h.2.2.1,k x h.2.2.2⟩
 | ret x q=>exact h
 | fin x q=>exact h
 | stuck=>exact h
theorem Gd.weak {R' : Va→Prop} {a : O α} (h:Gd f G R P p a) (k:∀x,R x→R' x):Gd f G R' P p a:=by
 cases a with
 | ok x q=>exact h
 | ret x q=>exact⟨h.1,h.2.1,h.2.2.1,k x h.2.2.2⟩
 | fin x q=>exact h
 | stuck=>exact h
end
structure UiOk (G:Nat→Option T.Ty)(u:Ui)(s:Cs):Prop where
 de:∀x t b,s.de x=some (t,b)→MayT t∧(b=true→tyk t=4)∧(b=false→tyk t≠4)∧∃i g,u.me x=some i∧G i=some g∧MayT g∧T.textT g=T.textT t
 st:∀x t,s.st x=some t→MayT t∧tyk t=3∧∃i d,u.st x=some i∧u.node.kids[i]?=some d∧d.kids.length=tnn t∧∀j (h:j<d.kids.length),d.kids[j].text=tnm t j
structure Sub (s s':Cs):Prop where
 de:∀x q,s.de x=some q→s'.de x=some q
 st:∀x t,s.st x=some t→s'.st x=some t
theorem Sub.trans {s : Cs} (h:Sub s s') (k:Sub s' s''):Sub s s'':=⟨λ x q e=>k.de x q (h.de x q e),λ x q e=>k.st x q (h.st x q e)⟩
theorem UiOk.sub {G : Nat→Option T.Ty} {s : Cs} (h:UiOk G u s') (k:Sub s s'):UiOk G u s:=⟨λ x t b e=>h.de x t b (k.de x _ e),λ x t e=>h.st x t (k.st x _ e)⟩
structure FunOk (G:Nat→Option T.Ty)(us:List Ui)(t:Th)(g:T.Ty):Prop where
 it:∃(u:Ui) (s v:Cs) (sx:ByteArray) (m:Int) (l:List Nd) (t0 b0:Nd) (ps:List T.Ty) (r:T.Ty),us[t.unit]?=some u∧t.node=.mk 7 sx m (l++[t0]++[b0])∧UiOk G u s∧s.env=[]∧s.res=r∧l.length=ps.length ∧
  g=mkTy 4 eB [] (ps++[r]) (decide (2≤m))∧Bl b0∧cQ b0=true∧fG (bL (sz b0)) (cG (λ_=>none) (l.map Nd.text) ps) s b0=.ok v
structure PgOk (pg:Pg)(G:Nat→Option T.Ty):Prop where
 fn:∀i g,G i=some g→tyk g=4→∃t,pg.ts[i]?=some t∧FunOk G pg.us t g
structure LoOk (G:Nat→Option T.Ty)(τ:List T.Ty)(lo:List Va):Prop where
 len:lo.length=τ.length
 at_:∀(i:Nat) v t,lo[i]?=some v→τ[i]?=some t→HT G v t
def LevOk (τ:List T.Ty)(m:NM)(f:TM):Prop:=∀x,(f x=none→m x=none)∧∀t,f x=some t→∃i:Nat,m x=some i∧τ[i]?=some t
inductive EnvOk (τ:List T.Ty):List NM→List TM→Prop
 | nil:EnvOk τ [] []
 | cons {m:NM} {f:TM} {l:List NM} {k:List TM}:LevOk τ m f→EnvOk τ l k→EnvOk τ (m::l) (f::k)
theorem at_app {τ : List α} {t : α} (σ:List α) (h:τ[i]?=some t):(τ++σ)[i]?=some t:=by
 obtain⟨hi,_⟩:=List.getElem?_eq_some_iff.1 h;rw[List.getElem?_append_left hi];exact h
theorem LevOk.app {f : TM} (h:LevOk τ m f) (σ:List T.Ty):LevOk (τ++σ) m f:=λ x=>⟨(h x).1,λ t e=>by
 obtain⟨i,h1,h2⟩:=(h x).2 t e;exact⟨i,h1,at_app σ h2⟩⟩
theorem EnvOk.app {l : List NM} {k : List TM} (h:EnvOk τ l k) (σ:List T.Ty):EnvOk (τ++σ) l k:=by
 induction h with
 | nil=>exact .nil
 | cons h _ ih=>exact .cons (h.app σ) ih
theorem EnvOk.find {l : List NM} {k : List TM} (h:EnvOk τ l k) (x:ByteArray):(cH k x=none→dK l x=none)∧∀t,cH k x=some t→∃i:Nat,dK l x=some i∧τ[i]?=some t:=by
 induction h with
 | nil=>exact⟨λ_=>rfl,λ t e=>by cases e⟩
 | @cons m f l k h _ ih=>
  unfold cH dK;cases hf:f x with
  | none=>rw[(h x).1 hf];exact ih
  | some t=>
   obtain⟨i,h1,h2⟩:=(h x).2 t hf;rw[h1];exact⟨λ e=>(by cases e),λ t' e=>by cases e;exact⟨i,rfl,h2⟩⟩
theorem LoOk.get {G : Nat→Option T.Ty} (h:LoOk G τ lo) (e:τ[i]?=some t):∃v,lo[i]?=some v∧HT G v t:=by
 obtain⟨hi,_⟩:=List.getElem?_eq_some_iff.1 e;have hl:i<lo.length:=by rw[h.len];exact hi
 exact⟨lo[i],List.getElem?_eq_getElem hl,h.at_ i _ t (List.getElem?_eq_getElem hl) e⟩
structure CtOk (G:Nat→Option T.Ty)(τ:List T.Ty)(c:Cm)(s:Cs):Prop where
 u:UiOk G c.u s
 lo:LoOk G τ c.lo
 env:EnvOk τ c.bl s.env
theorem name_sound {G : Nat→Option T.Ty} {c : Cm} {s : Cs} (h:CtOk G τ c s) (hn:dX G p.now) (e:fI s x k=.ok t):∃v,varM c x p=some v∧HT G v t:=by
 unfold fI at e;unfold varM;cases hf:cH s.env x with
 | some t'=>
  rw[hf] at e;cases e;obtain⟨i,h1,h2⟩:=(h.env.find x).2 _ hf;rw[h1];exact h.lo.get h2
 | none=>
  rw[hf] at e;rw[(h.env.find x).1 hf];dsimp only at e ⊢;cases hd:s.de x with
  | none=>rw[hd] at e;cases e
  | some q=>
   obtain⟨t',b⟩:=q;rw[hd] at e;obtain⟨hb,e⟩:=aJ e;cases e;obtain⟨m1,m2,m3,i,g,h1,h2,h3,h4⟩:=h.u.de x _ _ hd;have hb':b=false:=by cases b;rfl;cases hb
   have hk:=m3 hb';have al:=fJ h3 m1 h4;obtain⟨v,h5,h6⟩:=hn i g h2 (by rw[(cI al).k];exact hk);exact⟨v,by rw[h1];exact h5,h6.alike h3 m1 al⟩
theorem idx_of:∀{l:List ByteArray}{x:ByteArray}{i:Nat}(h:i<l.length),l[i]=x→(∀j (hj:j<i),l[j]≠x)→idxN l x=some i
 | [],x,i,h,_,_=>absurd h (Nat.not_lt_zero _)
 | y::l,x,0,h,e,_=>by unfold idxN;exact if_pos e
 | y::l,x,i+1,h,e,k=>by
  have h0:y≠x:=k 0 (Nat.succ_pos _);unfold idxN;rw[if_neg h0,idx_of (Nat.lt_of_succ_lt_succ h) e λ j hj=>k (j+1) (Nat.succ_lt_succ hj)];rfl
theorem field_idx {G : Nat→Option T.Ty} (h:HT G v t) (e:f6 x k t=.ok t'):
  ∃ns ps i,v=.mk 3 0 ns ps∧idxN ns x=some i∧(∃hi:i<ps.length,HT G ps[i] (tpt t i))∧t'=tpt t i∧i<tpn t:=by
 unfold f6 at e;obtain⟨hk,e⟩:=aJ e;have hk:=of_decide_eq_true hk;split at e
 ·rename_i i hf
  cases e;obtain⟨hx,hr,hm⟩:=List.find?_range_eq_some.1 hf;have hx:=of_decide_eq_true hx;have hr:=List.mem_range.1 hr;cases h with
  | int n t h=>omega
  | long n t h=>omega
  | fn i t g h=>omega
  | struct ns ps t h1 h2 h3 h4 h5 h6=>
   have hi:i<ns.length:=by rw[h2];exact hr
   refine⟨ns,ps,i,rfl,idx_of hi ((h3 i hi).trans hx) λ j hj e2=>?_,⟨h5 ▸ hi,h6 i (h5 ▸ hi)⟩,rfl,by rw[← h4,← h5];exact hi⟩;have:=hm j hj;rw[← h3 j (by omega),e2] at this;simp at this
 cases e
theorem fieldM_sound {G : Nat→Option T.Ty} (h:HT G v t) (e:f6 x k t=.ok t'):∃w,fieldM v x=some w∧HT G w t':=by
 obtain⟨ns,ps,i,rfl,h1,⟨h2,h3⟩,rfl,h4⟩:=field_idx h e;refine⟨ps[i],?_,h3⟩;show (idxN ns x).bind _=_;rw[h1];exact List.getElem?_eq_getElem h2
end
section
structure VsOk (G:Nat→Option T.Ty)(vs:List Va)(ts:List T.Ty):Prop where
 len:vs.length=ts.length
 at_:∀(i:Nat) v t,vs[i]?=some v→ts[i]?=some t→HT G v t
section
variable {G : Nat → Option T.Ty} {R : Va → Prop} {e : EvE} {s : EvS} {c : Cm} {S : Cs}
theorem VsOk.nil:VsOk G [] []:=⟨rfl,λ i v t h=>by simp at h⟩
theorem VsOk.snoc (h:VsOk G vs ts) (k:HT G v t):VsOk G (vs++[v]) (ts++[t]):=by
 refine⟨by simp [h.len],λ i w u e1 e2=>?_⟩;by_cases hi:i<vs.length
 ·rw[List.getElem?_append_left hi] at e1;rw[List.getElem?_append_left (h.len ▸ hi)] at e2;exact h.at_ i w u e1 e2
 rw[List.getElem?_append_right (by omega)] at e1;rw[List.getElem?_append_right (by have:=h.len;omega),← h.len] at e2;cases hj:i - vs.length with
 | zero=>rw[hj] at e1 e2;cases e1;cases e2;exact k
 | succ j=>rw[hj] at e1;simp at e1
theorem VsOk.cons {vs:List Va}{ts:List T.Ty}(h:VsOk G vs ts)(n:0<ts.length):∃v w,vs=v::w∧HT G v (arg ts 0)∧VsOk G w ts.tail:=by
 cases ts with
 | nil=>cases n
 | cons t ts=>
  cases vs with
  | nil=>exact absurd h.len (by simp)
  | cons v vs=>exact⟨v,vs,rfl,h.at_ 0 v t rfl rfl,by simpa using h.len,λ i w u e1 e2=>h.at_ (i+1) w u e1 e2⟩
def EOk (f:Nat)(pg:Pg)(G:Nat→Option T.Ty)(N:Nat)(e:EvE):Prop:=∀(c:Cm) (n:Nd) (p:Pm) (S:Cs) (τ:List T.Ty) (M k:Nat) (t:T.Ty),Ex n→CtOk G τ c S→bJ S M n k=.ok t→p.steps≤f→f+1≤p.steps+N→dX G p.now→Gd f G (λ_=>False) (λ v=>HT G v t) { p with steps:=p.steps+1 } (e c n p)
theorem EOk.go (he:EOk f pg G N e) (c:Cm) (n:Nd) (p:Pm) (S:Cs) (τ:List T.Ty) (M k:Nat) (t:T.Ty) (hx:Ex n) (h:CtOk G τ c S) (hk:bJ S M n k=.ok t) (h1:p.steps≤f) (h2:f+1≤p.steps+N) (h3:dX G p.now):
  Gd f G (λ_=>False) (λ v=>HT G v t) p (e c n p):=(he c n p S τ M k t hx h hk h1 h2 h3).from (Nat.le_succ _)
theorem all_sound (he:EOk f pg G N e)(h:CtOk G τ c S)(M:Nat)(kd:Int)(hkd:kd≠25):∀(l:List Nd) (acc:List Va) (ta ts:List T.Ty) (k:Nat) (p:Pm),(∀x,x∈l→Ex x)→VsOk G acc ta→eS S (bJ S M) kd ta l k=.ok ts→p.steps≤f→f+1≤p.steps+N→dX G p.now →
  Gd f G (λ_=>False) (λ vs=>VsOk G vs ts) p (allL (e c) acc l p)
 | [],acc,ta,ts,k,p,hx,ha,hk,h1,h2,h3=>by cases hk;exact .ok h1 h3 ha
 | x::l,acc,ta,ts,k,p,hx,ha,hk,h1,h2,h3=>by
  obtain⟨t,e1,e2⟩:=CR.bind_ok hk;rw[if_neg (λ h=>hkd h.1)] at e1;exact (he.go c x p S τ M k t (hx x (List.mem_cons_self ..)) h e1 h1 h2 h3).bind λ v r a b c' d=>all_sound he h M kd hkd l _ _ ts _ r (λ y hy=>hx y (List.mem_cons_of_mem _ hy)) (ha.snoc d) e2 b (by omega) c'
theorem rest_sound (he:EOk f pg G N e)(h:CtOk G τ c S)(M:Nat)(t0:T.Ty):∀(l:List Nd) (acc:List Va) (ta ts:List T.Ty) (k:Nat) (p:Pm),(∀x,x∈l→Ex x)→VsOk G acc ta→eS S (bJ S M) 25 (t0::ta) l k=.ok ts→p.steps≤f→f+1≤p.steps+N→dX G p.now →
  Gd f G (λ_=>False) (λ vs=>∃tl,ts=t0::tl∧VsOk G vs tl) p (allL (e c) acc l p)
 | [],acc,ta,ts,k,p,hx,ha,hk,h1,h2,h3=>by cases hk;exact .ok h1 h3 ⟨ta,rfl,ha⟩
 | x::l,acc,ta,ts,k,p,hx,ha,hk,h1,h2,h3=>by
  obtain⟨t,e1,e2⟩:=CR.bind_ok hk;rw[if_neg (λ h=>by simp at h)] at e1;exact (he.go c x p S τ M k t (hx x (List.mem_cons_self ..)) h e1 h1 h2 h3).bind λ v r a b c' d=>rest_sound he h M t0 l _ (ta++[t]) ts _ r (λ y hy=>hx y (List.mem_cons_of_mem _ hy)) (ha.snoc d) e2 b (by omega) c'
theorem isNum_or (h:cA t=true):tyk t=1∨tyk t=2:=by
 unfold cA at h;simpa only [Bool.or_eq_true,decide_eq_true_eq] using h
theorem HT.num (h:HT G v t) (k:tyk t=1∨tyk t=2):v.kind=tyk t:=by
 cases h with
 | int n t h=>exact h.symm
 | long n t h=>exact h.symm
 | fn i t g h=>omega
 | struct ns ps t h=>omega
theorem vB_HT (b:Bool):HT G (vB b) tI:=by
 unfold vB;split
 ·exact .int _ _ rfl
 exact .int _ _ rfl
theorem oper_sound {op : Int} {w : Va} {l r : T.Ty} (h:HT G v l) (h':HT G w r) (e:operC op k l r=.ok t):HT G (f7 op v w).1 t:=by
 unfold operC at e;obtain⟨h1,e⟩:=aJ e;simp only[Bool.and_eq_true] at h1;have hn:=isNum_or h1.1;have hk:=h.num hn;unfold f7;by_cases k1:v.kind=1
 ·rw[if_pos k1];by_cases c1:op=5∨op=6
  ·rw[if_pos c1] at e;obtain⟨h2,e⟩:=aJ e;cases e;exact .int _ _ (of_decide_eq_true h2)
  rw[if_neg c1] at e;by_cases c2:op=12∨op=10
  ·rw[if_pos c2] at e;cases e;exact .int _ _ rfl
  rw[if_neg c2] at e;cases e;exact .int _ _ (by omega)
 rw[if_neg k1];by_cases c1:op=5∨op=6
 ·rw[if_pos c1] at e;obtain⟨h2,e⟩:=aJ e;exact absurd (of_decide_eq_true h2) (by omega)
 rw[if_neg c1] at e;by_cases c2:op=12∨op=10
 ·rw[if_pos c2] at e;rw[if_pos c2];cases e;exact .int _ _ rfl
 rw[if_neg c2] at e;rw[if_neg c2];cases e;exact .long _ _ (by omega)
theorem made_sound (h:CtOk G τ c S) (hv:VsOk G vs ts) (e:madeC S.st x k ts=.ok t):∃v,madeM c.u x vs=some v∧HT G v t:=by
 unfold madeC at e;obtain⟨t',e1,e⟩:=CR.bind_ok e;obtain⟨h1,e⟩:=aJ e;obtain⟨h2,e⟩:=aJ e;cases e;have h1:=of_decide_eq_true h1;unfold eN at e1;split at e1
 ·rename_i t2 hs
  cases e1;obtain⟨m,k3,i,d,q1,q2,q3,q4⟩:=h.u.st x _ hs;have hnp:=m.facts.2.1 k3;have e3:madeM c.u x vs=some (.mk 3 0 (d.kids.map Nd.text) vs):=by unfold madeM;rw[q1];show (c.u.node.kids[i]?).map _=_;rw[q2];rfl
  refine⟨_,e3,?_⟩;refine .struct _ _ _ k3 (by simpa using q3) (λ j hj=>?_) (by rw[hv.len,h1]) (by rw[List.length_map,q3,hnp,hv.len,h1]) λ j hj=>?_
  ·rw[List.getElem_map];exact q4 j _
  have hj':j<ts.length:=by rw[← hv.len];exact hj
  have ha:=List.all_eq_true.1 h2 j (List.mem_range.2 (by omega));refine (hv.at_ j _ _ (List.getElem?_eq_getElem hj) (List.getElem?_eq_getElem hj')).same ?_;rw[List.getD_eq_getElem?_getD,List.getElem?_eq_getElem hj'] at ha;exact ha
 cases e1
theorem value_sound {n : Nd} (hx:Ex n) (hk:n.kind≠25) (hl:n.kids.length=ts.length) (h:CtOk G τ c S) (hv:VsOk G vs ts) (e:bB S n k ts=.ok t) (h1:p.steps≤f) (h3:dX G p.now):
  Gd f G (λ_=>False) (λ v=>HT G v t) p (aG c n vs p):=by
 cases hx with
 | num k1 m q _ _=>
  rcases q with rfl|rfl
  ·cases e;exact .ok h1 h3 (.int _ _ rfl)
  cases e;exact .ok h1 h3 (.long _ _ rfl)
 | leaf k1 s q=>
  rcases q with rfl|rfl|rfl
  ·obtain⟨v,a,b⟩:=name_sound h h3 (x:=s) (k:=k) (t:=t) e;exact .of a h1 h3 b
  ·have e:(match S.de s with|some p=>askC p.2 4 k (.ok p.1)|none=>.no 4 k)=.ok t:=e;cases hd:S.de s with
   | none=>rw[hd] at e;cases e
   | some q=>
    obtain⟨t',b⟩:=q;rw[hd] at e;obtain⟨hb,e⟩:=aJ e;cases e;obtain⟨m1,m2,m3,i,g,a1,a2,a3,a4⟩:=h.u.de s _ _ hd;have hb':b=true:=hb;refine .of (x:=.mk 4 i [] []) ?_ h1 h3 (.fn i _ g (m2 hb') m1 a2 a3 a4);show (c.u.me s).map _=_;rw[a1];rfl
  obtain⟨_,e⟩:=aJ e;cases e;exact .ok h1 h3 (.int _ _ rfl)
 | one k1 s x q _=>
  obtain⟨v,w,rfl,hv0,_⟩:=hv.cons (by rw[← hl];exact Nat.succ_pos _);rcases q with rfl|rfl|rfl|rfl|rfl|rfl
  ·obtain⟨v',a,b⟩:=fieldM_sound hv0 (x:=s) (k:=k) (t':=t) e;exact .of a h1 h3 b
  ·obtain⟨hb,e⟩:=aJ e;cases e;have hn:=isNum_or hb;have hk:=hv0.num hn;refine .ok h1 h3 ?_;unfold negM;by_cases c2:v.kind=2
   ·rw[if_pos c2];exact .long _ _ (by omega)
   rw[if_neg c2];exact .int _ _ (by omega)
  ·obtain⟨hb,e⟩:=aJ e;cases e;exact .ok h1 h3 (vB_HT _)
  ·obtain⟨hb,e⟩:=aJ e;cases e;exact .ok h1 h3 (.int _ _ rfl)
  ·obtain⟨hb,e⟩:=aJ e;cases e;exact .ok h1 h3 (.long _ _ rfl)
  obtain⟨hb,e⟩:=aJ e;obtain⟨hb,e⟩:=aJ e;cases e;refine .ok h1 h3 ?_;unfold fM;split
  ·exact .int _ _ rfl
  exact .int _ _ rfl
 | op m x y _ _ _ _=>
  obtain⟨v,w,rfl,hv0,hw⟩:=hv.cons (by rw[← hl];exact Nat.succ_pos _);obtain⟨v',w',rfl,hv1,_⟩:=hw.cons (by rw[List.length_tail,← hl];exact Nat.succ_pos _);have e:operC m k (arg ts 0) (arg ts 1)=.ok t:=e;have hv1:HT G v' (arg ts 1):=by
   have q:arg ts.tail 0=arg ts 1:=by unfold arg;cases ts<;>rfl
   rw[q] at hv1;exact hv1
  show Gd f G (λ_=>False) (λ v=>HT G v t) p (if (f7 m v v').2=true then .ok (f7 m v v').1 p else .fin 2 p);split
  ·exact .ok h1 h3 (oper_sound hv0 hv1 e)
  exact .inr rfl
 | call x l _ _=>exact absurd rfl hk
 | make s l _=>
  obtain⟨v,a,b⟩:=made_sound h hv (x:=s) (k:=k) (t:=t) e;exact .of a h1 h3 b
theorem parts_at {ps : List T.Ty} {r : T.Ty} {b : Bool}:(i<ps.length→tpt (mkTy 4 eB [] (ps++[r]) b) i=ps.getD i .leaf)∧tpt (mkTy 4 eB [] (ps++[r]) b) ps.length=r∧tpn (mkTy 4 eB [] (ps++[r]) b)=ps.length+1:=by
 refine⟨λ h=>?_,?_,?_⟩
 ·show (ps++[r]).getD i .leaf=ps.getD i .leaf;rw[List.getD_eq_getElem?_getD,List.getD_eq_getElem?_getD,List.getElem?_append_left h]
 ·show (ps++[r]).getD ps.length .leaf=r;rw[List.getD_eq_getElem?_getD,List.getElem?_append_right (Nat.le_refl _),Nat.sub_self];rfl
 show (ps++[r]).length=_;simp
def ROk (f:Nat)(pg:Pg)(G:Nat→Option T.Ty)(N:Nat)(s:EvS):Prop:=∀(i:Nat) (g:T.Ty) (vs:List Va) (p:Pm),G i=some g→tyk g=4→MayT g→tpn g - 1≤vs.length→(∀(j:Nat) v,j<tpn g - 1→vs[j]?=some v→HT G v (tpt g j))→p.steps≤f→f+1≤p.steps+N→dX G p.now→Gd f G (λ_=>False) (λ v=>HT G v (tpt g (tpn g - 1))) p (bM pg s i vs p)
theorem callee_sound (he:EOk f pg G N e) (h:CtOk G τ c S) {x : Nd} (hx:Ex x) (ek:cO S (bJ S M) x k=.ok t) (h1:p.steps≤f) (h2:f+1≤p.steps+N) (h3:dX G p.now):
  Gd f G (λ_=>False) (λ (i:Int)=>tyk t=4→MayT t∧∃(j:Nat) (g:T.Ty),i=(j:Int)∧G j=some g∧MayT g∧T.textT g=T.textT t) p (fF (e c) c x p):=by
 unfold cO at ek;unfold fF;have hexpr:bJ S M x k=.ok t→Gd f G (λ_=>False) (λ (i:Int)=>tyk t=4→MayT t∧∃(j:Nat) (g:T.Ty),i=(j:Int)∧G j=some g∧MayT g∧T.textT g=T.textT t) p ((e c x p).bind λ v p=>.ok v.num p):=λ ek=>
  (he.go c x p S τ M k t hx h ek h1 h2 h3).bind λ v r a b c' d=>.ok b c' λ k4=>by
   cases d with
   | int n t h=>omega
   | long n t h=>omega
   | fn i t g q1 q2 q3 q4 q5=>exact⟨q2,i,g,rfl,q3,q4,q5⟩
   | struct ns ps t h=>omega
 by_cases c1:x.kind=23∧cH S.env x.text=none
 ·rw[if_pos c1] at ek;rw[if_pos ⟨c1.1,(h.env.find _).1 c1.2⟩];cases hd:S.de x.text with
  | none=>
   rw[hd] at ek;cases M with
   | zero=>cases ek
   | succ M=>
    cases hx with
    | leaf k1 s q=>
     have hk1:k1=23:=c1.1;subst hk1;have ek:exprSC S (bJ S M) (.mk 23 s 0 []) k=.ok t:=ek;obtain⟨ts,a,b⟩:=CR.bind_ok ek;cases a;have b:fI S s k=.ok t:=b;unfold fI at b;rw[show cH S.env s=none from c1.2] at b;rw[show S.de s=none from hd] at b;cases b
    | num k1 _ q _ _=>have hk1:k1=23:=c1.1;omega
    | one k1 _ _ q _=>have hk1:k1=23:=c1.1;omega
    | op _ _ _ _ _ _ _=>exact absurd (show (32:Int)=23 from c1.1) (by decide)
    | call _ _ _ _=>exact absurd (show (25:Int)=23 from c1.1) (by decide)
    | make _ _ _=>exact absurd (show (27:Int)=23 from c1.1) (by decide)
  | some q=>
   obtain⟨t',b⟩:=q;rw[hd] at ek;obtain⟨m1,m2,m3,i,g,a1,a2,a3,a4⟩:=h.u.de _ _ _ hd;cases b with
   | true=>
    cases ek;refine .of (x:=(i:Int)) (by rw[a1];rfl) h1 h3 λ_=>⟨m1,i,g,rfl,a2,a3,a4⟩
   | false=>
    refine .of (x:=(i:Int)) (by rw[a1];rfl) h1 h3 λ k4=>?_;have ek:bJ S M x k=.ok t:=ek;cases M with
    | zero=>cases ek
    | succ M=>
     obtain⟨ts,a,b⟩:=CR.bind_ok ek;have hb:fI S x.text k=.ok t:=by
      unfold bB at b;rw[if_neg (by rw[c1.1];decide),if_pos c1.1] at b;exact b
     unfold fI at hb;rw[c1.2,hd] at hb;obtain⟨_,hb⟩:=aJ hb;cases hb;exact absurd k4 (m3 rfl)
 rw[if_neg c1] at ek;by_cases c2:x.kind=23∧dK c.bl x.text=none
 ·exfalso
  have:cH S.env x.text≠none:=λ h=>c1 ⟨c2.1,h⟩;cases hf:cH S.env x.text with
  | none=>exact this hf
  | some t=>
   obtain⟨i,q1,_⟩:=(h.env.find x.text).2 t hf;rw[c2.2] at q1;cases q1
 rw[if_neg c2];exact hexpr ek
theorem expr_sound (he:EOk f pg G N e) (hr:ROk f pg G N s):EOk f pg G (N+1) (exprSM f pg e s):=by
 intro c n p S τ M k t hx h hk h1 h2 h3;cases M with
 | zero=>cases hk
 | succ M=>
 obtain⟨ts,ek,ev⟩:=CR.bind_ok hk;unfold exprSM dH;by_cases e0:p.steps=f
 ·rw[if_pos e0];exact .inl ⟨rfl,e0⟩
 rw[if_neg e0];have g1:(p.steps+1)≤f:=by omega
 have g2:f+1≤(p.steps+1)+N:=by omega
 show Gd f G _ _ _ (if n.kind=25 then _ else _);by_cases k25:n.kind=25
 ·rw[if_pos k25];cases hx with
  | call x l hx0 hxl=>
   have ek:eS S (bJ S M) 25 [] (x::l) (k+1)=.ok ts:=ek;obtain⟨t0,e1,e2⟩:=CR.bind_ok ek;rw[if_pos ⟨rfl,rfl⟩] at e1;show Gd f G _ _ _ ((fF (e c) c x _).bind _);refine (callee_sound he h hx0 e1 (p:={ p with steps:=p.steps+1 }) g1 g2 h3).bind λ i r a b c' d=>?_;refine (rest_sound he h M t0 l [] [] ts _ r hxl .nil e2 b (by have:p.steps+1≤r.steps:=a;omega) c').bind λ vs q a' b' c'' d'=>?_;obtain⟨tl,rfl,hv⟩:=d';have ev:resultC k t0 tl=.ok t:=ev;unfold resultC at ev;obtain⟨r1,ev⟩:=aJ ev;obtain⟨r2,ev⟩:=aJ ev;obtain⟨r3,ev⟩:=aJ ev;obtain⟨r4,ev⟩:=aJ ev;cases ev;have r1:=of_decide_eq_true r1;obtain⟨m1,j,g,rfl,d2,d3,d4⟩:=d r1;have al:=cI (fJ d3 m1 d4);have hlen:tpn t0 - 1≤tl.length:=by
    simp only[Bool.or_eq_true,Bool.and_eq_true,decide_eq_true_eq] at r2;omega
   refine (hr j g vs q d2 (al.k.trans r1) d3 (by rw[al.pn,hv.len];exact hlen) (λ j' v hj hv'=>?_) b' (by have:p.steps+1≤r.steps:=a;omega) c'').mono λ v hv'=>?_
   ·rw[al.pn] at hj;have hj':j'<tl.length:=by omega
    have h5:=hv.at_ j' v _ hv' (List.getElem?_eq_getElem hj');have h6:=List.all_eq_true.1 r3 j' (List.mem_range.2 hj');rw[if_pos hj,List.getD_eq_getElem?_getD,List.getElem?_eq_getElem hj'] at h6;have h7:=h5.same h6;have hp:j'<tpn t0:=by omega
    exact h7.alike (m1.facts.1 _ hp) (d3.facts.1 _ (by rw[al.pn];exact hp)) (fJ (m1.facts.1 _ hp) (d3.facts.1 _ (by rw[al.pn];exact hp)) (alike_text (d3.facts.1 _ (by rw[al.pn];exact hp)) (m1.facts.1 _ hp) (al.pt _ hp)).symm)
   have hp:tpn t0 - 1<tpn t0:=by have:=m1.facts.2.2.2 r1;omega
   rw[al.pn] at hv';exact hv'.alike (d3.facts.1 _ (by rw[al.pn];exact hp)) (m1.facts.1 _ hp) (al.pt _ hp)
  | num k1 _ q _ _=>have hk1:k1=25:=k25;omega
  | leaf k1 _ q=>have hk1:k1=25:=k25;omega
  | one k1 _ _ q _=>have hk1:k1=25:=k25;omega
  | op _ _ _ _ _ _ _=>exact absurd (show (32:Int)=25 from k25) (by decide)
  | make _ _ _=>exact absurd (show (27:Int)=25 from k25) (by decide)
 rw[if_neg k25];have hkx:∀x,x∈n.kids→Ex x:=by
  cases hx with
  | num k1 _ q _ _=>intro x hx;cases hx
  | leaf k1 _ q=>intro x hx;cases hx
  | one k1 _ y q hy=>intro x hx;rw[List.mem_singleton.1 hx];exact hy
  | op _ a b _ _ ha hb=>
   intro x hx;rcases List.mem_cons.1 hx with rfl|hx
   ·exact ha
   rw[List.mem_singleton.1 hx];exact hb
  | call _ _ _ _=>exact absurd rfl k25
  | make _ l hl=>exact hl
 have hlen:∀(l:List Nd) (ta tb:List T.Ty) (k:Nat),eS S (bJ S M) n.kind ta l k=.ok tb→tb.length=ta.length+l.length:=by
  intro l;induction l with
  | nil=>intro ta tb k h;cases h;rfl
  | cons x l ih=>intro ta tb k h;obtain⟨t,_,h⟩:=CR.bind_ok h;have:=ih _ _ _ h;simp only[List.length_append,List.length_cons,List.length_nil] at this ⊢;omega
 have hl:=hlen _ _ _ _ ek;refine (all_sound he h M n.kind k25 n.kids [] [] ts _ { p with steps:=p.steps+1 } hkx .nil ek g1 g2 h3).bind λ vs r a b c' d=>value_sound hx k25 (by simpa using hl.symm) h d ev b c'
end
end
structure Keep (s s':Cs):Prop where
 st:s'.st=s.st
 de:s'.de=s.de
 res:s'.res=s.res
theorem Keep.rfl' {s : Cs}:Keep s s:=⟨rfl,rfl,rfl⟩
theorem Keep.trans {s : Cs} (h:Keep s s') (k:Keep s' s''):Keep s s'':=⟨k.st.trans h.st,k.de.trans h.de,k.res.trans h.res⟩
section
variable {g : Cs → Nd → CR Cs} (hg : ∀ S n S', g S n = .ok S' → Keep S S')
include hg
theorem stats_keep:∀(l:List Nd)(S S':Cs),statsL g l S=.ok S'→Keep S S'
 | [],S,S',h=>by cases h;exact .rfl'
 | x::l,S,S',h=>by
  obtain⟨U,h1,h2⟩:=CR.bind_ok h;exact (hg _ _ _ h1).trans (stats_keep l U S' h2)
theorem eM {m : TM} {S : Cs} {n : Nd} (h:fG g m S n=.ok S'):Keep S S'∧S'.env=S.env:=by
 obtain⟨U,h1,h2⟩:=CR.bind_ok h;cases h2;have k:=stats_keep hg _ _ _ h1;exact⟨⟨k.st,k.de,k.res⟩,rfl⟩
theorem blocks_keep:∀(l:List Nd)(S S':Cs),bQ g l S=.ok S'→Keep S S'∧S'.env=S.env
 | [],S,S',h=>by cases h;exact⟨.rfl',rfl⟩
 | x::l,S,S',h=>by
  obtain⟨U,h1,h2⟩:=CR.bind_ok h;obtain⟨a,b⟩:=eM hg h1;obtain⟨c,d⟩:=blocks_keep l U S' h2;exact⟨a.trans c,d.trans b⟩
end
theorem eO:∀(M:Nat)(S:Cs)(n:Nd)(S':Cs),bL M S n=.ok S'→Keep S S'
 | 0,S,n,S',h=>by cases h
 | M+1,S,n,S',h=>by
  have h:statSC (bL M) S n=.ok S':=h;have hg:=eO M;unfold statSC at h;split at h
  ·unfold varC at h;obtain⟨t,_,h⟩:=CR.bind_ok h;obtain⟨t,_,h⟩:=CR.bind_ok h;obtain⟨_,h⟩:=aJ h;obtain⟨_,h⟩:=aJ h;obtain⟨_,h⟩:=aJ h;cases h;exact⟨rfl,rfl,rfl⟩
  split at h
  ·obtain⟨t,_,h⟩:=CR.bind_ok h;obtain⟨t,_,h⟩:=CR.bind_ok h;obtain⟨_,h⟩:=aJ h;cases h;exact⟨rfl,rfl,rfl⟩
  split at h
  ·obtain⟨t,_,h⟩:=CR.bind_ok h;obtain⟨u,hb,h⟩:=CR.bind_ok h;obtain⟨_,h⟩:=aJ h;cases h;have k:=(blocks_keep (λ S n S'=>hg S n S') _ _ _ hb).1;exact⟨k.st,k.de,k.res⟩
  split at h
  ·obtain⟨t,_,h⟩:=CR.bind_ok h;obtain⟨_,h⟩:=aJ h;cases h;exact⟨rfl,rfl,rfl⟩
  split at h
  ·obtain⟨t,_,h⟩:=CR.bind_ok h;obtain⟨_,h⟩:=aJ h;cases h;exact⟨rfl,rfl,rfl⟩
  split at h
  ·obtain⟨t,_,h⟩:=CR.bind_ok h;cases h;exact⟨rfl,rfl,rfl⟩
  cases h;exact⟨rfl,rfl,rfl⟩
section
variable {G : Nat → Option T.Ty} {e : EvE} {s : EvS} {c : Cm} {S : Cs}
theorem CtOk.congr (h:CtOk G τ c S) (k1:S'.st=S.st) (k2:S'.de=S.de) (k3:S'.env=S.env):CtOk G τ c S':=
 ⟨⟨λ x t b e=>h.u.de x t b (k2 ▸ e),λ x t e=>h.u.st x t (k1 ▸ e)⟩,h.lo,k3 ▸ h.env⟩
theorem HT.back (h:HT G v t') (k:K.same t t'=true):HT G v t:=by
 obtain⟨a,b,c⟩:=same_facts k;exact h.alike b a (fJ b a (alike_text a b c).symm)
def SOk (f:Nat)(pg:Pg)(G:Nat→Option T.Ty)(N:Nat)(s:EvS):Prop:=∀(c:Cm) (n:Nd) (p:Pm) (S S':Cs) (τ:List T.Ty) (M:Nat),St n→CtOk G τ c S→S.env≠[]→bL M S n=.ok S'→p.steps≤f→f+1≤p.steps+N→dX G p.now →
 Gd f G (λ v=>HT G v S.res) (λ d=>S'.env≠[]∧S'.env.tail=S.env.tail∧∃σ,CtOk G (τ++σ) d S') p (s c n p)
theorem stats_sound (hs:SOk f pg G N s)(M:Nat):∀(l:List Nd) (c:Cm) (S S':Cs) (τ:List T.Ty) (p:Pm),(∀x,x∈l→St x)→CtOk G τ c S→S.env≠[]→statsL (bL M) l S=.ok S'→p.steps≤f→f+1≤p.steps+N→dX G p.now →
  Gd f G (λ v=>HT G v S.res) (λ d=>∃σ,CtOk G (τ++σ) d S') p (eJ s c l p)
 | [],c,S,S',τ,p,hl,h,hne,hk,h1,h2,h3=>by cases hk;exact .ok h1 h3 ⟨[],by rw[List.append_nil];exact h⟩
 | x::l,c,S,S',τ,p,hl,h,hne,hk,h1,h2,h3=>by
  obtain⟨U,e1,e2⟩:=CR.bind_ok hk;refine (hs c x p S U τ M (hl x (List.mem_cons_self ..)) h hne e1 h1 h2 h3).bind λ d r a b c' ⟨k1,_,σ,k2⟩=>?_;have hr:=(eO M _ _ _ e1).res;refine ((stats_sound hs M l d U S' (τ++σ) r (λ y hy=>hl y (List.mem_cons_of_mem _ hy)) k2 k1 e2 b (by omega) c').weak λ v hv=>hr ▸ hv).mono λ d ⟨σ',hd⟩=>⟨σ++σ',by rw[← List.append_assoc];exact hd⟩
theorem fU (hs:SOk f pg G N s) {n : Nd} (hl:∀x,x∈n.kids→St x) (h:CtOk G τ c S) (hm:LevOk τ m F) (hk:fG (bL M) F S n=.ok S') (h1:p.steps≤f) (h2:f+1≤p.steps+N) (h3:dX G p.now):
  Gd f G (λ v=>HT G v S.res) (λ d=>CtOk G τ d S') p (bY s m c n p):=by
 obtain⟨U,e1,e2⟩:=CR.bind_ok hk;cases e2;refine (stats_sound hs M n.kids { c with bl:=m::c.bl } { S with k:=S.k+1,env:=F::S.env } U τ p hl ⟨⟨h.u.de,h.u.st⟩,h.lo,.cons hm h.env⟩ (by simp) e1 h1 h2 h3).bind λ d r a b c' ⟨σ,hd⟩=>?_;have e3:=hd.lo.len;have e4:=h.lo.len;rw[List.length_append] at e3;rw[if_pos (by omega)];refine .ok b c' ⟨⟨hd.u.de,hd.u.st⟩,⟨by simp;omega,λ i v t q1 q2=>?_⟩,h.env⟩;have q1:(d.lo.take c.lo.length)[i]?=some v:=q1;obtain⟨hi,_⟩:=List.getElem?_eq_some_iff.1 q2;rw[List.getElem?_take,if_pos (by omega)] at q1;exact hd.lo.at_ i v t q1 (at_app σ q2)
inductive Fld:T.Ty→List ByteArray→T.Ty→Prop
 | nil (t:T.Ty):Fld t [] t
 | cons {t t' u:T.Ty} {x:ByteArray} {l:List ByteArray} (k:Nat):f6 x k t=.ok t'→Fld t' l u→Fld t (x::l) u
theorem path_sound:∀{n:Nd},Ex n→∀{M k:Nat} {t u:T.Ty} {acc:List ByteArray},fK n=true→bJ S M n k=.ok t→Fld t acc u→∃x l t0 k0,eX n acc=some (x,l)∧fI S x k0=.ok t0∧Fld t0 l u:=by
 intro n hx;induction hx with
 | num k1 m q _ _=>intro M k t u acc hp;rcases q with rfl|rfl<;>cases hp
 | leaf k1 s q=>
  intro M k t u acc hp hk hf;have hk1:k1=23:=by rcases q with rfl|rfl|rfl<;>first|rfl|cases hp
  subst hk1;cases M with
  | zero=>cases hk
  | succ M=>
   have hk:exprSC S (bJ S M) (.mk 23 s 0 []) k=.ok t:=hk;obtain⟨ts,a,b⟩:=CR.bind_ok hk;exact⟨s,acc,t,k,rfl,b,hf⟩
 | one k1 s x q hx ih=>
  intro M k t u acc hp hk hf;have hk1:k1=24:=by rcases q with rfl|rfl|rfl|rfl|rfl|rfl<;>first|rfl|cases hp
  subst hk1;cases M with
  | zero=>cases hk
  | succ M=>
   have hk:exprSC S (bJ S M) (.mk 24 s 0 [x]) k=.ok t:=hk;obtain⟨ts,a,b⟩:=CR.bind_ok hk;obtain⟨t1,a1,a2⟩:=CR.bind_ok a;cases a2;rw[if_neg (λ h=>absurd (show (24:Int)=25 from h.1) (by decide))] at a1;have b:f6 s k t1=.ok t:=b;exact ih hp a1 (.cons k b hf)
 | op m x y _ _ _ _ _ _=>intro M k t u acc hp;cases hp
 | call x l _ _ _ _=>intro M k t u acc hp;cases hp
 | make s l _ _=>intro M k t u acc hp;exact absurd (of_decide_eq_true (show decide ((27:Int)=23)=true by cases l<;>exact hp)) (by decide)
theorem with_sound {w : Va} {u : T.Ty} (hw:HT G w u):∀{l:List ByteArray} {t:T.Ty} {v:Va},HT G v t→Fld t l u→∃r,withM l v w=some r∧HT G r t:=by
 intro l;induction l with
 | nil=>intro t v hv hf;cases hf;exact⟨w,rfl,hw⟩
 | cons x l ih=>
  intro t v hv hf;cases hf with
  | cons k e1 hf=>
   obtain⟨ns,ps,i,rfl,h1,⟨h2,h3⟩,rfl,h4⟩:=field_idx hv e1;obtain⟨r,r1,r2⟩:=ih h3 hf;refine⟨.mk 3 0 ns (ps.set i r),?_,?_⟩
   ·show (idxN ns x).bind _=_;rw[h1];show (ps[i]?).bind _=_;rw[List.getElem?_eq_getElem h2];show (withM l ps[i] w).map _=_;rw[r1];rfl
   cases hv with
   | struct ns ps t a1 a2 a3 a4 a5 a6=>
    refine .struct _ _ _ a1 a2 a3 (by rw[List.length_set];exact a4) (by rw[List.length_set];exact a5) λ j hj=>?_;rw[List.getElem_set];split
    ·rename_i e;subst e;exact r2
    exact a6 j (by rw[List.length_set] at hj;exact hj)
theorem LoOk.set (h:LoOk G τ lo) {r : Va} (e:τ[i]?=some t) (hr:HT G r t):LoOk G τ (lo.set i r):=by
 refine⟨by rw[List.length_set];exact h.len,λ j v t' e1 e2=>?_⟩;rw[List.getElem?_set] at e1;split at e1
 ·rename_i hij
  subst hij;rw[e] at e2;cases e2;split at e1
  ·cases e1;exact hr
  cases e1
 exact h.at_ j v t' e1 e2
theorem setVar_sound {r : Va} {R : Va→Prop} (h:CtOk G τ c S) (e:fI S x k=.ok t) (hr:HT G r t) (h1:p.steps≤f) (h3:dX G p.now):Gd f G R (λ d=>CtOk G τ d S) p (dA c x r p):=by
 unfold fI at e;unfold dA;cases hf:cH S.env x with
 | some t'=>
  rw[hf] at e;cases e;obtain⟨i,q1,q2⟩:=(h.env.find x).2 _ hf;rw[q1];obtain⟨hi,_⟩:=List.getElem?_eq_some_iff.1 q2;show Gd f G R _ p (if _ then _ else _);rw[if_pos (by rw[h.lo.len];exact hi)];exact .ok h1 h3 ⟨h.u,h.lo.set q2 hr,h.env⟩
 | none=>
  rw[hf] at e;rw[(h.env.find x).1 hf];dsimp only at e ⊢;cases hd:S.de x with
  | none=>rw[hd] at e;cases e
  | some q=>
   obtain⟨t',b⟩:=q;rw[hd] at e;obtain⟨hb,e⟩:=aJ e;cases e;obtain⟨m1,m2,m3,i,g,a1,a2,a3,a4⟩:=h.u.de x _ _ hd;have hb':b=false:=by cases b;rfl;cases hb
   have hk:=m3 hb';have al:=fJ a3 m1 a4;have al':=fJ m1 a3 a4.symm;obtain⟨v,q5,q6⟩:=h3 i g a2 (by rw[(cI al).k];exact hk);rw[a1];obtain⟨hi,_⟩:=List.getElem?_eq_some_iff.1 q5;dsimp only;rw[if_pos hi];refine⟨Nat.le_refl _,h1,λ j g' e1 e2=>?_,h⟩;show ∃v,(p.now.set i r)[j]?=some v∧_;rw[List.getElem?_set];by_cases hij:i=j
   ·subst hij;rw[if_pos rfl,if_pos hi];rw[a2] at e1;cases e1;exact⟨r,rfl,hr.alike m1 a3 al'⟩
   rw[if_neg hij];exact h3 j g' e1 e2
theorem set_sound {x : Nd} {R : Va→Prop} (hx:Ex x) (hp:fK x=true) (h:CtOk G τ c S) (e:bJ S M x k=.ok t) (hv:HT G v t) (h1:p.steps≤f) (h3:dX G p.now):Gd f G R (λ d=>CtOk G τ d S) p (setM c x v p):=by
 obtain⟨y,l,t0,k0,q1,q2,q3⟩:=path_sound (S:=S) hx hp e (.nil t);obtain⟨w,q4,q5⟩:=name_sound h h3 q2;obtain⟨r,q6,q7⟩:=with_sound hv q5 q3;unfold setM;rw[q1];dsimp only;rw[q4];dsimp only;rw[q6];exact setVar_sound h q2 q7 h1 h3
theorem LevOk.put (h:LevOk τ m F) (x:ByteArray) (t:T.Ty):LevOk (τ++[t]) (putM m x τ.length) (putM F x t):=λ y=>by
 unfold putM;by_cases e:y=x
 ·rw[if_pos e,if_pos e];exact⟨λ h=>(by cases h),λ u h=>by cases h;exact⟨_,rfl,by rw[List.getElem?_append_right (Nat.le_refl _),Nat.sub_self];rfl⟩⟩
 rw[if_neg e,if_neg e];exact h.app [t] y
theorem LoOk.snoc (h:LoOk G τ lo) (k:HT G v t):LoOk G (τ++[t]) (lo++[v]):=
 have q:=VsOk.snoc ⟨h.len,h.at_⟩ k
 ⟨q.len,q.at_⟩
theorem LevOk.none:LevOk τ noN (λ_=>none):=λ x=>⟨λ_=>rfl,λ t h=>by cases h⟩
theorem while_sound (he:EOk f pg G N e)(hs:SOk f pg G N s){n b:Nd}{M M' k:Nat}{U:Cs}{t:T.Ty}(hx:Ex n)(hb:∀x,x∈b.kids→St x)(e1:bJ S M n k=.ok t)(q:Nat)(e2:fG (bL M') (λ_=>none) { S with k:=q } b=.ok U):
  ∀(j:Nat) (c:Cm) (p:Pm),CtOk G τ c S→p.steps≤f→f+1≤p.steps+N→f+1≤p.steps+j→dX G p.now→Gd f G (λ v=>HT G v S.res) (λ d=>CtOk G τ d S) p (fV e s n b j c p)
 | 0,c,p,h,h1,h2,h4,h3=>by omega
 | j+1,c,p,h,h1,h2,h4,h3=>by
  refine Gd.from (r:={ p with steps:=p.steps+1 }) ?_ (Nat.le_succ _)
  refine ((he c n p S τ M k t hx h e1 h1 h2 h3).weak λ v h=>h.elim).bind λ v r a b' c' d=>?_;have a:p.steps+1≤r.steps:=a;split
  ·exact .ok b' c' h
  have hk:=eM (eO M') e2;refine (fU hs hb (h.congr (S':={ S with k:=q }) rfl rfl rfl) .none e2 b' (by omega) c').bind λ d r' a' b'' c'' d'=>?_;exact while_sound he hs hx hb e1 q e2 j d r' (d'.congr hk.1.st.symm hk.1.de.symm hk.2.symm) b'' (by omega) (by omega) c''
theorem stat_sound (he:EOk f pg G N e) (hs:SOk f pg G N s):SOk f pg G (N+1) (cB f (N+1) e s):=by
 intro c n p S S' τ M hx h hne hk h1 h2 h3;cases M with
 | zero=>cases hk
 | succ M=>
 have hk:statSC (bL M) S n=.ok S':=hk;unfold cB dH;by_cases e0:p.steps=f
 ·rw[if_pos e0];exact .inl ⟨rfl,e0⟩
 rw[if_neg e0];refine Gd.from (r:={ p with steps:=p.steps+1 }) ?_ (Nat.le_succ _)
 have g1:(p.steps+1)≤f:=by omega
 have g2:f+1≤(p.steps+1)+N:=by omega
 have g3:dX G ({ p with steps:=p.steps+1 }:Pm).now:=h3;have same:∀{c':Cm} {S'':Cs},S''.env=S.env→CtOk G τ c' S''→S''.env≠[]∧S''.env.tail=S.env.tail∧∃σ,CtOk G (τ++σ) c' S'':=λ e h=>⟨e ▸ hne,by rw[e],[],by rw[List.append_nil];exact h⟩
 cases hx with
 | var x ty ex hty hex=>
  have hk:varC S (.mk 14 x 0 [ty,ex])=.ok S':=hk;unfold varC at hk;obtain⟨t,q1,hk⟩:=CR.bind_ok hk;obtain⟨u,q2,hk⟩:=CR.bind_ok hk;obtain⟨_,hk⟩:=aJ hk;obtain⟨q4,hk⟩:=aJ hk;obtain⟨_,hk⟩:=aJ hk;cases hk;show Gd f G _ _ _ ((e c ex _).bind _);refine ((he.go c ex _ S τ _ _ u hex h q2 g1 g2 g3).weak λ v h=>h.elim).bind λ v r a b c' d=>?_;rw[if_pos (show (Nd.mk 14 x 0 [ty,ex]).kind=14 from rfl)];obtain⟨hu,hlo,henv⟩:=h;cases hb:c.bl with
  | nil=>
   rw[hb] at henv;cases hS:S.env with
   | nil=>exact absurd hS hne
   | cons F E=>rw[hS] at henv;cases henv
  | cons m l=>
   rw[hb] at henv;cases hS:S.env with
   | nil=>exact absurd hS hne
   | cons F E=>
    rw[hS] at henv;cases henv with
    | cons hl hr=>
     refine .of (x:={ c with bl:=putM m x c.lo.length::l,lo:=c.lo++[v] }) (by unfold putTop;rw[hb];rfl) b c' ⟨?_,?_,[t],⟨⟨hu.de,hu.st⟩,?_,?_⟩⟩
     ·show putM F x t::E≠[];simp
     ·rfl
     ·exact hlo.snoc (d.back q4)
     show EnvOk (τ++[t]) _ (putM F x t::E);rw[hlo.len];exact .cons (hl.put x t) (hr.app [t])
 | set q x hq hqp hx=>
  have hk:((cM S q (S.k+1)).bind λ p=>(cM S x (S.k+1+sz q)).bind λ v=>askC (K.same p v) 3 S.k <| .ok { S with k:=S.k+sz (.mk 15 eB 0 [q,x]) })=.ok S':=hk;obtain⟨t,q1,hk⟩:=CR.bind_ok hk;obtain⟨u,q2,hk⟩:=CR.bind_ok hk;obtain⟨q3,hk⟩:=aJ hk;cases hk;show Gd f G _ _ _ ((e c x _).bind _);refine ((he.go c x _ S τ _ _ u hx h q2 g1 g2 g3).weak λ v h=>h.elim).bind λ v r a b c' d=>?_;rw[if_neg (show ¬ (Nd.mk 15 eB 0 [q,x]).kind=14 from (by decide:¬ (15:Int)=14))];exact (set_sound hq hqp h q1 (d.back q3) b c').mono λ d hd=>same rfl (hd.congr rfl rfl rfl)
 | if1 x l hx hl=>
  have hk:((cM S x (S.k+1)).bind λ t=>(bQ (bL M) [.mk 13 eB 0 l] { S with k:=S.k+1+sz x }).bind λ u=>askC (decide (tyk t=1)) 3 S.k <| .ok u)=.ok S':=hk;obtain⟨t,q1,hk⟩:=CR.bind_ok hk;obtain⟨u,q2,hk⟩:=CR.bind_ok hk;obtain⟨q3,hk⟩:=aJ hk;cases hk;obtain⟨u1,q4,q5⟩:=CR.bind_ok q2;cases q5;have kk:=eM (eO M) q4;show Gd f G _ _ _ ((e c x _).bind _);refine ((he.go c x _ S τ _ _ t hx h q1 g1 g2 g3).weak λ v h=>h.elim).bind λ v r a b c' d=>?_;have a:p.steps+1≤r.steps:=a;split
  ·exact .ok b c' (same kk.2 (h.congr kk.1.st kk.1.de kk.2))
  exact (fU (n:=.mk 13 eB 0 l) hs hl (h.congr (S':={ S with k:=S.k+1+sz x }) rfl rfl rfl) .none q4 b (by omega) c').mono λ d hd=>same kk.2 hd
 | if2 x l l' hx hl hl'=>
  have hk:((cM S x (S.k+1)).bind λ t=>(bQ (bL M) [.mk 13 eB 0 l,.mk 13 eB 0 l'] { S with k:=S.k+1+sz x }).bind λ u=>askC (decide (tyk t=1)) 3 S.k <| .ok u)=.ok S':=hk;obtain⟨t,q1,hk⟩:=CR.bind_ok hk;obtain⟨u,q2,hk⟩:=CR.bind_ok hk;obtain⟨q3,hk⟩:=aJ hk;cases hk;obtain⟨u1,q4,q5⟩:=CR.bind_ok q2;obtain⟨u2,q6,q7⟩:=CR.bind_ok q5;cases q7;have kk:=eM (eO M) q4;have kk':=eM (eO M) q6;have k1:=kk.1.trans kk'.1;have k2:=kk'.2.trans kk.2;show Gd f G _ _ _ ((e c x _).bind _);refine ((he.go c x _ S τ _ _ t hx h q1 g1 g2 g3).weak λ v h=>h.elim).bind λ v r a b c' d=>?_;have a:p.steps+1≤r.steps:=a;split
  ·refine ((fU (n:=.mk 13 eB 0 l') hs hl' (h.congr (S':=u1) kk.1.st kk.1.de kk.2) .none q6 b (by omega) c').weak λ v hv=>?_).mono λ d hd=>same k2 hd;have:=kk.1.res;rw[this] at hv;exact hv
  exact (fU (n:=.mk 13 eB 0 l) hs hl (h.congr (S':={ S with k:=S.k+1+sz x }) rfl rfl rfl) .none q4 b (by omega) c').mono λ d hd=>same k2 (hd.congr kk'.1.st kk'.1.de kk'.2)
 | «while» x l hx hl=>
  have hk:((cM S x (S.k+1)).bind λ t=>(bQ (bL M) [.mk 13 eB 0 l] { S with k:=S.k+1+sz x }).bind λ u=>askC (decide (tyk t=1)) 3 S.k <| .ok u)=.ok S':=hk;obtain⟨t,q1,hk⟩:=CR.bind_ok hk;obtain⟨u,q2,hk⟩:=CR.bind_ok hk;obtain⟨q3,hk⟩:=aJ hk;cases hk;obtain⟨u1,q4,q5⟩:=CR.bind_ok q2;cases q5;have kk:=eM (eO M) q4;have q1:bJ S (sz x) x (S.k+1)=.ok t:=q1;show Gd f G _ _ _ (fV e s x (.mk 13 eB 0 l) (N+1) c _);exact (while_sound (b:=.mk 13 eB 0 l) he hs hx hl q1 _ q4 (N+1) c _ h g1 g2 (by show f+1≤p.steps+1+(N+1);omega) g3).mono λ d hd=>same kk.2 (hd.congr kk.1.st kk.1.de kk.2)
 | one k1 x q hx=>
  rcases q with rfl|rfl|rfl
  ·have hk:((cM S x (S.k+1)).bind λ t=>askC (K.same t S.res) 3 S.k <| .ok { S with k:=S.k+sz (.mk 18 eB 0 [x]) })=.ok S':=hk;obtain⟨t,q1,hk⟩:=CR.bind_ok hk;obtain⟨q3,hk⟩:=aJ hk;cases hk;show Gd f G _ _ _ ((e c x _).bind _);refine ((he.go c x _ S τ _ _ t hx h q1 g1 g2 g3).weak λ v h=>h.elim).bind λ v r a b c' d=>?_;exact⟨Nat.le_refl _,b,c',d.same q3⟩
  ·have hk:((cM S x (S.k+1)).bind λ t=>askC (cA t) 3 S.k <| .ok { S with k:=S.k+sz (.mk 19 eB 0 [x]) })=.ok S':=hk;obtain⟨t,q1,hk⟩:=CR.bind_ok hk;obtain⟨q3,hk⟩:=aJ hk;cases hk;show Gd f G _ _ _ ((e c x _).bind _);refine ((he.go c x _ S τ _ _ t hx h q1 g1 g2 g3).weak λ v h=>h.elim).bind λ v r a b c' d=>?_;exact⟨Nat.le_refl _,b,c',same rfl (h.congr rfl rfl rfl)⟩
  have hk:((cM S x (S.k+1)).bind λ t=>.ok { S with k:=S.k+sz (.mk 20 eB 0 [x]) })=.ok S':=hk;obtain⟨t,q1,hk⟩:=CR.bind_ok hk;cases hk;show Gd f G _ _ _ ((e c x _).bind _);refine ((he.go c x _ S τ _ _ t hx h q1 g1 g2 g3).weak λ v h=>h.elim).bind λ v r a b c' d=>?_;exact .ok b c' (same rfl (h.congr rfl rfl rfl))
theorem names_lev:∀(l:List Nd)(ps σ:List T.Ty)(m:NM)(F:TM),l.length=ps.length→LevOk σ m F→LevOk (σ++ps) (bW m σ.length l) (cG F (l.map Nd.text) ps)
 | [],[],σ,m,F,_,h=>by rw[List.append_nil];exact h
 | x::l,t::ps,σ,m,F,e,h=>by
  have q:=names_lev l ps (σ++[t]) (putM m x.text σ.length) (putM F x.text t) (by simpa using e) (h.put x.text t);rw[List.append_assoc] at q;rw[List.length_append] at q;exact q
def NoOk {α:Type}:O α→Prop
 | .ok _ _=>False
 | _=>True
theorem NoOk.bind {β : Type} {a : O α} {g : α→Pm→O β} (h:∀x r,NoOk (g x r)):NoOk (a.bind g):=by
 cases a with
 | ok x r=>exact h x r
 | ret x r=>trivial
 | fin x r=>trivial
 | stuck=>trivial
def S18 (s:EvS):Prop:=∀c n p,n.kind=18→NoOk (s c n p)
theorem stats_no (h:S18 s):∀(l:List Nd) (x:Nd) (c:Cm) (p:Pm),x.kind=18→NoOk (eJ s c (l++[x]) p)
 | [],x,c,p,hx=>by
  have:=h c x p hx;show NoOk ((s c x p).bind _);generalize s c x p=a at this ⊢;cases a with
  | ok x r=>exact this.elim
  | ret x r=>trivial
  | fin x r=>trivial
  | stuck=>trivial
 | y::l,x,c,p,hx=>NoOk.bind λ c p=>stats_no h l x c p hx
theorem ev_18 (f:Nat) (pg:Pg):∀N,S18 (evM f pg N).2
 | 0=>λ c n p h=>trivial
 | N+1=>λ c n p h=>by
  show NoOk (cB f (N+1) _ _ c n p);unfold cB;refine NoOk.bind λ_ p=>?_;rw[if_neg (by omega),if_neg (by omega),if_pos (by omega)];split
  ·refine NoOk.bind λ v p=>?_;rw[if_pos h];trivial
  trivial
theorem result_sound (hp:PgOk pg G) (hs:SOk f pg G N s) (h18:S18 s):ROk f pg G N s:=by
 intro i g vs p hg hk hm hlen hv h1 h2 h3;obtain⟨t,ht,hf⟩:=hp.fn i g hg hk;obtain⟨u,S,v,sx,m,l,t0,b0,ps,r,q1,q2,q3,q4,q5,q6,q7,q8,q9,q10⟩:=hf.it;subst q7;obtain⟨_,p2,p3⟩:=parts_at (ps:=ps) (r:=r) (b:=decide (2≤m)) (i:=0);rw[p3] at hlen hv;rw[p3];have e1:t.node.kids=l++[t0]++[b0]:=by rw[q2];rfl
 have e2:(l++[t0]++[b0]).length=l.length+2:=by simp
 have e3:(l++[t0]++[b0]).take l.length=l:=by simp
 have e4:cY (l++[t0]++[b0]) 1=b0:=by simp [cY]
 unfold bM;rw[if_neg (by omega),show ((i:Int)).toNat=i from rfl,ht];dsimp only;rw[e1,e2,show l.length+2 - 2=l.length from rfl,if_neg (by omega),q1];dsimp only;rw[e3,e4];obtain⟨lb,rfl,hlb⟩:=q8;have hlev:=names_lev l ps [] noN (λ_=>none) q6 .none;have hlo:LoOk G ps (vs.take l.length):=by
  refine⟨by simp;omega,λ j w t' a1 a2=>?_⟩;obtain⟨hj,hj2⟩:=List.getElem?_eq_some_iff.1 a2;rw[List.getElem?_take,if_pos (by omega)] at a1;have:=hv j w (by omega) a1;rw[(parts_at (ps:=ps) (r:=r) (b:=decide (2≤m)) (i:=j)).1 hj,List.getD_eq_getElem?_getD,a2] at this;exact this
 have hb:=fU (c:=⟨u,[],vs.take l.length,(vs.drop l.length).flatMap aQ⟩) (m:=bW noN 0 l) (p:=p) (n:=.mk 13 eB 0 lb) hs hlb ⟨q3,hlo,by rw[q4];exact .nil⟩ hlev q10 h1 h2 h3;have hno:NoOk (bY s (bW noN 0 l) ⟨u,[],vs.take l.length,(vs.drop l.length).flatMap aQ⟩ (.mk 13 eB 0 lb) p):=by
  unfold cQ at q9;simp only[Bool.and_eq_true,decide_eq_true_eq] at q9;obtain⟨w1,w2⟩:=q9;have w1:0<lb.length:=w1;have w3:lb=lb.dropLast++[cY lb 1]:=by
   have hne:lb≠[]:=by intro h;rw[h] at w1;cases w1
   have:=(List.dropLast_concat_getLast hne).symm;rw[List.getLast_eq_getElem] at this;have e:cY lb 1=lb[lb.length - 1]:=by unfold cY;rw[List.getD_eq_getElem?_getD,List.getElem?_eq_getElem (by omega)];rfl
   rw[e];exact this
  show NoOk ((eJ s _ lb p).bind _);have w4:=stats_no h18 lb.dropLast (cY lb 1) { (⟨u,[],vs.take l.length,(vs.drop l.length).flatMap aQ⟩:Cm) with bl:=[bW noN 0 l] } p w2;rw[← w3] at w4;generalize eJ s _ lb p=a at w4 ⊢;cases a with
  | ok x r=>exact w4.elim
  | ret x r=>trivial
  | fin x r=>trivial
  | stuck=>trivial
 generalize bY s (bW noN 0 l) ⟨u,[],vs.take l.length,(vs.drop l.length).flatMap aQ⟩ (.mk 13 eB 0 lb) p=a at hb hno ⊢;cases a with
 | ok x r=>exact hno.elim
 | ret w r'=>
  refine⟨hb.1,hb.2.1,hb.2.2.1,?_⟩;have:=hb.2.2.2;rw[q5] at this;show HT G w (tpt _ (ps.length+1 - 1));rw[Nat.add_sub_cancel,p2];exact this
 | fin e r=>exact hb
 | stuck=>exact hb
theorem ev_sound (f:Nat){pg:Pg}(hp:PgOk pg G):∀N,EOk f pg G N (evM f pg N).1∧SOk f pg G N (evM f pg N).2
 | 0=>⟨λ_ _ _ _ _ _ _ _ _ _ _ h1 h2 _=>by omega,λ_ _ _ _ _ _ _ _ _ _ _ h1 h2 _=>by omega⟩
 | N+1=>⟨expr_sound (ev_sound f hp N).1 (result_sound hp (ev_sound f hp N).2 (ev_18 f pg N)),stat_sound (ev_sound f hp N).1 (ev_sound f hp N).2⟩
end
end Go.Proofs.YtdnhbedbpbgeeaaGreatDoor.K
