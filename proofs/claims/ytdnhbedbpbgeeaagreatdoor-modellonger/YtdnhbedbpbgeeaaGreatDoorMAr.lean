/- 17 -/
import Derived.Test.YtdnhbedbpbgeeaaGreatDoorMAq
set_option maxRecDepth 100000
set_option maxHeartbeats 16000000
set_option linter.all false
namespace Go.Proofs.YtdnhbedbpbgeeaaGreatDoor.K
open Go.RowKit Go.Proofs.Tryz
variable {n x z : Nd} {F : List (NM × NM)} {t : ByteArray} {s : Cs} {a N b mo : Nat} {l : List ByteArray} {P : Nd→Prop} {c k : Int} {v uv x0 x1 x2 x3 v2 x4 x5 x6 x7 x8 : Value} {f : NM × NM} {q2 : Addr} {op : NM}
variable {B : Bs} {w w' : World} {L : List Rs}
abbrev Uk:=Uq × Nat × Nat
def UkE:El Uk:=⟨λ H cs x=>∃x0 x1 x2 x3 sg nu,cs=[x0,x1,x2,x3,sg,nu,.map (some x.2.1),.map (some x.2.2)]∧NdH H [x0,x1,x2,x3] x.1.node∧SlP StE sg 9 1 x.1.signs H∧SlP IntE nu 3 1 (dM 1 x.1.node.kids) H,
 λ H H' cs u h hl=>by
  obtain⟨x0,x1,x2,x3,sg,nu,h1,h2,h3,h4⟩:=h;exact⟨x0,x1,x2,x3,sg,nu,h1,h2.up hl,sl_up h3 hl,sl_up h4 hl⟩⟩
def dW (N:Nat):List Uk→List (NM × NM)→List Rs
 | k::ks,f::fs=>.mp zN VNat k.2.1 N f.1::.mp zN VNat k.2.2 N f.2::dW N ks fs
 | _,_=>[]
def Rs.bm (N:Nat)(K:List Uk)(F:List (NM × NM)):Rs:=.all (dW N K F)
def smsB:List Uk→List (NM × NM)→List Rs
 | k::ks,f::fs=>.sm k.2.1 f.1::.sm k.2.2 f.2::smsB ks fs
 | _,_=>[]
def uisB:List Uk→List (NM × NM)→List Ui
 | k::ks,f::fs=>⟨k.1.node,f.1,f.2⟩::uisB ks fs
 | _,_=>[]
def Rs.lss (a b:Rs):Prop:=(∀H w,a.ok H w→b.ok H w)∧∀q,b.own q→a.own q
def RL:List Rs→List Rs→Prop
 | [],[]=>True
 | a::l,b::k=>a.lss b∧RL l k
 | _,_=>False
theorem RL.app:∀{a b c d:List Rs},RL a b→RL c d→RL (a++c) (b++d)
 | [],[],c,d,_,h=>h
 | x::a,y::b,c,d,h,k=>⟨h.1,RL.app h.2 k⟩
 | [],y::b,_,_,h,_=>h.elim
 | x::a,[],_,_,h,_=>h.elim
theorem RL.own:∀{a b:List Rs},RL a b→∀{y:Rs},y∈b→∀q,y.own q→∃x,x∈a∧x.own q
 | [],[],_,y,hy,_,_=>by cases hy
 | x::a,z::b,h,y,hy,q,hq=>by
  rcases List.mem_cons.1 hy with rfl|hy
  ·exact⟨x,List.mem_cons_self ..,h.1.2 q hq⟩
  obtain⟨x',h1,h2⟩:=RL.own h.2 hy q hq;exact⟨x',List.mem_cons_of_mem _ h1,h2⟩
 | [],y::b,h,_,_,_,_=>h.elim
 | x::a,[],h,_,_,_,_=>h.elim
theorem RL.all {H : Snap}:∀{a b:List Rs},RL a b→(Rs.all a).ok H w→(Rs.all b).ok H w
 | [],[],_,h=>h
 | x::a,y::b,h,k=>by
  obtain⟨k1,k2⟩:=k;obtain⟨k3,k4⟩:=List.pairwise_cons.1 k2;obtain⟨q1,q2⟩:=RL.all h.2 (⟨λ r hr=>k1 r (List.mem_cons_of_mem _ hr),k4⟩:(Rs.all a).ok H w);refine⟨λ r hr=>?_,List.pairwise_cons.2 ⟨λ z hz q hq hq'=>?_,q2⟩⟩
  ·rcases List.mem_cons.1 hr with rfl|hr
   ·exact h.1.1 _ _ (k1 x (List.mem_cons_self ..))
   exact q1 r hr
  obtain⟨x',e1,e2⟩:=RL.own h.2 hz q hq';exact k3 x' e1 q (h.1.2 q hq) e2
 | [],y::b,h,_=>h.elim
 | x::a,[],h,_=>h.elim
theorem Fr.less {a b : List Rs} (h:Fr B w (.all a::L)) (k:RL a b):Fr B w (.all b::L):=
 h.same 0 rfl (r':=.all b) (λ H hr=>k.all hr) λ q ⟨y,hy,hq⟩=>RL.own k hy q hq
theorem mp_less {mb M : Nat} {f : NM} (h:N≤M):(Rs.mp zN VNat mb N f).lss (.mp zN VNat mb M f):=
 ⟨λ H w ⟨D,k,h1,h2⟩=>⟨D,k,Nat.le_trans h1 h,h2⟩,λ q hq=>hq⟩
theorem maps_less {N M:Nat}(h:N≤M):∀K F,RL (dW N K F) (dW M K F)
 | [],_=>trivial
 | _::_,[]=>trivial
 | k::K,f::F=>⟨mp_less h,mp_less h,maps_less h K F⟩
theorem maps_split {N M:Nat}(h:N≤M):∀{K:List Uk} {F:List (NM × NM)} {a:Nat} {k:Uk} {f:NM × NM},K[a]?=some k→F[a]?=some f →
  ∃A C A' C',dW N K F=A++(.mp zN VNat k.2.1 N f.1::.mp zN VNat k.2.2 N f.2::C)∧(∀f',dW M K (F.set a f')=A'++(.mp zN VNat k.2.1 M f'.1::.mp zN VNat k.2.2 M f'.2::C'))∧RL A A'∧RL C C'
 | [],_,a,k,f,hk,hf=>by simp at hk
 | _::_,[],a,k,f,hk,hf=>by simp at hf
 | k0::K,f0::F,0,k,f,hk,hf=>by
  simp at hk hf;subst hk hf;exact⟨[],dW N K F,[],dW M K F,rfl,λ f'=>rfl,trivial,maps_less h K F⟩
 | k0::K,f0::F,a+1,k,f,hk,hf=>by
  obtain⟨A,C,A',C',h1,h2,h3,h4⟩:=maps_split h (K:=K) (F:=F) (a:=a) (k:=k) (f:=f) (by simpa using hk) (by simpa using hf);refine⟨.mp zN VNat k0.2.1 N f0.1::.mp zN VNat k0.2.2 N f0.2::A,C,.mp zN VNat k0.2.1 M f0.1::.mp zN VNat k0.2.2 M f0.2::A',C',by rw[dW,h1];rfl,λ f'=>?_,⟨mp_less h,mp_less h,h3⟩,h4⟩;rw[List.set_cons_succ,dW,h2];rfl
theorem Fr.bmPut1 {K : List Uk} {k : Uk} (h:Fr B w (.bm N K F::L)) (hk:K[a]?=some k) (hf:F[a]?=some f) (s:ByteArray) (hs:s.size≤maxLen) (x:Nat) (hN:N<16000):
  ∃w',(Instr.mapUpdate 40 (.map (some k.2.1)) (.string s) (.int .i64 (x:Int))).run prog w=.ok () w'∧Fr B w' (.bm (N+1) K (F.set a (putM f.1 s x,f.2))::L):=by
 obtain⟨A,C,A',C',h1,h2,h3,h4⟩:=maps_split (Nat.le_succ N) hk hf;have h5:Fr B w (dW N K F++L):=Fr.opn h;rw[h1,List.append_assoc] at h5;obtain⟨w',u1,u2⟩:=h5.mpNamedAt (mq:=k.2.1) (N:=N) (f:=f.1) A.length (by simp) s hs x hN;refine⟨w',u1,?_⟩;have e:(A++((.mp zN VNat k.2.1 N f.1::.mp zN VNat k.2.2 N f.2::C)++L)).set A.length (.mp zN VNat k.2.1 (N+1) (putM f.1 s x))=(A++(.mp zN VNat k.2.1 (N+1) (putM f.1 s x)::.mp zN VNat k.2.2 N f.2::C))++L:=by simp
 rw[e] at u2;exact (Fr.cls u2).less (by rw[h2];exact RL.app h3 ⟨⟨λ_ _ h=>h,λ_ h=>h⟩,mp_less (Nat.le_succ N),h4⟩)
theorem Fr.bmPut2 {K : List Uk} {k : Uk} (h:Fr B w (.bm N K F::L)) (hk:K[a]?=some k) (hf:F[a]?=some f) (s:ByteArray) (hs:s.size≤maxLen) (x:Nat) (hN:N<16000):
  ∃w',(Instr.mapUpdate 40 (.map (some k.2.2)) (.string s) (.int .i64 (x:Int))).run prog w=.ok () w'∧Fr B w' (.bm (N+1) K (F.set a (f.1,putM f.2 s x))::L):=by
 obtain⟨A,C,A',C',h1,h2,h3,h4⟩:=maps_split (Nat.le_succ N) hk hf;have h5:Fr B w (dW N K F++L):=Fr.opn h;rw[h1,List.append_assoc] at h5;obtain⟨w',u1,u2⟩:=h5.mpNamedAt (mq:=k.2.2) (N:=N) (f:=f.2) (A.length+1) (by simp [List.getElem?_append_right]) s hs x hN;refine⟨w',u1,?_⟩;have e:(A++((.mp zN VNat k.2.1 N f.1::.mp zN VNat k.2.2 N f.2::C)++L)).set (A.length+1) (.mp zN VNat k.2.2 (N+1) (putM f.2 s x))=(A++(.mp zN VNat k.2.1 N f.1::.mp zN VNat k.2.2 (N+1) (putM f.2 s x)::C))++L:=by
  rw[List.set_append_right _ _ (Nat.le_add_right _ _),Nat.add_sub_cancel_left];simp
 rw[e] at u2;exact (Fr.cls u2).less (by rw[h2];exact RL.app h3 ⟨mp_less (Nat.le_succ N),⟨λ_ _ h=>h,λ_ h=>h⟩,h4⟩)
theorem maps_snoc {N:Nat}(k:Uk)(f:NM × NM):∀(K:List Uk) (F:List (NM × NM)),K.length=F.length→dW N (K++[k]) (F++[f])=dW N K F++[.mp zN VNat k.2.1 N f.1,.mp zN VNat k.2.2 N f.2]
 | [],[],_=>rfl
 | x::K,y::F,h=>by
  show _::_::dW N (K++[k]) (F++[f])=_;rw[maps_snoc k f K F (by simpa using h)];rfl
 | [],y::F,h=>by simp at h
 | x::K,[],h=>by simp at h
theorem Fr.bmSnoc {m1 m2 : Nat} {K : List Uk} {f g : NM} (u:Uq) (h:Fr B w (.mp zN VNat m1 N f::.mp zN VNat m2 N g::.bm N K F::L)) (hl:K.length=F.length):Fr B w (.bm N (K++[(u,m1,m2)]) (F++[(f,g)])::L):=by
 have h1:Fr B w (.bm N K F::(.mp zN VNat m1 N f::.mp zN VNat m2 N g::L)):=h.perm ((List.Perm.swap _ _ _).symm.cons _ |>.trans (List.Perm.swap _ _ _));have h2:Fr B w (dW N K F++(.mp zN VNat m1 N f::.mp zN VNat m2 N g::L)):=Fr.opn h1;have e:dW N K F++(.mp zN VNat m1 N f::.mp zN VNat m2 N g::L)=dW N (K++[(u,m1,m2)]) (F++[(f,g)])++L:=by rw[maps_snoc _ _ K F hl,List.append_assoc];rfl
 rw[e] at h2;exact Fr.cls h2
theorem Fr.bmNone (h:Fr B w L) (N:Nat):Fr B w (.bm N [] []::L):=Fr.cls (Ks:=[]) h
theorem maps_give {N:Nat}:∀(K:List Uk) (F:List (NM × NM)) {L:List Rs},Fr B w (dW N K F++L)→Fr B w (smsB K F++L)
 | [],_,L,h=>h
 | _::_,[],L,h=>h
 | k::K,f::F,L,h=>by
  have h1:Fr B w (.sm k.2.1 f.1::.mp zN VNat k.2.2 N f.2::(dW N K F++L)):=h.giveMp 0 rfl;have h2:Fr B w ([.sm k.2.1 f.1,.sm k.2.2 f.2]++(dW N K F++L)):=h1.giveMp 1 rfl;have h3:=h2.perm (K:=dW N K F++([.sm k.2.1 f.1,.sm k.2.2 f.2]++L)) (by rw[← List.append_assoc,← List.append_assoc];exact List.Perm.append_right L List.perm_append_comm);have h4:=maps_give K F h3;exact h4.perm (by rw[← List.append_assoc];exact (List.Perm.append_right L List.perm_append_comm).trans (by rw[List.append_assoc];exact List.Perm.refl _))
theorem sms_mem:∀{K:List Uk}{F:List (NM × NM)}{j:Nat}{k:Uk}{f:NM × NM},K[j]?=some k→F[j]?=some f→Rs.sm k.2.1 f.1∈smsB K F∧Rs.sm k.2.2 f.2∈smsB K F
 | [],_,j,k,f,hk,_=>by simp at hk
 | _::_,[],j,k,f,_,hf=>by simp at hf
 | k0::K,f0::F,0,k,f,hk,hf=>by
  simp at hk hf;subst hk hf;exact⟨List.mem_cons_self ..,List.mem_cons_of_mem _ (List.mem_cons_self ..)⟩
 | k0::K,f0::F,j+1,k,f,hk,hf=>by
  obtain⟨h1,h2⟩:=sms_mem (K:=K) (F:=F) (j:=j) (k:=k) (f:=f) (by simpa using hk) (by simpa using hf);exact⟨List.mem_cons_of_mem _ (List.mem_cons_of_mem _ h1),List.mem_cons_of_mem _ (List.mem_cons_of_mem _ h2)⟩
theorem uisB_at:∀{K:List Uk}{F:List (NM × NM)}{j:Nat}{k:Uk}{f:NM × NM},K[j]?=some k→F[j]?=some f→(uisB K F)[j]?=some ⟨k.1.node,f.1,f.2⟩
 | [],_,j,k,f,hk,_=>by simp at hk
 | _::_,[],j,k,f,_,hf=>by simp at hf
 | k0::K,f0::F,0,k,f,hk,hf=>by simp at hk hf;subst hk hf;rfl
 | k0::K,f0::F,j+1,k,f,hk,hf=>by
  show (uisB K F)[j]?=_;exact uisB_at (by simpa using hk) (by simpa using hf)
theorem uisB_len:∀{K:List Uk}{F:List (NM × NM)},K.length=F.length→(uisB K F).length=K.length
 | [],[],_=>rfl
 | k::K,f::F,h=>by show (uisB K F).length+1=_;rw[uisB_len (by simpa using h)];rfl
 | [],y::F,h=>by simp at h
 | x::K,[],h=>by simp at h
theorem Fr.bmGive {K : List Uk} (h:Fr B w (.bm N K F::.sl UkE uv 62 8 K::L)) (hl:K.length=F.length):Fr B w (.sl UiE uv 62 8 (uisB K F)::L):=by
 have h1:=maps_give K F (Fr.opn h);have h2:=h1.know (K:=[.sl UiE uv 62 8 (uisB K F)]) λ H w hr r hr'=>by
  obtain rfl:=List.mem_singleton.1 hr';refine⟨?_,λ q hq=>hq⟩;obtain⟨a,c,e1,e2,e3,e4⟩:SlP UkE uv 62 8 K H:=hr (.sl UkE uv 62 8 K) (List.mem_append_right _ (List.mem_cons_self ..));refine⟨a,c,by rw[uisB_len hl];exact e1,by rw[uisB_len hl];exact e2,e3,λ hne=>?_⟩;have hK:K≠[]:=λ e=>hne (by subst e;rfl);obtain⟨g,o,cur,f,q1,q2,q3⟩:=e4 hK;refine⟨g,o,cur,f,q1,q2,λ j hj=>?_⟩;have hj':j<K.length:=by rw[← uisB_len hl];exact hj
  obtain⟨cs,p1,p2,x0,x1,x2,x3,sg,nu,p3,p4,p5,p6⟩:=q3 j hj';have hk:=List.getElem?_eq_getElem hj';have hf:=List.getElem?_eq_getElem (l:=F) (i:=j) (by rw[← hl];exact hj');obtain⟨s1,s2⟩:=sms_mem hk hf;have hu:=uisB_at hk hf;rw[List.getElem?_eq_getElem hj] at hu;have hu:=Option.some.inj hu;refine⟨cs,p1,p2,?_⟩;rw[hu];exact⟨x0,x1,x2,x3,sg,nu,_,_,p3,p4,hr _ (List.mem_append_left _ s1),hr _ (List.mem_append_left _ s2)⟩
 exact h2.sub (List.Sublist.cons_cons _ (((List.sublist_cons_self _ _)).trans (List.sublist_append_right _ _)))
theorem Fr.ukAt {K : List Uk} (h:Fr B w L) (i:Nat) (hi:L[i]?=some (.sl UkE uv 62 8 K)) (j:Nat) {u : Uk} (hu:K[j]?=some u):
  ∃(g o d:Nat) (a:Option Addr) (c:Nat) (sa:Option Addr) (sc:Nat) (na:Option Addr) (nc:Nat) (cur:Array Value) (f':Nat × Nat),uv=.slice (some ⟨g,o,none⟩) K.length d∧j<K.length∧K.length≤d ∧
   (∀k,k<8→cur[o+j*8+k]?=[Value.int .i64 u.1.node.kind,.string u.1.node.text,.int .i64 u.1.node.num,.slice a u.1.node.kids.length c,.slice sa u.1.signs.length sc,.slice na u.1.node.kids.length nc,.map (some u.2.1),.map (some u.2.2)][k]?)∧u.1.signs.length≤sc∧u.1.node.kids.length≤nc ∧
   Fr B w (.kn g cur 62 f'::.sl StE (.slice sa u.1.signs.length sc) 9 1 u.1.signs::.sl IntE (.slice na u.1.node.kids.length nc) 3 1 (dM 1 u.1.node.kids)::.el NdE (ndc u.1.node.kind u.1.node.text u.1.node.num a u.1.node.kids.length c) u.1.node::L):=by
 obtain⟨hj,rfl⟩:=List.getElem?_eq_some_iff.1 hu;obtain⟨H,hF⟩:=h;have hsl:SlP UkE uv 62 8 K H:=hF.ok _ (List.mem_of_getElem? hi);obtain⟨a',c',e1,e2,-⟩:=id hsl;have hsl':SlP UkE (.slice a' K.length c') 62 8 K H:=e1 ▸ hsl;obtain⟨g,o,cur,f',css,rfl,-,h2,h3,h4,h5,h6⟩:=sl_css hsl' (by decide) (λ e=>by rw[e] at hj;simp at hj);have hj':j<css.length:=by omega
 obtain⟨x0,x1,x2,x3,sg,nu,e4,en,es1,es2⟩:UkE.p H css[j] K[j]:=h6 j hj hj';have hc:∀k,k<8→cur[o+j*8+k]?=css[j][k]?:=λ k hk=>by
  rw[Nat.add_assoc];have hk':k<css[j].length:=by rw[h4 _ (List.getElem_mem hj')];exact hk
  have h7:css.flatten[j*8+k]?=css[j][k]?:=fQ h4 j hj' k hk;rw[List.getElem?_eq_getElem hk'] at h7 ⊢;exact h5 _ _ h7
 have F1:Fr B w (.el NdE [x0,x1,x2,x3] K[j].1.node::L):=⟨H,hF.free (r:=.el NdE [x0,x1,x2,x3] K[j].1.node) en λ q hq=>hq⟩
 obtain⟨a,c,ex⟩:=F1.ndForm 0 rfl;obtain⟨sa,sc,e5,e6,-⟩:=id es1;obtain⟨na,nc,e7,e8,-⟩:=id es2;rw[dG] at e7 e8;have F2:=hF.free (r:=.el NdE [x0,x1,x2,x3] K[j].1.node) en λ q hq=>hq;have F3:=F2.free (r:=.sl IntE nu 3 1 (dM 1 K[j].1.node.kids)) es2 λ q hq=>hq;have F4:=F3.free (r:=.sl StE sg 9 1 K[j].1.signs) es1 λ q hq=>hq;have F5:=F4.free (r:=.kn g cur 62 f') h2 λ q hq=>hq;rw[e4] at hc;cases ex;subst e5 e7;exact⟨g,o,c',a,c,sa,sc,na,nc,cur,f',e1,hj,e2,hc,e6,e8,H,F5⟩
theorem Fr.thOf {y0 y1 y2 y3 : Value} {v : Va} (h:Fr B w L) (i j:Nat) (hi:L[i]?=some (.el NdE [x0,x1,x2,x3] n)) (hj:L[j]?=some (.el VaE [y0,y1,y2,y3] v)) (a:Nat) (s:ByteArray):Fr B w (.el ThE [x0,x1,x2,x3,.int .i64 (a:Int),.string s,y0,y1,y2,y3] (⟨n,a,s⟩,v)::L):=
 h.know (K:=[_]) λ H w hr r hr'=>by
  obtain rfl:=List.mem_singleton.1 hr';exact⟨⟨x0,x1,x2,x3,y0,y1,y2,y3,rfl,hr _ (List.mem_of_getElem? hi),hr _ (List.mem_of_getElem? hj)⟩,λ q hq=>hq⟩
theorem Fr.ukOf {sg nu : Value} (h:Fr B w L) (i j k:Nat) (hi:L[i]?=some (.el NdE [x0,x1,x2,x3] n)) (hj:L[j]?=some (.sl StE sg 9 1 l)) (hk:L[k]?=some (.sl IntE nu 3 1 (dM 1 n.kids))) (m1 m2:Nat):Fr B w (.el UkE [x0,x1,x2,x3,sg,nu,.map (some m1),.map (some m2)] (⟨n,l⟩,m1,m2)::L):=
 h.know (K:=[_]) λ H w hr r hr'=>by
  obtain rfl:=List.mem_singleton.1 hr';exact⟨⟨x0,x1,x2,x3,sg,nu,rfl,hr _ (List.mem_of_getElem? hi),hr _ (List.mem_of_getElem? hj),hr _ (List.mem_of_getElem? hk)⟩,λ q hq=>hq⟩
theorem cR {s : ByteArray} {m : Int} {l : List Nd} (h:Tx (.mk k s m l)) (hm:R64 m) (hl:∀x,x∈l→Tx x→Nk x):Nk (.mk k s m l):=.mk k s m l h.text hm λ x hx=>hl x hx (h.kids x hx)
theorem eR:R64 0:=by unfold R64;omega
theorem ty_nk (h:Ty n):Tx n→Nk n:=by
 induction h with
 | base k _=>exact λ h=>cR h eR λ x hx=>by cases hx
 | named s=>exact λ h=>cR h eR λ x hx=>by cases hx
 | fn m l hm _ _ ih=>exact λ h=>cR h (by unfold R64;omega) ih
theorem one_of (h:P x):∀y,y∈[x]→P y:=λ y hy=>by rw[List.mem_singleton.1 hy];exact h
theorem two_of (h:P x) (k:P z):∀y,y∈[x,z]→P y:=λ y hy=>by
 rcases List.mem_cons.1 hy with rfl|hy
 ·exact h
 rw[List.mem_singleton.1 hy];exact k
theorem three_of {v : Nd} (h:P x) (k:P z) (g:P v):∀y,y∈[x,z,v]→P y:=λ y hy=>by
 rcases List.mem_cons.1 hy with rfl|hy
 ·exact h
 exact two_of k g y hy
theorem ex_nk (h:Ex n):Tx n→Nk n:=by
 induction h with
 | num k m _ h1 h2=>exact λ h=>cR h (by unfold R64;omega) λ x hx=>by cases hx
 | leaf k s _=>exact λ h=>cR h eR λ x hx=>by cases hx
 | one k s x _ _ ih=>exact λ h=>cR h eR (one_of (P:=λ x=>Tx x→Nk x) ih)
 | op m x y h1 h2 _ _ i1 i2=>exact λ h=>cR h (by unfold R64;omega) (two_of (P:=λ x=>Tx x→Nk x) i1 i2)
 | call x l _ _ i1 i2=>
  intro h;refine cR h eR λ y hy=>?_;rcases List.mem_cons.1 hy with rfl|hy
  ·exact i1
  exact i2 y hy
 | make s l _ ih=>exact λ h=>cR h eR ih
theorem st_nk (h:St n):Tx n→Nk n:=by
 induction h with
 | var s t x ht hx=>exact λ h=>cR h eR (two_of (P:=λ x=>Tx x→Nk x) (ty_nk ht) (ex_nk hx))
 | set p x hp _ hx=>exact λ h=>cR h eR (two_of (P:=λ x=>Tx x→Nk x) (ex_nk hp) (ex_nk hx))
 | if1 c l hc _ ih=>exact λ h=>cR h eR (two_of (P:=λ x=>Tx x→Nk x) (ex_nk hc) λ h=>cR h eR ih)
 | if2 c l k hc _ _ i1 i2=>exact λ h=>cR h eR (three_of (P:=λ x=>Tx x→Nk x) (ex_nk hc) (λ h=>cR h eR i1) λ h=>cR h eR i2)
 | «while» c l hc _ ih=>exact λ h=>cR h eR (two_of (P:=λ x=>Tx x→Nk x) (ex_nk hc) λ h=>cR h eR ih)
 | one k x _ hx=>exact λ h=>cR h eR (one_of (P:=λ x=>Tx x→Nk x) (ex_nk hx))
theorem bl_nk (h:Bl n):Tx n→Nk n:=by
 obtain⟨l,rfl,hl⟩:=h;exact λ h=>cR h eR λ x hx=>st_nk (hl x hx)
theorem ti_nk (h:Ti k n):Tx n→Nk n:=by
 obtain⟨s,t,rfl,ht⟩:=h;exact λ h=>cR h eR (one_of (P:=λ x=>Tx x→Nk x) (ty_nk ht))
theorem app_nk {l k : List Nd} (hl:∀x,x∈l→Tx x→Nk x) (hk:∀x,x∈k→Tx x→Nk x):∀x,x∈l++k→Tx x→Nk x:=λ x hx=>(List.mem_append.1 hx).elim (hl x) (hk x)
theorem de_nk (h:De n):Tx n→Nk n:=by
 cases h with
 | struct s l hl=>exact λ h=>cR h eR λ x hx=>ti_nk (hl x hx)
 | outside n ht=>exact ti_nk ht
 | extern s m l t hm hl ht=>exact λ h=>cR h (by unfold R64;omega) (app_nk (λ x hx=>ti_nk (hl x hx)) (one_of (P:=λ x=>Tx x→Nk x) (ty_nk ht)))
 | global s m t k v hm ht hk h1 h2=>exact λ h=>cR h (by unfold R64;omega) (two_of (P:=λ x=>Tx x→Nk x) (ty_nk ht) λ h=>cR h (by unfold R64;omega) λ x hx=>by cases hx)
 | func s m l t b h1 h2 hl ht hb=>exact λ h=>cR h (by unfold R64;omega) (app_nk (app_nk (λ x hx=>ti_nk (hl x hx)) (one_of (P:=λ x=>Tx x→Nk x) (ty_nk ht))) (one_of (P:=λ x=>Tx x→Nk x) (bl_nk hb)))
theorem un_nk (h:Un n) (hx:Tx n):Nk n:=by
 obtain⟨l,rfl,hl⟩:=h;exact cR hx eR λ x hx=>de_nk (hl x hx)
theorem de_kid1 {d : Nd} (h:De d) (k:d.kind=6):∃y,d.kids[1]?=some y∧kid1 d=y:=by
 cases h with
 | global s m t k v _ _ _ _ _=>exact⟨_,rfl,rfl⟩
 | struct s l _=>exact absurd (show (2:Int)=6 from k) (by decide)
 | outside n ht=>obtain⟨s,t,rfl,_⟩:=ht;exact absurd (show (5:Int)=6 from k) (by decide)
 | extern s m l t _ _ _=>exact absurd (show (4:Int)=6 from k) (by decide)
 | func s m l t b _ _ _ _ _=>exact absurd (show (7:Int)=6 from k) (by decide)
structure UqI (u:Uq):Prop where
 un:Un u.node
 nk:Nk u.node
 sz:sz u.node≤700
 sg:u.signs.length=u.node.kids.length
theorem wrap_i32_eq (n:Int):IntKind.i32.wrap n=wrap32 n:=by simp only[wrap32,IntKind.wrap_i32]
theorem cL {R : Ending→World→Prop} (i:Nat) (c:List PanicEntry) (a:Act) (w:World) (h:bodyPostD prog f10 R (.panic c) (a.put (some i) v) w):bodyPostD prog f10 R (.panic c) a w:=
 leaves_res (by
  show results f10 (a.tmps.setIfInBounds i v)=results f10 a.tmps;simp only[results,results10];simp) a.defers _ w h
theorem Fr.smMain (h:Fr B w L) (i:Nat) {main : Nat} (hi:L[i]?=some (.sm mo op)) (hop:op wMAIN=some main):(Instr.lookup 40 (.map (some mo)) (.string ⟨#[109,97,105,110]⟩) false).run prog w=.ok (.int .i64 (main:Int)) w:=by
 have:=(h.smLook i hi wMAIN (by decide)).2;rw[hop] at this;exact this
theorem Fr.set90 (h:Fr B w L) (i:Nat) {q : Nat} {T : TypeId} (hi:L[i]?=some (.blk q #[x0,x1,x2,x3,x4,x5,x6,x7,x8] T)) (v:Value):Fr B (w.setCell ⟨q,0,none⟩ v) (L.set i (.blk q #[v,x1,x2,x3,x4,x5,x6,x7,x8] T)):=by simpa using h.set i hi 0 v
theorem Fr.set91 (h:Fr B w L) (i:Nat) {q : Nat} {T : TypeId} (hi:L[i]?=some (.blk q #[x0,x1,x2,x3,x4,x5,x6,x7,x8] T)) (v:Value):Fr B (w.setCell ⟨q,1,none⟩ v) (L.set i (.blk q #[x0,v,x2,x3,x4,x5,x6,x7,x8] T)):=by simpa using h.set i hi 1 v
def PRun (f:Nat)(r:Rdy)(B:Bs)(bp:Nat)(q:PQ)(L:List Rs)(e:Ending)(w':World):Prop:=
 ∃ov over,e=.returned (.tuple #[])∧Fr B w' (.blk bp #[.int .i64 (runQ f r).end_,.int .i32 (runQ f r).value,ov,.int .i64 ((runQ f r).steps:Nat),q.uv,q.tv,q.ov,.int .i64 f,.bool over] 42::.els I32E ov 21 1 (runQ f r).out::L)
theorem run10 {f : Nat} {r : Rdy} (hpg:PgI r.pg) (hun:∀u,u∈r.pg.us→UnI u) {bp : Nat} {q : PQ} (h:Fr B w (.pm bp q r.pg f ⟨0,[],r.now⟩ false::.sm mo op::L)) (hov:q.ov=.map (some mo)) (hop:op wMAIN=some r.main) (hpi:PI r.pg f 0 0 ⟨0,[],r.now⟩) (hne:runO f r≠.stuck) (hrt:∀v p,runO f r≠.ret v p):Calls prog 10 #[ptr bp] w (PRun f r B bp q L):=by
 obtain⟨Q,hQ⟩:∃Q,Q=runO f r:=⟨_,rfl⟩
 have HQ:=ah hQ;have HNE:Hid (bM r.pg (evM f r.pg 2001).2 (r.main:Int) [] ⟨0,[],r.now⟩≠.stuck):=ah hne;have HRT:=ah hrt;have HOV:=ah hov;have HOP:=ah hop;have HPI:=ah hpi;have hmf:∀(fn:Fn) (first cap:Array Value) (w:World),(Instr.makeFunc fn first cap).run prog w=.ok (.func fn first cap) w:=λ_ _ _ _=>rfl;have HF:=((h.noEls VaE 48 4).give 0 rfl).swap;clear h hne hrt hov hop hpi hQ;replace HF:=ax HF w.heap.size #[ptr bp] 35;go_enter_defers func10,ntmps10
 go_wp2_with fail;go_wp2;refine regK [] HF (λ w h=>⟨(h.cell 0 rfl),((h.pmCell 1 rfl 6).trans (congrArg some HOV)),(h.smMain 3 rfl HOP)⟩) (λ wd1 HF hC=>?_) (C:=λ w'=>(∀o,w'.cell? ⟨w.heap.size,o,none⟩=(#[ptr bp]:Array Value)[o]?)∧(w'.cell? ⟨bp,6,none⟩=some (.map (some mo)))∧((Instr.lookup 40 (.map (some mo)) (.string ⟨#[109,97,105,110]⟩) false).run prog w'=.ok (.int .i64 (r.main:Int)) w'));refine tq 0 ?_ (hi:=rfl) (hQ:=cL _);refine tq 1 ?_ (hi:=rfl) (hQ:=cL _);refine tq 2 ?_ (hi:=rfl) (hQ:=cL _);refine tq 3 ?_ (hi:=rfl) (hQ:=cL _);refine tq 4 ?_ (hi:=rfl) (hQ:=cL _);refine tq 5 ?_ (hi:=rfl) (hQ:=cL _);refine rq2 6 7 (λ K hK=>?_) λ K hK=>?_
 ·go_simp;replace HF:=Fr.fr11 HF;refine (calls_ok hpg hun 2001 HF HPI 1 rfl (Nat.zero_le _) HNE).mono ?_;intro e w6 hpost;clear HF;obtain⟨Q',hQ'⟩:∃Q',Q'=bM r.pg (evM f r.pg 2001).2 (r.main:Int) [] ⟨0,[],r.now⟩:=⟨_,rfl⟩
  rw[← hQ'] at hpost;have HQ':Hid (runO f r=Q'):=ah hQ'.symm;cases Q' with
  | stuck=>exact absurd hQ'.symm HNE
  | ret v p'=>exact absurd hQ'.symm (HRT v p')
  | fin e0 p'=>
   obtain⟨ov,rfl,hi0,hf0⟩:=hpost;refine leaves_cons (f:=15) (args:=#[.pointer (some ⟨w.heap.size,0,none⟩)]) (by simp) (by simp [go_sem]) ?_;refine (run_fin w.heap.size bp e0 0 _ _ _ _ _ _ _ _ [] w6 (hf0.blkAt 1 rfl) (hf0.pmBlk 0 rfl)).mono ?_;rintro e u' w9 ⟨rfl,rfl,rfl⟩;have h9:=hf0.pmOpen.set90 0 rfl (.int .i64 e0);refine⟨.tuple #[],by simp [results,results10],ov,true,rfl,?_⟩;have e9:runQ f r=⟨e0,0,p'.steps,p'.out⟩:=by unfold runQ;rw[HQ'.out];rfl
   rw[e9];exact h9.lose
  | ok v p'=>
   obtain⟨ov,a_v,c_v,pa_v,pc_v,rfl,hr,hi0,hf0⟩:=hpost;have e9:runQ f r=⟨1,IntKind.i32.wrap v.num,p'.steps,p'.out⟩:=by unfold runQ;rw[HQ'.out,wrap_i32_eq];rfl
   have HE:=ah e9;replace HF:=hf0;clear hf0 hQ' HQ' e9;refine uq hK ⟨(HF.cell 2 rfl),((HF.pmCell 0 rfl 6).trans (congrArg some HOV)),(HF.smMain 4 rfl HOP)⟩ λ hC=>?_;refine rq 7 λ K hK=>?_;have HFp:=HF;replace HF:=aV HF w6.heap.size 0 0 none 0 0 none 0 0;go_simp;refine uq hK ⟨(HF.cell 3 rfl),((HF.pmCell 1 rfl 6).trans (congrArg some HOV)),(HF.smMain 5 rfl HOP)⟩ λ hC=>?_;refine rq 8 λ K hK=>?_;obtain⟨c_r,f_r⟩:=cf HF 0;go_simp;clear c_r f_r;replace HF:=aV HFp w6.heap.size v.kind v.num a_v v.names.length c_v pa_v v.parts.length pc_v;clear HFp;refine uq hK ⟨(HF.cell 3 rfl),((HF.pmCell 1 rfl 6).trans (congrArg some HOV)),(HF.smMain 5 rfl HOP)⟩ λ hC=>?_;try simp only[qq]
   replace HF:=Fr.fr11 HF;refine dq ?_;replace HF:=Fr.pmOpen HF;go_wp2;refine regK [] HF (λ w h=>aI (h.cell 6 rfl) (h.cell 4 rfl)) (λ wd2 HF hC=>?_);refine tq 0 ?_ (hi:=rfl) (hQ:=cL _);refine tq 1 ?_ (hi:=rfl) (hQ:=cL _);refine tq 2 ?_ (hi:=rfl) (hQ:=cL _);refine tq 3 ?_ (hi:=rfl) (hQ:=cL _);refine tq 4 ?_ (hi:=rfl) (hQ:=cL _);refine tq 5 ?_ (hi:=rfl) (hQ:=cL _);refine tq 6 ?_ (hi:=rfl) (hQ:=cL _);refine tq 7 ?_ (hi:=rfl) (hQ:=cL _);refine rq 8 λ K hK=>?_;obtain⟨c_r,f_r⟩:=cf HF 0;replace HF:=HF.set90 0 rfl (.int .i64 1);go_simp;clear c_r f_r;refine uq hK ⟨(HF.cell 6 rfl),(HF.cell 4 rfl)⟩ λ hC=>?_;refine tq 9 ?_ (hi:=rfl) (hQ:=cL _);refine tq 10 ?_ (hi:=rfl) (hQ:=cL _);refine tq 11 ?_ (hi:=rfl) (hQ:=cL _);refine rq 12 λ K hK=>?_;obtain⟨c_r,f_r⟩:=cf HF 0;replace HF:=HF.set91 0 rfl (.int .i32 (IntKind.i32.wrap v.num));go_simp;clear c_r f_r;refine uq hK ⟨(HF.cell 6 rfl),(HF.cell 4 rfl)⟩ λ hC=>?_;refine dq ?_;go_wp2_with fail;refine leaves_cons (f:=15) (args:=#[.pointer (some ⟨w.heap.size,0,none⟩)]) (by simp) (by simp [go_sem]) ?_;refine (run_idle _ _).mono ?_;rintro e u' w9 ⟨rfl,rfl,rfl⟩;refine⟨.tuple #[],by simp [results,results10],ov,false,rfl,?_⟩;rw[HE.out];exact HF.lose
 replace HF:=aV HF wd1.heap.size 0 0 none 0 0 none 0 0;go_simp;refine uq hK ⟨(HF.cell 1 rfl),((HF.pmCell 2 rfl 6).trans (congrArg some HOV)),(HF.smMain 4 rfl HOP)⟩ λ hC=>?_;refine rq 6 λ K hK=>?_;go_simp;replace HF:=Fr.fr21 HF;refine (calls_ok hpg hun 2001 HF HPI 2 rfl (Nat.zero_le _) HNE).mono ?_;intro e w6 hpost;clear HF;obtain⟨Q',hQ'⟩:∃Q',Q'=bM r.pg (evM f r.pg 2001).2 (r.main:Int) [] ⟨0,[],r.now⟩:=⟨_,rfl⟩
 rw[← hQ'] at hpost;have HQ':Hid (runO f r=Q'):=ah hQ'.symm;cases Q' with
 | stuck=>exact absurd hQ'.symm HNE
 | ret v p'=>exact absurd hQ'.symm (HRT v p')
 | fin e0 p'=>
  obtain⟨ov,rfl,hi0,hf0⟩:=hpost;refine leaves_cons (f:=15) (args:=#[.pointer (some ⟨w.heap.size,0,none⟩)]) (by simp) (by simp [go_sem]) ?_;refine (run_fin w.heap.size bp e0 0 _ _ _ _ _ _ _ _ [] w6 (hf0.blkAt 2 rfl) (hf0.pmBlk 0 rfl)).mono ?_;rintro e u' w9 ⟨rfl,rfl,rfl⟩;have h9:=hf0.pmOpen.set90 0 rfl (.int .i64 e0);refine⟨.tuple #[],by simp [results,results10],ov,true,rfl,?_⟩;have e9:runQ f r=⟨e0,0,p'.steps,p'.out⟩:=by unfold runQ;rw[HQ'.out];rfl
  rw[e9];exact h9.lose
 | ok v p'=>
  obtain⟨ov,a_v,c_v,pa_v,pc_v,rfl,hr,hi0,hf0⟩:=hpost;have e9:runQ f r=⟨1,IntKind.i32.wrap v.num,p'.steps,p'.out⟩:=by unfold runQ;rw[HQ'.out,wrap_i32_eq];rfl
  have HE:=ah e9;replace HF:=hf0;clear hf0 hQ' HQ' e9;refine uq hK ⟨(HF.cell 3 rfl),((HF.pmCell 0 rfl 6).trans (congrArg some HOV)),(HF.smMain 5 rfl HOP)⟩ λ hC=>?_;refine rq 8 λ K hK=>?_;obtain⟨c_r,f_r⟩:=cf HF 2;replace HF:=sV HF 2 v.kind v.num a_v v.names.length c_v pa_v v.parts.length pc_v;go_simp;clear c_r f_r;refine uq hK ⟨(HF.cell 3 rfl),((HF.pmCell 0 rfl 6).trans (congrArg some HOV)),(HF.smMain 5 rfl HOP)⟩ λ hC=>?_;refine dq ?_;replace HF:=Fr.pmOpen HF;go_wp2;refine regK [] HF (λ w h=>aI (h.cell 6 rfl) (h.cell 5 rfl)) (λ wd2 HF hC=>?_);refine tq 0 ?_ (hi:=rfl) (hQ:=cL _);refine tq 1 ?_ (hi:=rfl) (hQ:=cL _);refine tq 2 ?_ (hi:=rfl) (hQ:=cL _);refine tq 3 ?_ (hi:=rfl) (hQ:=cL _);refine tq 4 ?_ (hi:=rfl) (hQ:=cL _);refine tq 5 ?_ (hi:=rfl) (hQ:=cL _);refine tq 6 ?_ (hi:=rfl) (hQ:=cL _);refine tq 7 ?_ (hi:=rfl) (hQ:=cL _);refine rq 8 λ K hK=>?_;obtain⟨c_r,f_r⟩:=cf HF 0;replace HF:=HF.set90 0 rfl (.int .i64 1);go_simp;clear c_r f_r;refine uq hK ⟨(HF.cell 6 rfl),(HF.cell 5 rfl)⟩ λ hC=>?_;refine tq 9 ?_ (hi:=rfl) (hQ:=cL _);refine tq 10 ?_ (hi:=rfl) (hQ:=cL _);refine tq 11 ?_ (hi:=rfl) (hQ:=cL _);refine rq 12 λ K hK=>?_;obtain⟨c_r,f_r⟩:=cf HF 0;replace HF:=HF.set91 0 rfl (.int .i32 (IntKind.i32.wrap v.num));go_simp;clear c_r f_r;refine uq hK ⟨(HF.cell 6 rfl),(HF.cell 5 rfl)⟩ λ hC=>?_;refine dq ?_;go_wp2_with fail;refine leaves_cons (f:=15) (args:=#[.pointer (some ⟨w.heap.size,0,none⟩)]) (by simp) (by simp [go_sem]) ?_;refine (run_idle _ _).mono ?_;rintro e u' w9 ⟨rfl,rfl,rfl⟩;refine⟨.tuple #[],by simp [results,results10],ov,false,rfl,?_⟩;rw[HE.out];exact HF.lose
variable {p : CP}
theorem Fr.slStrAll (h:Fr B w L) (i:Nat) {a : Option Addr} {n c : Nat} (hi:L[i]?=some (.sl StE (.slice a n c) 9 1 l)) (j:Nat) (hj:j<l.length):∃g o cur f,a=some ⟨g,o,none⟩∧n=l.length∧Fr B w (.kn g cur 9 f::L)∧∀w':World,(∀o,w'.cell? ⟨g,o,none⟩=cur[o]?)→w'.cell? ⟨g,o+j,none⟩=some (.string l[j]):=by
 obtain⟨g,o,c',cur,f,cs,e,h2,h3,h4,h5,h6⟩:=h.elem i hi j hj;cases e;obtain⟨H,hel,-⟩:=h6.get (i:=0) rfl;obtain⟨rfl,-⟩:cs=[.string l[j]]∧_:=hel;refine⟨g,o,cur,f,rfl,rfl,h6.tail,λ w' hc=>(hc _).trans ?_⟩;have:=h5 0 (by omega);simpa using this
theorem function52:FnH:=by
 intro B w L b p s i a c sx m l lb t0 h hi hX hTl hT hlb hm0 hm3 hk hn;obtain⟨b0,hb0⟩:∃b0:Nd,b0=.mk 13 eB 0 lb:=⟨_,rfl⟩
 rw[← hb0] at hi hX hk ⊢;obtain⟨l1,hl1⟩:∃l1,l1=l.length+1:=⟨_,rfl⟩
 rw[show l.length+2=l1+1 by omega] at hi ⊢;have hN:=h.dup (i+1) hi;obtain⟨-,h3⟩:=hN.kids 0 rfl;have h3':Fr B w (.sl NdE (.slice a (l1+1) c) 52 4 (l++([t0]++[b0]))::.el NdE (ndc 7 sx m a (l1+1) c) (.mk 7 sx m (l++[t0]++[b0]))::.cs b p s::L):=by rw[← List.append_assoc];exact h3
 obtain⟨gq,oq,a_q0,n_q0,c_q0,cur9,f9,ha,-,hc1,hc2,h4,hk9⟩:=(h3'.slTake 0 rfl).kidAll 2 rfl l.length (by simp);have hq0:(l++[t0]++[b0])[l.length]'(by simp)=t0:=by rw[List.getElem_append_left (by simp)];simp
 simp only[hq0] at h4 hk9;subst ha;obtain⟨gq',oq',a_b0,n_b0,c_b0,cur8,f8,ha,-,-,-,h5,hk8⟩:=h4.kidAll 4 rfl l1 (by simp;omega);have hq1:(l++[t0]++[b0])[l1]'(by simp;omega)=b0:=by subst hl1;simp
 simp only[hq1] at h5 hk8;cases ha;have HF:=h5.perm (List.perm_middle (l₁:=[_,_,_,_,_,_,_]));have hsx:sx.size≤maxLen:=Nat.le_trans hX.text (by decide:4000≤maxLen);have hx0:=hX.kids t0 (by simp [Nd.kids]);have hxb:=hX.kids b0 (by simp [Nd.kids]);have hkX:∀x,x∈l→Tx x:=λ x hx=>hX.kids x (by simp [Nd.kids,hx]);have HSZ:Hid (sz (.mk 7 sx m (l++[t0]++[b0]))=1+(szs l+sz t0+sz b0)):=by show _=_;simp only[sz,szs_concat]
 have hkk:s.k+1+szs l+sz t0+sz b0≤16000:=by have:=HSZ.out;omega
 have ht1:=fX t0;have hb1:=fX b0;have hll:l.length≤szs l:=dS l;have HE:=ah (funC_eq s sx m l t0 b0);have hcm:c≤9223372036854775807:=by unfold maxLen at hc2;omega
 have hwn:IntKind.i64.wrap ((l1:Nat):Int)=(l1:Int):=by rw[IntKind.wrap_i64];omega
 have hw2:IntKind.i64.wrap ((l1:Int) - 1)=(l.length:Int):=by rw[IntKind.wrap_i64];omega
 have hn0:(0:Int)≤(l.length:Int):=by omega
 have hn1:(0:Int)≤(l1:Int):=by omega
 have hli:(l1:Int)<(l1:Int)+1:=by omega
 have hlj:(l.length:Int)<(l1:Int)+1:=by omega
 have hlc:(l.length:Int)≤(c:Int):=by omega
 have hmm:=@run_makeMap prog;obtain⟨nd,hnd⟩:∃nd:Nd,nd=.mk 7 sx m (l++[t0]++[b0]):=⟨_,rfl⟩
 have hkl:s.k+1+szs l≤16000:=by omega
 have hk0:s.k<16000:=by omega
 rw[← hnd] at HE HSZ hX hk HF ⊢;have HND:=ah hnd;have HL1:=ah hl1;have HB0:=ah hb0;clear h h3 h3' h4 h5 hi hN hc1 hq0 hq1 hl1 hb0 hnd;go_enter func52,ntmps52;replace HF:=yN HF w.heap.size 7 sx m (some ⟨gq,oq,none⟩) (l1+1) c;go_wp2_with fail;go_at_call 48;refine (bA HF (by omega)).mono ?_;rintro e w1 ⟨rfl,v1,HF⟩;have c_n:=HF.cell 1 rfl;go_wp2_with fail;clear c_n;go_at_call 68;refine (typed68 HF 5 rfl hkX 8 hTl (by show s.k+1+szs l≤16000;omega)).mono ?_;rintro e w2 (⟨c1,a1,h3,rfl,hf⟩|⟨ns,ps,v2,vn,vp,h3,hpm,hln,hlp,hnx,rfl,hf⟩)
 ·exact⟨rfl,PDp.no (by rw[HE.out];simp only[show cJ s.st [] [] l (s.k+1)=.no c1 a1 from h3,CR.bind]) hf.lose⟩
 have H3:Hid (cJ s.st [] [] l (s.k+1)=.ok (ns,ps)):=h3;replace hf:=hf.give 1 rfl;obtain⟨an,cn,e1,-⟩:=hf.slForm 1 rfl;subst e1;have HLN:=ah hln;have HLP:=ah hlp;have HPM:=ah hpm;have HNX:=ah hnx;obtain⟨ap,cp,rfl⟩:=hf.slNilTy 2 rfl;obtain⟨p2,hp2⟩:∃p2,p2=(p.at v1).at v2:=⟨_,rfl⟩
 obtain⟨s2,hs2⟩:∃s2:Cs,s2={ s with k:=s.k+1+szs l }:=⟨_,rfl⟩
 rw[← hp2,← hs2] at hf;have HT2:Hid (typC s.st t0 (s.k+1+szs l)=typC s2.st t0 s2.k):=by show _=_;rw[hs2]
 have hk16:s2.k+sz t0≤16000:=by rw[hs2];show s.k+1+szs l+sz t0≤16000;omega
 have HP2:Hid (p.Like p2):=by rw[hp2];exact⟨rfl,rfl,rfl,rfl,rfl,rfl⟩
 have HS2:=ah hs2;replace HF:=hf;clear h3 hf hp2 hs2 hln hlp hpm hnx;go_wp2;refine regK [] HF (λ w h=>aI (h.cell 3 rfl) (hk9 _ (h.knc 7 rfl))) (λ wd3 HF hC=>?_);refine tq4 0 1 2 3 ?_;refine tq4 4 5 6 7 ?_;refine tq3 9 10 11 ?_;refine rq 8 λ K hK=>?_;go_simp;refine (typ70 HF 5 rfl hx0 hT hk16).mono ?_;rintro e w3 (⟨c1,p1,h3,rfl,hf⟩|⟨t,v3,nm_t,a_t,c_t,pa_t,pc_t,h3,hmt,rfl,hf⟩)
 ·exact⟨rfl,PDp.no (by rw[HE.out];simp only[H3.out,CR.bind,HT2.out,h3]) hf.lose⟩
 have H4:=ah (HT2.trans h3);have HMT:=ah hmt;replace HF:=hf;clear h3 hf hmt;refine uq hK ⟨(HF.cell 4 rfl),(hk9 _ (HF.knc 8 rfl))⟩ λ hC=>?_;refine tq3 12 13 14 ?_;refine rq 15 λ K hK=>?_;have c_cs:=HF.csCell;have f_cs:=HF.csFrz;replace HF:=HF.csBody 0 rfl (decide (2≤m));go_simp;clear c_cs f_cs;refine uq hK ⟨(HF.cell 4 rfl),(hk9 _ (HF.knc 8 rfl))⟩ λ hC=>?_;refine dq ?_;obtain⟨s4,hs4⟩:∃s4:Cs,s4={ s2 with k:=s2.k+sz t0,res:=t,many:=decide (2≤m),env:=[],wo:=0 }:=⟨_,rfl⟩
 obtain⟨p4,hp4⟩:∃p4,p4=(p2.at v3).body (.int .i64 (tyk t)) (.string nm_t) (.slice a_t (tnn t) c_t) (.slice pa_t (tpn t) pc_t) (.bool (tmy t)):=⟨_,rfl⟩
 obtain⟨w4,hw4⟩:∃w4,w4=((((((((w3.setCell ⟨b,4,none⟩ (.int .i64 (tyk t))).setCell ⟨b,5,none⟩ (.string nm_t)).setCell ⟨b,6,none⟩ (.slice a_t (tnn t) c_t)).setCell ⟨b,7,none⟩ (.slice pa_t (tpn t) pc_t)).setCell ⟨b,8,none⟩ (.bool (tmy t))).setCell ⟨b,9,none⟩ (.bool (decide (2≤m)))).setCell ⟨b,10,none⟩ (.slice none 0 0)).setCell ⟨b,11,none⟩ (.int .i64 0)):=⟨_,rfl⟩
 replace HF:=show Fr B _ (.cs b ((p2.at v3).body (.int .i64 (tyk t)) (.string nm_t) (.slice a_t (tnn t) c_t) (.slice pa_t (tpn t) pc_t) (.bool (tmy t))) { s2 with k:=s2.k+sz t0,res:=t,many:=decide (2≤m),env:=[],wo:=0 }::_) from HF
 rw[← hs4,← hp4,← hw4] at HF;rw[← hw4];have HP4:Hid (p.Like p4):=by rw[hp4];exact HP2.trans ⟨rfl,rfl,rfl,rfl,rfl,rfl⟩
 have HPR:Hid (p4.r0=.int .i64 (tyk t)∧p4.r1=.string nm_t∧p4.r2=.slice a_t (tnn t) c_t∧p4.r3=.slice pa_t (tpn t) pc_t∧p4.r4=.bool (tmy t)):=by rw[hp4];exact⟨rfl,rfl,rfl,rfl,rfl⟩
 have hs40:({ s4 with wo:=0 }:Cs)=s4:=by rw[hs4]
 have HS4:Hid (s4={ s with k:=s.k+1+szs l+sz t0,res:=t,many:=decide (2≤m),env:=[],wo:=0 }):=by show _=_;rw[hs4,HS2.out]
 clear hs4 hp4 hw4;replace HF:=(HF.mpMade VTy zTy s4.n (q:=w4.heap.size) rfl).swap;obtain⟨mb,hmb⟩:∃mb,w4.heap.size=mb:=⟨_,rfl⟩
 go_wp2;rw[hmb] at HF;generalize hw5:w4.alloc (.map #[] 0)=w5 at *;go_loopw [45] (λ iv wr=>Hid (∃(j wo:Nat),j≤ps.length∧iv=.int .i64 (j:Int)∧wo=((ps.take j).map bS).sum∧Fr B wr (.cs b p4 { s4 with wo:=wo }::.mp zTy VTy mb (s4.n+j) (cG (λ_=>none) (ns.take j) (ps.take j))::.el TyE [.int .i64 (tyk t),.string nm_t,.slice a_t (tnn t) c_t,.slice pa_t (tpn t) pc_t,.bool (tmy t)] t::.sl StE (.slice an ns.length cn) 9 1 ns::.els TyE (.slice ap ps.length cp) 83 5 ps::.blk w.heap.size #[.int .i64 7,.string sx,.int .i64 m,.slice (some ⟨gq,oq,none⟩) (l1+1) c] 52::.el NdE (ndc b0.kind b0.text b0.num a_b0 n_b0 c_b0) b0::.kn gq cur8 52 f8::.el NdE (ndc t0.kind t0.text t0.num a_q0 n_q0 c_q0) t0::.kn gq cur9 52 f9::.sl NdE (.slice (some ⟨gq,oq,none⟩) l.length c) 52 4 l::.sl NdE (.slice (some ⟨gq,oq,none⟩) (l1+1) c) 52 4 (l++([t0]++[b0]))::.el NdE (ndc 7 sx m (some ⟨gq,oq,none⟩) (l1+1) c) nd::L))) (λ iv _=>ps.length - (intOf iv).toNat)
 case atStart=>exact⟨0,0,Nat.zero_le _,rfl,rfl,by rw[hs40];exact HF⟩
 clear HF hw5 hmb hs40;obtain⟨j,wo,hj,rfl,hwo,hfr⟩:=hrel.out;clear hrel;have HWO:=ah hwo;clear hwo;by_cases hlt:j<ps.length
 ·obtain⟨g5,ha5,-,-,d,hd,hc5,hF⟩:=hfr.elsGet 4 rfl j hlt;subst ha5;obtain⟨x0,x1,x2,x3,x4,rfl⟩:=five_of hd;obtain⟨nm_u,a_u,c_u,pa_u,pc_u,rfl,rfl,rfl,rfl,rfl⟩:=hF.tyForm5 0 rfl;have e0:=hc5 0 (by omega);have e1:=hc5 1 (by omega);have e2:=hc5 2 (by omega);have e3:=hc5 3 (by omega);have e4:=hc5 4 (by omega);simp only[Nat.add_zero,List.getElem?_cons_zero,List.getElem?_cons_succ] at e0 e1 e2 e3 e4;have hlt2:j<ns.length:=by have:=HLN.out;have:=HLP.out;omega
  have HLO:Hid (cG (λ_=>none) (ns.take (j+1)) (ps.take (j+1))=putM (cG (λ_=>none) (ns.take j) (ps.take j)) ns[j] ps[j]):=localsL_take _ hlt2 hlt;have HWS:Hid (((ps.take (j+1)).map bS).sum=((ps.take j).map bS).sum+bS ps[j]):=words_take hlt;have HUM:Hid (may ps[j]=true):=HPM _ (List.getElem_mem hlt);have hnx:ns[j].size≤maxLen:=HNX _ (List.getElem_mem hlt2);obtain⟨gn,on_,curn,fn_,ha6,-,hF2,hkn⟩:=(hF.swap).slStrAll 4 rfl j hlt2;subst ha6;obtain⟨s5,hs5⟩:∃s5:Cs,s5={ s4 with wo:=wo }:=⟨_,rfl⟩
  rw[← hs5] at hF2;have HF:=ah hF2.swap;have hpl:ps.length≤16000:=by have:=HLP.out;omega
  have hwo5:s5.wo≤192000:=by
   rw[hs5];show wo≤192000;have h1:=words_sum (ps.take j);have h2:(ps.take j).length≤j:=by simp;omega
   have:=HWO.out;omega
  have hN5:s4.n+j<maxLen:=by
   have h1:=HF.csInv.n;have h2:=HF.csInv.k;rw[hs5] at h1 h2;simp only at h1 h2;unfold maxLen;omega
  have HS5:=ah hs5;have HLT:=ah hlt;have hli:(j:Int)<(ps.length:Int):=by omega
  have hli2:(j:Int)<(ns.length:Int):=by omega
  have HJ:Hid (wrap64 ((j:Int)+1)=(j:Int)+1):=by
   show _=_;unfold wrap64;omega
  generalize ns[j]=nmj at *;generalize ps[j]=u at *;clear hfr hF hF2 hs5 hd hc5 hj;go_wp2_with fail;replace HF:=yT HF wr.heap.size (tyk u) nm_u a_u (tnn u) c_u pa_u (tpn u) pc_u (tmy u);clear e0 e1 e2 e3 e4;go_wp2;refine regK [6] HF (λ w h=>aI (h.cell 1 rfl) (hkn _ (h.knc 2 rfl))) (λ wd11 HF hC=>?_);refine tq4 0 1 2 3 ?_;refine tq2 4 5 ?_;refine rqb 6 λ K hK=>?_;obtain⟨w60,hrun,hf,-⟩:=(HF.tyVe 3 rfl).mpPut 5 rfl 87 83 underlying87 nmj hnx hN5 0 rfl;replace HF:=ah hf.tail;go_simp;clear hrun hf;refine ub hK ?_;refine dq ?_;go_wp2;refine regK [8,9,10,11] HF (λ w h=>⟨h.csCell,(h.cell 1 rfl)⟩) (λ wd61 HF hC=>?_) (C:=λ w'=>(∀o,w'.cell? ⟨b,o,none⟩=(#[p4.n0,p4.n1,p4.n2,p4.n3,p4.r0,p4.r1,p4.r2,p4.r3,p4.r4,.bool s5.many,p4.bv,.int .i64 s5.wo,p4.kv,.map (some p4.sm),.map (some p4.dm)]:Array Value)[o]?)∧(∀o,w'.cell? ⟨wr.heap.size,o,none⟩=(#[.int .i64 (tyk u),.string nm_u,.slice a_u (tnn u) c_u,.slice pa_u (tpn u) pc_u,.bool (tmy u)]:Array Value)[o]?));refine tq4 0 1 2 3 ?_;refine tq2 4 5 ?_;refine rq 6 λ K hK=>?_;go_simp;refine (words76 HF 3 rfl).mono ?_;rintro e w62 ⟨rfl,HF⟩;refine uq hK ⟨HF.csCell,(HF.cell 1 rfl)⟩ λ hC=>?_;try simp only[qq]
  have hwl:=words_le u;obtain⟨wt,hwt⟩:∃wt,bS u=wt:=⟨_,rfl⟩
  rw[hwt] at hwl HWS ⊢;clear hwt;refine tq 7 ?_;refine tqP 8 ?_;refine tqP 9 ?_;refine tqP 10 ?_;refine rqb 11 λ K hK=>?_;have c_cs:=HF.csCell;have f_cs:=HF.csFrz;replace HF:=HF.csWords (wo:=s5.wo+wt) (v:=(s5.wo:Int)+(wt:Int)) (by omega) (by omega);go_simp;clear c_cs f_cs;refine ub hK ?_;refine dq ?_;go_wp2;go_roundw
  case rel=>exact⟨j+1,wo+wt,HLT,by first|(rw[HJ.out];go_num)|go_num,by rw[HWS.out,HWO.out],by rw[HLO.out,show ({ s4 with wo:=wo+wt }:Cs)={ s5 with wo:=s5.wo+wt } from by rw[HS5.out]];exact HF.lose⟩
  case measure=>first|(rw[HJ.out];exact aO HLT)|exact aO HLT
 have hje:j=ps.length:=by omega
 subst hje;have hli9:¬ ((ps.length:Nat):Int)<(ps.length:Int):=by omega
 have hlnp:ns.length=ps.length:=by have:=HLN.out;have:=HLP.out;omega
 rw[List.take_length,List.take_of_length_le (by omega)] at hfr;have HWO2:Hid (wo=(ps.map bS).sum):=by have:=HWO.out;rw[List.take_length] at this;exact this
 have hpl:ps.length≤16000:=by have:=HLP.out;omega
 have hn6:s4.n+ps.length<s4.k:=by
  have h1:=HS4.out;have h2:=HLP.out;rw[h1];show s.n+ps.length<s.k+1+szs l+sz t0;omega
 replace hfr:=hfr.csMore (M:=s4.n+ps.length) (by show s4.n≤_;omega) (by show _≤s4.k;omega);obtain⟨s6,hs6⟩:∃s6:Cs,s6={ s4 with n:=s4.n+ps.length,wo:=wo }:=⟨_,rfl⟩
 replace hfr:=(show Fr B _ (.cs b p4 { s4 with n:=s4.n+ps.length,wo:=wo }::_) from hfr)
 rw[← hs6] at hfr;have HN6:Hid (s6.n<s6.k):=by show s6.n<s6.k;rw[hs6];exact hn6
 have HS6:Hid ({ s with k:=s.k+1+szs l+sz t0,n:=s.n+ps.length,res:=t,many:=decide (2≤m),env:=[],wo:=(ps.map bS).sum }=s6):=by
  show _=_;rw[hs6,HS4.out,HWO2.out]
 have HNN:Hid (s4.n+ps.length=s6.n):=by show _=_;rw[hs6]
 have HMY:Hid (s6.many=decide (2≤m)):=by show _=_;rw[← HS6.out]
 have hX':=hX;rw[HND.out] at hX';have HF:=hfr;clear hfr hs6 hn6;have hrm:∀w' L' v (u:Cs),u.many=s6.many→Fr B w' (.cs b (p4.at v) u::L')→w'.cell? ⟨b,4,none⟩=some (.int .i64 (tyk t))∧w'.cell? ⟨b,5,none⟩=some (.string nm_t)∧w'.cell? ⟨b,6,none⟩=some (.slice a_t (tnn t) c_t)∧w'.cell? ⟨b,7,none⟩=some (.slice pa_t (tpn t) pc_t)∧w'.cell? ⟨b,8,none⟩=some (.bool (tmy t))∧w'.cell? ⟨b,9,none⟩=some (.bool s6.many):=λ w' L' v u hu h=>by
  have h4:=h.csCell 4;have h5:=h.csCell 5;have h6:=h.csCell 6;have h7:=h.csCell 7;have h8:=h.csCell 8;have h9:=h.csCell 9;obtain⟨g0,g1,g2,g3,g4⟩:=HPR;rw[← g0,← g1,← g2,← g3,← g4,← hu];exact⟨h4,h5,h6,h7,h8,h9⟩
 go_wp2;refine regK [] HF (λ w h=>aI (h.cell 5 rfl) (hrm _ _ p4.kv s6 rfl h)) (λ wd71 HF hC=>?_);refine tq4 0 1 2 3 ?_;refine tq4 4 5 6 7 ?_;refine tq4 8 11 12 13 ?_;refine tq2 14 15 ?_;refine rq 9 λ K hK=>?_;go_simp;replace HF:=yT HF wd71.heap.size (tyk t) nm_t a_t (tnn t) c_t pa_t (tpn t) pc_t (tmy t);refine uq hK ⟨(HF.cell 6 rfl),(hrm _ _ p4.kv s6 rfl HF)⟩ λ hC=>?_;refine rq 10 λ K hK=>?_;refine fR (by rfl) (Fr.elAppN fZ underlying81 rfl (by decide) (by decide) (HF.perm (List.Perm.swap _ _ _)) 4 rfl ps.length (ps.length+1) rfl rfl hpl 2 rfl _ _ rfl rfl (by rfl) (by rfl) rfl λ g5 cap5 w71 hF=>?_);replace HF:=hF;clear hF;refine uq hK ⟨(HF.cell 5 rfl),(hrm _ _ p4.kv s6 rfl HF)⟩ λ hC=>?_;refine rq 16 λ K hK=>?_;go_simp;have hf7:Fr B w71 (.cs b p4 s6::([.mp zTy VTy mb (s4.n+ps.length) (cG (λ_=>none) ns ps),.el TyE [.int .i64 (tyk t),.string nm_t,.slice a_t (tnn t) c_t,.slice pa_t (tpn t) pc_t,.bool (tmy t)] t,.sl StE (.slice an ns.length cn) 9 1 ns]++(.els TyE (.slice (some ⟨g5,0,none⟩) (ps.length+1) cap5) 83 5 (ps++[t])::.blk w.heap.size #[.int .i64 7,.string sx,.int .i64 m,.slice (some ⟨gq,oq,none⟩) (l1+1) c] 52::.el NdE (ndc b0.kind b0.text b0.num a_b0 n_b0 c_b0) b0::.kn gq cur8 52 f8::.el NdE (ndc t0.kind t0.text t0.num a_q0 n_q0 c_q0) t0::.kn gq cur9 52 f9::.sl NdE (.slice (some ⟨gq,oq,none⟩) l.length c) 52 4 l::.sl NdE (.slice (some ⟨gq,oq,none⟩) (l1+1) c) 52 4 (l++([t0]++[b0]))::.el NdE (ndc 7 sx m (some ⟨gq,oq,none⟩) (l1+1) c) nd::L))):=HF;have hf8:=hf7.perm ((List.perm_middle).cons _);clear hf7 HF;refine (declare75 (n:=.mk 7 sx m (l++[t0]++[b0])) (v:=.slice (some ⟨g5,0,none⟩) (ps.length+1) cap5) (ps:=ps++[t]) (p:=p4) (s:=s6) hf8 hX' HN6 s.k s6.many).mono ?_;clear hf8;have HQ0:Hid (funC s nd=(b7 s6 sx s.k (ps++[t]) s6.many).bind λ s2=>
    askC (decide (s2.wo≤40)) 1 s.k <| (fG (bL (sz b0)) (cG (λ_=>none) ns ps) s2 b0).bind λ u=>askC (cQ b0) 2 s2.k <| .ok u):=by
  show _=_;rw[HE.out];simp only[H3.out,H4.out,CR.bind];rw[HS6.out,HMY.out]
 rintro e w72 (⟨c1,a1,h3,rfl,hf⟩|⟨u,v6,h3,rfl,hf⟩)
 ·exact⟨rfl,PDp.no (by rw[HQ0.out];simp only[show b7 s6 sx s.k (ps++[t]) s6.many=.no c1 a1 from h3,CR.bind]) hf.lose⟩
 have hu:=declareC_ok h3;have hum:u.many=s6.many:=by rw[hu]
 have HUE:Hid (u.env=[]):=by show _=_;rw[hu];rw[← HS6.out]
 have HUK:Hid (u.k=s.k+1+szs l+sz t0):=by show _=_;rw[hu];rw[← HS6.out]
 have HUN:Hid (s6.n≤u.n):=by show _≤_;rw[hu];exact Nat.le_succ _
 have HQ1:Hid (funC s nd=askC (decide (u.wo≤40)) 1 s.k ((fG (bL (sz b0)) (cG (λ_=>none) ns ps) u b0).bind λ u2=>askC (cQ b0) 2 u.k (.ok u2))):=by
  show _=_;rw[HQ0.out];simp only[show b7 s6 sx s.k (ps++[t]) s6.many=.ok u from h3,CR.bind]
 have HF:=hf;clear h3 hf hu;refine uq hK ⟨(HF.cell 4 rfl),(hrm _ _ v6 u hum HF)⟩ λ hC=>?_;refine dq ?_;clear hrm hum;have hb0:=HB0.out;subst hb0;simp only[Nd.kind,Nd.text,Nd.num] at hk8;have hsb:sz (.mk 13 eB 0 lb)=1+szs lb:=by simp only[sz]
 have HSB:=ah hsb;have c_cs:=HF.csCell;rw[show csC (p4.at v6) u=#[p4.n0,p4.n1,p4.n2,p4.n3,p4.r0,p4.r1,p4.r2,p4.r3,p4.r4,.bool u.many,p4.bv,.int .i64 u.wo,v6,.map (some p4.sm),.map (some p4.dm)] from rfl] at c_cs;by_cases h40:u.wo≤40
 ·have h40i:(u.wo:Int)≤40:=by omega
  have H40:=ah h40;clear h40 hsb;go_wp2_with fail;clear c_cs;go_at_call 69;refine (aL HF 1 s.k).mono ?_;rintro e w73 ⟨rfl,HF⟩;obtain⟨e0,e1,e2,e3⟩:=hk8 _ (HF.knc 6 rfl);have c_n:=HF.cell 4 rfl;go_wp2_with fail;clear c_n;clear e0 e1 e2 e3 h40i;have hf9:=HF.mpMore 1 rfl (M:=u.n) (by rw[HNN.out];exact HUN);go_at_call 77;refine (block77 (st_all (sz (.mk 13 eB 0 lb))) hf9 3 rfl (λ x hx=>hxb.kids x (by simp [Nd.kids,hx])) hlb (by rw[HSB.out];omega) (by have:=HUK.out;have:=HSB.out;omega) (localsL_may _ _ _ (λ x t h=>by cases h) HPM) (by rw[HUE.out];exact Nat.zero_le _) H40).mono ?_;rintro e w74 (⟨c1,a1,h3,rfl,hf⟩|⟨u3,v9,h3,hk3,he3,hw3,rfl,hf⟩)
  ·exact⟨rfl,PDp.no (by rw[HQ1.out,decide_eq_true H40.out];simp only[askC,if_true];rw[h3];rfl) hf.lose⟩
  have H9:=ah h3;have HK3:=ah hk3;have HF:=hf;clear h3 hk3 he3 hw3 hf hf9;obtain⟨e0,e1,e2,e3⟩:=hk8 _ (HF.knc 5 rfl);have c_n:=HF.cell 3 rfl;go_wp2_with fail;clear c_n;clear e0 e1 e2 e3;go_at_call 78;refine (returns78 HF 4 rfl).mono ?_;rintro e w75 ⟨rfl,HF⟩;cases hq:cQ (.mk (Nd.mk 13 eB 0 lb).kind (Nd.mk 13 eB 0 lb).text (Nd.mk 13 eB 0 lb).num lb)
  ·have HR:Hid (cQ (.mk 13 eB 0 lb)=false):=ah hq;clear hq;go_wp2_with fail;go_at_call 69;refine (aU HF 2 u.k).mono ?_;rintro e w76 ⟨rfl,HF⟩;exact⟨rfl,PDp.no (by rw[HQ1.out,decide_eq_true H40.out];simp only[askC,if_true,H9.out,CR.bind,HR.out,Bool.false_eq_true,if_false]) HF.lose⟩
  have HR:Hid (cQ (.mk 13 eB 0 lb)=true):=ah hq;clear hq;go_wp2_with fail;go_at_call 69;refine (aL HF 2 u.k).mono ?_;rintro e w76 ⟨rfl,HF⟩;go_wp2;go_end0
  exact Or.inr ⟨u3,(p4.at v6).at v9,by rw[HQ1.out,decide_eq_true H40.out];simp only[askC,if_true,H9.out,CR.bind,HR.out],by rw[HK3.out,HUK.out,HSZ.out,HSB.out];omega,HP4.trans ⟨rfl,rfl,rfl,rfl,rfl,rfl⟩,rfl,HF.lose⟩
 have h40i:¬ (u.wo:Int)≤40:=by omega
 have H40:=ah h40;clear h40 hsb;go_wp2_with fail;clear c_cs;go_at_call 69;refine (aU HF 1 s.k).mono ?_;rintro e w73 ⟨rfl,HF⟩;exact⟨rfl,PDp.no (by rw[HQ1.out,decide_eq_false H40.out];rfl) HF.lose⟩
def NZ {α:Type}(q:CR α):Prop:=∀c a,q=.no c a→c≠0
section
variable {α β : Type}
theorem NZ.ok {x : α}:NZ (.ok x):=λ c a h=>by cases h
theorem NZ.no (h:c≠0):NZ (.no c a:CR α):=λ c' a' e=>by cases e;exact h
theorem NZ.bind {q : CR α} {f : α→CR β} (h:NZ q) (k:∀x,NZ (f x)):NZ (q.bind f):=by
 intro c a e;cases q with
 | ok x=>exact k x c a e
 | no c' a'=>cases e;exact h _ _ rfl
theorem NZ.ask {b : Bool} {q : CR α} (hc:c≠0) (h:NZ q):NZ (askC b c a q):=by
 unfold askC;split
 ·exact h
 exact .no hc
theorem NZ.ite {c : Prop} [Decidable c] {a b : CR α} (ha:NZ a) (hb:NZ b):NZ (if c then a else b):=by
 by_cases h:c
 ·rw[if_pos h];exact ha
 rw[if_neg h];exact hb
theorem NZ.fresh {x : ByteArray} {q : CR α} (h:NZ q):NZ (dO s x a q):=.ask (by decide) h
end
theorem structOf_nz (st:TM) (s:ByteArray) (a:Nat):NZ (eN st s a):=by
 unfold eN;split
 ·exact .ok
 exact .no (by decide)
theorem typsL_nz {f:Nd→Nat→CR T.Ty}:∀(l:List Nd) (acc:List T.Ty) (k:Nat),(∀x,x∈l→∀k,NZ (f x k))→NZ (typsL f acc l k)
 | [],acc,k,h=>.ok
 | x::l,acc,k,h=>(h x (List.mem_cons_self ..) k).bind λ t=>typsL_nz l _ _ λ y hy=>h y (List.mem_cons_of_mem _ hy)
theorem kid_le (h:sz n≤N+1) (hx:x∈n.kids):sz x≤N:=by have:=bU n;have:=eH hx;omega
theorem sz_pos0 (h:sz n≤0):False:=by have:=bU n;omega
theorem typN_nz (st:TM):∀(N:Nat) (n:Nd) (k:Nat),sz n≤N→NZ (typN st N n k)
 | 0,n,k,h=>(sz_pos0 h).elim
 | N+1,n,k,h=>by
  unfold typN typSC;split
  ·exact .ok
  split
  ·exact .ok
  split
  ·exact structOf_nz _ _ _
  exact (typsL_nz _ _ _ λ x hx k=>typN_nz st N x k (kid_le h hx)).bind λ t=>.ask (by decide) .ok
theorem typ_nz (st:TM) (n:Nd) (k:Nat):NZ (typC st n k):=typN_nz st _ n k (Nat.le_refl _)
theorem typedL_nz (st:TM):∀(l:List Nd) (ns:List ByteArray) (ps:List T.Ty) (k:Nat),NZ (cJ st ns ps l k)
 | [],ns,ps,k=>.ok
 | x::l,ns,ps,k=>(typ_nz st _ _).bind λ t=>.ask (by decide) (typedL_nz st l _ _ _)
theorem struct_nz (s:Cs) (n:Nd):NZ (structC s n):=(typedL_nz _ _ _ _ _).bind λ p=>.ask (by decide) (.ask (by decide) .ok)
theorem global_nz (s:Cs) (n:Nd):NZ (gE s n):=(typ_nz _ _ _).bind λ t=>.fresh (.ask (by decide) .ok)
theorem declare_nz (s:Cs) (x:ByteArray) (a:Nat) (ps:List T.Ty) (m:Bool):NZ (b7 s x a ps m):=.fresh (.ask (by decide) .ok)
theorem extern_nz (s:Cs) (n:Nd):NZ (externC s n):=(typedL_nz _ _ _ _ _).bind λ p=>(typ_nz _ _ _).bind λ t=>declare_nz _ _ _ _ _
theorem name_nz (s:Cs) (x:ByteArray) (a:Nat):NZ (fI s x a):=by
 unfold fI;split
 ·exact .ok
 split
 ·exact .ask (by decide) .ok
 exact .no (by decide)
theorem value_nz (s:Cs) (n:Nd) (a:Nat) (ts:List T.Ty):NZ (bB s n a ts):=by
 unfold bB;have a1:∀{b:Bool} {c:Int} {t:T.Ty},c≠0→NZ (askC b c a (.ok t)):=λ h=>.ask h .ok;refine .ite .ok (.ite (name_nz _ _ _) (.ite ?_ (.ite ?_ (.ite ?_ (.ite ?_ (.ite (a1 (by decide)) (.ite (a1 (by decide)) (.ite (a1 (by decide)) (.ite (a1 (by decide)) (.ite ?_ (.ite (a1 (by decide)) (.ite (.ask (by decide) (a1 (by decide))) .ok))))))))))))
 ·cases s.de n.text with
  | none=>exact .no (by decide)
  | some p=>exact a1 (by decide)
 ·unfold f6;refine .ask (by decide) ?_;generalize ((List.range (tnn (arg ts 0))).find? λ i=>decide (tnm (arg ts 0) i=n.text))=q;cases q with
  | none=>exact .no (by decide)
  | some i=>exact .ok
 ·unfold madeC;exact (structOf_nz _ _ _).bind λ t=>.ask (by decide) (.ask (by decide) .ok)
 ·unfold resultC;exact .ask (by decide) (.ask (by decide) (.ask (by decide) (.ask (by decide) .ok)))
 unfold operC;exact .ask (by decide) (.ite (.ask (by decide) .ok) (.ite .ok .ok))
theorem called_nz {f : Nd→Nat→CR T.Ty} {k : Nat} (h:NZ (f n k)):NZ (cO s f n k):=by
 unfold cO;split
 ·split
  ·exact .ok
  exact h
 exact h
theorem kidsK_nz {s:Cs}{f:Nd→Nat→CR T.Ty}{kd:Int}:∀(l:List Nd) (acc:List T.Ty) (k:Nat),(∀x,x∈l→∀k,NZ (f x k))→NZ (eS s f kd acc l k)
 | [],acc,k,h=>.ok
 | x::l,acc,k,h=>by
  refine NZ.bind ?_ λ t=>kidsK_nz l _ _ λ y hy=>h y (List.mem_cons_of_mem _ hy);split
  ·exact called_nz (h x (List.mem_cons_self ..) k)
  exact h x (List.mem_cons_self ..) k
theorem exprN_nz (s:Cs):∀(N:Nat) (n:Nd) (k:Nat),sz n≤N→NZ (bJ s N n k)
 | 0,n,k,h=>(sz_pos0 h).elim
 | N+1,n,k,h=>(kidsK_nz _ _ _ λ x hx k=>exprN_nz s N x k (kid_le h hx)).bind λ ts=>value_nz _ _ _ _
theorem expr_nz (s:Cs) (n:Nd) (k:Nat):NZ (cM s n k):=exprN_nz s _ n k (Nat.le_refl _)
theorem statsL_nz {f:Cs→Nd→CR Cs}:∀(l:List Nd) (s:Cs),(∀x,x∈l→∀s,NZ (f s x))→NZ (statsL f l s)
 | [],s,h=>.ok
 | x::l,s,h=>(h x (List.mem_cons_self ..) s).bind λ t=>statsL_nz l _ λ y hy=>h y (List.mem_cons_of_mem _ hy)
theorem block_nz {f : Cs→Nd→CR Cs} {m : TM} (h:∀x,x∈n.kids→∀s,NZ (f s x)):NZ (fG f m s n):=(statsL_nz _ _ h).bind λ u=>.ok
theorem blocksL_nz {f:Cs→Nd→CR Cs}:∀(l:List Nd) (s:Cs),(∀n,n∈l→∀x,x∈n.kids→∀s,NZ (f s x))→NZ (bQ f l s)
 | [],s,h=>.ok
 | x::l,s,h=>(block_nz (h x (List.mem_cons_self ..))).bind λ t=>blocksL_nz l _ λ y hy=>h y (List.mem_cons_of_mem _ hy)
theorem stat_nz:∀(N:Nat)(s:Cs)(n:Nd),sz n≤N→NZ (bL N s n)
 | 0,s,n,h=>(sz_pos0 h).elim
 | N+1,s,n,h=>by
  unfold bL statSC;split
  ·exact (typ_nz _ _ _).bind λ t=>(expr_nz _ _ _).bind λ v=>.ask (by decide) (.ask (by decide) (.ask (by decide) .ok))
  split
  ·exact (expr_nz _ _ _).bind λ t=>(expr_nz _ _ _).bind λ v=>.ask (by decide) .ok
  split
  ·exact (expr_nz _ _ _).bind λ t=>(blocksL_nz _ _ λ y hy x hx s=>stat_nz N s x (by
    have h1:=kid_le h (List.mem_of_mem_tail hy);have:=bU y;have:=eH hx;omega)).bind λ u=>.ask (by decide) .ok
  split
  ·exact (expr_nz _ _ _).bind λ t=>.ask (by decide) .ok
  split
  ·exact (expr_nz _ _ _).bind λ t=>.ask (by decide) .ok
  split
  ·exact (expr_nz _ _ _).bind λ t=>.ok
  exact .ok
theorem fun_nz (s:Cs) (n:Nd):NZ (funC s n):=(typedL_nz _ _ _ _ _).bind λ p=>(typ_nz _ _ _).bind λ r=>(declare_nz _ _ _ _ _).bind λ s2=>.ask (by decide) ((block_nz λ x hx s=>stat_nz _ s x (by have:=bU (cY n.kids 1);have:=eH hx;omega)).bind λ u=>.ask (by decide) .ok)
theorem decl_nz (s:Cs) (n:Nd):NZ (declC s n):=by
 unfold declC;split
 ·exact struct_nz _ _
 split
 ·exact global_nz _ _
 split
 ·exact extern_nz _ _
 split
 ·exact fun_nz _ _
 exact .ok
theorem unit_nz (n:Nd):NZ (unitC n):=statsL_nz _ _ λ x _ s=>decl_nz s x
def cV (t:ByteArray):(Nd × Cs) ⊕ (Int × Int):=
 match parseQ t with
 | .inr p=>.inr p
 | .inl n=>match unitC n with
  | .no c a=>.inr (c,a)
  | .ok s=>.inl (n,s)
def signsC (n:Nd)(s:Cs):List ByteArray:=n.kids.map λ d=>eA (if d.kind=2 then (s.st d.text).getD tZ else (s.de d.text).elim tZ Prod.fst)
theorem checkQ_ok (h:cV t=.inl (n,s)):checkQ t=.inl (n,signsC n s):=by
 unfold cV at h;unfold checkQ;split at h
 ·cases h
 rename_i n' e
 rw[e];split at h
 ·cases h
 rename_i s' e'
 cases h;simp only[e'];rfl
theorem checkQ_no {a : Int} (h:cV t=.inr (c,a)):checkQ t=.inr (c,a):=by
 unfold cV at h;unfold checkQ;split at h
 ·rename_i p e
  rw[e];cases h;rfl
 rename_i n' e
 rw[e];split at h
 ·rename_i c' a' e'
  simp only[e'];cases h;rfl
 cases h
theorem checkC_parse {a : Int} (h:parseQ t=.inr (c,a)):cV t=.inr (c,a):=by unfold cV;rw[h]
theorem checkC_unit (h:parseQ t=.inl n) (k:unitC n=.no c a):cV t=.inr (c,(a:Int)):=by unfold cV;rw[h];simp only[k]
theorem checkC_ok (h:parseQ t=.inl n) (k:unitC n=.ok s):cV t=.inl (n,s):=by unfold cV;rw[h];simp only[k]
theorem fault_idle (q:Nat) (w:World):
  CallsD prog 33 #[.pointer (some ⟨q,0,none⟩)] .returning w λ e u' w'=>e=.returned (.tuple #[])∧u'=.returning∧w'=w.alloc (.cells #[.int .i64 0,.int .i64 0] 54):=by
 have hta:∀(w:World),(Instr.typeAssert .nilIface 20 54 true).run prog w=.ok (.tuple #[.agg #[.int .i64 0,.int .i64 0],.bool false]) w:=λ_=>by kernel_rfl
 refine callsD_of_wpS func33 rfl λ c₀ cs hu=>?_;change Code.wpS _ _ _ ⟨#[.pointer (some ⟨q,0,none⟩),undef,undef,undef,undef,undef,undef,undef,undef,undef],[]⟩ _ _;apply wpS_seq
 apply wpS_region
 simp [wpOpsS,go_sem,recoverD,hu,hta,ntmps33,Exit.thenS];refine wpS_of_wp ?_;go_wp2;cases c₀;simp_all [bodyPostS,results,results33]
theorem fault_thrown (q:Nat) (c a:Int) (y0 y1:Value) (older:List PanicEntry) (w:World) (hc:w.heap[q]?=some (.cells #[y0,y1] 54 (0,0))):
  CallsD prog 33 #[.pointer (some ⟨q,0,none⟩)] (.panicking ({ v:=.iface 54 (.agg #[.int .i64 c,.int .i64 a]),recovered:=false }::older)) w λ e u' w'=>
   e=.returned (.tuple #[])∧u'=.panicking ({ v:=.iface 54 (.agg #[.int .i64 c,.int .i64 a]),recovered:=true }::older)∧w'=((w.setCell ⟨q,0,none⟩ (.int .i64 c)).setCell ⟨q,1,none⟩ (.int .i64 a)).alloc (.cells #[.int .i64 c,.int .i64 a] 54):=by
 have hta:∀(w:World),(Instr.typeAssert (.iface 54 (.agg #[.int .i64 c,.int .i64 a])) 20 54 true).run prog w=.ok (.tuple #[.agg #[.int .i64 c,.int .i64 a],.bool true]) w:=λ_=>by kernel_rfl
 have hlt:=(Array.getElem?_eq_some_iff.1 hc).1;have hr1:(w.alloc (.cells #[.int .i64 c,.int .i64 a] 54)).heap[q]?=some (.cells #[y0,y1] 54 (0,0)):=(Below.heap_alloc _ _ _ hlt).trans hc;have hcr:=aA hr1;have hfr:=aX hr1;have hcr0:=aA hc;have hfr0:=aX hc;have hne:q≠w.heap.size:=by omega
 refine callsD_of_wpS func33 rfl λ c₀ cs hu=>?_;change Code.wpS _ _ _ ⟨#[.pointer (some ⟨q,0,none⟩),undef,undef,undef,undef,undef,undef,undef,undef,undef],[]⟩ _ _;apply wpS_seq
 apply wpS_region
 simp [wpOpsS,go_sem,recoverD,hu,hta,ntmps33,Exit.thenS];refine wpS_of_wp ?_;go_wp2;simp [bodyPostS,results,results33]
theorem Fr.csNew {sm dm : Nat} (h:Fr B w (.blk b #[x0,x1,x2,x3,.int .i64 0,.string ⟨#[]⟩,.slice none 0 0,.slice none 0 0,.bool false,.bool false,.slice none 0 0,.int .i64 0,.slice none 0 0,.map (some sm),.map (some dm)] 90::.mp zMe VMe dm 0 (λ_=>none)::.mp zTy VTy sm 0 (λ_=>none)::L)):
  Fr B w (.cs b ⟨x0,x1,x2,x3,.int .i64 0,.string ⟨#[]⟩,.slice none 0 0,.slice none 0 0,.bool false,.slice none 0 0,.slice none 0 0,sm,dm,[]⟩ cs0::L):=by
 have h1:=h.noEls AnyE 83 5;have h2:=h1.nil 87 1;have h3:=h2.tyBare0 0 (by omega);have h4:=h3.sure ⟨λ_=>CInv ⟨x0,x1,x2,x3,.int .i64 0,.string ⟨#[]⟩,.slice none 0 0,.slice none 0 0,.bool false,.slice none 0 0,.slice none 0 0,sm,dm,[]⟩ cs0,λ_ _ h _=>h⟩ λ_=>⟨rfl,Nat.le_refl _,by decide,nofun,nofun,λ f hf=>(by cases hf),by decide,Nat.le_refl _⟩
 refine Fr.csShut (p:=⟨x0,x1,x2,x3,.int .i64 0,.string ⟨#[]⟩,.slice none 0 0,.slice none 0 0,.bool false,.slice none 0 0,.slice none 0 0,sm,dm,[]⟩) (s:=cs0) ?_
 -- pure el row some5 blk dm sm
 exact h4.perm (K:=.blk b _ 90::.els AnyE _ 83 5 []::.row _ 87 1 0 []::.mp zTy VTy sm 0 _::.mp zMe VMe dm 0 _::.el TyE _ tZ::.pure _::L) (by
  refine List.Perm.trans (List.perm_middle (l₁:=[_,_,_,_])) (.cons _ ?_);refine List.Perm.trans (List.perm_middle (l₁:=[_,_,_])) (.cons _ ?_);refine List.Perm.trans (List.perm_middle (l₁:=[_,_])) (.cons _ ?_);refine List.Perm.trans (List.perm_middle (l₁:=[_,_,_])) (.cons _ ?_);refine List.Perm.trans (List.perm_middle (l₁:=[_,_])) (.cons _ ?_);exact List.Perm.swap _ _ _)
theorem leavesR {P:Program}{fn:Func}{tmps tmps':Array Value}{R:Ending→World→Prop}(h:results fn tmps=results fn tmps'):∀(ds:List Deferred) (u:FrameMode) (w:World),Leaves P fn tmps R ds u w→Leaves P fn tmps' R ds u w
 | [],.returning,w,⟨v,h1,h2⟩=>⟨v,h ▸ h1,h2⟩
 | [],.panicking c,w,hl=>hl
 | [],.run,w,hl=>hl
 | d::ds,u,w,⟨h1,fv,cap,f,args,h2,h3,h4⟩=>⟨h1,fv,cap,f,args,h2,h3,h4.mono λ e u' w' he=>by
   cases e with
   | returned _=>exact leavesR h ds _ _ he
   | panicked ch=>exact leavesR h ds _ _ he
   | outgrown=>exact he⟩
theorem put26 {R : Ending→World→Prop} (i:Nat) (hi:i≠2∧i≠3) (c:List PanicEntry) (a:Act) (w:World) (h:bodyPostD prog f26 R (.panic c) (a.put (some i) v) w):bodyPostD prog f26 R (.panic c) a w:=
 leavesR (by
  show results f26 (a.tmps.setIfInBounds i v)=results f26 a.tmps;simp only[results,results26];simp [asAddr,Array.getElem?_setIfInBounds_ne hi.1,Array.getElem?_setIfInBounds_ne hi.2]) a.defers _ w h
theorem bD {P : Program} {fn : Func} {t u : Tmp} {ty2 : TypeId} (h:fn.results=#[.tmp t,.cell u ty2]) (tmps:Array Value) (ht:tmps.getD t undef=v) (hu:tmps.getD u undef=.pointer (some q2)) (w:World) (hr2:(loadVar ty2 q2).run P w=.ok v2 w):(results fn tmps).run P w=.ok (.tuple #[v,v2]) w:=by
 have ht':tmps[t]?.getD undef=v:=by simpa using ht
 have hu':tmps[u]?.getD undef=.pointer (some q2):=by simpa using hu
 simp [results,h,asAddr,ht',hu',hr2]
theorem leaves_sc {tmps : Array Value} {R : Ending→World→Prop} {w : World} (ht:tmps.getD 2 undef=v) (hu:tmps.getD 3 undef=.pointer (some q2)) (hr2:(loadVar 54 q2).run prog w=.ok v2 w) (h:R (.returned (.tuple #[v,v2])) w):Leaves prog f26 tmps R [] .returning w:=
 ⟨_,bD results26 tmps ht hu w hr2,h⟩
theorem Fr.ndKids (h:Fr B w L) (i:Nat) {a : Option Addr} {c : Nat} (hi:L[i]?=some (.el NdE (ndc x.kind x.text x.num a x.kids.length c) x)):Fr B w (.sl NdE (.slice a x.kids.length c) 52 4 x.kids::L):=by
 cases x with
 | mk k s m l=>exact (h.kids i hi).2
def PCk (t:ByteArray)(B:Bs)(L:List Rs)(e:Ending)(w':World):Prop:=
 (∃c p v,cV t=.inr (c,p)∧c≠0∧e=.returned (.tuple #[v,.agg #[.int .i64 c,.int .i64 p]])∧Fr B w' L) ∨
 (∃n s b p a c,cV t=.inl (n,s)∧Un n∧p.n0=.int .i64 n.kind∧p.n1=.string n.text∧p.n2=.int .i64 n.num∧p.n3=.slice a n.kids.length c∧e=.returned (.tuple #[ptr b,.agg #[.int .i64 0,.int .i64 0]])∧Fr B w' (.cs b p s::.el NdE (ndc n.kind n.text n.num a n.kids.length c) n::L))
def PK (t:ByteArray)(B:Bs)(L:List Rs)(e:Ending)(w':World):Prop:=
 (∃c p,cV t=.inr (c,p)∧c≠0∧e=.returned (.tuple #[.agg ndz,.agg #[.int .i64 c,.int .i64 p]])∧Fr B w' L) ∨
 (∃n s a c,cV t=.inl (n,s)∧Un n∧e=.returned (.tuple #[.agg #[.int .i64 n.kind,.string n.text,.int .i64 n.num,.slice a n.kids.length c],.agg #[.int .i64 0,.int .i64 0]])∧Fr B w' (.el NdE (ndc n.kind n.text n.num a n.kids.length c) n::L))
theorem checked26 (t:ByteArray) (ht:t.size≤9223372036854775807) (h:Fr B w (.glo::.er::L)):Calls prog 26 #[.string t] w (PCk t B (.glo::.er::L)):=by
 have hmf:∀(fn:Fn) (first cap:Array Value) (w:World),(Instr.makeFunc fn first cap).run prog w=.ok (.func fn first cap) w:=λ_ _ _ _=>rfl;have hmm:=@run_makeMap prog;have HT:=ah ht;have HF:=h;clear h ht;replace HF:=ax HF w.heap.size #[.int .i64 0,.int .i64 0] 54;go_enter_defers func26,ntmps26
 go_wp2_with fail;replace HF:=HF.perm (List.perm_middle (l₁:=[_,_])).symm;go_at_call 34;refine (parse34 t HT HF).mono ?_;rintro e w1 (⟨c,p,h3,hc,rfl,hf⟩|⟨n,a_n,k_n,c_n,h3,hun,rfl,hf⟩)
 ·have H3:=ah h3;have HC:=ah hc;replace HF:=hf;clear hf h3;replace HF:=ax HF w1.heap.size ndz 52;have c_t4:=HF.cell 0 rfl;obtain⟨c_f0,f_f0⟩:=cf HF 3;replace HF:=HF.two2 3 rfl (.int .i64 c) (.int .i64 p);have c_f1:=HF.cell 3 rfl;go_wp2;clear c_t4 c_f0 f_f0 c_f1;refine regK [] HF (λ w h=>(h.cell 3 rfl)) (λ wd1 HF hC=>?_);refine tq 0 ?_ (hi:=rfl) (hQ:=put26 _ (by decide));refine rq 1 λ K hK=>?_;go_simp;refine uq hK (HF.cell 3 rfl) λ hC=>?_;refine rq 2 λ K hK=>?_;obtain⟨c_r,f_r⟩:=cf HF 3;replace HF:=HF.two2 3 rfl (.int .i64 c) (.int .i64 p);go_simp;clear c_r f_r;refine uq hK (HF.cell 3 rfl) λ hC=>?_;refine dq ?_;go_wp2_with fail;refine leaves_cons (f:=33) (args:=#[.pointer (some ⟨w.heap.size,0,none⟩)]) (by simp) (by simp [go_sem]) ?_;refine (fault_idle _ _).mono ?_;rintro e u' w9 ⟨rfl,rfl,rfl⟩;have h9:=HF.alloc rfl #[.int .i64 0,.int .i64 0] 54;refine leaves_sc rfl rfl (eL (h9.blkAt 4 rfl)) ?_;exact Or.inl ⟨c,p,_,checkC_parse H3,HC,rfl,h9.lose⟩
 have H3:=ah h3;have HUN:=ah hun;obtain⟨a',c',ex⟩:=hf.ndForm 0 rfl;cases ex;replace HF:=hf;clear hf h3 hun;replace HF:=aM HF w1.heap.size n a_n c_n;obtain⟨c_f0,f_f0⟩:=cf HF 4;replace HF:=HF.two2 4 rfl (.int .i64 0) (.int .i64 0);have c_f1:=HF.cell 4 rfl;have c_t4:=HF.cell 0 rfl;replace HF:=HF.mpMade VTy zTy 0 (q:=w1.heap.size+1) (by simp);replace HF:=HF.mpMade VMe zMe 0 (q:=w1.heap.size+1+1) (by simp);replace HF:=ax HF (w1.heap.size+1+1+1) #[.int .i64 n.kind,.string n.text,.int .i64 n.num,.slice a_n n.kids.length c_n,.int .i64 0,.string ⟨#[]⟩,.slice none 0 0,.slice none 0 0,.bool false,.bool false,.slice none 0 0,.int .i64 0,.slice none 0 0,.map (some (w1.heap.size+1)),.map (some (w1.heap.size+1+1))] 90;replace HF:=ah HF.csNew;go_wp2_with fail;clear c_f0 f_f0 c_f1 c_t4;replace HF:=(HF.ndKids 2 rfl).swap;have hX:∀x,x∈n.kids→Tx x:=(parse_a H3).1.kids;have hD:∀x,x∈n.kids→De x:=by obtain⟨l,e,hl⟩:=HUN;rw[e];exact hl
 go_at_call 35;refine (unit35 function52 HF rfl hX hD (by have:=bU n;have:=(parse_a H3).2;show 0+1+szs n.kids≤16000;omega) (by decide)).mono ?_;rintro e w2 (⟨c,a,h4,rfl,hf⟩|⟨u,p',h4,hl,rfl,hf⟩)
 ·have h5:unitC n=.no c a:=h4;refine leaves_cons (f:=33) (args:=#[.pointer (some ⟨w.heap.size,0,none⟩)]) (by simp) (by simp [go_sem]) ?_;refine (fault_thrown w.heap.size c a _ _ [] w2 (hf.blkAt 5 rfl)).mono ?_;rintro e u' w9 ⟨rfl,rfl,rfl⟩;have h9:=(hf.two2 5 rfl (.int .i64 c) (.int .i64 a)).alloc rfl #[.int .i64 c,.int .i64 a] 54;refine leaves_sc rfl rfl (eL (h9.blkAt 6 rfl)) ?_;exact Or.inl ⟨c,a,_,checkC_unit H3 h5,unit_nz _ _ _ h5,rfl,h9.lose⟩
 have H5:Hid (unitC n=.ok u):=h4;have HL:=ah hl;replace HF:=hf;clear hf h4 hl;go_wp2;refine regK [] HF (λ w h=>(h.cell 6 rfl)) (λ wd1 HF hC=>?_);refine tq 0 ?_ (hi:=rfl) (hQ:=put26 _ (by decide));refine tq 1 ?_ (hi:=rfl) (hQ:=put26 _ (by decide));refine rq 2 λ K hK=>?_;go_simp;refine uq hK (HF.cell 6 rfl) λ hC=>?_;refine rq 3 λ K hK=>?_;obtain⟨c_r,f_r⟩:=cf HF 6;replace HF:=HF.two2 6 rfl (.int .i64 0) (.int .i64 0);go_simp;clear c_r f_r;refine uq hK (HF.cell 6 rfl) λ hC=>?_;refine dq ?_;go_wp2_with fail;refine leaves_cons (f:=33) (args:=#[.pointer (some ⟨w.heap.size,0,none⟩)]) (by simp) (by simp [go_sem]) ?_;refine (fault_idle _ _).mono ?_;rintro e u' w9 ⟨rfl,rfl,rfl⟩;have h9:=HF.alloc rfl #[.int .i64 0,.int .i64 0] 54;refine leaves_sc rfl rfl (eL (h9.blkAt 7 rfl)) ?_;exact Or.inr ⟨n,u,_,p',_,_,checkC_ok H3 H5,HUN,HL.n0,HL.n1,HL.n2,HL.n3,rfl,h9.lose⟩
theorem Fr.csCellN {p : CP} {a_n : Option Addr} {c_n : Nat} (h:Fr B w L) (i:Nat) (hi:L[i]?=some (.cs b p s)) (hq:p.n0=.int .i64 n.kind∧p.n1=.string n.text∧p.n2=.int .i64 n.num∧p.n3=.slice a_n n.kids.length c_n):∀o,w.cell? ⟨b,o,none⟩=(#[.int .i64 n.kind,.string n.text,.int .i64 n.num,.slice a_n n.kids.length c_n,p.r0,p.r1,p.r2,p.r3,p.r4,.bool s.many,p.bv,.int .i64 s.wo,p.kv,.map (some p.sm),.map (some p.dm)]:Array Value)[o]?:=by
 obtain⟨H,h1,-⟩:=h.get hi;have h2:w.heap[b]?=some (.cells (csC p s) 90 (0,0)):=h1.1 _ (List.mem_append_left _ (List.mem_cons_self ..));have h3:=aA h2;simp only[csC,hq.1,hq.2.1,hq.2.2.1,hq.2.2.2] at h3;exact h3
theorem check17 (t:ByteArray) (ht:t.size≤9223372036854775807) (h:Fr B w (.glo::.er::L)):Calls prog 17 #[.string t] w (PK t B (.glo::.er::L)):=by
 have HT:=ah ht;have HF:=h;clear h ht;go_enter func17,ntmps17;replace HF:=ax HF w.heap.size ndz 52;replace HF:=ax HF (w.heap.size+1) #[.int .i64 0,.int .i64 0] 54;go_wp2_with fail;replace HF:=HF.perm (List.perm_append_comm (l₁:=[_,_]) (l₂:=[_,_]) |>.append_right L);go_at_call 26;refine (checked26 t HT HF).mono ?_;rintro e w1 (⟨c,p,v,h3,hc,rfl,hf⟩|⟨n,s,b,p,a_n,c_n,h3,hun,q0,q1,q2,q3,rfl,hf⟩)
 ·have H3:=ah h3;have HC:=ah hc;replace HF:=hf;clear hf h3;replace HF:=ax HF w1.heap.size #[.int .i64 c,.int .i64 p] 54;have c_t5:=HF.cell 0 rfl;go_wp2;clear c_t5;refine regK [] HF (λ w h=>(h.cell 0 rfl)) (λ wd1 HF hC=>?_);refine tq2 0 1 ?_;refine rq 2 λ K hK=>?_;obtain⟨c_nn,f_nn⟩:=cf HF 4;replace HF:=sN HF 4 0 ⟨#[]⟩ 0 none 0 0;go_simp;clear c_nn f_nn;refine uq hK (HF.cell 0 rfl) λ hC=>?_;refine rq 3 λ K hK=>?_;obtain⟨c_r,f_r⟩:=cf HF 3;replace HF:=HF.two2 3 rfl (.int .i64 c) (.int .i64 p);go_simp;clear c_r f_r;refine uq hK (HF.cell 0 rfl) λ hC=>?_;refine dq ?_;go_wp2;refine br (aH results17 _ rfl rfl _ (load52 (HF.blkAt 4 rfl)) (eL (HF.blkAt 3 rfl))) ?_;exact Or.inl ⟨c,p,H3,HC,rfl,HF.lose⟩
 have H3:=ah h3;have HUN:=ah hun;have hcs:=hf.csCell;simp only[csC,q0,q1,q2,q3] at hcs;have HQ:=ah (And.intro q0 (And.intro q1 (And.intro q2 q3)));replace HF:=hf;clear hf h3 hun q0 q1 q2 q3 hcs;replace HF:=ax HF w1.heap.size #[.int .i64 0,.int .i64 0] 54;have c_t5:=HF.cell 0 rfl;go_wp2;clear c_t5;refine regK [] HF (λ w h=>⟨h.csCellN 1 rfl HQ,(h.cell 0 rfl)⟩) (λ wd1 HF hC=>?_) (C:=λ w'=>(∀o,w'.cell? ⟨b,o,none⟩=(#[.int .i64 n.kind,.string n.text,.int .i64 n.num,.slice a_n n.kids.length c_n,p.r0,p.r1,p.r2,p.r3,p.r4,.bool s.many,p.bv,.int .i64 s.wo,p.kv,.map (some p.sm),.map (some p.dm)]:Array Value)[o]?)∧(∀o,w'.cell? ⟨w1.heap.size,o,none⟩=(#[.int .i64 0,.int .i64 0]:Array Value)[o]?));refine tq4 0 1 2 3 ?_;refine tq 4 ?_;refine rq 5 λ K hK=>?_;obtain⟨c_nn,f_nn⟩:=cf HF 6;replace HF:=sN HF 6 n.kind n.text n.num a_n n.kids.length c_n;go_simp;clear c_nn f_nn;refine uq hK ⟨HF.csCellN 1 rfl HQ,(HF.cell 0 rfl)⟩ λ hC=>?_;refine rq 6 λ K hK=>?_;obtain⟨c_r,f_r⟩:=cf HF 5;replace HF:=HF.two2 5 rfl (.int .i64 0) (.int .i64 0);go_simp;clear c_r f_r;refine uq hK ⟨HF.csCellN 1 rfl HQ,(HF.cell 0 rfl)⟩ λ hC=>?_;refine dq ?_;go_wp2;refine br (aH results17 _ rfl rfl _ (load52 (HF.blkAt 6 rfl)) (eL (HF.blkAt 5 rfl))) ?_;exact Or.inr ⟨n,s,a_n,c_n,H3,HUN,rfl,HF.lose⟩
end Go.Proofs.YtdnhbedbpbgeeaaGreatDoor.K
