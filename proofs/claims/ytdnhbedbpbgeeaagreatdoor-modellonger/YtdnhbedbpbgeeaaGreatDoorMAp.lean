/- 15 -/
import Derived.Test.YtdnhbedbpbgeeaaGreatDoorMAk
set_option maxRecDepth 100000
set_option maxHeartbeats 2000000
set_option linter.all false
namespace Go.Proofs.YtdnhbedbpbgeeaaGreatDoor.K
open Go.RowKit Go.Proofs.Tryz
variable {a : Option Addr} {sx : ByteArray} {c N k m wo : Nat} {q : CR Cs} {q0 n tt tv : Nd} {t : T.Ty} {v v' x0 x1 x2 x3 x4 : Value} {l bs : List Nd} {f : TM} {u : Cs}
variable {B : Bs} {w w' : World} {L : List Rs} {b : Nat} {p : CP} {s : Cs}
def CP.push (p:CP)(v:Value)(m:Nat):CP:={ p with bv:=v,em:=m::p.em }
abbrev emV (em:List Nat):List Value:=em.reverse.map λ m=>.map (some m)
theorem emV_cons (m:Nat) (em:List Nat):emV (m::em)=emV em++[.map (some m)]:=by simp [emV]
theorem Fr.csPushed {K : Rs} (h:Fr B w (K::.blk b #[p.n0,p.n1,p.n2,p.n3,p.r0,p.r1,p.r2,p.r3,p.r4,.bool s.many,v',.int .i64 s.wo,p.kv,.map (some p.sm),.map (some p.dm)] 90::.some5 p.kv s.k::.row v' 87 1 (s.env.length+1) (emV p.em++[.map (some m)])::.mp zTy VTy p.sm s.n s.st::.mp zMe VMe p.dm s.n s.de::.el TyE [p.r0,p.r1,p.r2,p.r3,p.r4] s.res::.pure (CInv p s)::(envR s.n p.em s.env++(.mp zTy VTy m s.n f::L))))
  (hf:∀x t,f x=some t→may t=true) (hk:s.env.length+1≤s.k):Fr B w (.cs b (p.push v' m) { s with env:=f::s.env }::K::L):=by
 have hI:CInv p s:=h.pureAt 7 rfl;have h2:=h.same 7 rfl (r':=.pure (CInv (p.push v' m) { s with env:=f::s.env })) (λ H _=>⟨by simp [CP.push,hI.len],hI.n,hI.k,hI.st,hI.de,λ g hg=>by
  rcases List.mem_cons.1 hg with rfl|hg
  ·exact hf
  exact hI.env g hg,hI.wo,hk⟩) λ q hq=>hq
 rw[← emV_cons] at h2;refine Fr.csShut ?_;let A:List Rs:=[.blk b #[p.n0,p.n1,p.n2,p.n3,p.r0,p.r1,p.r2,p.r3,p.r4,.bool s.many,v',.int .i64 s.wo,p.kv,.map (some p.sm),.map (some p.dm)] 90,.some5 p.kv s.k,.row v' 87 1 (s.env.length+1) (emV (m::p.em)),.mp zTy VTy p.sm s.n s.st,.mp zMe VMe p.dm s.n s.de,.el TyE [p.r0,p.r1,p.r2,p.r3,p.r4] s.res,.pure (CInv (p.push v' m) { s with env:=f::s.env })]
 have h3:Fr B w (K::(A++(envR s.n p.em s.env++(.mp zTy VTy m s.n f::L)))):=h2;have h4:=h3.perm (((List.perm_middle (l₁:=envR s.n p.em s.env) (l₂:=L) (a:=.mp zTy VTy m s.n f)).append_left A).cons K);have h5:Fr B w (K::((A++(.mp zTy VTy m s.n f::envR s.n p.em s.env))++L)):=by simpa using h4
 have h6:=h5.perm (List.perm_middle (l₁:=A++(.mp zTy VTy m s.n f::envR s.n p.em s.env)) (l₂:=L) (a:=K)).symm;have h7:Fr B w (A++((.mp zTy VTy m s.n f::envR s.n p.em s.env)++(K::L))):=by simpa using h6
 exact h7
theorem Fr.csPopped {env0 : List TM} {K : Rs} (h:Fr B w (.cs b ((p.push v' m).at v) u::K::L)) (hu:u.env=f::env0) (hK:KeepR p.bv 87 env0.length (emV p.em) v' K) (hw:wo≤1000000):
  Fr B ((w.setCell ⟨b,10,none⟩ p.bv).setCell ⟨b,11,none⟩ (.int .i64 wo)) (.cs b (p.at v) { u with env:=env0,wo:=wo }::L):=by
 have hI:=h.csInv;have h1:=h.csOpen;rw[hu] at h1;let A:List Rs:=[.blk b #[p.n0,p.n1,p.n2,p.n3,p.r0,p.r1,p.r2,p.r3,p.r4,.bool u.many,v',.int .i64 u.wo,v,.map (some p.sm),.map (some p.dm)] 90,.some5 v u.k,.row v' 87 1 (env0.length+1) (emV p.em++[.map (some m)]),.mp zTy VTy p.sm u.n u.st,.mp zMe VMe p.dm u.n u.de,.el TyE [p.r0,p.r1,p.r2,p.r3,p.r4] u.res,.pure (CInv ((p.push v' m).at v) u)]
 have h2:Fr B w ((A++(.mp zTy VTy m u.n f::envR u.n p.em env0))++(K::L)):=by
  have e:csK b ((p.push v' m).at v) u=A:=by
   show [_,_,_,_,_,_,_]=[_,_,_,_,_,_,_];rw[hu,← emV_cons];rfl
  rw[e] at h1;rw[List.append_assoc];exact h1
 have h3:=h2.perm (List.perm_middle (l₁:=A++(.mp zTy VTy m u.n f::envR u.n p.em env0)) (l₂:=L) (a:=K));have h4:Fr B w (K::(A++((.mp zTy VTy m u.n f::envR u.n p.em env0)++L))):=by simpa using h3
 have h5:=h4.popRow hK 2 rfl;have h6:=(h5.set 0 rfl 10 p.bv).set 0 rfl 11 (.int .i64 wo);have h7:=h6.same 6 rfl (r':=.pure (CInv (p.at v) { u with env:=env0,wo:=wo })) (λ H _=>by
  have hl:=hI.len;have he:=hI.env;have hel:=hI.el;rw[hu] at hl he hel;exact⟨by simpa [CP.push,CP.at] using hl,hI.n,hI.k,hI.st,hI.de,λ g hg=>he g (List.mem_cons_of_mem _ hg),hw,by simp at hel;show env0.length≤u.k;omega⟩) λ q hq=>hq
 refine Fr.csShut ?_;refine h7.sub ?_;show List.Sublist (_::_::_::_::_::_::_::(envR u.n p.em env0++L)) (_::_::_::_::_::_::_::(_::(envR u.n p.em env0++L)));iterate 7 apply List.Sublist.cons_cons
 exact List.sublist_cons_self _ _
theorem Fr.csWords (h:Fr B w (.cs b p s::L)) (hw:wo≤1000000) {v : Int} (hv:v=(wo:Int)):Fr B (w.setCell ⟨b,11,none⟩ (.int .i64 v)) (.cs b p { s with wo:=wo }::L):=by
 subst hv;have hI:=h.csInv;have h1:=h.csOpen.set 0 rfl 11 (.int .i64 wo);have h2:=h1.same 6 rfl (r':=.pure (CInv p { s with wo:=wo })) (λ H _=>⟨hI.len,hI.n,hI.k,hI.st,hI.de,hI.env,hw,hI.el⟩) λ q hq=>hq;exact h2.csShut
theorem Fr.mpMoreAll {M : Nat} (hM:N≤M):∀{em:List Nat} {env:List TM} {A L:List Rs},Fr B w (A++(envR N em env++L))→Fr B w (A++(envR M em env++L)):=by
 intro em;induction em with
 | nil=>intro env A L h;exact h
 | cons a em ih=>
  intro env A L h;cases env with
  | nil=>exact h
  | cons f env=>
   have h1:Fr B w ((A++[.mp zTy VTy a N f])++(envR N em env++L)):=by simpa [envR] using h
   have h2:=ih h1;have h3:Fr B w (A++(.mp zTy VTy a N f::(envR M em env++L))):=by simpa using h2
   have h4:=h3.mpMore A.length (show _=some (Rs.mp zTy VTy a N f) from by rw[List.getElem?_append_right (Nat.le_refl _)];simp) hM;simpa [envR] using h4
theorem Fr.csLocal (h:Fr B w (.cs b p s::L)) {em : List Nat} {env : List TM} (hm:p.em=m::em) (hf:s.env=f::env) (x:ByteArray) (hx:x.size≤maxLen) (hn:s.n<s.k) (i:Nat) (hi:L[i]?=some (.el TyE [x0,x1,x2,x3,x4] t)) (ht:may t=true):
  ∃w',(Instr.mapUpdate 87 (.map (some m)) (.string x) (.agg #[x0,x1,x2,x3,x4])).run prog w=.ok () w'∧Fr B w' (.cs b p { s with n:=s.n+1,env:=putE s.env x t }::L):=by
 have hI:=h.csInv;have hk:=hI.k;have h0:=(h.tyVe (i+1) hi).swap;have h1:Fr B w (csK b p s++(envR s.n p.em s.env++(.ve VTy (.agg #[x0,x1,x2,x3,x4]) t::L))):=h0.csOpen;rw[hm,hf] at h1;have hl:(csK b p s++(envR s.n (m::em) (f::env)++(.ve VTy (.agg #[x0,x1,x2,x3,x4]) t::L)))[7+(envR s.n (m::em) (f::env)).length]?=some (.ve VTy (.agg #[x0,x1,x2,x3,x4]) t):=by
  rw[List.getElem?_append_right (by simp),List.getElem?_append_right (by simp)];simp
 obtain⟨w',hr,h2,-⟩:=h1.mpPut 7 rfl 87 83 underlying87 x hx (by unfold maxLen;omega) _ hl;refine⟨w',hr,?_⟩;have h3:Fr B w' ((csK b p s++[.mp zTy VTy m (s.n+1) (putM f x t)])++(envR s.n em env++(.ve VTy (.agg #[x0,x1,x2,x3,x4]) t::L))):=by simpa [envR] using h2
 have h4:=Fr.mpMoreAll (Nat.le_succ s.n) h3;have h5:Fr B w' (csK b p s++(envR (s.n+1) (m::em) (putM f x t::env)++(.ve VTy (.agg #[x0,x1,x2,x3,x4]) t::L))):=by simpa [envR] using h4
 have h6:=(h5.mpMore 3 rfl (Nat.le_succ s.n)).mpMore 4 rfl (Nat.le_succ s.n);have h7:=h6.same 6 rfl (r':=.pure (CInv p { s with n:=s.n+1,env:=putE s.env x t })) (λ H _=>by
  have hl:=hI.len;have he:=hI.env;have hel:=hI.el;rw[hf] at hl he hel;refine⟨by rw[hf];exact hl,hn,hI.k,hI.st,hI.de,λ g hg y u hy=>?_,hI.wo,by rw[hf];exact hel⟩;rw[hf] at hg;rcases List.mem_cons.1 hg with rfl|hg
  ·unfold putM at hy;split at hy
   ·cases hy;exact ht
   exact he f (List.mem_cons_self ..) y u hy
  exact he g (List.mem_cons_of_mem _ hg) y u hy) λ q hq=>hq
 have h8:Fr B w' (csK b p { s with n:=s.n+1,env:=putE s.env x t }++(envR (s.n+1) p.em (putE s.env x t)++(.ve VTy (.agg #[x0,x1,x2,x3,x4]) t::L))):=by
  have e1:putE s.env x t=putM f x t::env:=by rw[hf];rfl
  have e2:csK b p { s with n:=s.n+1,env:=putE s.env x t }=[.blk b (csC p s) 90,.some5 p.kv s.k,.row p.bv 87 1 s.env.length (emV p.em),.mp zTy VTy p.sm (s.n+1) s.st,.mp zMe VMe p.dm (s.n+1) s.de,.el TyE [p.r0,p.r1,p.r2,p.r3,p.r4] s.res,.pure (CInv p { s with n:=s.n+1,env:=putE s.env x t })]:=by
   show [_,_,_,_,_,_,_]=_;rw[e1,hf];rfl
  have e3:envR (s.n+1) p.em (putE s.env x t)=envR (s.n+1) (m::em) (putM f x t::env):=by rw[hm,e1]
  rw[e2,e3];exact h7
 exact h8.csShut.tail2
theorem words76 (h:Fr B w L) (i:Nat) {cs : List Value} (hi:L[i]?=some (.el TyE cs t)):Calls prog 76 #[.agg cs.toArray] w λ e w'=>e=.returned (.int .i64 (bS t))∧Fr B w' L:=by
 unfold bS;cases hq:may t with
 | false=>exact (T.pWords_f t _ w hq (h.tyAt i hi)).mono λ e w' h'=>⟨h'.1,h.call h'.2⟩
 | true=>exact (T.pWords_t t _ w hq (h.tyAt i hi)).mono λ e w' h'=>⟨h'.1,h.call h'.2⟩
theorem words_le (t:T.Ty):bS t≤12:=by
 unfold bS;cases hq:may t with
 | false=>simp
 | true=>exact (T.sizeT_le hq).2
theorem fT (h:Fr B w (.cs b p { s with k:=k }::L)) (i:Nat) {kn : Nat} (hi:L[i]?=some (.el NdE (ndc n.kind n.text n.num a kn c) n)) (hx:Tx n) (hE:Ex n) (hk:k+sz n≤16000):
  Calls prog 133 #[ptr b,.agg #[.int .i64 n.kind,.string n.text,.int .i64 n.num,.slice a kn c]] w (PTy (cM s n k) (k+sz n) B b p s L):=expr_all s _ _ _ _ _ k _ _ _ _ _ i h hi hx hE (Nat.le_refl _) hk
theorem typ70k (h:Fr B w (.cs b p { s with k:=k }::L)) (i:Nat) {kn : Nat} (hi:L[i]?=some (.el NdE (ndc n.kind n.text n.num a kn c) n)) (hx:Tx n) (hT:Ty n) (hk:k+sz n≤16000):
  Calls prog 70 #[ptr b,.agg #[.int .i64 n.kind,.string n.text,.int .i64 n.num,.slice a kn c]] w (PTy (typC s.st n k) (k+sz n) B b p s L):=typ70 h i hi hx hT hk
theorem Fr.envLast (h:Fr B w (.cs b p s::L)) (hne:s.env≠[]):∃g c m em f env,p.bv=.slice (some ⟨g,0,none⟩) s.env.length c∧p.em=m::em∧s.env=f::env∧∀w' L',Fr B w' (.cs b p s::L')→w'.cell? ⟨g,s.env.length - 1,none⟩=some (.map (some m)):=by
 have hl:=h.csInv.len;obtain⟨f,env,hf⟩:∃f env,s.env=f::env:=by
  cases e:s.env with
  | nil=>exact absurd e hne
  | cons f env=>exact⟨f,env,rfl⟩
 obtain⟨m,em,hm⟩:∃m em,p.em=m::em:=by
  cases e:p.em with
  | nil=>rw[e,hf] at hl;simp at hl
  | cons m em=>exact⟨m,em,rfl⟩
 have hlen:0<s.env.length:=List.length_pos_iff.2 hne;have hr:=h.csOpen.rowAt 2 rfl;rcases hr.2 with⟨-,h0⟩|⟨g,c,cur0,e2,-⟩
 ·omega
 refine⟨g,c,m,em,f,env,e2,hm,hf,λ w' L' h'=>?_⟩;obtain⟨a',c',e3,hM⟩:=h'.envRow;have hl2:p.em.reverse.length=s.env.length:=by rw[List.length_reverse,hl]
 rw[e2] at e3;obtain⟨g',o',e4,-,hc⟩:=hM (s.env.length - 1) (by omega);have e5:a'=some ⟨g,0,none⟩:=by injection e3 with e6;exact e6.symm
 rw[e5] at e4;injection e4 with e7
 injection e7 with e8 e9
 subst e8 e9;rw[Nat.zero_add] at hc;rw[hc];have:p.em.reverse[s.env.length - 1]'(by omega)=m:=by
  have h9:p.em.reverse[s.env.length - 1]?=some m:=by
   rw[List.getElem?_reverse (by rw[hl];omega),hl,show s.env.length - 1 - (s.env.length - 1)=0 by omega,hm];rfl
  rw[List.getElem?_eq_getElem (by omega)] at h9;exact Option.some.inj h9
 rw[this]
def PSt (q:CR Cs)(k:Nat)(B:Bs)(b:Nat)(p:CP)(s:Cs)(L:List Rs)(e:Ending)(w':World):Prop:=
 (∃c a,q=.no c a∧e=upF c a∧Fr B w' L)∨(∃u v,q=.ok u∧u.k=k∧u.env.tail=s.env.tail∧u.env.length=s.env.length∧u.wo≤40∧e=.returned (.tuple #[])∧Fr B w' (.cs b (p.at v) u::L))
theorem PSt.no {a : Nat} {c : Int} (hq:q=.no c a) (h:Fr B w' L):PSt q k B b p s L (upF c a) w':=Or.inl ⟨c,a,hq,rfl,h⟩
def varD (u:Cs)(x:ByteArray)(t v:Nd)(at_:Nat):CR Cs:=
 (typC u.st t u.k).bind λ ty=>(cM u v (u.k+sz t)).bind λ tv=>askC (!(headE u.env x).isSome) 5 at_ <| askC (same ty tv) 3 at_ <| askC (decide (u.wo+bS ty≤40)) 1 at_ <|
  .ok { u with k:=u.k+sz t+sz v,n:=u.n+1,wo:=u.wo+bS ty,env:=putE u.env x ty }
theorem var132 (h:Fr B w (.cs b p u::L)) (i:Nat) (hi:L[i]?=some (.el NdE (ndc 14 sx 0 a 2 c) (.mk 14 sx 0 [tt,tv]))) (hX:Tx (.mk 14 sx 0 [tt,tv])) (hT:Ty tt) (hE:Ex tv) (hk:u.k+sz tt+sz tv≤16000) (hne:u.env≠[]) (hwo:u.wo≤40) (hn:u.n≤u.k) (at_:Nat):
  Calls prog 132 #[ptr b,.agg #[.int .i64 14,.string sx,.int .i64 0,.slice a 2 c],.int .i64 at_] w (PSt (varD u sx tt tv at_) (u.k+sz tt+sz tv) B b p u L):=by
 have HF:=ah (h.dup (i+1) hi).swap;have hxt:=hX.kids tt (by simp [Nd.kids]);have hxv:=hX.kids tv (by simp [Nd.kids]);have hsx:sx.size≤maxLen:=Nat.le_trans hX.text (by decide:4000≤maxLen);have HWO:=ah hwo;have HN:=ah hn;clear h hi hX hwo;go_enter func132,ntmps132;replace HF:=yN HF w.heap.size 14 sx 0 a 2 c;have c_n:=HF.cell 1 rfl;obtain⟨g_tt,o_tt,a_tt,n_tt,c_tt,ha,-,hc1,hc2,e0,e1,e2,e3,hf⟩:=HF.kidHere 2 rfl 0 (by simp);subst ha;simp only[Nat.zero_mul,Nat.one_mul,Nat.add_zero,List.getElem_cons_zero,List.getElem_cons_succ] at e0 e1 e2 e3 hf;replace HF:=ah hf.swap;clear hf hc1 hc2;go_wp2_with fail;clear c_n;clear e0 e1 e2 e3;go_at_call 70;refine (typ70 HF 0 rfl hxt hT (by omega)).mono ?_;rintro e w1 (⟨c1,p1,h3,rfl,hf⟩|⟨t,v1,nm_t,a_t,c_t,pa_t,pc_t,h3,hmt,rfl,hf⟩)
 ·exact⟨rfl,PSt.no (by simp only[varD,h3,CR.bind]) hf.lose⟩
 have H1:=ah h3;have HMT:=ah hmt;replace HF:=hf;clear h3 hf hmt;replace HF:=yT HF w1.heap.size (tyk t) nm_t a_t (tnn t) c_t pa_t (tpn t) pc_t (tmy t);have c_n:=HF.cell 4 rfl;obtain⟨g_tv,o_tv,a_tv,n_tv,c_tv,ha,-,hc1,hc2,e0,e1,e2,e3,hf⟩:=HF.kidHere 5 rfl 1 (by simp);cases ha;simp only[Nat.zero_mul,Nat.one_mul,Nat.add_zero,List.getElem_cons_zero,List.getElem_cons_succ] at e0 e1 e2 e3 hf;replace HF:=ah hf.swap;clear hf hc1 hc2;go_wp2_with fail;clear c_n;clear e0 e1 e2 e3;go_at_call 133;refine (fT HF 0 rfl hxv hE (by omega)).mono ?_;rintro e w2 (⟨c1,p1,h3,rfl,hf⟩|⟨v,v2,nm_v,a_v,c_v,pa_v,pc_v,h3,hmv,rfl,hf⟩)
 ·exact⟨rfl,PSt.no (by simp only[varD,H1.out,h3,CR.bind]) hf.lose⟩
 have H2:=ah h3;replace HF:=hf;clear h3 hf hmv;obtain⟨p2,hp2⟩:∃p2,p2=(p.at v1).at v2:=⟨_,rfl⟩
 obtain⟨s2,hs2⟩:∃s2:Cs,s2={ u with k:=u.k+sz tt+sz tv }:=⟨_,rfl⟩
 rw[← hp2,← hs2] at HF;have hlt2:s2.n<s2.k:=by
  rw[hs2];have:=fX tt;show u.n<u.k+sz tt+sz tv;have:=HN.out;omega
 have HVD:Hid (varD u sx tt tv at_=askC (!(headE s2.env sx).isSome) 5 at_ (askC (same t v) 3 at_ (askC (decide (s2.wo+bS t≤40)) 1 at_ (.ok { s2 with n:=s2.n+1,wo:=s2.wo+bS t,env:=putE s2.env sx t })))):=by
  show _=_;rw[hs2];simp only[varD,H1.out,H2.out,CR.bind]
 have hne2:s2.env≠[]:=by rw[hs2];exact hne
 have HE2:Hid (s2.env=u.env∧s2.k=u.k+sz tt+sz tv∧s2.wo=u.wo):=by rw[hs2];exact⟨rfl,rfl,rfl⟩
 have hwo2:s2.wo≤40:=by rw[hs2];exact HWO
 have HP2:Hid (p2=p.at v2):=hp2;clear hp2 hs2;obtain⟨g5,c5,m5,em5,f5,env5,hbv,hem,henv,hlast⟩:=HF.envLast hne2;have HEM:=ah hem;have HENV:=ah henv;have hel0:0<s2.env.length:=List.length_pos_iff.2 hne2;have hel:s2.env.length≤16000:=by have:=HF.csInv.el;have:=HF.csInv.k;omega
 obtain⟨nl,hnl⟩:∃nl,s2.env.length=nl+1:=⟨s2.env.length - 1,by omega⟩
 have hwn:IntKind.i64.wrap ((nl:Nat):Int)=(nl:Int):=by rw[IntKind.wrap_i64];omega
 have hn0:(0:Int)≤(nl:Int):=by omega
 have hnli:(nl:Int)<(nl:Int)+1:=by omega
 rw[hnl,Nat.add_sub_cancel] at hlast;rw[hnl] at hbv;clear hem henv hel0 hnl;replace HF:=yT HF w2.heap.size (tyk v) nm_v a_v (tnn v) c_v pa_v (tpn v) pc_v (tmy v);have hcsx:∀w' L',Fr B w' (.cs b p2 s2::L')→∀o,w'.cell? ⟨b,o,none⟩=(#[p2.n0,p2.n1,p2.n2,p2.n3,p2.r0,p2.r1,p2.r2,p2.r3,p2.r4,.bool s2.many,(.slice (some ⟨g5,0,none⟩) (nl+1) c5),.int .i64 s2.wo,p2.kv,.map (some p2.sm),.map (some p2.dm)]:Array Value)[o]?:=λ w' L' h=>by
  have:=h.csCell;rw[show csC p2 s2=#[p2.n0,p2.n1,p2.n2,p2.n3,p2.r0,p2.r1,p2.r2,p2.r3,p2.r4,.bool s2.many,p2.bv,.int .i64 s2.wo,p2.kv,.map (some p2.sm),.map (some p2.dm)] from rfl,hbv] at this;exact this
 have hnlt:(nl:Int)<((nl+1:Nat):Int):=by omega
 have hnlt2:nl<nl+1:=by omega
 go_wp2;refine regK [] HF (λ w h=>⟨hcsx _ _ h,hlast _ _ h⟩) (λ wd3 HF hC=>?_) (C:=λ w'=>(∀o,w'.cell? ⟨b,o,none⟩=(#[p2.n0,p2.n1,p2.n2,p2.n3,p2.r0,p2.r1,p2.r2,p2.r3,p2.r4,.bool s2.many,(.slice (some ⟨g5,0,none⟩) (nl+1) c5),.int .i64 s2.wo,p2.kv,.map (some p2.sm),.map (some p2.dm)]:Array Value)[o]?)∧w'.cell? ⟨g5,nl,none⟩=some (.map (some m5)));refine tq4 0 1 2 3 ?_;refine tq4 4 5 6 7 ?_;refine tq4 8 9 10 11 ?_;refine tq3 12 13 14 ?_;refine dq ?_;obtain⟨t5,nm5,a5,c5',pa5,pc5,ht5,hlook,hf⟩:=HF.lookE (j:=0) (by rw[HEM.out];rfl) (by rw[HENV.out];rfl) sx hsx;replace HF:=hf;have hl1:=hlook _ rfl;clear hf ht5 hlook;have HHD:Hid (headE s2.env sx=f5 sx):=by show _=_;rw[HENV.out];rfl
 obtain⟨hb,hhb⟩:∃hb,(f5 sx).isSome=hb:=⟨_,rfl⟩
 rw[hhb] at hl1;have HHB:Hid ((headE s2.env sx).isSome=hb):=by show _=_;rw[HHD.out,hhb]
 clear hhb;have c_n:=HF.cell 8 rfl;go_wp2_with fail;clear c_n;clear hl1;replace HF:=yT HF wd3.heap.size (tyk t5) nm5 a5 (tnn t5) c5' pa5 (tpn t5) pc5 (tmy t5);cases hb
 ·go_wp2_with fail;go_at_call 69;refine (aL HF 5 at_).mono ?_;rintro e w4 ⟨rfl,HF⟩;have c_b6:=HF.cell 6 rfl;have c_b7:=HF.cell 3 rfl;go_wp2_with fail;clear c_b6 c_b7;go_at_call 74;refine (same74 HF 7 4 rfl rfl).mono ?_;rintro e w20 ⟨rfl,HF⟩;cases hq:same t v
  ·have HQ:=ah hq;clear hq;go_wp2_with fail;go_at_call 69;refine (aU HF 3 at_).mono ?_;rintro e w21 ⟨rfl,HF⟩;exact⟨rfl,PSt.no (by rw[HVD.out,HHB.out,HQ.out];rfl) HF.lose⟩
  have HQ:=ah hq;clear hq;go_wp2_with fail;go_at_call 69;refine (aL HF 3 at_).mono ?_;rintro e w21 ⟨rfl,HF⟩;go_wp2;refine regK [8,9,10,11] HF (λ w h=>⟨hcsx _ _ h,(h.cell 6 rfl)⟩) (λ wd22 HF hC=>?_) (C:=λ w'=>(∀o,w'.cell? ⟨b,o,none⟩=(#[p2.n0,p2.n1,p2.n2,p2.n3,p2.r0,p2.r1,p2.r2,p2.r3,p2.r4,.bool s2.many,(.slice (some ⟨g5,0,none⟩) (nl+1) c5),.int .i64 s2.wo,p2.kv,.map (some p2.sm),.map (some p2.dm)]:Array Value)[o]?)∧(∀o,w'.cell? ⟨w1.heap.size,o,none⟩=(#[.int .i64 (tyk t),.string nm_t,.slice a_t (tnn t) c_t,.slice pa_t (tpn t) pc_t,.bool (tmy t)]:Array Value)[o]?));refine tq4 0 1 2 3 ?_;refine tq2 4 5 ?_;refine rq 6 λ K hK=>?_;go_simp;refine (words76 HF 7 rfl).mono ?_;rintro e w23 ⟨rfl,HF⟩;refine uq hK ⟨hcsx _ _ HF,(HF.cell 6 rfl)⟩ λ hC=>?_;try simp only[qq]
  have hwl:=words_le t;obtain⟨wt,hwt⟩:∃wt,bS t=wt:=⟨_,rfl⟩
  rw[hwt] at hwl ⊢;have HWT:=ah hwt;clear hwt;refine tq 7 ?_;refine tqP 8 ?_;refine tqP 9 ?_;refine tqP 10 ?_;refine rqb 11 λ K hK=>?_;have c_cs:=hcsx _ _ HF;have f_cs:=HF.csFrz;replace HF:=HF.csWords (wo:=s2.wo+wt) (v:=(s2.wo:Int)+(wt:Int)) (by omega) (by omega);go_simp;clear c_cs f_cs;refine ub hK ?_;refine dq ?_;have c_cs:=HF.csCell;rw[show csC p2 { s2 with wo:=s2.wo+wt }=#[p2.n0,p2.n1,p2.n2,p2.n3,p2.r0,p2.r1,p2.r2,p2.r3,p2.r4,.bool s2.many,p2.bv,.int .i64 ((s2.wo+wt:Nat):Int),p2.kv,.map (some p2.sm),.map (some p2.dm)] from rfl,show ((s2.wo+wt:Nat):Int)=(s2.wo:Int)+(wt:Int) from by omega] at c_cs;by_cases h40:s2.wo+wt≤40
  ·have h40i:((s2.wo+wt:Nat):Int)≤40:=by omega
   have h40j:(s2.wo:Int)+(wt:Int)≤40:=by omega
   have H40:=ah h40;clear h40;go_wp2_with fail;clear c_cs;go_at_call 69;refine (aL HF 1 at_).mono ?_;rintro e w24 ⟨rfl,HF⟩;obtain⟨w30,hrun,hf⟩:=HF.csLocal HEM HENV sx hsx hlt2 6 rfl HMT;have c_n:=HF.cell 9 rfl;have c_b6:=HF.cell 6 rfl;clear h40i h40j;go_wp2;go_end0
   refine Or.inr ⟨{ s2 with n:=s2.n+1,wo:=s2.wo+wt,env:=putE s2.env sx t },v2,?_,HE2.2.1,?_,?_,H40,rfl,?_⟩
   ·rw[HVD.out,HHB.out,HQ.out,HWT.out,decide_eq_true H40.out];rfl
   ·show (putE s2.env sx t).tail=_;rw[← HE2.out.1,HENV.out];rfl
   ·show (putE s2.env sx t).length=_;rw[← HE2.out.1,HENV.out];rfl
   rw[← HP2.out];exact hf.lose
  have h40i:¬ ((s2.wo+wt:Nat):Int)≤40:=by omega
  have h40j:¬ (s2.wo:Int)+(wt:Int)≤40:=by omega
  have H40:=ah h40;clear h40;go_wp2_with fail;clear c_cs;go_at_call 69;refine (aU HF 1 at_).mono ?_;rintro e w24 ⟨rfl,HF⟩;exact⟨rfl,PSt.no (by rw[HVD.out,HHB.out,HQ.out,HWT.out,decide_eq_false H40.out];rfl) HF.lose⟩
 go_wp2_with fail;go_at_call 69;refine (aU HF 5 at_).mono ?_;rintro e w4 ⟨rfl,HF⟩;exact⟨rfl,PSt.no (by rw[HVD.out,HHB.out];rfl) HF.lose⟩
theorem info87:(prog.info? 87).map (λ i=>(i.zero,i.size,i.bytes))=some (some (.map none),1,8):=by kernel_rfl
def StH (N:Nat):Prop:=∀(B:Bs) (w:World) (b:Nat) (p:CP) (s:Cs) (L:List Rs) (n:Nd) (a:Option Addr) (kn c i:Nat),Fr B w (.cs b p s::L)→L[i]?=some (.el NdE (ndc n.kind n.text n.num a kn c) n)→Tx n→St n→sz n≤N→s.k+sz n≤16000→s.env≠[]→s.wo≤40 →
  Calls prog 110 #[ptr b,.agg #[.int .i64 n.kind,.string n.text,.int .i64 n.num,.slice a kn c]] w (PSt (bL N s n) (s.k+sz n) B b p s L)
def PBl (q:CR Cs)(k:Nat)(B:Bs)(b:Nat)(p:CP)(s:Cs)(L:List Rs)(e:Ending)(w':World):Prop:=
 (∃c a,q=.no c a∧e=upF c a∧Fr B w' L)∨(∃u v,q=.ok u∧u.k=k∧u.env=s.env∧u.wo=s.wo∧e=.returned (.int .i64 s.k)∧Fr B w' (.cs b (p.at v) u::L))
theorem PBl.no {a : Nat} {c : Int} (hq:q=.no c a) (h:Fr B w' L):PBl q k B b p s L (upF c a) w':=Or.inl ⟨c,a,hq,rfl,h⟩
theorem block77 (hS:StH N) (h:Fr B w (.cs b p s::.mp zTy VTy m s.n f::L)) (i:Nat) {kn : Nat} (hi:L[i]?=some (.el NdE (ndc 13 eB 0 a kn c) (.mk 13 eB 0 l))) (hX:∀x,x∈l→Tx x) (hT:∀x,x∈l→St x) (hN:szs l≤N) (hk:s.k+1+szs l≤16000) (hf:∀x t,f x=some t→may t=true) (hel00:s.env.length≤s.k) (hwo:s.wo≤40):
  Calls prog 77 #[ptr b,.agg #[.int .i64 13,.string eB,.int .i64 0,.slice a kn c],.map (some m)] w (PBl (fG (bL N) f s (.mk 13 eB 0 l)) (s.k+1+szs l) B b p s L):=by
 have hi2:=(h.dup (i+2) hi)
 obtain⟨rfl,-⟩:=hi2.kids 0 rfl;have HF:=hi2.perm (List.Perm.trans (List.Perm.swap _ _ _) (List.Perm.cons _ (List.Perm.swap _ _ _)));clear h hi hi2;go_enter func77,ntmps77;replace HF:=yN HF w.heap.size 13 eB 0 a l.length c;go_wp2_with fail;go_at_call 48;refine (bA HF (by omega)).mono ?_;rintro e w1 ⟨rfl,v1,hf⟩;obtain⟨p1,hp1⟩:∃p1,p1=p.at v1:=⟨_,rfl⟩
 obtain⟨s1,hs1⟩:∃s1:Cs,s1={ s with k:=s.k+1 }:=⟨_,rfl⟩
 rw[← hp1,← hs1] at hf;replace HF:=hf;clear hf;have HP1:=ah hp1;have HS1:Hid (s1.k=s.k+1∧s1.env=s.env∧s1.wo=s.wo∧s1.n=s.n∧{ s1 with env:=f::s1.env }={ s with k:=s.k+1,env:=f::s.env }∧s1.env.length+1≤s1.k):=by
  have hel:=HF.csInv.el;have hel0:=hel00;rw[hs1] at hel ⊢;exact⟨rfl,rfl,rfl,rfl,rfl,by show s.env.length+1≤s.k+1;omega⟩
 have hs1n:s1.n=s.n:=by rw[hs1]
 rw[← hs1n] at HF;have hel1:s1.env.length≤16000:=by rw[hs1];show s.env.length≤16000;omega
 clear hp1 hs1 hs1n;replace HF:=HF.perm (List.Perm.cons _ (List.Perm.swap _ _ _));obtain⟨bva,bvn,bvc,hbv⟩:∃bva bvn bvc,p1.bv=.slice bva bvn bvc:=by
  obtain⟨x1,x2,x3,-⟩:=HF.envRow;exact⟨_,_,_,x3⟩
 have HBV:=ah hbv;clear hbv;go_wp2;refine regK [] HF (λ w h=>h.csCell) (λ wd2 HF hC=>?_) (C:=λ w'=>(∀o,w'.cell? ⟨b,o,none⟩=(#[p1.n0,p1.n1,p1.n2,p1.n3,p1.r0,p1.r1,p1.r2,p1.r3,p1.r4,.bool s1.many,p1.bv,.int .i64 s1.wo,p1.kv,.map (some p1.sm),.map (some p1.dm)]:Array Value)[o]?));refine tq4 0 1 2 3 ?_;refine tq4 4 5 6 7 ?_;refine tq4 8 9 10 11 ?_;refine dq ?_;obtain⟨M,hM⟩:∃M,M=(envR s1.n p1.em s1.env++(.mp zTy VTy m s1.n f::.blk w.heap.size #[.int .i64 13,.string eB,.int .i64 0,.slice a l.length c] 52::.el NdE (ndc 13 eB 0 a l.length c) (.mk 13 eB 0 l)::L)):=⟨_,rfl⟩
 have hO:Fr B wd2 (csK b p1 s1++M):=by rw[hM];exact HF.csOpen
 have HO:=ah hO;have HM:=ah hM;have c_cs:=HO.cell 0 rfl;rw[show csC p1 s1=#[p1.n0,p1.n1,p1.n2,p1.n3,p1.r0,p1.r1,p1.r2,p1.r3,p1.r4,.bool s1.many,p1.bv,.int .i64 s1.wo,p1.kv,.map (some p1.sm),.map (some p1.dm)] from rfl] at c_cs;clear hO HF hM;go_upto_region 4 with (at_builtin;refine Fr.pushRow info87 underlying84 rfl (by decide) (HO.alloc (q:=wd2.heap.size) rfl #[.map (some m)] 87) rfl 2 rfl hel1 _ _ rfl rfl (by rfl) (by rfl) ?_;intro g cap w3 K hKR hF;have c_c2:=hF.cell 1 rfl;have f_c2:=hF.frz 1 rfl)
 have hF2:=hF.set 1 rfl 10 (.slice (some ⟨g,0,none⟩) (s1.env.length+1) cap);rw[HM.out] at hF2;have hF3:=Fr.csPushed (p:=p1) (s:=s1) (m:=m) (f:=f) hF2 hf HS1.2.2.2.2.2;rw[HS1.out.2.2.2.2.1] at hF3;have HKR:=ah hKR;clear hF hF2 hKR c_c2 f_c2 c_cs HO HM;generalize hw4:w3.setCell ⟨b,10,none⟩ (.slice (some ⟨g,0,none⟩) (s1.env.length+1) cap)=w4 at *;have HF:=hF3;clear hF3 hw4;obtain⟨vp,hvp⟩:∃vp:Value,vp=(.slice (some ⟨g,0,none⟩) (s1.env.length+1) cap):=⟨_,rfl⟩
 rw[← hvp] at HF HKR;clear hvp;have c_n:=HF.cell 2 rfl;go_wp2;clear c_n;generalize hqn:w.heap.size=qn at *;have HX:=ah hX;have HT:=ah hT;have HSt:=ah hS;go_loopw [39] (λ iv wr=>Hid (∃(j:Nat) (u:Cs) (v:Value),j≤l.length∧iv=.int .i64 (j:Int)∧statsL (bL N) l { s with k:=s.k+1,env:=f::s.env }=statsL (bL N) (l.drop j) u∧u.k+szs (l.drop j)=s.k+1+szs l∧u.env.tail=s.env∧u.env.length=s.env.length+1∧u.wo≤40∧Fr B wr (.cs b ((p1.push vp m).at v) u::K::.blk qn #[.int .i64 13,.string eB,.int .i64 0,.slice a l.length c] 52::.el NdE (ndc 13 eB 0 a l.length c) (.mk 13 eB 0 l)::L))) (λ iv _=>l.length - (intOf iv).toNat)
 case atStart=>exact⟨0,_,p1.kv,Nat.zero_le _,rfl,rfl,rfl,rfl,rfl,hwo,HF⟩
 clear HF hqn hX hT hS;obtain⟨j,u,v,hj,rfl,hW,huk,hut,hul,huw,hfr⟩:=hrel.out;clear hrel;have HW:=ah hW;have HUT:=ah hut;have HUL:=ah hul;clear hW hut hul;by_cases hlt:j<l.length
 ·obtain⟨g1,o1,a',n',c',rfl,-,hc1,hc2,e0,e1,e2,e3,hkd⟩:=hfr.kidHere 3 rfl j hlt;have HY:Hid (l.drop j=l[j]::l.drop (j+1)):=eF hlt;have hy:l[j]∈l:=List.getElem_mem hlt;have hszy:szs (l.drop j)=sz l[j]+szs (l.drop (j+1)):=szs_at hlt;have hx:=HX _ hy;have hsty:=HT _ hy;have hszm:=eH hy;clear hy;generalize l[j]=y at *;have HF:=hkd.swap;have hli:(j:Int)<(l.length:Int):=by omega
  have HLT:=ah hlt;have hune:u.env≠[]:=λ e=>by have:=HUL.out;rw[e] at this;simp at this
  have HJ:Hid (wrap64 ((j:Int)+1)=(j:Int)+1):=by
   show _=_;have:=dS l;unfold wrap64;omega
  clear hc1 hc2 hfr hkd;replace HF:=yN HF wr.heap.size y.kind y.text y.num a' n' c';go_wp2_with fail;clear e0 e1 e2 e3;go_at_call 110;refine (HSt _ _ _ _ _ _ y _ _ _ 1 HF rfl hx hsty (by omega) (by omega) hune huw).mono ?_;rintro e w11 (⟨c1,q1,h3,rfl,hf2⟩|⟨u2,v2,h3,hk2,ht2,hl2,hw2,rfl,hf2⟩)
  ·exact⟨rfl,PBl.no (by simp only[fG,Nd.kids];rw[HW.out,HY.out];simp only[statsL,h3,CR.bind]) hf2.lose⟩
  have H3:=ah h3;have HT2:=ah ht2;have HL2:=ah hl2;replace HF:=hf2;clear h3 hf2 ht2 hl2;go_wp2;go_roundw
  case rel=>exact⟨j+1,u2,v2,HLT,by rw[HJ.out];go_num,by rw[HW.out,HY.out];simp only[statsL,H3.out,CR.bind],by omega,HT2.trans HUT,HL2.trans HUL,hw2,HF.lose⟩
  case measure=>rw[HJ.out];exact aO HLT
 have hje:j=l.length:=by omega
 subst hje;have hli:¬ ((l.length:Nat):Int)<(l.length:Int):=by omega
 rw[List.drop_length] at HW huk;obtain⟨f2,env2,hue⟩:∃f2 env2,u.env=f2::env2:=by
  cases e:u.env with
  | nil=>have:=HUL.out;rw[e] at this;simp at this
  | cons f2 env2=>exact⟨f2,env2,rfl⟩
 have he2:env2=s.env:=by have:=HUT.out;rw[hue] at this;exact this
 subst he2;have HUE:=ah hue;have huk2:u.k=s.k+1+szs l:=by simp only[szs] at huk;omega
 have HUK:=ah huk2;have HF:=hfr;clear hfr hue huk2 huk;have c_cs:=HF.csCell;rw[show csC ((p1.push vp m).at v) u=#[p1.n0,p1.n1,p1.n2,p1.n3,p1.r0,p1.r1,p1.r2,p1.r3,p1.r4,.bool u.many,vp,.int .i64 u.wo,v,.map (some p1.sm),.map (some p1.dm)] from rfl] at c_cs;have f_cs:=HF.csFrz;have hKR2:KeepR p1.bv 87 s.env.length (emV p1.em) vp K:=by
  have:=HKR.out;rw[HS1.out.2.1] at this;exact this
 replace HF:=HF.csPopped HUE hKR2 (wo:=s1.wo) (by have:=HS1.2.2.1;omega);rw[HBV.out] at HF;have hbv:=HBV.out;go_wp2;go_ret
 refine Or.inr ⟨{ u with env:=s.env,wo:=s1.wo },v,?_,HUK,rfl,HS1.2.2.1,rfl,?_⟩
 ·simp only[fG,Nd.kids];rw[HW.out,HS1.out.2.2.1];rfl
 rw[← show p1.at v=p.at v from by rw[HP1.out];rfl];exact HF.lose
theorem kidsK_k (s:Cs)(j:Nat)(f:Nd→Nat→CR T.Ty)(kd:Int):∀(l:List Nd) (acc:List T.Ty) (k:Nat),eS { s with k:=j } f kd acc l k=eS s f kd acc l k
 | [],acc,k=>rfl
 | x::l,acc,k=>by
  rw[kidsK_cons,kidsK_cons];have:(λ t=>eS { s with k:=j } f kd (acc++[t]) l (k+sz x))=λ t=>eS s f kd (acc++[t]) l (k+sz x):=funext λ t=>kidsK_k s j f kd l _ _;rw[this];rfl
theorem exprN_k (s:Cs)(j:Nat):∀(N:Nat),bJ { s with k:=j } N=bJ s N
 | 0=>rfl
 | N+1=>by
  funext n k
  show exprSC { s with k:=j } (bJ { s with k:=j } N) n k=exprSC s (bJ s N) n k;rw[exprN_k s j N];unfold exprSC;rw[kidsK_k];rfl
theorem exprC_k (s:Cs) (j:Nat) (n:Nd) (k:Nat):cM { s with k:=j } n k=cM s n k:=by
 unfold cM;rw[exprN_k]
theorem varC_eq (s:Cs) (sx:ByteArray) (tt tv:Nd) (m:Int):varC s (.mk 14 sx m [tt,tv])=varD { s with k:=s.k+1 } sx tt tv s.k:=by
 have e:s.k+sz (.mk 14 sx m [tt,tv])=s.k+1+sz tt+sz tv:=by simp only[sz,szs];omega
 unfold varC varD;rw[e];simp only[exprC_k];rfl
theorem Fr.csRes (h:Fr B w (.cs b p s::L)):Fr B w (.cs b p s::.el TyE [p.r0,p.r1,p.r2,p.r3,p.r4] s.res::L):=(h.csOpen.dup 5 rfl).csOver
theorem PSt.yes {k0 : Nat} (hq:q=.ok u) (hk:u.k=k) (he:u.env=s.env) (hw:u.wo≤40) (h:Fr B w' (.cs b (p.at v) u::L)):PSt q k B b p s L (.returned (.tuple #[])) w':=Or.inr ⟨u,v,hq,hk,by rw[he],by rw[he],hw,rfl,h⟩
theorem stat_14 (h:Fr B w (.cs b p s::L)) (i:Nat) (hi:L[i]?=some (.el NdE (ndc 14 sx 0 a 2 c) (.mk 14 sx 0 [tt,tv]))) (hX:Tx (.mk 14 sx 0 [tt,tv])) (hT:Ty tt) (hE:Ex tv) (hk:s.k+1+sz tt+sz tv≤16000) (hne:s.env≠[]) (hwo:s.wo≤40):
  Calls prog 110 #[ptr b,.agg #[.int .i64 14,.string sx,.int .i64 0,.slice a 2 c]] w (PSt (bL (N+1) s (.mk 14 sx 0 [tt,tv])) (s.k+sz (.mk 14 sx 0 [tt,tv])) B b p s L):=by
 have HF:=ah (h.dup (i+1) hi).swap;have HWO:=ah hwo;clear h hi;go_enter func110,ntmps110;replace HF:=yN HF w.heap.size 14 sx 0 a 2 c;go_wp2_with fail;go_at_call 48;refine (bA HF (by omega)).mono ?_;rintro e w1 ⟨rfl,v1,HF⟩;have c_n:=HF.cell 1 rfl;go_wp2_with fail;clear c_n;go_at_call 132;refine (var132 HF 1 rfl hX hT hE (by show s.k+1+sz tt+sz tv≤16000;omega) hne hwo (by have:=HF.csInv.n;exact this) s.k).mono ?_;have HE:Hid (bL (N+1) s (.mk 14 sx 0 [tt,tv])=varD { s with k:=s.k+1 } sx tt tv s.k):=varC_eq s sx tt tv 0;rintro e w2 (⟨c1,p1,h3,rfl,hf⟩|⟨u2,v2,h3,hk2,ht2,hl2,hw2,rfl,hf⟩)
 ·exact⟨rfl,PSt.no (HE.trans h3) hf.lose⟩
 have H3:=ah h3;have HK2:=ah hk2;have HT2:=ah ht2;have HL2:=ah hl2;have HW2:=ah hw2;replace HF:=hf;clear h3 hf hk2 ht2 hl2 hw2;go_wp2;go_end0
 refine Or.inr ⟨u2,v2,HE.trans H3,?_,HT2,HL2,HW2,rfl,HF.lose⟩;rw[HK2.out];show s.k+1+sz tt+sz tv=s.k+(1+(sz tt+(sz tv+0)));omega
theorem Fr.kidAll {k m : Int} {x : ByteArray} {n : Nat} (h:Fr B w L) (i:Nat) (hi:L[i]?=some (.el NdE (ndc k x m a n c) (.mk k x m l))) (j:Nat) (hj:j<l.length):∃g o a' n' c' cur f,a=some ⟨g,o,none⟩∧n=l.length∧n≤c∧c≤maxLen∧Fr B w (.el NdE (ndc l[j].kind l[j].text l[j].num a' n' c') l[j]::.kn g cur 52 f::L) ∧
  ∀w':World,(∀o,w'.cell? ⟨g,o,none⟩=cur[o]?)→w'.cell? ⟨g,o+j*4,none⟩=some (.int .i64 l[j].kind)∧w'.cell? ⟨g,o+j*4+1,none⟩=some (.string l[j].text)∧w'.cell? ⟨g,o+j*4+2,none⟩=some (.int .i64 l[j].num)∧w'.cell? ⟨g,o+j*4+3,none⟩=some (.slice a' n' c'):=by
 obtain⟨hn,h1⟩:=h.kids i hi;obtain⟨g,o,cur,f,a',n',c',e1,e2,e3,e4,e5,h2⟩:=h1.kidAt 0 rfl j hj;exact⟨g,o,a',n',c',cur,f,e1,e2,e3,e4,h2.perm (List.Perm.refl _) |>.lose,λ w' hc=>⟨(hc _).trans (e5 0 (by omega)),(hc _).trans (e5 1 (by omega)),(hc _).trans (e5 2 (by omega)),(hc _).trans (e5 3 (by omega))⟩⟩
section
variable (h:Fr B w (.cs b p s::L))
include h
theorem stat_15 (i:Nat) {q1 : Nd} (hi:L[i]?=some (.el NdE (ndc 15 sx 0 a 2 c) (.mk 15 sx 0 [q0,q1]))) (hX:Tx (.mk 15 sx 0 [q0,q1])) (hE0:Ex q0) (hE1:Ex q1) (hk:s.k+1+sz q0+sz q1≤16000) (hne:s.env≠[]) (hwo:s.wo≤40):
  Calls prog 110 #[ptr b,.agg #[.int .i64 15,.string sx,.int .i64 0,.slice a 2 c]] w (PSt (bL (N+1) s (.mk 15 sx 0 [q0,q1])) (s.k+sz (.mk 15 sx 0 [q0,q1])) B b p s L):=by
 have HF:=ah (h.dup (i+1) hi).swap;have HWO:=ah hwo;have hx0:=hX.kids q0 (by simp [Nd.kids]);have hx1:=hX.kids q1 (by simp [Nd.kids]);have HE:Hid (bL (N+1) s (.mk 15 sx 0 [q0,q1])=(cM s q0 (s.k+1)).bind λ p=>(cM s q1 (s.k+1+sz q0)).bind λ v=>askC (same p v) 3 s.k (.ok { s with k:=s.k+sz (.mk 15 sx 0 [q0,q1]) })):=rfl;clear h hi;go_enter func110,ntmps110;replace HF:=yN HF w.heap.size 15 sx 0 a 2 c;go_wp2_with fail;go_at_call 48;refine (bA HF (by omega)).mono ?_;rintro e w1 ⟨rfl,v1,HF⟩;obtain⟨g_q0,o_q0,a_q0,n_q0,c_q0,ha,-,hc1,hc2,e0,e1,e2,e3,hf⟩:=HF.kidHere 2 rfl 0 (by simp);subst ha;simp only[Nat.zero_mul,Nat.one_mul,Nat.add_zero,List.getElem_cons_zero,List.getElem_cons_succ] at e0 e1 e2 e3 hf;replace HF:=ah hf.swap;clear hf hc1 hc2;have c_n:=HF.cell 2 rfl;go_wp2_with fail;clear c_n;clear e0 e1 e2 e3;go_at_call 133;refine (fT (s:=s) HF 0 rfl hx0 hE0 (by omega)).mono ?_;rintro e w2 (⟨c1,p1,h3,rfl,hf⟩|⟨t,v2,nm_t,a_t,c_t,pa_t,pc_t,h3,hmt,rfl,hf⟩)
 ·exact⟨rfl,PSt.no (by rw[HE.out];simp only[h3,CR.bind]) hf.lose⟩
 have H2:=ah h3;replace HF:=hf;clear h3 hf;replace HF:=yT HF w2.heap.size (tyk t) nm_t a_t (tnn t) c_t pa_t (tpn t) pc_t (tmy t);obtain⟨g9,o9,a_q1,n_q1,c_q1,cur9,f9,ha,-,hc1,hc2,hf,hk9⟩:=HF.kidAll 5 rfl 1 (by simp);cases ha;simp only[Nat.one_mul,List.getElem_cons_zero,List.getElem_cons_succ] at hf hk9;replace HF:=hf.perm (List.perm_middle (l₁:=[_,_]));clear hf hc1 hc2;go_wp2;refine regK [] HF (λ w h=>aI (h.cell 3 rfl) (aI (h.cell 6 rfl) (hk9 _ (h.knc 2 rfl)))) (λ wd3 HF hC=>?_);refine tq4 0 1 2 3 ?_;refine tq3 4 5 8 ?_;refine rq 6 λ K hK=>?_;go_simp;refine (fT (s:=s) HF 0 rfl hx1 hE1 (by omega)).mono ?_;rintro e w4 (⟨c1,p1,h3,rfl,hf⟩|⟨v,v4,nm_v,a_v,c_v,pa_v,pc_v,h3,hmv,rfl,hf⟩)
 ·exact⟨rfl,PSt.no (by rw[HE.out];simp only[H2.out,h3,CR.bind]) hf.lose⟩
 have H4:=ah h3;replace HF:=hf;clear h3 hf;refine uq hK ⟨(HF.cell 4 rfl),(HF.cell 7 rfl),(hk9 _ (HF.knc 3 rfl))⟩ λ hC=>?_;refine rq 7 λ K hK=>?_;go_simp;refine (same74 HF 5 1 rfl rfl).mono ?_;rintro e w5 ⟨rfl,HF⟩;refine uq hK ⟨(HF.cell 4 rfl),(HF.cell 7 rfl),(hk9 _ (HF.knc 3 rfl))⟩ λ hC=>?_;try simp only[qq]
 cases hq:same t v
 ·have HQ:=ah hq;clear hq;refine rq 9 λ K hK=>?_;go_simp;refine (aU HF 3 s.k).mono ?_;rintro e w6 ⟨rfl,hf⟩;exact⟨rfl,PSt.no (by rw[HE.out];simp only[H2.out,H4.out,CR.bind,HQ.out,askC,Bool.false_eq_true,if_false]) hf.lose⟩
 have HQ:=ah hq;clear hq;refine rq 9 λ K hK=>?_;go_simp;refine (aL HF 3 s.k).mono ?_;rintro e w6 ⟨rfl,HF⟩;refine uq hK ⟨(HF.cell 4 rfl),(HF.cell 7 rfl),(hk9 _ (HF.knc 3 rfl))⟩ λ hC=>?_;refine dq ?_;go_wp2;go_end0
 refine PSt.yes (k0:=0) (u:={ s with k:=s.k+1+sz q0+sz q1 }) (v:=_) ?_ ?_ rfl HWO HF.lose
 ·rw[HE.out];simp only[H2.out,H4.out,CR.bind,HQ.out,askC,if_true];congr 2;simp only[sz,szs];omega
 simp only[sz,szs];omega
theorem stat_19 (i:Nat) (hi:L[i]?=some (.el NdE (ndc 19 sx 0 a 1 c) (.mk 19 sx 0 [q0]))) (hX:Tx (.mk 19 sx 0 [q0])) (hE0:Ex q0) (hk:s.k+1+sz q0≤16000) (hne:s.env≠[]) (hwo:s.wo≤40):
  Calls prog 110 #[ptr b,.agg #[.int .i64 19,.string sx,.int .i64 0,.slice a 1 c]] w (PSt (bL (N+1) s (.mk 19 sx 0 [q0])) (s.k+sz (.mk 19 sx 0 [q0])) B b p s L):=by
 have HF:=ah (h.dup (i+1) hi).swap;have HWO:=ah hwo;have hx0:=hX.kids q0 (by simp [Nd.kids]);have HE:Hid (bL (N+1) s (.mk 19 sx 0 [q0])=(cM s q0 (s.k+1)).bind λ t=>askC (cA t) 3 s.k (.ok { s with k:=s.k+sz (.mk 19 sx 0 [q0]) })):=rfl;clear h hi;go_enter func110,ntmps110;replace HF:=yN HF w.heap.size 19 sx 0 a 1 c;go_wp2_with fail;go_at_call 48;refine (bA HF (by omega)).mono ?_;rintro e w1 ⟨rfl,v1,HF⟩;obtain⟨g_q0,o_q0,a_q0,n_q0,c_q0,ha,-,hc1,hc2,e0,e1,e2,e3,hf⟩:=HF.kidHere 2 rfl 0 (by simp);subst ha;simp only[Nat.zero_mul,Nat.one_mul,Nat.add_zero,List.getElem_cons_zero,List.getElem_cons_succ] at e0 e1 e2 e3 hf;replace HF:=ah hf.swap;clear hf hc1 hc2;have c_n:=HF.cell 2 rfl;go_wp2_with fail;clear c_n;clear e0 e1 e2 e3;go_at_call 133;refine (fT (s:=s) HF 0 rfl hx0 hE0 (by omega)).mono ?_;rintro e w2 (⟨c1,p1,h3,rfl,hf⟩|⟨t,v2,nm_t,a_t,c_t,pa_t,pc_t,h3,hmt,rfl,hf⟩)
 ·exact⟨rfl,PSt.no (by rw[HE.out];simp only[h3,CR.bind]) hf.lose⟩
 have H2:=ah h3;replace HF:=hf;clear h3 hf;go_wp2_with fail;go_at_call 73;refine (eT HF 1 rfl).mono ?_;rintro e w9 ⟨rfl,HF⟩;cases hq:cA t
 ·have HQ:=ah hq;clear hq;go_wp2_with fail;go_at_call 69;refine (aU HF 3 s.k).mono ?_;rintro e w10 ⟨rfl,hf⟩;exact⟨rfl,PSt.no (by rw[HE.out];simp only[H2.out,CR.bind,HQ.out,askC,Bool.false_eq_true,if_false]) hf.lose⟩
 have HQ:=ah hq;clear hq;go_wp2_with fail;go_at_call 69;refine (aL HF 3 s.k).mono ?_;rintro e w10 ⟨rfl,HF⟩;go_wp2;go_end0
 refine PSt.yes (k0:=0) (u:={ s with k:=s.k+1+sz q0 }) (v:=_) ?_ ?_ rfl HWO HF.lose
 ·rw[HE.out];simp only[H2.out,CR.bind,HQ.out,askC,if_true];congr 2;simp only[sz,szs];omega
 simp only[sz,szs];omega
theorem stat_20 (i:Nat) (hi:L[i]?=some (.el NdE (ndc 20 sx 0 a 1 c) (.mk 20 sx 0 [q0]))) (hX:Tx (.mk 20 sx 0 [q0])) (hE0:Ex q0) (hk:s.k+1+sz q0≤16000) (hne:s.env≠[]) (hwo:s.wo≤40):
  Calls prog 110 #[ptr b,.agg #[.int .i64 20,.string sx,.int .i64 0,.slice a 1 c]] w (PSt (bL (N+1) s (.mk 20 sx 0 [q0])) (s.k+sz (.mk 20 sx 0 [q0])) B b p s L):=by
 have HF:=ah (h.dup (i+1) hi).swap;have HWO:=ah hwo;have hx0:=hX.kids q0 (by simp [Nd.kids]);have HE:Hid (bL (N+1) s (.mk 20 sx 0 [q0])=(cM s q0 (s.k+1)).bind λ t=>.ok { s with k:=s.k+sz (.mk 20 sx 0 [q0]) }):=rfl;clear h hi;go_enter func110,ntmps110;replace HF:=yN HF w.heap.size 20 sx 0 a 1 c;go_wp2_with fail;go_at_call 48;refine (bA HF (by omega)).mono ?_;rintro e w1 ⟨rfl,v1,HF⟩;obtain⟨g_q0,o_q0,a_q0,n_q0,c_q0,ha,-,hc1,hc2,e0,e1,e2,e3,hf⟩:=HF.kidHere 2 rfl 0 (by simp);subst ha;simp only[Nat.zero_mul,Nat.one_mul,Nat.add_zero,List.getElem_cons_zero,List.getElem_cons_succ] at e0 e1 e2 e3 hf;replace HF:=ah hf.swap;clear hf hc1 hc2;have c_n:=HF.cell 2 rfl;go_wp2_with fail;clear c_n;clear e0 e1 e2 e3;go_at_call 133;refine (fT (s:=s) HF 0 rfl hx0 hE0 (by omega)).mono ?_;rintro e w2 (⟨c1,p1,h3,rfl,hf⟩|⟨t,v2,nm_t,a_t,c_t,pa_t,pc_t,h3,hmt,rfl,hf⟩)
 ·exact⟨rfl,PSt.no (by rw[HE.out];simp only[h3,CR.bind]) hf.lose⟩
 have H2:=ah h3;replace HF:=hf;clear h3 hf;go_wp2;go_end0
 refine PSt.yes (k0:=0) (u:={ s with k:=s.k+1+sz q0 }) (v:=_) ?_ ?_ rfl HWO HF.lose
 ·rw[HE.out];simp only[H2.out,CR.bind,askC];congr 2;simp only[sz,szs];omega
 simp only[sz,szs];omega
theorem Fr.res5:w.cell? ⟨b,4,none⟩=some p.r0∧w.cell? ⟨b,5,none⟩=some p.r1∧w.cell? ⟨b,6,none⟩=some p.r2∧w.cell? ⟨b,7,none⟩=some p.r3∧w.cell? ⟨b,8,none⟩=some p.r4:=⟨h.csCell 4,h.csCell 5,h.csCell 6,h.csCell 7,h.csCell 8⟩
theorem stat_18 (i:Nat) (hi:L[i]?=some (.el NdE (ndc 18 sx 0 a 1 c) (.mk 18 sx 0 [q0]))) (hX:Tx (.mk 18 sx 0 [q0])) (hE0:Ex q0) (hk:s.k+1+sz q0≤16000) (hne:s.env≠[]) (hwo:s.wo≤40):
  Calls prog 110 #[ptr b,.agg #[.int .i64 18,.string sx,.int .i64 0,.slice a 1 c]] w (PSt (bL (N+1) s (.mk 18 sx 0 [q0])) (s.k+sz (.mk 18 sx 0 [q0])) B b p s L):=by
 have HF:=ah (h.dup (i+1) hi).swap;have HWO:=ah hwo;have hx0:=hX.kids q0 (by simp [Nd.kids]);have HE:Hid (bL (N+1) s (.mk 18 sx 0 [q0])=(cM s q0 (s.k+1)).bind λ t=>askC (same t s.res) 3 s.k (.ok { s with k:=s.k+sz (.mk 18 sx 0 [q0]) })):=rfl;clear h hi;go_enter func110,ntmps110;replace HF:=yN HF w.heap.size 18 sx 0 a 1 c;go_wp2_with fail;go_at_call 48;refine (bA HF (by omega)).mono ?_;rintro e w1 ⟨rfl,v1,HF⟩;obtain⟨g_q0,o_q0,a_q0,n_q0,c_q0,cur9,f9,ha,-,hc1,hc2,hf,hk9⟩:=HF.kidAll 2 rfl 0 (by simp);subst ha;simp only[Nat.zero_mul,Nat.add_zero,List.getElem_cons_zero] at hf hk9;replace HF:=hf.perm (List.perm_middle (l₁:=[_,_]));clear hf hc1 hc2;have c_n:=HF.cell 3 rfl;go_wp2_with fail;clear c_n;go_wp2;refine regK [] HF (λ w h=>aI (h.cell 3 rfl) (aI (hk9 _ (h.knc 2 rfl)) (h.res5))) (λ wd2 HF hC=>?_);refine tq4 0 1 2 3 ?_;refine tq4 4 6 7 8 ?_;refine tq3 9 10 12 ?_;refine rq 5 λ K hK=>?_;go_simp;refine (fT (s:=s) HF 0 rfl hx0 hE0 (by omega)).mono ?_;rintro e w3 (⟨c1,p1,h3,rfl,hf⟩|⟨t,v3,nm_t,a_t,c_t,pa_t,pc_t,h3,hmt,rfl,hf⟩)
 ·exact⟨rfl,PSt.no (by rw[HE.out];simp only[h3,CR.bind]) hf.lose⟩
 have H3:=ah h3;replace HF:=hf;clear h3 hf;refine uq hK ⟨(HF.cell 4 rfl),(hk9 _ (HF.knc 3 rfl)),HF.res5⟩ λ hC=>?_;refine rq 11 λ K hK=>?_;replace HF:=ah HF.csRes;go_simp;refine (same74 HF 2 1 rfl rfl).mono ?_;rintro e w4 ⟨rfl,HF⟩;refine uq hK ⟨(HF.cell 5 rfl),(hk9 _ (HF.knc 4 rfl)),HF.res5⟩ λ hC=>?_;try simp only[qq]
 cases hq:same t s.res
 ·have HQ:=ah hq;clear hq;refine rq 13 λ K hK=>?_;go_simp;refine (aU HF 3 s.k).mono ?_;rintro e w5 ⟨rfl,hf⟩;exact⟨rfl,PSt.no (by rw[HE.out];simp only[H3.out,CR.bind,HQ.out,askC,Bool.false_eq_true,if_false]) hf.lose⟩
 have HQ:=ah hq;clear hq;refine rq 13 λ K hK=>?_;go_simp;refine (aL HF 3 s.k).mono ?_;rintro e w5 ⟨rfl,HF⟩;refine uq hK ⟨(HF.cell 5 rfl),(hk9 _ (HF.knc 4 rfl)),HF.res5⟩ λ hC=>?_;refine dq ?_;go_wp2;go_end0
 refine PSt.yes (k0:=0) (u:={ s with k:=s.k+1+sz q0 }) (v:=_) ?_ ?_ rfl HWO HF.lose
 ·rw[HE.out];simp only[H3.out,CR.bind,HQ.out,askC,if_true];congr 2;simp only[sz,szs];omega
 simp only[sz,szs];omega
end
theorem stat_16 (hS:StH N) (h:Fr B w (.cs b p s::L)) (i:Nat) (hi:L[i]?=some (.el NdE (ndc 16 sx 0 a (bs.length+1) c) (.mk 16 sx 0 (q0::bs)))) (hX:Tx (.mk 16 sx 0 (q0::bs))) (hE0:Ex q0) (hb1:1≤bs.length) (hB:∀x,x∈bs→∃l,x=.mk 13 eB 0 l∧∀y,y∈l→St y) (hN:szs bs≤N) (hk:s.k+1+sz q0+szs bs≤16000) (hne:s.env≠[]) (hwo:s.wo≤40):
  Calls prog 110 #[ptr b,.agg #[.int .i64 16,.string sx,.int .i64 0,.slice a (bs.length+1) c]] w (PSt (bL (N+1) s (.mk 16 sx 0 (q0::bs))) (s.k+sz (.mk 16 sx 0 (q0::bs))) B b p s L):=by
 have HF:=ah (h.dup (i+1) hi).swap;have HWO:=ah hwo;have hx0:=hX.kids q0 (by simp [Nd.kids]);have HXB:Hid (∀x,x∈bs→Tx x):=λ x hx=>hX.kids x (by simp [Nd.kids,hx]);have HE:Hid (bL (N+1) s (.mk 16 sx 0 (q0::bs))=(cM s q0 (s.k+1)).bind λ t=>(bQ (bL N) bs { s with k:=s.k+1+sz q0 }).bind λ u=>askC (decide (tyk t=1)) 3 s.k (.ok u)):=rfl;clear h hi;have hmm:=@run_makeMap prog;go_enter func110,ntmps110;replace HF:=yN HF w.heap.size 16 sx 0 a (bs.length+1) c;go_wp2_with fail;go_at_call 48;refine (bA HF (by omega)).mono ?_;rintro e w1 ⟨rfl,v1,HF⟩;obtain⟨g0,o0,a_q0,n_q0,c_q0,ha,-,hc1,hc2,e0,e1,e2,e3,hf⟩:=HF.kidHere 2 rfl 0 (by simp);subst ha;simp only[Nat.zero_mul,Nat.add_zero,List.getElem_cons_zero,List.length_cons] at e0 e1 e2 e3 hf hc1;have hl0:(0:Int)<(bs.length:Int)+1:=by omega
 replace HF:=ah hf.swap;clear hf;have c_n:=HF.cell 2 rfl;go_wp2_with fail;clear c_n;clear e0 e1 e2 e3;go_at_call 133;refine (fT (s:=s) HF 0 rfl hx0 hE0 (by omega)).mono ?_;rintro e w2 (⟨c1,p1,h3,rfl,hf⟩|⟨t,v2,nm_t,a_t,c_t,pa_t,pc_t,h3,hmt,rfl,hf⟩)
 ·exact⟨rfl,PSt.no (by rw[HE.out];simp only[h3,CR.bind]) hf.lose⟩
 have H2:=ah h3;replace HF:=hf;clear h3 hf;replace HF:=yT HF w2.heap.size (tyk t) nm_t a_t (tnn t) c_t pa_t (tpn t) pc_t (tmy t);have hc3:¬ c=1:=by omega
 have h1l:(1:Int)≤(bs.length:Int)+1:=by omega
 have hcm:(c:Int)≤9223372036854775807:=by unfold maxLen at hc2;omega
 have c_n:=HF.cell 4 rfl;go_wp2;clear c_n;generalize hqt:w2.heap.size=qt at *;generalize hqn:w.heap.size=qn at *;generalize hw9:w2.alloc (.cells #[.int .i64 (tyk t),.string nm_t,.slice a_t (tnn t) c_t,.slice pa_t (tpn t) pc_t,.bool (tmy t)] 83)=w9 at *;have HSt:=ah hS;have HBs:=ah hB;go_loopw [50] (λ iv wr=>Hid (∃(j:Nat) (u:Cs) (v:Value),j≤bs.length∧iv=.int .i64 (j:Int)∧bQ (bL N) bs { s with k:=s.k+1+sz q0 }=bQ (bL N) (bs.drop j) u∧u.k+szs (bs.drop j)=s.k+1+sz q0+szs bs∧u.env=s.env∧u.wo=s.wo∧Fr B wr (.cs b (p.at v) u::.blk qt #[.int .i64 (tyk t),.string nm_t,.slice a_t (tnn t) c_t,.slice pa_t (tpn t) pc_t,.bool (tmy t)] 83::.el TyE [.int .i64 (tyk t),.string nm_t,.slice a_t (tnn t) c_t,.slice pa_t (tpn t) pc_t,.bool (tmy t)] t::.blk qn #[.int .i64 16,.string sx,.int .i64 0,.slice (some ⟨g0,o0,none⟩) (bs.length+1) c] 52::.el NdE (ndc 16 sx 0 (some ⟨g0,o0,none⟩) (bs.length+1) c) (.mk 16 sx 0 (q0::bs))::L))) (λ iv _=>bs.length - (intOf iv).toNat)
 case atStart=>exact⟨0,_,v2,Nat.zero_le _,rfl,rfl,rfl,rfl,rfl,HF.lose⟩
 clear HF hqt hqn hw9 hS hB;obtain⟨j,u,v,hj,rfl,hW,huk,hue,huw,hfr⟩:=hrel.out;clear hrel;have HW:=ah hW;have HUE:=ah hue;have HUW:=ah huw;clear hW hue huw;by_cases hlt:j<bs.length
 ·obtain⟨g1,o1,a',n',c',he1,-,-,-,e0,e1,e2,e3,hkd⟩:=hfr.kidHere 4 rfl (j+1) (by simp;omega);cases he1;simp only[List.getElem_cons_succ] at e0 e1 e2 e3 hkd;rw[show o0+(j+1)*4=o0+4+j*4 by omega] at e0 e1 e2 e3;have HY:Hid (bs.drop j=bs[j]::bs.drop (j+1)):=eF hlt;have hy:bs[j]∈bs:=List.getElem_mem hlt;have hszy:szs (bs.drop j)=sz bs[j]+szs (bs.drop (j+1)):=szs_at hlt;have hx:=HXB _ hy;obtain⟨lb,hlb,hst⟩:=HBs _ hy;have hszm:=eH hy;clear hy;generalize bs[j]=y at *;subst hlb;have hsy:sz (.mk 13 eB 0 lb)=1+szs lb:=rfl;rw[hsy] at hszy hszm;simp only[Nd.kind,Nd.text,Nd.num] at e0 e1 e2 e3 hkd;have HF:=hkd.swap;have hli:(j:Int)<(bs.length:Int):=by omega
  have HLT:=ah hlt;have hul:u.env.length≤u.k:=HF.csInv.el;have huwo:u.wo≤40:=by rw[HUW.out];exact HWO
  have HJ:Hid (wrap64 ((j:Int)+1)=(j:Int)+1):=by
   show _=_;have:=dS bs;unfold wrap64;omega
  clear hfr hkd hsy;replace HF:=yN HF wr.heap.size 13 eB 0 a' n' c';replace HF:=(HF.mpMade VTy zTy u.n (q:=wr.heap.size+1) (by simp)).swap;go_wp2_with fail;clear e0 e1 e2 e3;go_at_call 77;refine (block77 HSt HF 1 rfl hx.kids hst (by omega) (by omega) (λ x t h=>by cases h) hul huwo).mono ?_;rintro e w11 (⟨c1,q1,h3,rfl,hf2⟩|⟨u2,v2,h3,hk2,he2,hw2,rfl,hf2⟩)
  ·exact⟨rfl,PSt.no (by rw[HE.out];simp only[H2.out,CR.bind];rw[HW.out,HY.out];simp only[bQ,h3,CR.bind]) hf2.lose⟩
  have H3:=ah h3;have HE2:=ah he2;have HW2:=ah hw2;replace HF:=hf2;clear h3 hf2 he2 hw2;go_wp2;go_roundw
  case rel=>exact⟨j+1,u2,v2,HLT,by first|(rw[HJ.out];go_num)|go_num,by rw[HW.out,HY.out];simp only[bQ,H3.out,CR.bind],by omega,HE2.trans HUE,HW2.trans HUW,HF.lose⟩
  case measure=>first|(rw[HJ.out];exact aO HLT)|exact aO HLT
 have hje:j=bs.length:=by omega
 subst hje;have hli:¬ ((bs.length:Nat):Int)<(bs.length:Int):=by omega
 rw[List.drop_length] at HW huk;have huk2:u.k=s.k+sz (.mk 16 sx 0 (q0::bs)):=by simp only[szs,sz] at huk ⊢;omega
 have HUK:=ah huk2;have HF:=hfr;clear hfr huk2 huk;have c_b6:=HF.cell 1 rfl;by_cases h1:tyk t=1
 ·have hk:(tyk t == 1)=true:=by simpa using h1
  have H1:=ah h1;clear h1;go_wp2_with fail;clear c_b6;go_at_call 69;refine (aL HF 3 s.k).mono ?_;rintro e w11 ⟨rfl,hf⟩;replace HF:=hf;clear hf hk;go_wp2;go_end0
  refine PSt.yes (k0:=0) (u:=u) (v:=v) ?_ HUK HUE (by rw[HUW.out];exact HWO) HF.lose;rw[HE.out];simp only[H2.out,CR.bind];rw[HW.out];simp only[bQ,CR.bind,askC,decide_eq_true H1.out,if_true]
 have hk:(tyk t == 1)=false:=by simpa using h1
 have H1:=ah h1;clear h1;go_wp2_with fail;clear c_b6;go_at_call 69;refine (aU HF 3 s.k).mono ?_;rintro e w11 ⟨rfl,hf⟩;exact⟨rfl,PSt.no (by rw[HE.out];simp only[H2.out,CR.bind];rw[HW.out];simp only[bQ,CR.bind,askC,decide_eq_false H1.out,Bool.false_eq_true,if_false]) hf.lose⟩
theorem stat_17 (hS:StH N) (h:Fr B w (.cs b p s::L)) (i:Nat) (hi:L[i]?=some (.el NdE (ndc 17 sx 0 a (bs.length+1) c) (.mk 17 sx 0 (q0::bs)))) (hX:Tx (.mk 17 sx 0 (q0::bs))) (hE0:Ex q0) (hb1:1≤bs.length) (hB:∀x,x∈bs→∃l,x=.mk 13 eB 0 l∧∀y,y∈l→St y) (hN:szs bs≤N) (hk:s.k+1+sz q0+szs bs≤16000) (hne:s.env≠[]) (hwo:s.wo≤40):
  Calls prog 110 #[ptr b,.agg #[.int .i64 17,.string sx,.int .i64 0,.slice a (bs.length+1) c]] w (PSt (bL (N+1) s (.mk 17 sx 0 (q0::bs))) (s.k+sz (.mk 17 sx 0 (q0::bs))) B b p s L):=by
 have HF:=ah (h.dup (i+1) hi).swap;have HWO:=ah hwo;have hx0:=hX.kids q0 (by simp [Nd.kids]);have HXB:Hid (∀x,x∈bs→Tx x):=λ x hx=>hX.kids x (by simp [Nd.kids,hx]);have HE:Hid (bL (N+1) s (.mk 17 sx 0 (q0::bs))=(cM s q0 (s.k+1)).bind λ t=>(bQ (bL N) bs { s with k:=s.k+1+sz q0 }).bind λ u=>askC (decide (tyk t=1)) 3 s.k (.ok u)):=rfl;clear h hi;have hmm:=@run_makeMap prog;go_enter func110,ntmps110;replace HF:=yN HF w.heap.size 17 sx 0 a (bs.length+1) c;go_wp2_with fail;go_at_call 48;refine (bA HF (by omega)).mono ?_;rintro e w1 ⟨rfl,v1,HF⟩;obtain⟨g0,o0,a_q0,n_q0,c_q0,ha,-,hc1,hc2,e0,e1,e2,e3,hf⟩:=HF.kidHere 2 rfl 0 (by simp);subst ha;simp only[Nat.zero_mul,Nat.add_zero,List.getElem_cons_zero,List.length_cons] at e0 e1 e2 e3 hf hc1;have hl0:(0:Int)<(bs.length:Int)+1:=by omega
 replace HF:=ah hf.swap;clear hf;have c_n:=HF.cell 2 rfl;go_wp2_with fail;clear c_n;clear e0 e1 e2 e3;go_at_call 133;refine (fT (s:=s) HF 0 rfl hx0 hE0 (by omega)).mono ?_;rintro e w2 (⟨c1,p1,h3,rfl,hf⟩|⟨t,v2,nm_t,a_t,c_t,pa_t,pc_t,h3,hmt,rfl,hf⟩)
 ·exact⟨rfl,PSt.no (by rw[HE.out];simp only[h3,CR.bind]) hf.lose⟩
 have H2:=ah h3;replace HF:=hf;clear h3 hf;replace HF:=yT HF w2.heap.size (tyk t) nm_t a_t (tnn t) c_t pa_t (tpn t) pc_t (tmy t);have hc3:¬ c=1:=by omega
 have h1l:(1:Int)≤(bs.length:Int)+1:=by omega
 have hcm:(c:Int)≤9223372036854775807:=by unfold maxLen at hc2;omega
 have c_n:=HF.cell 4 rfl;go_wp2;clear c_n;generalize hqt:w2.heap.size=qt at *;generalize hqn:w.heap.size=qn at *;generalize hw9:w2.alloc (.cells #[.int .i64 (tyk t),.string nm_t,.slice a_t (tnn t) c_t,.slice pa_t (tpn t) pc_t,.bool (tmy t)] 83)=w9 at *;have HSt:=ah hS;have HBs:=ah hB;go_loopw [50] (λ iv wr=>Hid (∃(j:Nat) (u:Cs) (v:Value),j≤bs.length∧iv=.int .i64 (j:Int)∧bQ (bL N) bs { s with k:=s.k+1+sz q0 }=bQ (bL N) (bs.drop j) u∧u.k+szs (bs.drop j)=s.k+1+sz q0+szs bs∧u.env=s.env∧u.wo=s.wo∧Fr B wr (.cs b (p.at v) u::.blk qt #[.int .i64 (tyk t),.string nm_t,.slice a_t (tnn t) c_t,.slice pa_t (tpn t) pc_t,.bool (tmy t)] 83::.el TyE [.int .i64 (tyk t),.string nm_t,.slice a_t (tnn t) c_t,.slice pa_t (tpn t) pc_t,.bool (tmy t)] t::.blk qn #[.int .i64 17,.string sx,.int .i64 0,.slice (some ⟨g0,o0,none⟩) (bs.length+1) c] 52::.el NdE (ndc 17 sx 0 (some ⟨g0,o0,none⟩) (bs.length+1) c) (.mk 17 sx 0 (q0::bs))::L))) (λ iv _=>bs.length - (intOf iv).toNat)
 case atStart=>exact⟨0,_,v2,Nat.zero_le _,rfl,rfl,rfl,rfl,rfl,HF.lose⟩
 clear HF hqt hqn hw9 hS hB;obtain⟨j,u,v,hj,rfl,hW,huk,hue,huw,hfr⟩:=hrel.out;clear hrel;have HW:=ah hW;have HUE:=ah hue;have HUW:=ah huw;clear hW hue huw;by_cases hlt:j<bs.length
 ·obtain⟨g1,o1,a',n',c',he1,-,-,-,e0,e1,e2,e3,hkd⟩:=hfr.kidHere 4 rfl (j+1) (by simp;omega);cases he1;simp only[List.getElem_cons_succ] at e0 e1 e2 e3 hkd;rw[show o0+(j+1)*4=o0+4+j*4 by omega] at e0 e1 e2 e3;have HY:Hid (bs.drop j=bs[j]::bs.drop (j+1)):=eF hlt;have hy:bs[j]∈bs:=List.getElem_mem hlt;have hszy:szs (bs.drop j)=sz bs[j]+szs (bs.drop (j+1)):=szs_at hlt;have hx:=HXB _ hy;obtain⟨lb,hlb,hst⟩:=HBs _ hy;have hszm:=eH hy;clear hy;generalize bs[j]=y at *;subst hlb;have hsy:sz (.mk 13 eB 0 lb)=1+szs lb:=rfl;rw[hsy] at hszy hszm;simp only[Nd.kind,Nd.text,Nd.num] at e0 e1 e2 e3 hkd;have HF:=hkd.swap;have hli:(j:Int)<(bs.length:Int):=by omega
  have HLT:=ah hlt;have hul:u.env.length≤u.k:=HF.csInv.el;have huwo:u.wo≤40:=by rw[HUW.out];exact HWO
  have HJ:Hid (wrap64 ((j:Int)+1)=(j:Int)+1):=by
   show _=_;have:=dS bs;unfold wrap64;omega
  clear hfr hkd hsy;replace HF:=yN HF wr.heap.size 13 eB 0 a' n' c';replace HF:=(HF.mpMade VTy zTy u.n (q:=wr.heap.size+1) (by simp)).swap;go_wp2_with fail;clear e0 e1 e2 e3;go_at_call 77;refine (block77 HSt HF 1 rfl hx.kids hst (by omega) (by omega) (λ x t h=>by cases h) hul huwo).mono ?_;rintro e w11 (⟨c1,q1,h3,rfl,hf2⟩|⟨u2,v2,h3,hk2,he2,hw2,rfl,hf2⟩)
  ·exact⟨rfl,PSt.no (by rw[HE.out];simp only[H2.out,CR.bind];rw[HW.out,HY.out];simp only[bQ,h3,CR.bind]) hf2.lose⟩
  have H3:=ah h3;have HE2:=ah he2;have HW2:=ah hw2;replace HF:=hf2;clear h3 hf2 he2 hw2;go_wp2;go_roundw
  case rel=>exact⟨j+1,u2,v2,HLT,by first|(rw[HJ.out];go_num)|go_num,by rw[HW.out,HY.out];simp only[bQ,H3.out,CR.bind],by omega,HE2.trans HUE,HW2.trans HUW,HF.lose⟩
  case measure=>first|(rw[HJ.out];exact aO HLT)|exact aO HLT
 have hje:j=bs.length:=by omega
 subst hje;have hli:¬ ((bs.length:Nat):Int)<(bs.length:Int):=by omega
 rw[List.drop_length] at HW huk;have huk2:u.k=s.k+sz (.mk 17 sx 0 (q0::bs)):=by simp only[szs,sz] at huk ⊢;omega
 have HUK:=ah huk2;have HF:=hfr;clear hfr huk2 huk;have c_b6:=HF.cell 1 rfl;by_cases h1:tyk t=1
 ·have hk:(tyk t == 1)=true:=by simpa using h1
  have H1:=ah h1;clear h1;go_wp2_with fail;clear c_b6;go_at_call 69;refine (aL HF 3 s.k).mono ?_;rintro e w11 ⟨rfl,hf⟩;replace HF:=hf;clear hf hk;go_wp2;go_end0
  refine PSt.yes (k0:=0) (u:=u) (v:=v) ?_ HUK HUE (by rw[HUW.out];exact HWO) HF.lose;rw[HE.out];simp only[H2.out,CR.bind];rw[HW.out];simp only[bQ,CR.bind,askC,decide_eq_true H1.out,if_true]
 have hk:(tyk t == 1)=false:=by simpa using h1
 have H1:=ah h1;clear h1;go_wp2_with fail;clear c_b6;go_at_call 69;refine (aU HF 3 s.k).mono ?_;rintro e w11 ⟨rfl,hf⟩;exact⟨rfl,PSt.no (by rw[HE.out];simp only[H2.out,CR.bind];rw[HW.out];simp only[bQ,CR.bind,askC,decide_eq_false H1.out,Bool.false_eq_true,if_false]) hf.lose⟩
theorem st_all:∀(N:Nat),StH N:=by
 intro N;induction N with
 | zero=>
  intro B w b p s L n a kn c i h hi hX hT hN hk hne hwo;have:=fX n;omega
 | succ N ih=>
  intro B w b p s L n a kn c i h hi hX hT hN hk hne hwo;have hkn:kn=n.kids.length:=by
   cases n;exact (h.kids (i+1) hi).1
  subst hkn;have bl:∀l:List Nd,(∀x,x∈l→St x)→∃l',Nd.mk 13 eB 0 l=.mk 13 eB 0 l'∧∀y,y∈l'→St y:=λ l hl=>⟨l,rfl,hl⟩
  have bl2:∀l k:List Nd,(∀x,x∈l→St x)→(∀x,x∈k→St x)→∀x,x∈[Nd.mk 13 eB 0 l,Nd.mk 13 eB 0 k]→∃l',x=Nd.mk 13 eB 0 l'∧∀y,y∈l'→St y:=by
   intro l k hl hk x hx;have:x=.mk 13 eB 0 l∨x=.mk 13 eB 0 k:=by simpa using hx
   rcases this with rfl|rfl
   ·exact bl l hl
   exact bl k hk
  cases hT with
  | var sx t x ht hx=>exact stat_14 h i hi hX ht hx (by simp only[sz,szs] at hk;omega) hne hwo
  | set q x hq _ hx=>exact stat_15 h i hi hX hq hx (by simp only[sz,szs] at hk;omega) hne hwo
  | if1 q l hq hl=>exact stat_16 ih h i (sx:=eB) (bs:=[.mk 13 eB 0 l]) hi hX hq (by simp) (λ x hx=>by rw[List.mem_singleton.1 hx];exact bl l hl) (by simp only[sz,szs] at hN ⊢;omega) (by simp only[sz,szs] at hk ⊢;omega) hne hwo
  | if2 q l k hq hl hk2=>exact stat_16 ih h i (sx:=eB) (bs:=[.mk 13 eB 0 l,.mk 13 eB 0 k]) hi hX hq (by simp) (bl2 l k hl hk2) (by simp only[sz,szs] at hN ⊢;omega) (by simp only[sz,szs] at hk ⊢;omega) hne hwo
  | «while» q l hq hl=>exact stat_17 ih h i (sx:=eB) (bs:=[.mk 13 eB 0 l]) hi hX hq (by simp) (λ x hx=>by rw[List.mem_singleton.1 hx];exact bl l hl) (by simp only[sz,szs] at hN ⊢;omega) (by simp only[sz,szs] at hk ⊢;omega) hne hwo
  | one k x hk3 hx=>
   rcases hk3 with rfl|rfl|rfl
   ·exact stat_18 h i hi hX hx (by simp only[sz,szs] at hk;omega) hne hwo
   ·exact stat_19 h i hi hX hx (by simp only[sz,szs] at hk;omega) hne hwo
   exact stat_20 h i hi hX hx (by simp only[sz,szs] at hk;omega) hne hwo
section
variable (h:Fr B w (.cs b p s::L)) (x:ByteArray) (hx:x.size≤maxLen) (hn:s.n<s.k) (i:Nat) (hi:L[i]?=some (.el TyE [x0,x1,x2,x3,x4] t)) (ht:may t=true)
include h hx hn hi ht
theorem Fr.csPutSt:
  ∃w',(Instr.mapUpdate 87 (.map (some p.sm)) (.string x) (.agg #[x0,x1,x2,x3,x4])).run prog w=.ok () w'∧Fr B w' (.cs b p { s with n:=s.n+1,st:=putM s.st x t }::L):=by
 have hI:=h.csInv;have hk:=hI.k;have h0:=(h.tyVe (i+1) hi).swap;have h1:Fr B w (csK b p s++(envR s.n p.em s.env++(.ve VTy (.agg #[x0,x1,x2,x3,x4]) t::L))):=h0.csOpen;have hl:(csK b p s++(envR s.n p.em s.env++(.ve VTy (.agg #[x0,x1,x2,x3,x4]) t::L)))[7+(envR s.n p.em s.env).length]?=some (.ve VTy (.agg #[x0,x1,x2,x3,x4]) t):=by
  rw[List.getElem?_append_right (by simp),List.getElem?_append_right (by simp)];simp
 obtain⟨w',hr,h2,-⟩:=h1.mpPut 3 rfl 87 83 underlying87 x hx (by unfold maxLen;omega) _ hl;refine⟨w',hr,?_⟩;have h3:Fr B w' ((csK b p s).set 3 (.mp zTy VTy p.sm (s.n+1) (putM s.st x t))++(envR s.n p.em s.env++(.ve VTy (.agg #[x0,x1,x2,x3,x4]) t::L))):=h2;have h4:=(Fr.mpMoreAll (Nat.le_succ s.n) h3).mpMore 4 rfl (Nat.le_succ s.n);have h7:=h4.same 6 rfl (r':=.pure (CInv p { s with n:=s.n+1,st:=putM s.st x t })) (λ H _=>⟨hI.len,hn,hI.k,λ y u hy=>by
  have hy:putM s.st x t y=some u:=hy;unfold putM at hy;split at hy
  ·cases hy;exact ht
  exact hI.st y u hy,hI.de,hI.env,hI.wo,hI.el⟩) λ q hq=>hq
 have h8:Fr B w' (csK b p { s with n:=s.n+1,st:=putM s.st x t }++(envR (s.n+1) p.em s.env++(.ve VTy (.agg #[x0,x1,x2,x3,x4]) t::L))):=h7;exact h8.csShut.tail2
theorem Fr.csPutDe (fn:Bool):
  ∃w',(Instr.mapUpdate 88 (.map (some p.dm)) (.string x) (.agg #[x0,x1,x2,x3,x4,.bool fn])).run prog w=.ok () w'∧Fr B w' (.cs b p { s with n:=s.n+1,de:=putM s.de x (t,fn) }::L):=by
 have hI:=h.csInv;have hk:=hI.k;have h0:=(h.meVe (i+1) hi fn).swap;have h1:Fr B w (csK b p s++(envR s.n p.em s.env++(.ve VMe (.agg #[x0,x1,x2,x3,x4,.bool fn]) (t,fn)::L))):=h0.csOpen;have hl:(csK b p s++(envR s.n p.em s.env++(.ve VMe (.agg #[x0,x1,x2,x3,x4,.bool fn]) (t,fn)::L)))[7+(envR s.n p.em s.env).length]?=some (.ve VMe (.agg #[x0,x1,x2,x3,x4,.bool fn]) (t,fn)):=by
  rw[List.getElem?_append_right (by simp),List.getElem?_append_right (by simp)];simp
 obtain⟨w',hr,h2,-⟩:=h1.mpPut 4 rfl 88 99 underlying88 x hx (by unfold maxLen;omega) _ hl;refine⟨w',hr,?_⟩;have h3:Fr B w' ((csK b p s).set 4 (.mp zMe VMe p.dm (s.n+1) (putM s.de x (t,fn)))++(envR s.n p.em s.env++(.ve VMe (.agg #[x0,x1,x2,x3,x4,.bool fn]) (t,fn)::L))):=h2;have h4:=(Fr.mpMoreAll (Nat.le_succ s.n) h3).mpMore 3 rfl (Nat.le_succ s.n);have h7:=h4.same 6 rfl (r':=.pure (CInv p { s with n:=s.n+1,de:=putM s.de x (t,fn) })) (λ H _=>⟨hI.len,hn,hI.k,hI.st,λ y u hy=>by
  have hy:putM s.de x (t,fn) y=some u:=hy;unfold putM at hy;split at hy
  ·cases hy;exact ht
  exact hI.de y u hy,hI.env,hI.wo,hI.el⟩) λ q hq=>hq
 have h8:Fr B w' (csK b p { s with n:=s.n+1,de:=putM s.de x (t,fn) }++(envR (s.n+1) p.em s.env++(.ve VMe (.agg #[x0,x1,x2,x3,x4,.bool fn]) (t,fn)::L))):=h7;exact h8.csShut.tail2
end
theorem Fr.slNilTy (h:Fr B w L) (i:Nat) {ps : List T.Ty} (hi:L[i]?=some (.els TyE v 83 5 ps)):∃a c,v=.slice a ps.length c:=by
 have hl:=(List.getElem?_eq_some_iff.1 hi).1;obtain⟨a,c,e,-⟩:=(h.give i hi).slForm i (by rw[List.getElem?_set_self hl]);exact⟨a,c,e⟩
theorem fresh_yes (h:Fr B w (.cs b p s::L)) (x:ByteArray) (hx:x.size≤maxLen) (a:Nat) (hq:(s.de x).isSome=false):Calls prog 72 #[ptr b,.string x,.int .i64 a] w λ e w'=>e=.returned (.tuple #[])∧Fr B w' (.cs b p s::L):=by
 have HF:=h;clear h;go_enter func72,ntmps72;obtain⟨t,nm_t,a_t,c_t,pa_t,pc_t,ht,hlook,hf⟩:=HF.lookDe x hx;replace HF:=hf;clear hf ht;have hl1:=(hlook _ rfl).1;clear hlook;rw[hq] at hl1;have c_cs:=HF.csCell;go_wp2_with fail;clear c_cs hl1;replace HF:=bx HF w.heap.size #[.int .i64 (tyk t.1),.string nm_t,.slice a_t (tnn t.1) c_t,.slice pa_t (tpn t.1) pc_t,.bool (tmy t.1),.bool t.2] 99;go_at_call 69;refine (aL HF 5 a).mono ?_;rintro e w1 ⟨rfl,HF⟩;go_wp2;go_end0
 exact⟨rfl,HF.lose⟩
theorem fresh_no (h:Fr B w (.cs b p s::L)) (x:ByteArray) (hx:x.size≤maxLen) (a:Nat) (hq:(s.de x).isSome=true):Calls prog 72 #[ptr b,.string x,.int .i64 a] w λ e w'=>e=upF 5 a∧Fr B w' (.cs b p s::L):=by
 have HF:=h;clear h;go_enter func72,ntmps72;obtain⟨t,nm_t,a_t,c_t,pa_t,pc_t,ht,hlook,hf⟩:=HF.lookDe x hx;replace HF:=hf;clear hf ht;have hl1:=(hlook _ rfl).1;clear hlook;rw[hq] at hl1;have c_cs:=HF.csCell;go_wp2_with fail;clear c_cs hl1;replace HF:=bx HF w.heap.size #[.int .i64 (tyk t.1),.string nm_t,.slice a_t (tnn t.1) c_t,.slice pa_t (tpn t.1) pc_t,.bool (tmy t.1),.bool t.2] 99;go_at_call 69;refine (aU HF 5 a).mono ?_;rintro e w1 ⟨rfl,hf⟩;exact⟨rfl,⟨rfl,hf.lose⟩⟩
def PDe (q:CR Cs)(B:Bs)(b:Nat)(p:CP)(L:List Rs)(e:Ending)(w':World):Prop:=
 (∃c a,q=.no c a∧e=upF c a∧Fr B w' L)∨(∃u v,q=.ok u∧e=.returned (.tuple #[])∧Fr B w' (.cs b (p.at v) u::L))
theorem PDe.no {a : Nat} {c : Int} (hq:q=.no c a) (h:Fr B w' L):PDe q B b p L (upF c a) w':=Or.inl ⟨c,a,hq,rfl,h⟩
theorem declare75 {ps : List T.Ty} (h:Fr B w (.cs b p s::.els TyE v 83 5 ps::L)) {na : Option Addr} {nn nc : Nat} (hX:Tx n) (hn:s.n<s.k) (a:Nat) (mb:Bool):
  Calls prog 75 #[ptr b,.agg #[.int .i64 n.kind,.string n.text,.int .i64 n.num,.slice na nn nc],.int .i64 a,v,.bool mb] w (PDe (b7 s n.text a ps mb) B b p L):=by
 obtain⟨av,cv,rfl⟩:=h.slNilTy 1 rfl;have HF:=((h.give 1 rfl).slNil StE 9 1).tyOf 0 2 rfl rfl 4 eB mb (by omega) (by omega) (by decide);replace HF:Hid (Fr B w (.cs b p s::.el TyE [.int .i64 4,.string eB,.slice none 0 0,.slice av ps.length cv,.bool mb] (mkTy 4 eB [] ps mb)::L)):=ah (HF.perm (List.Perm.trans (List.Perm.cons _ (List.Perm.swap _ _ _)) (List.Perm.swap _ _ _)) |>.lose);have hnt:n.text.size≤maxLen:=Nat.le_trans hX.text (by decide:4000≤maxLen);have HN:=ah hn;clear h hn;go_enter func75,ntmps75;replace HF:=yN HF w.heap.size n.kind n.text n.num na nn nc;have c_n:=HF.cell 1 rfl;go_wp2_with fail;clear c_n;go_at_call 72;cases hq:(s.de n.text).isSome
 ·refine (fresh_yes HF n.text hnt a hq).mono ?_;rintro e w1 ⟨rfl,hf⟩;have HQ:=ah hq;replace HF:=hf;clear hf hq;go_wp2_with fail;replace HF:=yT HF w1.heap.size 4 ⟨#[]⟩ none 0 0 av ps.length cv mb;have c_t:=HF.cell 1 rfl;go_wp2_with fail;clear c_t;go_at_call 37;refine (may37 HF 3 rfl).mono ?_;rintro e w9 ⟨rfl,HF⟩;cases hm:may (mkTy 4 eB [] ps mb)
  ·have HM:=ah hm;clear hm;go_wp2_with fail;go_at_call 69;refine (aU HF 1 a).mono ?_;rintro e w10 ⟨rfl,HF⟩;exact⟨rfl,PDe.no (by simp only[b7,dO,HQ.out,HM.out,askC,Bool.not_false,if_true,Bool.false_eq_true,if_false]) HF.lose⟩
  have HM:=ah hm;clear hm;go_wp2_with fail;go_at_call 69;refine (aL HF 1 a).mono ?_;rintro e w10 ⟨rfl,HF⟩;go_wp2;refine regK [8] HF (λ w h=>⟨h.csCell,(h.cell 2 rfl),(h.cell 1 rfl)⟩) (λ wd11 HF hC=>?_) (C:=λ w'=>(∀o,w'.cell? ⟨b,o,none⟩=(#[p.n0,p.n1,p.n2,p.n3,p.r0,p.r1,p.r2,p.r3,p.r4,.bool s.many,p.bv,.int .i64 s.wo,p.kv,.map (some p.sm),.map (some p.dm)]:Array Value)[o]?)∧(∀o,w'.cell? ⟨w.heap.size,o,none⟩=(#[.int .i64 n.kind,.string n.text,.int .i64 n.num,.slice na nn nc]:Array Value)[o]?)∧(∀o,w'.cell? ⟨w1.heap.size,o,none⟩=(#[.int .i64 4,.string ⟨#[]⟩,.slice none 0 0,.slice av ps.length cv,.bool mb]:Array Value)[o]?));refine tq4 0 1 2 3 ?_;refine tq4 4 5 6 7 ?_;refine rqb 8 λ K hK=>?_;obtain⟨w30,hrun,hf⟩:=HF.csPutDe n.text hnt HN 2 rfl HM true;replace HF:=hf;go_simp;clear hrun hf;refine ub hK ?_;refine dq ?_;go_wp2;go_end0
  exact Or.inr ⟨{ s with n:=s.n+1,de:=putM s.de n.text (mkTy 4 eB [] ps mb,true) },p.kv,by simp only[b7,dO,HQ.out,HM.out,askC,Bool.not_false,if_true],rfl,HF.lose⟩
 refine (fresh_no HF n.text hnt a hq).mono ?_;rintro e w1 ⟨rfl,hf⟩;exact⟨rfl,PDe.no (by simp only[b7,dO,hq,askC,Bool.not_true,Bool.false_eq_true,if_false]) hf.lose⟩
def PDk (q:CR Cs)(k:Nat)(B:Bs)(b:Nat)(p:CP)(L:List Rs)(e:Ending)(w':World):Prop:=
 (∃c a,q=.no c a∧e=upF c a∧Fr B w' L)∨(∃u v,q=.ok u∧u.k=k∧e=.returned (.tuple #[])∧Fr B w' (.cs b (p.at v) u::L))
theorem PDk.no {a : Nat} {c : Int} (hq:q=.no c a) (h:Fr B w' L):PDk q k B b p L (upF c a) w':=Or.inl ⟨c,a,hq,rfl,h⟩
theorem struct49 (h:Fr B w (.cs b p s::L)) (i:Nat) {kn : Nat} (hi:L[i]?=some (.el NdE (ndc 2 sx 0 a kn c) (.mk 2 sx 0 l))) (hX:Tx (.mk 2 sx 0 l)) (hT:∀x,x∈l→Ti 3 x) (hk:s.k+sz (.mk 2 sx 0 l)≤16000) (hn:s.n≤s.k):
  Calls prog 49 #[ptr b,.agg #[.int .i64 2,.string sx,.int .i64 0,.slice a kn c]] w (PDk (structC s (.mk 2 sx 0 l)) (s.k+sz (.mk 2 sx 0 l)) B b p L):=by
 obtain⟨rfl,h3⟩:=(h.dup (i+1) hi).kids 0 rfl;have HF:=h3.perm (List.perm_middle (l₁:=[_,_]));have hsx:sx.size≤maxLen:=Nat.le_trans hX.text (by decide:4000≤maxLen);have hkX:∀x,x∈l→Tx x:=λ x hx=>hX.kids x (by simpa [Nd.kids] using hx);have hkk:s.k+1+szs l≤16000:=by simp only[sz] at hk;omega
 have HE:Hid (structC s (.mk 2 sx 0 l)=(cJ s.st [] [] l (s.k+1)).bind λ p=>askC (!(s.st sx).isSome) 5 s.k <| askC (may (mkTy 3 sx p.1 p.2 false)) 1 s.k <| .ok { s with k:=s.k+sz (.mk 2 sx 0 l),n:=s.n+1,st:=putM s.st sx (mkTy 3 sx p.1 p.2 false) }):=rfl;have HSZ:Hid (sz (.mk 2 sx 0 l)=1+szs l):=by show _=_;simp only[sz]
 clear h h3 hi;go_enter func49,ntmps49;replace HF:=yN HF w.heap.size 2 sx 0 a l.length c;go_wp2_with fail;go_at_call 48;refine (bA HF (by omega)).mono ?_;rintro e w1 ⟨rfl,v1,HF⟩;have c_n:=HF.cell 1 rfl;replace HF:=yT HF w1.heap.size 3 sx none 0 0 none 0 0 false;have c_n_:=HF.cell 2 rfl;go_wp2_with fail;clear c_n c_n_;go_at_call 68;refine (typed68 HF 2 rfl hkX 3 hT hkk).mono ?_;rintro e w2 (⟨c1,a1,h3,rfl,hf⟩|⟨ns,ps,v2,vn,vp,h3,-,-,-,-,rfl,hf⟩)
 ·exact⟨rfl,PDk.no (by rw[HE.out];simp only[show cJ s.st [] [] l (s.k+1)=.no c1 a1 from h3,CR.bind]) hf.lose⟩
 have H3:Hid (cJ s.st [] [] l (s.k+1)=.ok (ns,ps)):=h3;obtain⟨p2,hp2⟩:∃p2,p2=(p.at v1).at v2:=⟨_,rfl⟩
 obtain⟨s2,hs2⟩:∃s2:Cs,s2={ s with k:=s.k+1+szs l }:=⟨_,rfl⟩
 rw[← hp2,← hs2] at hf;have HQ:Hid (structC s (.mk 2 sx 0 l)=askC (!(s2.st sx).isSome) 5 s.k (askC (may (mkTy 3 sx ns ps false)) 1 s.k (.ok { s2 with n:=s2.n+1,st:=putM s2.st sx (mkTy 3 sx ns ps false) }))):=by
  show _=_;rw[HE.out,H3.out,hs2,HSZ.out];simp only[CR.bind,Nat.add_assoc]
 have hn2:s2.n<s2.k:=by rw[hs2];show s.n<s.k+1+szs l;omega
 have hk2:s2.k=s.k+sz (.mk 2 sx 0 l):=by rw[HSZ.out,hs2];show s.k+1+szs l=_;omega
 have HK2:=ah hk2;have HN2:=ah hn2;have HP2:Hid (p2=p.at v2):=hp2;replace hf:=(hf.give 1 rfl).give 2 rfl;obtain⟨an,cn,e1,-⟩:=hf.slForm 1 rfl;obtain⟨ap,cp,e2,-⟩:=hf.slForm 2 rfl;subst e1 e2;replace HF:=ah (hf.tyOf 1 2 rfl rfl 3 sx false (by omega) (by omega) hsx).swap;clear h3 hf hp2 hs2 hk2 hn2;have c_n:=HF.cell 5 rfl;obtain⟨c_t,f_t⟩:=cf HF 4;go_upto_region 4 with fail
 clear c_n c_t f_t;replace HF:=HF.set 4 rfl 2 (.slice an ns.length cn);replace HF:=HF.set 4 rfl 3 (.slice ap ps.length cp);generalize hw3:((w2.setCell ⟨w1.heap.size,2,none⟩ (.slice an ns.length cn)).setCell ⟨w1.heap.size,3,none⟩ (.slice ap ps.length cp))=w3 at *;go_cut [6,7] from 22 to 31 (λ q6 q7 wx=>Hid (∃(qm:Nat) (m:T.Ty) (nm_m:ByteArray) (a_m:Option Addr) (c_m:Nat) (pa_m:Option Addr) (pc_m:Nat),q6=.pointer (some ⟨qm,0,none⟩)∧q7=.bool (s2.st sx).isSome∧Fr B wx (.cs b p2 s2::.blk qm #[.int .i64 (tyk m),.string nm_m,.slice a_m (tnn m) c_m,.slice pa_m (tpn m) pc_m,.bool (tmy m)] 83::.el TyE [.int .i64 (tyk m),.string nm_m,.slice a_m (tnn m) c_m,.slice pa_m (tpn m) pc_m,.bool (tmy m)] m::.el TyE [.int .i64 3,.string sx,.slice an ns.length cn,.slice ap ps.length cp,.bool false] (mkTy 3 sx ns ps false)::.sl StE (.slice an ns.length cn) 9 1 ns::.sl TyE (.slice ap ps.length cp) 83 5 ps::.blk (w1.heap.size) #[.int .i64 3,.string sx,.slice an ns.length cn,.slice ap ps.length cp,.bool false] 83::.blk (w.heap.size) #[.int .i64 2,.string sx,.int .i64 0,.slice a l.length c] 52::.sl NdE (.slice a l.length c) 52 4 l::.el NdE (ndc 2 sx 0 a l.length c) (.mk 2 sx 0 l)::L)))
 case first=>
  go_wp2;refine regK [] HF (λ w h=>⟨h.csCell,(h.cell 5 rfl)⟩) (λ wd3 HF hC=>?_) (C:=λ w'=>(∀o,w'.cell? ⟨b,o,none⟩=(#[p2.n0,p2.n1,p2.n2,p2.n3,p2.r0,p2.r1,p2.r2,p2.r3,p2.r4,.bool s2.many,p2.bv,.int .i64 s2.wo,p2.kv,.map (some p2.sm),.map (some p2.dm)]:Array Value)[o]?)∧(∀o,w'.cell? ⟨w.heap.size,o,none⟩=(#[.int .i64 2,.string sx,.int .i64 0,.slice a l.length c]:Array Value)[o]?));refine tq4 0 1 2 3 ?_;refine tq2 4 5 ?_;obtain⟨m,nm_m,a_m,c_m,pa_m,pc_m,-,hlook,hf⟩:=HF.lookSt sx hsx;have hdl:=HF.smLt;replace HF:=hf;have HF0:=HF;clear hf;refine rq2 6 10 (λ K hK=>?_) λ K hK=>?_
  ·have hl1:=(hlook _ rfl).1;go_simp;refine uq hK ⟨HF.csCell,(HF.cell 6 rfl)⟩ λ hC=>?_;try simp only[qq]
   clear hl1;refine tq3 7 8 9 ?_;refine rq 10 λ K hK=>?_;go_simp;replace HF:=yT HF wd3.heap.size 0 ⟨#[]⟩ none 0 0 none 0 0 false;refine uq hK ⟨HF.csCell,(HF.cell 7 rfl)⟩ λ hC=>?_;refine rq 11 λ K hK=>?_;obtain⟨c_b11,f_b11⟩:=cf HF 1;go_simp;clear c_b11 f_b11;replace HF:=yT HF0 wd3.heap.size (tyk m) nm_m a_m (tnn m) c_m pa_m (tpn m) pc_m (tmy m);refine uq hK ⟨HF.csCell,(HF.cell 7 rfl)⟩ λ hC=>?_;refine tq 12 ?_;refine dq ?_;go_wp2;go_meet
   case rel=>exact⟨_,m,nm_m,a_m,c_m,pa_m,pc_m,rfl,rfl,HF⟩
  go_simp;replace HF:=yT HF wd3.heap.size 0 ⟨#[]⟩ none 0 0 none 0 0 false;refine uq hK ⟨HF.csCell,(HF.cell 7 rfl)⟩ λ hC=>?_;refine rq 6 λ K hK=>?_;have hl1:=(hlook (wd3.alloc (.cells #[.int .i64 0,.string ⟨#[]⟩,.slice none 0 0,.slice none 0 0,.bool false] 83)) (Below.heap_alloc _ _ _ hdl)).1;go_simp;refine uq hK ⟨HF.csCell,(HF.cell 7 rfl)⟩ λ hC=>?_;try simp only[qq]
  clear hl1;refine tq3 7 8 9 ?_;refine rq 11 λ K hK=>?_;obtain⟨c_b11,f_b11⟩:=cf HF 1;go_simp;clear c_b11 f_b11;replace HF:=yT HF0 wd3.heap.size (tyk m) nm_m a_m (tnn m) c_m pa_m (tpn m) pc_m (tmy m);refine uq hK ⟨HF.csCell,(HF.cell 7 rfl)⟩ λ hC=>?_;refine tq 12 ?_;refine dq ?_;go_wp2;go_meet
  case rel=>exact⟨_,m,nm_m,a_m,c_m,pa_m,pc_m,rfl,rfl,HF⟩
 case rest=>
  clear HF;obtain⟨qm,m,nm_m,a_m,c_m,pa_m,pc_m,rfl,rfl,hF⟩:=hcut.out;clear hcut;have HF:=hF;clear hF;cases hq:(s2.st sx).isSome
  ·have HB:=ah hq;clear hq;go_wp2_with fail;go_at_call 69;refine (aL HF 5 s.k).mono ?_;rintro e w21 ⟨rfl,HF⟩;have c_t:=HF.cell 6 rfl;go_wp2_with fail;clear c_t;go_at_call 37;refine (may37 HF 3 rfl).mono ?_;rintro e w39 ⟨rfl,HF⟩;cases hm:may (mkTy 3 sx ns ps false)
   ·have HM:=ah hm;clear hm;go_wp2_with fail;go_at_call 69;refine (aU HF 1 s.k).mono ?_;rintro e w40 ⟨rfl,HF⟩;exact⟨rfl,PDk.no (by rw[HQ.out,HB.out,HM.out];rfl) HF.lose⟩
   have HM:=ah hm;clear hm;go_wp2_with fail;go_at_call 69;refine (aL HF 1 s.k).mono ?_;rintro e w40 ⟨rfl,HF⟩;go_wp2;refine regK [7] HF (λ w h=>⟨h.csCell,(h.cell 7 rfl),(h.cell 6 rfl)⟩) (λ wd41 HF hC=>?_) (C:=λ w'=>(∀o,w'.cell? ⟨b,o,none⟩=(#[p2.n0,p2.n1,p2.n2,p2.n3,p2.r0,p2.r1,p2.r2,p2.r3,p2.r4,.bool s2.many,p2.bv,.int .i64 s2.wo,p2.kv,.map (some p2.sm),.map (some p2.dm)]:Array Value)[o]?)∧(∀o,w'.cell? ⟨w.heap.size,o,none⟩=(#[.int .i64 2,.string sx,.int .i64 0,.slice a l.length c]:Array Value)[o]?)∧(∀o,w'.cell? ⟨w1.heap.size,o,none⟩=(#[.int .i64 3,.string sx,.slice an ns.length cn,.slice ap ps.length cp,.bool false]:Array Value)[o]?));refine tq4 0 1 2 3 ?_;refine tq3 4 5 6 ?_;refine rqb 7 λ K hK=>?_;obtain⟨w60,hrun,hf⟩:=HF.csPutSt sx hsx HN2 2 rfl HM;replace HF:=hf;go_simp;clear hrun hf;refine ub hK ?_;refine dq ?_;go_wp2;go_end0
   exact Or.inr ⟨{ s2 with n:=s2.n+1,st:=putM s2.st sx (mkTy 3 sx ns ps false) },v2,by rw[HQ.out,HB.out,HM.out];rfl,HK2,rfl,by rw[← HP2.out];exact HF.lose⟩
  have HB:=ah hq;clear hq;go_wp2_with fail;go_at_call 69;refine (aU HF 5 s.k).mono ?_;rintro e w21 ⟨rfl,HF⟩;exact⟨rfl,PDk.no (by rw[HQ.out,HB.out];rfl) HF.lose⟩
end Go.Proofs.YtdnhbedbpbgeeaaGreatDoor.K
