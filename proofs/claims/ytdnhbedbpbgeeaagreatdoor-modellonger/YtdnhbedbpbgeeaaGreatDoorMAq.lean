/- 16 -/
import Derived.Test.YtdnhbedbpbgeeaaGreatDoorMAp
set_option maxRecDepth 100000
set_option maxHeartbeats 2000000
set_option linter.all false
namespace Go.Proofs.YtdnhbedbpbgeeaaGreatDoor.K
open Go.RowKit Go.Proofs.Tryz
variable {l : List Nd} {a a_n : Option Addr} {S S' : Cs} {α : Type} {m kk vv : Int} {d q0 n : Nd} {c k c_n z : Nat} {sx x : ByteArray} {q : CR Cs} {e : TypeId} {f : ByteArray→Option α} {E : El α}
variable {B : Bs} {w w' : World} {L : List Rs} {b : Nat} {p : CP} {s : Cs}
theorem vok_num (hk:kk=21∨kk=22) (h1:-9223372036854775807≤vv) (h2:vv≤9223372036854775807):VOk (.mk kk eB vv []) []:=
 ⟨by show 21≤kk∧kk≤34;omega,λ h=>by have h:kk=24∨kk=25∨28≤kk∧kk≤32∨kk=34:=h;omega,λ h=>by have h:kk=32:=h;omega,λ t h=>(by cases h),Nat.zero_le _,Nat.zero_le _⟩
theorem global50_5 (h:Fr B w (.cs b p s::L)) (i:Nat) (hi:L[i]?=some (.el NdE (ndc 5 sx m a 1 c) (.mk 5 sx m [q0]))) (hX:Tx (.mk 5 sx m [q0])) (hT:Ty q0) (hk:s.k+sz (.mk 5 sx m [q0])≤16000) (hn:s.n≤s.k):
  Calls prog 50 #[ptr b,.agg #[.int .i64 5,.string sx,.int .i64 m,.slice a 1 c]] w (PDk (gE s (.mk 5 sx m [q0])) (s.k+sz (.mk 5 sx m [q0])) B b p L):=by
 have HF:=ah (h.dup (i+1) hi).swap;have hsx:sx.size≤maxLen:=Nat.le_trans hX.text (by decide:4000≤maxLen);have hx0:=hX.kids q0 (by simp [Nd.kids]);have HE:Hid (gE s (.mk 5 sx m [q0])=(typC s.st q0 (s.k+1)).bind λ t=>dO s sx s.k (askC (cA t && same t t) 3 s.k (.ok { s with k:=s.k+sz (.mk 5 sx m [q0]),n:=s.n+1,de:=putM s.de sx (t,false) }))):=rfl;have HSZ:Hid (sz (.mk 5 sx m [q0])=1+sz q0):=by show _=_;simp only[sz,szs];omega
 have hkk:s.k+1+sz q0≤16000:=by have:=HSZ.out;omega
 clear h hi;go_enter func50,ntmps50;replace HF:=yN HF w.heap.size 5 sx m a 1 c;go_wp2_with fail;go_at_call 48;refine (bA HF (by omega)).mono ?_;rintro e w1 ⟨rfl,v1,HF⟩;obtain⟨g_q0,o_q0,a_q0,n_q0,c_q0,ha,-,hc1,hc2,e0,e1,e2,e3,hf⟩:=HF.kidHere 2 rfl 0 (by simp);subst ha;simp only[Nat.zero_mul,Nat.one_mul,Nat.add_zero,List.getElem_cons_zero,List.getElem_cons_succ] at e0 e1 e2 e3 hf;replace HF:=ah hf.swap;clear hf hc1 hc2;have c_n:=HF.cell 2 rfl;go_wp2_with fail;clear c_n;clear e0 e1 e2 e3;go_at_call 70;refine (typ70k HF 0 rfl hx0 hT (by omega)).mono ?_;rintro e w2 (⟨c1,p1,h3,rfl,hf⟩|⟨t,v2,nm_t,a_t,c_t,pa_t,pc_t,h3,hmt,rfl,hf⟩)
 ·exact⟨rfl,PDk.no (by rw[HE.out];simp only[h3,CR.bind]) hf.lose⟩
 have H1:=ah h3;have HMT:=ah hmt;replace HF:=hf;clear h3 hf hmt;replace HF:=yT HF w2.heap.size (tyk t) nm_t a_t (tnn t) c_t pa_t (tpn t) pc_t (tmy t);have c_b5:=HF.cell 1 rfl;replace HF:=yT HF (w2.heap.size+1) (tyk t) nm_t a_t (tnn t) c_t pa_t (tpn t) pc_t (tmy t);have c_n:=HF.cell 5 rfl;go_wp2_with fail;clear c_b5 c_n;obtain⟨s3,hs3⟩:∃s3:Cs,s3={ s with k:=s.k+1+sz q0 }:=⟨_,rfl⟩
 obtain⟨p3,hp3⟩:∃p3,p3=p.at v2:=⟨_,rfl⟩
 replace HF:=show Fr B _ (.cs b (p.at v2) { s with k:=s.k+1+sz q0 }::_) from HF
 rw[← hs3,← hp3] at HF;have hn3:s3.n<s3.k:=by rw[hs3];show s.n<s.k+1+sz q0;omega
 have HK3:Hid (s3.k=s.k+sz (.mk 5 sx m [q0])):=by show _=_;rw[HSZ.out,hs3];show s.k+1+sz q0=_;omega
 have HD3:Hid (s3.de=s.de):=by show _=_;rw[hs3]
 have HS3:Hid ({ s with k:=s.k+sz (.mk 5 sx m [q0]),n:=s.n+1,de:=putM s.de sx (t,false) }={ s3 with n:=s3.n+1,de:=putM s3.de sx (t,false) }):=by
  show _=_;rw[hs3,HSZ.out];simp only[Nat.add_assoc]
 have HN3:=ah hn3;have HP3:=ah hp3;clear hs3 hp3 hn3;have c_n:=HF.cell 5 rfl;go_wp2_with fail;clear c_n;go_at_call 72;cases hq:(s3.de sx).isSome
 ·refine (fresh_yes HF sx hsx s.k hq).mono ?_;rintro e w3 ⟨rfl,hf⟩;have HQ:Hid ((s.de sx).isSome=false):=by rw[HD3.out] at hq;exact hq
  replace HF:=hf;clear hf hq;have c_b5:=HF.cell 2 rfl;go_wp2_with fail;clear c_b5;go_at_call 73;refine (eT HF 3 rfl).mono ?_;rintro e w29 ⟨rfl,HF⟩;cases hm:cA t
  ·have HM:=ah hm;clear hm;go_wp2_with fail;go_at_call 69;refine (aU HF 3 s.k).mono ?_;rintro e w30 ⟨rfl,HF⟩;exact⟨rfl,PDk.no (by rw[HE.out];simp only[H1.out,CR.bind,dO,HQ.out,HM.out,Bool.false_and,askC,Bool.not_false,if_true,Bool.false_eq_true,if_false]) HF.lose⟩
  have HM:=ah hm;clear hm;have c_b5:=HF.cell 2 rfl;have c_b6:=HF.cell 1 rfl;go_wp2_with fail;clear c_b5 c_b6;go_at_call 74;refine (same74 HF 3 3 rfl rfl).mono ?_;rintro e w39 ⟨rfl,HF⟩;cases hw:same t t
  ·have HW:=ah hw;clear hw;go_wp2_with fail;go_at_call 69;refine (aU HF 3 s.k).mono ?_;rintro e w40 ⟨rfl,HF⟩;exact⟨rfl,PDk.no (by rw[HE.out];simp only[H1.out,CR.bind,dO,HQ.out,HM.out,HW.out,Bool.and_false,askC,Bool.not_false,if_true,Bool.false_eq_true,if_false]) HF.lose⟩
  have HW:=ah hw;clear hw;go_wp2_with fail;go_at_call 69;refine (aL HF 3 s.k).mono ?_;rintro e w40 ⟨rfl,HF⟩;go_wp2;refine regK [8] HF (λ w h=>⟨h.csCell,(h.cell 5 rfl),(h.cell 2 rfl)⟩) (λ wd41 HF hC=>?_) (C:=λ w'=>(∀o,w'.cell? ⟨b,o,none⟩=(#[p3.n0,p3.n1,p3.n2,p3.n3,p3.r0,p3.r1,p3.r2,p3.r3,p3.r4,.bool s3.many,p3.bv,.int .i64 s3.wo,p3.kv,.map (some p3.sm),.map (some p3.dm)]:Array Value)[o]?)∧(∀o,w'.cell? ⟨w.heap.size,o,none⟩=(#[.int .i64 5,.string sx,.int .i64 m,.slice (some ⟨g_q0,o_q0,none⟩) 1 c]:Array Value)[o]?)∧(∀o,w'.cell? ⟨w2.heap.size,o,none⟩=(#[.int .i64 (tyk t),.string nm_t,.slice a_t (tnn t) c_t,.slice pa_t (tpn t) pc_t,.bool (tmy t)]:Array Value)[o]?));refine tq4 0 1 2 3 ?_;refine tq4 4 5 6 7 ?_;refine rqb 8 λ K hK=>?_;obtain⟨w60,hrun,hf⟩:=HF.csPutDe sx hsx HN3 2 rfl HMT false;replace HF:=hf;go_simp;clear hrun hf;refine ub hK ?_;refine dq ?_;go_wp2;go_end0
  exact Or.inr ⟨{ s3 with n:=s3.n+1,de:=putM s3.de sx (t,false) },_,by rw[HE.out];simp only[H1.out,CR.bind,dO,HQ.out,HM.out,HW.out,Bool.and_true,askC,Bool.not_false,if_true];rw[HS3.out],HK3,rfl,by rw[HP3.out] at HF;exact HF.lose⟩
 refine (fresh_no HF sx hsx s.k hq).mono ?_;rintro e w3 ⟨rfl,hf⟩;rw[HD3.out] at hq;exact⟨rfl,PDk.no (by rw[HE.out];simp only[H1.out,CR.bind,dO,hq,askC,Bool.not_true,Bool.false_eq_true,if_false]) hf.lose⟩
theorem global50_6 (h:Fr B w (.cs b p s::L)) (i:Nat) (hi:L[i]?=some (.el NdE (ndc 6 sx m a 2 c) (.mk 6 sx m [q0,.mk kk eB vv []]))) (hX:Tx (.mk 6 sx m [q0,.mk kk eB vv []])) (hT:Ty q0) (hkk2:kk=21∨kk=22) (hv1:-9223372036854775807≤vv) (hv2:vv≤9223372036854775807) (hk:s.k+sz (.mk 6 sx m [q0,.mk kk eB vv []])≤16000) (hn:s.n≤s.k):
  Calls prog 50 #[ptr b,.agg #[.int .i64 6,.string sx,.int .i64 m,.slice a 2 c]] w (PDk (gE s (.mk 6 sx m [q0,.mk kk eB vv []])) (s.k+sz (.mk 6 sx m [q0,.mk kk eB vv []])) B b p L):=by
 have HF:=ah (h.dup (i+1) hi).swap;have hsx:sx.size≤maxLen:=Nat.le_trans hX.text (by decide:4000≤maxLen);have hx0:=hX.kids q0 (by simp [Nd.kids]);have HE:Hid (gE s (.mk 6 sx m [q0,.mk kk eB vv []])=(typC s.st q0 (s.k+1)).bind λ t=>dO s sx s.k (askC (cA t && same t (if kk=22 then tL else tI)) 3 s.k (.ok { s with k:=s.k+sz (.mk 6 sx m [q0,.mk kk eB vv []]),n:=s.n+1,de:=putM s.de sx (t,false) }))):=rfl;have HSZ:Hid (sz (.mk 6 sx m [q0,.mk kk eB vv []])=1+sz q0+1):=by show _=_;simp only[sz,szs];omega
 have hkk:s.k+1+sz q0+1≤16000:=by have:=HSZ.out;omega
 clear h hi;go_enter func50,ntmps50;replace HF:=yN HF w.heap.size 6 sx m a 2 c;go_wp2_with fail;go_at_call 48;refine (bA HF (by omega)).mono ?_;rintro e w1 ⟨rfl,v1,HF⟩;obtain⟨g_q0,o_q0,a_q0,n_q0,c_q0,ha,-,hc1,hc2,e0,e1,e2,e3,hf⟩:=HF.kidHere 2 rfl 0 (by simp);subst ha;simp only[Nat.zero_mul,Nat.one_mul,Nat.add_zero,List.getElem_cons_zero,List.getElem_cons_succ] at e0 e1 e2 e3 hf;replace HF:=ah hf.swap;clear hf hc1 hc2;have c_n:=HF.cell 2 rfl;go_wp2_with fail;clear c_n;clear e0 e1 e2 e3;go_at_call 70;refine (typ70k HF 0 rfl hx0 hT (by omega)).mono ?_;rintro e w2 (⟨c1,p1,h3,rfl,hf⟩|⟨t,v2,nm_t,a_t,c_t,pa_t,pc_t,h3,hmt,rfl,hf⟩)
 ·exact⟨rfl,PDk.no (by rw[HE.out];simp only[h3,CR.bind]) hf.lose⟩
 have H1:=ah h3;have HMT:=ah hmt;replace HF:=hf;clear h3 hf hmt;replace HF:=yT HF w2.heap.size (tyk t) nm_t a_t (tnn t) c_t pa_t (tpn t) pc_t (tmy t);have c_b5:=HF.cell 1 rfl;replace HF:=yT HF (w2.heap.size+1) (tyk t) nm_t a_t (tnn t) c_t pa_t (tpn t) pc_t (tmy t);have c_n:=HF.cell 5 rfl;go_wp2_with fail;clear c_b5 c_n;obtain⟨g9,o9,a_q1,n_q1,c_q1,cur9,f9,ha,-,hc1,hc2,hf,hk9⟩:=HF.kidAll 6 rfl 1 (by simp);cases ha;simp only[Nat.one_mul,List.getElem_cons_zero,List.getElem_cons_succ,Nd.kind,Nd.text,Nd.num] at hf hk9;replace HF:=hf.perm (List.perm_middle (l₁:=[_,_]));clear hf hc1 hc2;go_wp2;refine regK [] HF (λ w h=>aI (h.cell 7 rfl) (hk9 _ (h.knc 2 rfl))) (λ wd3 HF hC=>?_);refine tq4 0 1 2 3 ?_;refine tq2 4 5 ?_;refine rq 6 λ K hK=>?_;go_simp;refine (bA HF (by show s.k+1+sz q0<16000;omega)).mono ?_;rintro e w3 ⟨rfl,v3,HF⟩;refine uq hK ⟨(HF.cell 7 rfl),(hk9 _ (HF.knc 2 rfl))⟩ λ hC=>?_;refine rq 7 λ K hK=>?_;go_simp;have HV:Hid (∀(u:Cs) (j:Nat),bB u (.mk kk eB vv []) j []=.ok (if kk=22 then tL else tI)):=by
  show ∀_ _,_;intro u j;rcases hkk2 with rfl|rfl<;>rfl
 have hvok:VOk (.mk kk eB vv []) []:=vok_num hkk2 hv1 hv2;replace HF:=(HF.slNil TyE 83 5).swap;refine (value71 HF 0 rfl hvok _).mono ?_;rintro e w4 (⟨c1,p1,h3,rfl,hf⟩|⟨v,-,nm_v,a_v,c_v,pa_v,pc_v,h3,hmv,rfl,hf⟩)
 ·rw[HV.out] at h3;cases h3
 rw[HV.out] at h3;have HVT:Hid (v=(if kk=22 then tL else tI)):=by injection h3 with h3;exact h3.symm
 replace HF:=hf;clear h3 hf hmv hvok;refine uq hK ⟨(HF.cell 9 rfl),(hk9 _ (HF.knc 4 rfl))⟩ λ hC=>?_;refine rq 8 λ K hK=>?_;obtain⟨c_b6,f_b6⟩:=cf HF 5;go_simp;clear c_b6 f_b6;replace HF:=sT HF 5 (tyk v) nm_v a_v (tnn v) c_v pa_v (tpn v) pc_v (tmy v);refine uq hK ⟨(HF.cell 9 rfl),(hk9 _ (HF.knc 4 rfl))⟩ λ hC=>?_;refine dq ?_;obtain⟨s3,hs3⟩:∃s3:Cs,s3={ s with k:=s.k+1+sz q0+1 }:=⟨_,rfl⟩
 obtain⟨p3,hp3⟩:∃p3,p3=p.at v3:=⟨_,rfl⟩
 replace HF:=show Fr B _ (.cs b (p.at v3) { s with k:=s.k+1+sz q0+1 }::_) from HF
 rw[← hs3,← hp3] at HF;have hn3:s3.n<s3.k:=by rw[hs3];show s.n<s.k+1+sz q0+1;omega
 have HK3:Hid (s3.k=s.k+sz (.mk 6 sx m [q0,.mk kk eB vv []])):=by show _=_;rw[HSZ.out,hs3];show s.k+1+sz q0+1=_;omega
 have HD3:Hid (s3.de=s.de):=by show _=_;rw[hs3]
 have HS3:Hid ({ s with k:=s.k+sz (.mk 6 sx m [q0,.mk kk eB vv []]),n:=s.n+1,de:=putM s.de sx (t,false) }={ s3 with n:=s3.n+1,de:=putM s3.de sx (t,false) }):=by
  show _=_;rw[hs3,HSZ.out];simp only[Nat.add_assoc]
 have HN3:=ah hn3;have HP3:=ah hp3;clear hs3 hp3 hn3;have c_n:=HF.cell 9 rfl;go_wp2_with fail;clear c_n;go_at_call 72;cases hq:(s3.de sx).isSome
 ·refine (fresh_yes HF sx hsx s.k hq).mono ?_;rintro e w5 ⟨rfl,hf⟩;have HQ:Hid ((s.de sx).isSome=false):=by rw[HD3.out] at hq;exact hq
  replace HF:=hf;clear hf hq;have c_b5:=HF.cell 6 rfl;go_wp2_with fail;clear c_b5;go_at_call 73;refine (eT HF 7 rfl).mono ?_;rintro e w29 ⟨rfl,HF⟩;cases hm:cA t
  ·have HM:=ah hm;clear hm;go_wp2_with fail;go_at_call 69;refine (aU HF 3 s.k).mono ?_;rintro e w30 ⟨rfl,HF⟩;exact⟨rfl,PDk.no (by rw[HE.out];simp only[H1.out,CR.bind,dO,HQ.out,HM.out,Bool.false_and,askC,Bool.not_false,if_true,Bool.false_eq_true,if_false]) HF.lose⟩
  have HM:=ah hm;clear hm;have c_b5:=HF.cell 6 rfl;have c_b6:=HF.cell 5 rfl;go_wp2_with fail;clear c_b5 c_b6;go_at_call 74;refine (same74 HF 7 1 rfl rfl).mono ?_;rintro e w39 ⟨rfl,HF⟩;cases hw:same t v
  ·have HW:=ah hw;clear hw;go_wp2_with fail;go_at_call 69;refine (aU HF 3 s.k).mono ?_;rintro e w40 ⟨rfl,HF⟩;exact⟨rfl,PDk.no (by rw[HE.out,← HVT.out];simp only[H1.out,CR.bind,dO,HQ.out,HM.out,HW.out,Bool.and_false,askC,Bool.not_false,if_true,Bool.false_eq_true,if_false]) HF.lose⟩
  have HW:=ah hw;clear hw;go_wp2_with fail;go_at_call 69;refine (aL HF 3 s.k).mono ?_;rintro e w40 ⟨rfl,HF⟩;go_wp2;refine regK [8] HF (λ w h=>⟨h.csCell,(h.cell 9 rfl),(h.cell 6 rfl)⟩) (λ wd41 HF hC=>?_) (C:=λ w'=>(∀o,w'.cell? ⟨b,o,none⟩=(#[p3.n0,p3.n1,p3.n2,p3.n3,p3.r0,p3.r1,p3.r2,p3.r3,p3.r4,.bool s3.many,p3.bv,.int .i64 s3.wo,p3.kv,.map (some p3.sm),.map (some p3.dm)]:Array Value)[o]?)∧(∀o,w'.cell? ⟨w.heap.size,o,none⟩=(#[.int .i64 6,.string sx,.int .i64 m,.slice (some ⟨g_q0,o_q0,none⟩) 2 c]:Array Value)[o]?)∧(∀o,w'.cell? ⟨w2.heap.size,o,none⟩=(#[.int .i64 (tyk t),.string nm_t,.slice a_t (tnn t) c_t,.slice pa_t (tpn t) pc_t,.bool (tmy t)]:Array Value)[o]?));refine tq4 0 1 2 3 ?_;refine tq4 4 5 6 7 ?_;refine rqb 8 λ K hK=>?_;obtain⟨w60,hrun,hf⟩:=HF.csPutDe sx hsx HN3 6 rfl HMT false;replace HF:=hf;go_simp;clear hrun hf;refine ub hK ?_;refine dq ?_;go_wp2;go_end0
  exact Or.inr ⟨{ s3 with n:=s3.n+1,de:=putM s3.de sx (t,false) },_,by rw[HE.out,← HVT.out];simp only[H1.out,CR.bind,dO,HQ.out,HM.out,HW.out,Bool.and_true,askC,Bool.not_false,if_true];rw[HS3.out],HK3,rfl,by rw[HP3.out] at HF;exact HF.lose⟩
 refine (fresh_no HF sx hsx s.k hq).mono ?_;rintro e w5 ⟨rfl,hf⟩;rw[HD3.out] at hq;exact⟨rfl,PDk.no (by rw[HE.out];simp only[H1.out,CR.bind,dO,hq,askC,Bool.not_true,Bool.false_eq_true,if_false]) hf.lose⟩
theorem SlP.take {n : Nat} {l r : List α} {H : Snap} (h:SlP E (.slice a n c) e z (l++r) H):SlP E (.slice a l.length c) e z l H:=by
 obtain⟨a1,c1,e1,h2,h3,h4⟩:=h;cases e1;refine⟨a,c,rfl,by simp at h2;omega,h3,λ hne=>?_⟩;obtain⟨g,o,cur,f,k1,k2,k3⟩:=h4 (by simp [hne]);refine⟨g,o,cur,f,k1,k2,λ j hj=>?_⟩;obtain⟨cs,q1,q2,q3⟩:=k3 j (by simp;omega);rw[List.getElem_append_left hj] at q3;exact⟨cs,q1,q2,q3⟩
theorem Fr.slTake {n : Nat} {l r : List α} (h:Fr B w L) (i:Nat) (hi:L[i]?=some (.sl E (.slice a n c) e z (l++r))):Fr B w (.sl E (.slice a l.length c) e z l::L):=
 h.know (K:=[_]) λ H w hr k hk=>by
  obtain rfl:=List.mem_singleton.1 hk;exact⟨SlP.take (r:=r) (hr _ (List.mem_of_getElem? hi)),λ q hq=>hq⟩
theorem declareC_ok {s u : Cs} {a : Nat} {ps : List T.Ty} {mb : Bool} (h:b7 s x a ps mb=.ok u):u={ s with n:=s.n+1,de:=putM s.de x (mkTy 4 eB [] ps mb,true) }:=by
 unfold b7 dO askC at h;split at h
 ·split at h
  ·injection h with h;exact h.symm
  cases h
 cases h
theorem szs_concat (l:List Nd) (x:Nd):szs (l++[x])=szs l+sz x:=by
 induction l with
 | nil=>simp [szs]
 | cons y l ih=>simp only[List.cons_append,szs,ih];omega
theorem extern51 (h:Fr B w (.cs b p s::L)) (i:Nat) (hi:L[i]?=some (.el NdE (ndc 4 sx m a (l.length+1) c) (.mk 4 sx m (l++[q0])))) (hX:Tx (.mk 4 sx m (l++[q0]))) (hTl:∀x,x∈l→Ti 8 x) (hT:Ty q0) (hk:s.k+sz (.mk 4 sx m (l++[q0]))≤16000) (hn:s.n≤s.k):
  Calls prog 51 #[ptr b,.agg #[.int .i64 4,.string sx,.int .i64 m,.slice a (l.length+1) c]] w (PDk (externC s (.mk 4 sx m (l++[q0]))) (s.k+sz (.mk 4 sx m (l++[q0]))) B b p L):=by
 have hN:=h.dup (i+1) hi;obtain⟨-,h3⟩:=hN.kids 0 rfl;obtain⟨gq,oq,a_q0,n_q0,c_q0,cur9,f9,ha,-,hc1,hc2,h4,hk9⟩:=(h3.slTake 0 rfl).kidAll 2 rfl l.length (by simp);have hq:(l++[q0])[l.length]'(by simp)=q0:=by simp
 simp only[hq] at h4 hk9;subst ha;have HF:=h4.perm (List.perm_middle (l₁:=[_,_,_,_,_]));have hsx:sx.size≤maxLen:=Nat.le_trans hX.text (by decide:4000≤maxLen);have hx0:=hX.kids q0 (by simp [Nd.kids]);have hkX:∀x,x∈l→Tx x:=λ x hx=>hX.kids x (by simp [Nd.kids,hx]);have HSZ:Hid (sz (.mk 4 sx m (l++[q0]))=1+(szs l+sz q0)):=by show _=_;simp only[sz,szs_concat]
 have hkk:s.k+1+szs l+sz q0≤16000:=by have:=HSZ.out;omega
 have hq0:=fX q0;have hll:l.length≤16000:=by have:=dS l;omega
 have HE:Hid (externC s (.mk 4 sx m (l++[q0]))=(cJ s.st [] [] l (s.k+1)).bind λ p=>(typC s.st q0 (s.k+1+szs l)).bind λ t=>b7 { s with k:=s.k+sz (.mk 4 sx m (l++[q0])) } sx s.k (p.2++[t]) (m == 1)):=by
  show _=_;have e1:(l++[q0]).take ((l++[q0]).length - 1)=l:=by simp
  have e2:cY (l++[q0]) 1=q0:=by simp [cY]
  show (cJ s.st [] [] ((l++[q0]).take ((l++[q0]).length - 1)) (s.k+1)).bind _=_;simp only[Nd.kids,e1,e2];rfl
 have hwn:IntKind.i64.wrap ((l.length:Nat):Int)=(l.length:Int):=by rw[IntKind.wrap_i64];omega
 have hn0:(0:Int)≤(l.length:Int):=by omega
 have hli:(l.length:Int)<(l.length:Int)+1:=by omega
 have hlc:(l.length:Int)≤(c:Int):=by omega
 clear h h3 h4 hi hN hc1;go_enter func51,ntmps51;replace HF:=yN HF w.heap.size 4 sx m (some ⟨gq,oq,none⟩) (l.length+1) c;go_wp2_with fail;go_at_call 48;refine (bA HF (by omega)).mono ?_;rintro e w1 ⟨rfl,v1,HF⟩;have c_n:=HF.cell 1 rfl;go_wp2_with fail;clear c_n;go_at_call 68;refine (typed68 HF 3 rfl hkX 8 hTl (by show s.k+1+szs l≤16000;omega)).mono ?_;rintro e w2 (⟨c1,a1,h3,rfl,hf⟩|⟨ns,ps,v2,vn,vp,h3,-,-,hlp,-,rfl,hf⟩)
 ·exact⟨rfl,PDk.no (by rw[HE.out];simp only[show cJ s.st [] [] l (s.k+1)=.no c1 a1 from h3,CR.bind]) hf.lose⟩
 have H3:Hid (cJ s.st [] [] l (s.k+1)=.ok (ns,ps)):=h3;have hpl:ps.length≤16000:=by omega
 obtain⟨ap,cp,rfl⟩:=hf.slNilTy 2 rfl;obtain⟨p2,hp2⟩:∃p2,p2=(p.at v1).at v2:=⟨_,rfl⟩
 obtain⟨s2,hs2⟩:∃s2:Cs,s2={ s with k:=s.k+1+szs l }:=⟨_,rfl⟩
 rw[← hp2,← hs2] at hf;have hk2:s2.k+sz q0=s.k+sz (.mk 4 sx m (l++[q0])):=by rw[HSZ.out,hs2];show s.k+1+szs l+sz q0=_;omega
 have HK2:=ah hk2;have hn2:s2.n<s2.k+sz q0:=by rw[hs2];show s.n<s.k+1+szs l+sz q0;omega
 have hk16:s2.k+sz q0≤16000:=by rw[hk2];exact hk
 have HT2:Hid (typC s.st q0 (s.k+1+szs l)=typC s2.st q0 s2.k):=by show _=_;rw[hs2]
 have HS2:Hid ({ s with k:=s.k+sz (.mk 4 sx m (l++[q0])) }={ s2 with k:=s2.k+sz q0 }):=by show _=_;rw[hk2,hs2]
 have HP2:Hid (p2=p.at v2):=hp2;replace HF:=hf;clear h3 hf hp2 hs2 hk2 hlp;have c_n:=HF.cell 3 rfl;go_wp2_with fail;clear c_n;go_wp2;refine regK [] HF (λ w h=>aI (h.cell 3 rfl) (hk9 _ (h.knc 5 rfl))) (λ wd3 HF hC=>?_);refine tq4 0 1 2 3 ?_;refine tq4 4 5 6 7 ?_;refine tq4 8 9 13 14 ?_;refine tq 15 ?_;refine rq 10 λ K hK=>?_;go_simp;refine (typ70 HF 3 rfl hx0 hT hk16).mono ?_;rintro e w3 (⟨c1,p1,h3,rfl,hf⟩|⟨t,v3,nm_t,a_t,c_t,pa_t,pc_t,h3,hmt,rfl,hf⟩)
 ·exact⟨rfl,PDk.no (by rw[HE.out];simp only[H3.out,CR.bind,HT2.out,h3]) hf.lose⟩
 have H4:=ah (HT2.trans h3);replace HF:=hf;clear h3 hf hmt;refine uq hK ⟨(HF.cell 4 rfl),(hk9 _ (HF.knc 6 rfl))⟩ λ hC=>?_;refine rq 11 λ K hK=>?_;go_simp;replace HF:=yT HF w3.heap.size (tyk t) nm_t a_t (tnn t) c_t pa_t (tpn t) pc_t (tmy t);refine uq hK ⟨(HF.cell 5 rfl),(hk9 _ (HF.knc 7 rfl))⟩ λ hC=>?_;refine rq 12 λ K hK=>?_;refine fR (by rfl) (Fr.elAppN fZ underlying81 rfl (by decide) (by decide) (HF.perm (List.Perm.swap _ _ _)) 3 rfl ps.length (ps.length+1) rfl rfl hpl 1 rfl _ _ rfl rfl (by rfl) (by rfl) rfl λ g5 cap5 w5 hF=>?_);replace HF:=hF;clear hF;refine uq hK ⟨(HF.cell 4 rfl),(hk9 _ (HF.knc 6 rfl))⟩ λ hC=>?_;refine rq 16 λ K hK=>?_;go_simp;refine (declare75 (n:=.mk 4 sx m (l++[q0])) (HF.perm ((List.perm_middle (l₁:=[_,_])).cons _)) hX hn2 s.k (m == 1)).mono ?_;rintro e w6 (⟨c1,a1,h3,rfl,hf⟩|⟨u,v6,h3,rfl,hf⟩)
 ·exact⟨rfl,PDk.no (by rw[HE.out];simp only[H3.out,H4.out,CR.bind];rw[HS2.out];exact h3) hf.lose⟩
 have H6:=ah h3;replace HF:=hf;clear h3 hf;refine uq hK ⟨(HF.cell 3 rfl),(hk9 _ (HF.knc 5 rfl))⟩ λ hC=>?_;refine dq ?_;go_wp2;go_end0
 exact Or.inr ⟨u,_,by rw[HE.out];simp only[H3.out,H4.out,CR.bind];rw[HS2.out];exact H6,by rw[declareC_ok H6.out];exact HK2,rfl,by rw[HP2.out] at HF;exact HF.lose⟩
theorem returns78 (h:Fr B w L) (i:Nat) {k0 : Int} {tx : ByteArray} {kn : Nat} (hi:L[i]?=some (.el NdE (ndc k0 tx m a kn c) (.mk k0 tx m l))):
  Calls prog 78 #[.agg #[.int .i64 k0,.string tx,.int .i64 m,.slice a kn c]] w λ e w'=>e=.returned (.bool (cQ (.mk k0 tx m l)))∧Fr B w' L:=by
 obtain⟨rfl,h3⟩:=h.kids i hi;obtain⟨_,_,e1,h1,h2⟩:=h3.slForm 0 rfl;cases e1;unfold maxLen at h2;rcases List.eq_nil_or_concat l with rfl|⟨l,x,rfl⟩
 ·have HF:=h;clear h h3 hi;replace HF:=aN HF w.heap.size k0 tx m a 0 c;have c_n:=HF.cell 0 rfl;go_enter func78,ntmps78;go_wp2;clear c_n;go_ret
  exact⟨rfl,HF.tail⟩
 rw[List.concat_eq_append] at *;obtain⟨gq,oq,a1,n1,c1,he1,-,-,-,e0,e1,e2,e3,hf⟩:=h.kidHere i hi l.length (by simp);subst he1;have hq:(l++[x])[l.length]'(by simp)=x:=by simp
 clear e0 e1 e2 e3;have hl1:(l++[x]).length=l.length+1:=by simp
 have hR:cQ (.mk k0 tx m (l++[x]))=decide (x.kind=18):=by simp [cQ,cY,Nd.kids]
 rw[hR];have HF:=h;clear h h3 hf hR;rw[hl1] at h1 hi ⊢;have hwn:IntKind.i64.wrap ((l.length:Nat):Int)=(l.length:Int):=by rw[IntKind.wrap_i64];omega
 have hn0:(0:Int)≤(l.length:Int):=by omega
 have hli:(l.length:Int)<(l.length:Int)+1:=by omega
 clear hl1;replace HF:=aN HF w.heap.size k0 tx m (some ⟨gq,oq,none⟩) (l.length+1) c;obtain⟨g2,o2,a2,n2,c2,he2,-,-,-,e0,e1,e2,e3,hf⟩:=HF.kidHere (i+1) hi l.length (by simp);cases he2;simp only[hq] at e0 e1 e2 e3;clear hf;generalize x.kind=kx at *;have c_n:=HF.cell 0 rfl;go_enter func78,ntmps78;go_wp2;clear c_n;go_ret
 first|exact⟨rfl,HF.tail⟩|exact⟨by simp [beq_eq_decide],HF.tail⟩
def CP.body (p:CP)(x0 x1 x2 x3 x4:Value):CP:={ p with r0:=x0,r1:=x1,r2:=x2,r3:=x3,r4:=x4,bv:=.slice none 0 0,em:=[] }
structure CP.Like (p q:CP):Prop where
 n0:q.n0=p.n0
 n1:q.n1=p.n1
 n2:q.n2=p.n2
 n3:q.n3=p.n3
 sm:q.sm=p.sm
 dm:q.dm=p.dm
theorem CP.Like.trans {p q r : CP} (h:p.Like q) (k:q.Like r):p.Like r:=⟨k.n0.trans h.n0,k.n1.trans h.n1,k.n2.trans h.n2,k.n3.trans h.n3,k.sm.trans h.sm,k.dm.trans h.dm⟩
theorem CP.Like.at (p:CP) (v:Value):p.Like (p.at v):=⟨rfl,rfl,rfl,rfl,rfl,rfl⟩
def PDp (q:CR Cs)(k:Nat)(B:Bs)(b:Nat)(p:CP)(L:List Rs)(e:Ending)(w':World):Prop:=
 (∃c a,q=.no c a∧e=upF c a∧Fr B w' L)∨(∃u p',q=.ok u∧u.k=k∧p.Like p'∧e=.returned (.tuple #[])∧Fr B w' (.cs b p' u::L))
theorem PDp.no {a : Nat} {c : Int} (hq:q=.no c a) (h:Fr B w' L):PDp q k B b p L (upF c a) w':=Or.inl ⟨c,a,hq,rfl,h⟩
theorem PDk.to {e : Ending} (h:PDk q k B b p L e w'):PDp q k B b p L e w':=by
 rcases h with h|⟨u,v,h1,h2,h3,h4⟩
 ·exact Or.inl h
 exact Or.inr ⟨u,p.at v,h1,h2,CP.Like.at p v,h3,h4⟩
theorem Fr.set0 {q : Nat} {cs : Array Value} {T : TypeId} (h:Fr B w (.blk q cs T::L)) (o:Nat) (v:Value):Fr B (w.setCell ⟨q,o,none⟩ v) (.blk q (cs.setIfInBounds o v) T::L):=h.set 0 rfl o v
theorem Fr.csBody (h:Fr B w (.cs b p s::L)) {x0 x1 x2 x3 x4 : Value} {t : T.Ty} (i:Nat) (hi:L[i]?=some (.el TyE [x0,x1,x2,x3,x4] t)) (mb:Bool):
  Fr B ((((((((w.setCell ⟨b,4,none⟩ x0).setCell ⟨b,5,none⟩ x1).setCell ⟨b,6,none⟩ x2).setCell ⟨b,7,none⟩ x3).setCell ⟨b,8,none⟩ x4).setCell ⟨b,9,none⟩ (.bool mb)).setCell ⟨b,10,none⟩ (.slice none 0 0)).setCell ⟨b,11,none⟩ (.int .i64 0)) (.cs b (p.body x0 x1 x2 x3 x4) { s with res:=t,many:=mb,env:=[],wo:=0 }::L):=by
 have hI:=h.csInv;have h1:=((h.dup (i+1) hi).swap).csOpen;have h2:=(((((((Fr.set0 (q:=b) (cs:=csC p s) (T:=90) h1 4 x0).set0 5 x1).set0 6 x2).set0 7 x3).set0 8 x4).set0 9 (.bool mb)).set0 10 (.slice none 0 0)).set0 11 (.int .i64 0);have e:((((((((csC p s).setIfInBounds 4 x0).setIfInBounds 5 x1).setIfInBounds 6 x2).setIfInBounds 7 x3).setIfInBounds 8 x4).setIfInBounds 9 (.bool mb)).setIfInBounds 10 (.slice none 0 0)).setIfInBounds 11 (.int .i64 0)=csC (p.body x0 x1 x2 x3 x4) { s with res:=t,many:=mb,env:=[],wo:=0 }:=by
  simp [csC,CP.body]
 rw[e] at h2;have h4:Fr B ((((((((w.setCell ⟨b,4,none⟩ x0).setCell ⟨b,5,none⟩ x1).setCell ⟨b,6,none⟩ x2).setCell ⟨b,7,none⟩ x3).setCell ⟨b,8,none⟩ x4).setCell ⟨b,9,none⟩ (.bool mb)).setCell ⟨b,10,none⟩ (.slice none 0 0)).setCell ⟨b,11,none⟩ (.int .i64 0)) (.blk b (csC (p.body x0 x1 x2 x3 x4) { s with res:=t,many:=mb,env:=[],wo:=0 }) 90::.some5 p.kv s.k::.mp zTy VTy p.sm s.n s.st::.mp zMe VMe p.dm s.n s.de::.el TyE [x0,x1,x2,x3,x4] t::L):=
  h2.sub (.cons_cons _ (.cons_cons _ (.cons _ (.cons_cons _ (.cons_cons _ (.cons _ (.cons _ (List.sublist_append_right _ _))))))))
 have h5:=(h4.nil 87 1).sure ⟨λ_=>CInv (p.body x0 x1 x2 x3 x4) { s with res:=t,many:=mb,env:=[],wo:=0 },λ_ _ h _=>h⟩ λ_=>⟨rfl,hI.n,hI.k,hI.st,hI.de,λ f hf=>(by cases hf),Nat.zero_le _,Nat.zero_le _⟩
 have h6:=h5.perm (((List.Perm.swap _ _ _).trans ((List.Perm.swap _ _ _).cons _)).cons _);exact Fr.csShut (h6.perm (List.perm_middle (l₁:=[_,_,_,_,_,_])).symm)
theorem Fr.csMore (h:Fr B w (.cs b p s::L)) {M : Nat} (h1:s.n≤M) (h2:M≤s.k):Fr B w (.cs b p { s with n:=M }::L):=by
 have hI:=h.csInv;have h3:=Fr.mpMoreAll h1 h.csOpen;have h4:=(h3.mpMore 3 rfl h1).mpMore 4 rfl h1;have h5:=h4.same 6 rfl (r':=.pure (CInv p { s with n:=M })) (λ H _=>⟨hI.len,h2,hI.k,hI.st,hI.de,hI.env,hI.wo,hI.el⟩) λ q hq=>hq;exact Fr.csShut (p:=p) (s:={ s with n:=M }) h5
def FnH:Prop:=∀(B:Bs)(w:World)(L:List Rs)(b:Nat)(p:CP)(s:Cs)(i:Nat)(a:Option Addr)(c:Nat)(sx:ByteArray)(m:Int)(l lb:List Nd)(t:Nd),Fr B w (.cs b p s::L)→L[i]?=some (.el NdE (ndc 7 sx m a (l.length+2) c) (.mk 7 sx m (l++[t]++[.mk 13 eB 0 lb])))→Tx (.mk 7 sx m (l++[t]++[.mk 13 eB 0 lb]))→(∀x,x∈l→Ti 8 x)→Ty t→(∀x,x∈lb→St x)→0≤m→m≤3 →
  s.k+sz (.mk 7 sx m (l++[t]++[.mk 13 eB 0 lb]))≤16000→s.n≤s.k →
  Calls prog 52 #[ptr b,.agg #[.int .i64 7,.string sx,.int .i64 m,.slice a (l.length+2) c]] w (PDp (funC s (.mk 7 sx m (l++[t]++[.mk 13 eB 0 lb]))) (s.k+sz (.mk 7 sx m (l++[t]++[.mk 13 eB 0 lb]))) B b p L)
def PUn (q:CR Cs)(B:Bs)(b:Nat)(p:CP)(L:List Rs)(e:Ending)(w':World):Prop:=
 (∃c a,q=.no c a∧e=upF c a∧Fr B w' L)∨(∃u p',q=.ok u∧p.Like p'∧e=.returned (.tuple #[])∧Fr B w' (.cs b p' u::L))
theorem PUn.no {a : Nat} {c : Int} (hq:q=.no c a) (h:Fr B w' L):PUn q B b p L (upF c a) w':=Or.inl ⟨c,a,hq,rfl,h⟩
theorem unit35 (hFn:FnH) (h:Fr B w (.cs b p s::.sl NdE (.slice a l.length c) 52 4 l::L)) (hn3:p.n3=.slice a l.length c) (hX:∀x,x∈l→Tx x) (hT:∀x,x∈l→De x) (hk:s.k+1+szs l≤16000) (hk0:s.k<16000):
  Calls prog 35 #[ptr b] w (PUn (statsL declC l { s with k:=s.k+1 }) B b p (.sl NdE (.slice a l.length c) 52 4 l::L)):=by
 have hcm:l.length≤c∧c≤maxLen:=by obtain⟨_,_,e1,h1,h2⟩:=h.slForm 1 rfl;cases e1;exact⟨h1,h2⟩
 have HF:=h;have HX:=ah hX;have HT:=ah hT;have HFn:=ah hFn;clear h hX hT hFn;go_enter func35,ntmps35;go_wp2_with fail;go_at_call 48;refine (bA HF (by omega)).mono ?_;rintro e w1 ⟨rfl,v1,HF⟩;have c_cs:=HF.csCell;rw[show csC (p.at v1) { s with k:=s.k+1 }=#[p.n0,p.n1,p.n2,.slice a l.length c,p.r0,p.r1,p.r2,p.r3,p.r4,.bool s.many,p.bv,.int .i64 s.wo,v1,.map (some p.sm),.map (some p.dm)] from by rw[← hn3];rfl] at c_cs;go_wp2;clear c_cs;go_loopw [12] (λ iv wr=>Hid (∃(j:Nat) (u:Cs) (p':CP),j≤l.length∧iv=.int .i64 (j:Int)∧statsL declC l { s with k:=s.k+1 }=statsL declC (l.drop j) u∧u.k+szs (l.drop j)=s.k+1+szs l∧p.Like p'∧Fr B wr (.cs b p' u::.sl NdE (.slice a l.length c) 52 4 l::L))) (λ iv _=>l.length - (intOf iv).toNat)
 case atStart=>exact⟨0,_,p.at v1,Nat.zero_le _,rfl,rfl,rfl,CP.Like.at p v1,HF⟩
 clear HF;obtain⟨j,u,p',hj,rfl,hW,huk,hlk,hfr⟩:=hrel.out;clear hrel;have HW:=ah hW;have HLK:=ah hlk;clear hW hlk;by_cases hlt:j<l.length
 ·obtain⟨g1,o1,a',n',c',he1,-,-,-,e0,e1,e2,e3,hkd⟩:=hfr.slHere 1 rfl j hlt;subst he1;have HY:Hid (l.drop j=l[j]::l.drop (j+1)):=eF hlt;have hy:l[j]∈l:=List.getElem_mem hlt;have hszy:szs (l.drop j)=sz l[j]+szs (l.drop (j+1)):=szs_at hlt;have hx:=HX _ hy;have hd:=HT _ hy;clear hy;generalize l[j]=y at *;have HF:=hkd.swap;have hli:(j:Int)<(l.length:Int):=by omega
  have HLT:=ah hlt;have HJ:Hid (wrap64 ((j:Int)+1)=(j:Int)+1):=by
   show _=_;have:=dS l;unfold wrap64;omega
  have hun:u.n≤u.k:=HF.csInv.n;have huk2:u.k+sz y≤16000:=by omega
  have HUK:=ah huk;have HSY:=ah hszy;have hkn:n'=y.kids.length:=by
   cases y;exact (HF.kids 1 rfl).1
  subst hkn;clear hfr hkd huk hszy;cases hd with
  | struct sx l0 h0=>
   have HD:Hid (declC u (.mk 2 sx 0 l0)=structC u (.mk 2 sx 0 l0)):=rfl;simp only[Nd.kind,Nd.text,Nd.num,Nd.kids] at e0 e1 e2 e3 HF;replace HF:=yN HF wr.heap.size 2 sx 0 a' l0.length c';have c_b3:=HF.cell 1 rfl;go_wp2_with fail;clear c_b3;clear e0 e1 e2 e3;go_at_call 49;refine ((struct49 HF 1 rfl hx h0 huk2 hun).mono λ e w' h=>PDk.to h).mono ?_;rintro e w11 (⟨c1,q1,h3,rfl,hf2⟩|⟨u2,v2,h3,hk2,hl2,rfl,hf2⟩)
   ·exact⟨rfl,PUn.no (by rw[HW.out,HY.out];simp only[statsL,HD.out,h3,CR.bind]) hf2.lose⟩
   have H3:=ah h3;have HK2:=ah hk2;have HL2:=ah hl2;replace HF:=hf2;clear h3 hk2 hl2 hf2;go_wp2;go_roundw
   case rel=>exact⟨j+1,u2,v2,HLT,by first|(rw[HJ.out];go_num)|go_num,by rw[HW.out,HY.out];simp only[statsL,HD.out,H3.out,CR.bind],by have:=HK2.out;have:=HUK.out;have:=HSY.out;omega,HLK.trans HL2,HF.lose⟩
   case measure=>first|(rw[HJ.out];exact aO HLT)|exact aO HLT
  | outside n0 h0=>
   obtain⟨sx,t0,rfl,ht0⟩:=h0;have HD:Hid (declC u (.mk 5 sx 0 [t0])=gE u (.mk 5 sx 0 [t0])):=rfl;simp only[Nd.kind,Nd.text,Nd.num,Nd.kids] at e0 e1 e2 e3 HF;replace HF:=yN HF wr.heap.size 5 sx 0 a' 1 c';have c_b3:=HF.cell 1 rfl;go_wp2_with fail;clear c_b3;clear e0 e1 e2 e3;go_at_call 50;refine ((global50_5 HF 1 rfl hx ht0 huk2 hun).mono λ e w' h=>PDk.to h).mono ?_;rintro e w11 (⟨c1,q1,h3,rfl,hf2⟩|⟨u2,v2,h3,hk2,hl2,rfl,hf2⟩)
   ·exact⟨rfl,PUn.no (by rw[HW.out,HY.out];simp only[statsL,HD.out,h3,CR.bind]) hf2.lose⟩
   have H3:=ah h3;have HK2:=ah hk2;have HL2:=ah hl2;replace HF:=hf2;clear h3 hk2 hl2 hf2;go_wp2;go_roundw
   case rel=>exact⟨j+1,u2,v2,HLT,by first|(rw[HJ.out];go_num)|go_num,by rw[HW.out,HY.out];simp only[statsL,HD.out,H3.out,CR.bind],by have:=HK2.out;have:=HUK.out;have:=HSY.out;omega,HLK.trans HL2,HF.lose⟩
   case measure=>first|(rw[HJ.out];exact aO HLT)|exact aO HLT
  | extern sx m l0 t0 hm h0 ht0=>
   have HD:Hid (declC u (.mk 4 sx m (l0++[t0]))=externC u (.mk 4 sx m (l0++[t0]))):=rfl;have hl0:(l0++[t0]).length=l0.length+1:=by simp
   simp only[hl0,Nd.kind,Nd.text,Nd.num,Nd.kids] at e0 e1 e2 e3 HF;replace HF:=yN HF wr.heap.size 4 sx m a' (l0.length+1) c';have c_b3:=HF.cell 1 rfl;go_wp2_with fail;clear c_b3;clear e0 e1 e2 e3;go_at_call 51;refine ((extern51 (l:=l0) HF 1 rfl hx h0 ht0 huk2 hun).mono λ e w' h=>PDk.to h).mono ?_;rintro e w11 (⟨c1,q1,h3,rfl,hf2⟩|⟨u2,v2,h3,hk2,hl2,rfl,hf2⟩)
   ·exact⟨rfl,PUn.no (by rw[HW.out,HY.out];simp only[statsL,HD.out,h3,CR.bind]) hf2.lose⟩
   have H3:=ah h3;have HK2:=ah hk2;have HL2:=ah hl2;replace HF:=hf2;clear h3 hk2 hl2 hf2;go_wp2;go_roundw
   case rel=>exact⟨j+1,u2,v2,HLT,by first|(rw[HJ.out];go_num)|go_num,by rw[HW.out,HY.out];simp only[statsL,HD.out,H3.out,CR.bind],by have:=HK2.out;have:=HUK.out;have:=HSY.out;omega,HLK.trans HL2,HF.lose⟩
   case measure=>first|(rw[HJ.out];exact aO HLT)|exact aO HLT
  | global sx m t0 kk vv hm ht0 hkk hv1 hv2=>
   have HD:Hid (declC u (.mk 6 sx m [t0,.mk kk eB vv []])=gE u (.mk 6 sx m [t0,.mk kk eB vv []])):=rfl;simp only[Nd.kind,Nd.text,Nd.num,Nd.kids] at e0 e1 e2 e3 HF;replace HF:=yN HF wr.heap.size 6 sx m a' 2 c';have c_b3:=HF.cell 1 rfl;go_wp2_with fail;clear c_b3;clear e0 e1 e2 e3;go_at_call 50;refine ((global50_6 HF 1 rfl hx ht0 hkk hv1 hv2 huk2 hun).mono λ e w' h=>PDk.to h).mono ?_;rintro e w11 (⟨c1,q1,h3,rfl,hf2⟩|⟨u2,v2,h3,hk2,hl2,rfl,hf2⟩)
   ·exact⟨rfl,PUn.no (by rw[HW.out,HY.out];simp only[statsL,HD.out,h3,CR.bind]) hf2.lose⟩
   have H3:=ah h3;have HK2:=ah hk2;have HL2:=ah hl2;replace HF:=hf2;clear h3 hk2 hl2 hf2;go_wp2;go_roundw
   case rel=>exact⟨j+1,u2,v2,HLT,by first|(rw[HJ.out];go_num)|go_num,by rw[HW.out,HY.out];simp only[statsL,HD.out,H3.out,CR.bind],by have:=HK2.out;have:=HUK.out;have:=HSY.out;omega,HLK.trans HL2,HF.lose⟩
   case measure=>first|(rw[HJ.out];exact aO HLT)|exact aO HLT
  | func sx m l0 t0 b0 hm1 hm2 h0 ht0 hb0=>
   obtain⟨lb0,rfl,hb1⟩:=hb0;have hl0:(l0++[t0]++[Nd.mk 13 eB 0 lb0]).length=l0.length+2:=by simp
   have HD:Hid (declC u (.mk 7 sx m (l0++[t0]++[.mk 13 eB 0 lb0]))=funC u (.mk 7 sx m (l0++[t0]++[.mk 13 eB 0 lb0]))):=rfl;simp only[hl0,Nd.kind,Nd.text,Nd.num,Nd.kids] at e0 e1 e2 e3 HF;replace HF:=yN HF wr.heap.size 7 sx m a' (l0.length+2) c';have c_b3:=HF.cell 1 rfl;go_wp2_with fail;clear c_b3;clear e0 e1 e2 e3;go_at_call 52;refine ((HFn _ _ _ _ _ _ 1 _ _ sx m l0 lb0 t0 HF rfl hx h0 ht0 hb1 hm1 hm2 huk2 hun)).mono ?_;rintro e w11 (⟨c1,q1,h3,rfl,hf2⟩|⟨u2,v2,h3,hk2,hl2,rfl,hf2⟩)
   ·exact⟨rfl,PUn.no (by rw[HW.out,HY.out];simp only[statsL,HD.out,h3,CR.bind]) hf2.lose⟩
   have H3:=ah h3;have HK2:=ah hk2;have HL2:=ah hl2;replace HF:=hf2;clear h3 hk2 hl2 hf2;go_wp2;go_roundw
   case rel=>exact⟨j+1,u2,v2,HLT,by first|(rw[HJ.out];go_num)|go_num,by rw[HW.out,HY.out];simp only[statsL,HD.out,H3.out,CR.bind],by have:=HK2.out;have:=HUK.out;have:=HSY.out;omega,HLK.trans HL2,HF.lose⟩
   case measure=>first|(rw[HJ.out];exact aO HLT)|exact aO HLT
 have hje:j=l.length:=by omega
 subst hje;have hli:¬ ((l.length:Nat):Int)<(l.length:Int):=by omega
 rw[List.drop_length] at HW;have HF:=hfr;clear hfr huk;go_wp2;go_end0
 exact Or.inr ⟨u,p',by rw[HW.out];rfl,HLK,rfl,HF⟩
theorem funC_eq (s:Cs) (sx:ByteArray) (m:Int) (l:List Nd) (t0 b0:Nd):funC s (.mk 7 sx m (l++[t0]++[b0])) =
  (cJ s.st [] [] l (s.k+1)).bind λ p=>(typC s.st t0 (s.k+1+szs l)).bind λ r=>
   (b7 { s with k:=s.k+1+szs l+sz t0,n:=s.n+p.2.length,res:=r,many:=decide (2≤m),env:=[],wo:=(p.2.map bS).sum } sx s.k (p.2++[r]) (decide (2≤m))).bind λ s2=>
   askC (decide (s2.wo≤40)) 1 s.k <| (fG (bL (sz b0)) (cG (λ_=>none) p.1 p.2) s2 b0).bind λ u=>askC (cQ b0) 2 s2.k <| .ok u:=by
 have e1:(l++[t0]++[b0]).take ((l++[t0]++[b0]).length - 2)=l:=by simp
 have e2:cY (l++[t0]++[b0]) 2=t0:=by simp [cY]
 have e3:cY (l++[t0]++[b0]) 1=b0:=by simp [cY]
 unfold funC;simp only[Nd.kids,Nd.text,Nd.num,e1,e2,e3];rfl
theorem localsL_snoc:∀(ns:List ByteArray)(ps:List T.Ty)(f:TM)(x:ByteArray)(t:T.Ty),ns.length=ps.length→cG f (ns++[x]) (ps++[t])=putM (cG f ns ps) x t
 | [],[],f,x,t,_=>rfl
 | y::ns,u::ps,f,x,t,h=>localsL_snoc ns ps (putM f y u) x t (by simpa using h)
theorem localsL_take {ns : List ByteArray} {ps : List T.Ty} (f:TM) {j : Nat} (h1:j<ns.length) (h2:j<ps.length):cG f (ns.take (j+1)) (ps.take (j+1))=putM (cG f (ns.take j) (ps.take j)) ns[j] ps[j]:=by
 rw[List.take_add_one,List.take_add_one,List.getElem?_eq_getElem h1,List.getElem?_eq_getElem h2];exact localsL_snoc _ _ f _ _ (by simp;omega)
theorem localsL_may:∀(ns:List ByteArray)(ps:List T.Ty)(f:TM),(∀x t,f x=some t→may t=true)→(∀t,t∈ps→may t=true)→∀x t,cG f ns ps x=some t→may t=true
 | [],_,f,hf,_,x,t,h=>hf x t h
 | _::_,[],f,hf,_,x,t,h=>hf x t h
 | y::ns,u::ps,f,hf,hp,x,t,h=>localsL_may ns ps (putM f y u) (λ z v hv=>by
   unfold putM at hv;split at hv
   ·cases hv;exact hp u (List.mem_cons_self ..)
   exact hf z v hv) (λ v hv=>hp v (List.mem_cons_of_mem _ hv)) x t h
theorem words_take {ps : List T.Ty} {j : Nat} (h:j<ps.length):((ps.take (j+1)).map bS).sum=((ps.take j).map bS).sum+bS ps[j]:=by
 rw[List.take_add_one,List.getElem?_eq_getElem h];simp only[List.map_append,List.sum_append,Option.toList,List.map_cons,List.map_nil,List.sum_cons,List.sum_nil,Nat.add_zero]
theorem words_sum:∀(ps:List T.Ty),(ps.map bS).sum≤12*ps.length
 | []=>by simp
 | t::ps=>by have:=words_sum ps;have:=words_le t;simp only[List.map_cons,List.sum_cons,List.length_cons];omega
theorem typed_facts (st:TM):∀(l:List Nd) (ns:List ByteArray) (ps:List T.Ty) (k:Nat) (q:List ByteArray × List T.Ty),cJ st ns ps l k=.ok q→q.1=ns++l.map Nd.text∧q.2.length=ps.length+l.length
 | [],ns,ps,k,q,h=>by cases h;exact⟨by simp,by simp⟩
 | x::l,ns,ps,k,q,h=>by
  obtain⟨t,_,h⟩:=CR.bind_ok h;obtain⟨_,h⟩:=aJ h;obtain⟨a,b⟩:=typed_facts st l _ _ _ q h;exact⟨by rw[a];simp,by rw[b];simp;omega⟩
structure FnOk (S:Cs)(d:Nd)(g:T.Ty):Prop where
 it:∃(s v:Cs) (sx:ByteArray) (m:Int) (l:List Nd) (t0 b0:Nd) (ps:List T.Ty) (r:T.Ty),d=.mk 7 sx m (l++[t0]++[b0])∧Sub s S∧s.env=[]∧s.res=r∧l.length=ps.length ∧
  g=mkTy 4 eB [] (ps++[r]) (decide (2≤m))∧Bl b0∧cQ b0=true∧fG (bL (sz b0)) (cG (λ_=>none) (l.map Nd.text) ps) s b0=.ok v
theorem FnOk.sub {g : T.Ty} (h:FnOk S d g) (k:Sub S S'):FnOk S' d g:=by
 obtain⟨s,v,sx,m,l,t0,b0,ps,r,q1,q2,q3⟩:=h.it;exact⟨s,v,sx,m,l,t0,b0,ps,r,q1,q2.trans k,q3⟩
structure SdOk (S:Cs)(d:Nd):Prop where
 it:∃t,S.st d.text=some t∧may t=true∧tyk t=3∧d.kids.length=tnn t∧∀j (h:j<d.kids.length),d.kids[j].text=tnm t j
structure VdOk (S:Cs)(d:Nd):Prop where
 it:∃t b,S.de d.text=some (t,b)∧may t=true∧(b=true→tyk t=4)∧(b=false→tyk t≠4)∧(d.kind=7→FnOk S d t)∧(d.kind=6→tyk t≠4∧∀G,HT G (numN (kid1 d)) t)
def DeOk (S:Cs)(d:Nd):Prop:=(d.kind=2→SdOk S d)∧(d.kind≠2→VdOk S d)
theorem DeOk.sub (h:DeOk S d) (k:Sub S S'):DeOk S' d:=by
 refine⟨λ e=>?_,λ e=>?_⟩
 ·obtain⟨t,a,b⟩:=(h.1 e).it;exact⟨t,k.st _ _ a,b⟩
 obtain⟨t,b,q1,q2,q3,q4,q5,q6⟩:=(h.2 e).it;exact⟨t,b,k.de _ _ q1,q2,q3,q4,λ e=>(q5 e).sub k,q6⟩
structure Step (S S':Cs)(d:Nd):Prop where
 sub:Sub S S'
 ok:DeOk S' d
 fresh:(d.kind=2→S.st d.text=none)∧(d.kind≠2→S.de d.text=none)
 de:∀x q,S'.de x=some q→S.de x=some q∨(d.kind≠2∧d.text=x)
 st:∀x t,S'.st x=some t→S.st x=some t∨(d.kind=2∧d.text=x)
theorem none_of {o : Option α} (h:(!o.isSome)=true):o=none:=by cases o with|none=>rfl|some x=>cases h
theorem putM_sub {s : ByteArray} {x : α} (h:f s=none):∀y q,f y=some q→putM f s x y=some q:=λ y q e=>by
 unfold putM;by_cases c:y=s
 ·subst c;rw[h] at e;cases e
 rw[if_neg c];exact e
theorem putM_of {s y : ByteArray} {x q : α} (h:putM f s x y=some q):f y=some q∨s=y:=by
 unfold putM at h;by_cases c:y=s
 ·exact .inr c.symm
 rw[if_neg c] at h;exact .inl h
theorem putM_at {s : ByteArray} {x : α}:putM f s x s=some x:=if_pos rfl
theorem declare_facts {ps : List T.Ty} {b : Bool} (h:b7 S x k ps b=.ok S'):S.de x=none∧may (mkTy 4 eB [] ps b)=true∧S'={ S with n:=S.n+1,de:=putM S.de x (mkTy 4 eB [] ps b,true) }:=by
 obtain⟨h1,h⟩:=aJ h;obtain⟨h2,h⟩:=aJ h;cases h;exact⟨none_of h1,h2,rfl⟩
theorem struct_step {s : ByteArray} (h:structC S (.mk 2 s 0 l)=.ok S'):Step S S' (.mk 2 s 0 l):=by
 obtain⟨q,e,h⟩:=CR.bind_ok h;obtain⟨h1,h⟩:=aJ h;obtain⟨h2,h⟩:=aJ h;cases h;obtain⟨a,b⟩:=typed_facts _ _ _ _ _ _ e;have h1:S.st s=none:=none_of h1;have a:q.1=l.map Nd.text:=by rw[a];rfl
 refine⟨⟨λ x q e=>e,putM_sub h1⟩,⟨λ_=>⟨_,putM_at,h2,rfl,?_,λ j hj=>?_⟩,λ e=>absurd rfl e⟩,⟨λ_=>h1,λ e=>absurd rfl e⟩,λ x q e=>.inl e,λ x t e=>(putM_of e).imp_right λ e=>⟨rfl,e⟩⟩
 ·show l.length=q.1.length;rw[a,List.length_map]
 have hj:j<l.length:=hj;show l[j].text=q.1.getD j _;rw[a,List.getD_eq_getElem?_getD,List.getElem?_map,List.getElem?_eq_getElem hj];rfl
theorem global_step {s : ByteArray} {k : Int} (hk:k=5∨k=6) (hv:k=6→∃t v n,l=[t,.mk v eB n []]∧(v=21∨v=22)) (h:gE S (.mk k s m l)=.ok S'):Step S S' (.mk k s m l):=by
 obtain⟨t,e,h⟩:=CR.bind_ok h;obtain⟨h1,h⟩:=aJ h;obtain⟨h2,h⟩:=aJ h;cases h;have h1:S.de s=none:=none_of h1;simp only[Bool.and_eq_true] at h2;obtain⟨n1,n2⟩:=h2;have hn:=isNum_or n1;have k2:(Nd.mk k s m l).kind≠2:=by show k≠2;clear hv;omega
 have k7:k≠7:=by clear hv;omega
 have t4:tyk t≠4:=by clear hv;omega
 have m1:may t=true:=by unfold same at n2;simp only[Bool.and_eq_true] at n2;exact n2.1.1
 refine⟨⟨putM_sub h1,λ x t e=>e⟩,⟨λ e=>absurd e k2,λ_=>⟨t,false,putM_at,m1,λ e=>(by cases e),λ_=>t4,λ (e:k=7)=>absurd e k7,λ (k6:k=6)=>⟨t4,λ G=>?_⟩⟩⟩,⟨λ e=>absurd e k2,λ_=>h1⟩,λ x q e=>(putM_of e).imp_right λ e=>⟨k2,e⟩,λ x t e=>.inl e⟩;obtain⟨t1,v,n,rfl,hv2⟩:=hv k6;subst k6;obtain⟨_,_,al⟩:=same_facts n2;have al:=cI al;rcases hv2 with rfl|rfl
 ·exact .int _ _ al.k
 exact .long _ _ al.k
theorem extern_step {s : ByteArray} (h:externC S (.mk 4 s m l)=.ok S'):Step S S' (.mk 4 s m l):=by
 obtain⟨q,e,h⟩:=CR.bind_ok h;obtain⟨t,e',h⟩:=CR.bind_ok h;obtain⟨h1,h2,rfl⟩:=declare_facts h;have h1:S.de s=none:=h1;have k2:(Nd.mk 4 s m l).kind≠2:=by show (4:Int)≠2;decide
 exact⟨⟨putM_sub h1,λ x t e=>e⟩,⟨λ e=>absurd e k2,λ_=>⟨_,true,putM_at,h2,λ_=>rfl,λ e=>(by cases e),λ (e:(4:Int)=7)=>absurd e (by decide),λ (e:(4:Int)=6)=>absurd e (by decide)⟩⟩,⟨λ e=>absurd e k2,λ_=>h1⟩,
  λ x q e=>(putM_of e).imp_right λ e=>⟨k2,e⟩,λ x t e=>.inl e⟩
theorem func_step {s : ByteArray} {t0 b0 : Nd} (hb:Bl b0) (h:funC S (.mk 7 s m (l++[t0]++[b0]))=.ok S'):Step S S' (.mk 7 s m (l++[t0]++[b0])):=by
 rw[funC_eq] at h;obtain⟨q,e,h⟩:=CR.bind_ok h;obtain⟨t,e',h⟩:=CR.bind_ok h;obtain⟨s2,e2,h⟩:=CR.bind_ok h;obtain⟨_,h⟩:=aJ h;obtain⟨u,e3,h⟩:=CR.bind_ok h;obtain⟨h3,h⟩:=aJ h;cases h;obtain⟨h1,h2,e5⟩:=declare_facts e2;have h1:S.de s=none:=h1;have k2:(Nd.mk 7 s m (l++[t0]++[b0])).kind≠2:=by show (7:Int)≠2;decide
 obtain⟨kk,ke⟩:=eM (eO _) e3;obtain⟨a,b⟩:=typed_facts _ _ _ _ _ _ e;have hde:S'.de=putM S.de s (mkTy 4 eB [] (q.2++[t]) (decide (2≤m)),true):=by rw[kk.de,e5]
 have hst:S'.st=S.st:=by rw[kk.st,e5]
 refine⟨⟨λ x q e=>?_,λ x t e=>by rw[hst];exact e⟩,⟨λ e=>absurd e k2,λ_=>⟨_,true,by rw[hde];exact putM_at,h2,λ_=>rfl,λ e=>(by cases e),λ_=>⟨s2,S',s,m,l,t0,b0,q.2,t,rfl,⟨λ x q e=>?_,λ x t e=>?_⟩,by rw[e5],by rw[e5],by rw[b];simp,rfl,hb,h3,?_⟩,λ (e:(7:Int)=6)=>absurd e (by decide)⟩⟩,
  ⟨λ e=>absurd e k2,λ_=>h1⟩,λ x q e=>?_,λ x t e=>.inl (by rw[hst] at e;exact e)⟩
 ·rw[hde];exact putM_sub h1 x q e
 ·rw[kk.de];exact e
 ·rw[kk.st];exact e
 ·have a:q.1=l.map Nd.text:=by rw[a];rfl
  rw[← a];exact e3
 rw[hde] at e;exact (putM_of e).imp_right λ e=>⟨k2,e⟩
theorem decl_step (hd:De d) (h:declC S d=.ok S'):Step S S' d:=by
 cases hd with
 | struct s l hl=>exact struct_step h
 | outside n ht=>
  obtain⟨s,t,rfl,_⟩:=ht;exact global_step (.inl rfl) (λ e=>absurd e (by decide)) h
 | extern s m l t _ _ _=>exact extern_step h
 | global s m t k v _ _ hk _ _=>exact global_step (.inr rfl) (λ_=>⟨t,k,v,rfl,hk⟩) h
 | func s m l t b _ _ _ _ hb=>exact func_step hb h
structure UnOk (l:List Nd)(S:Cs):Prop where
 ok:∀d,d∈l→DeOk S d
 de:∀x q,S.de x=some q→∃d,d∈l∧d.kind≠2∧d.text=x
 st:∀x t,S.st x=some t→∃d,d∈l∧d.kind=2∧d.text=x
 one:∀(i j:Nat) (a b:Nd),i<j→l[i]?=some a→l[j]?=some b→(a.kind=2 ↔ b.kind=2)→a.text≠b.text
theorem UnOk.snoc (h:UnOk l S) (k:Step S S' d):UnOk (l++[d]) S':=by
 refine⟨λ a ha=>?_,λ x q e=>?_,λ x t e=>?_,λ i j a b hij ha hb hk=>?_⟩
 ·rcases List.mem_append.1 ha with ha|ha
  ·exact (h.ok a ha).sub k.sub
  rw[List.mem_singleton.1 ha];exact k.ok
 ·rcases k.de x q e with e|⟨e1,e2⟩
  ·obtain⟨a,q1,q2⟩:=h.de x q e;exact⟨a,List.mem_append_left _ q1,q2⟩
  exact⟨d,List.mem_append_right _ (List.mem_singleton_self _),e1,e2⟩
 ·rcases k.st x t e with e|⟨e1,e2⟩
  ·obtain⟨a,q1,q2⟩:=h.st x t e;exact⟨a,List.mem_append_left _ q1,q2⟩
  exact⟨d,List.mem_append_right _ (List.mem_singleton_self _),e1,e2⟩
 have hj:=(List.getElem?_eq_some_iff.1 hb).1;rw[List.length_append,List.length_singleton] at hj;rw[List.getElem?_append_left (by omega)] at ha;by_cases c:j<l.length
 ·rw[List.getElem?_append_left c] at hb;exact h.one i j a b hij ha hb hk
 rw[List.getElem?_append_right (by omega),show j - l.length=0 by omega] at hb;cases hb;have hm:=h.ok a (List.mem_of_getElem? ha);intro e;by_cases c2:a.kind=2
 ·obtain⟨t,q1,_⟩:=(hm.1 c2).it;rw[e,k.fresh.1 (hk.1 c2)] at q1;cases q1
 obtain⟨t,b,q1,_⟩:=(hm.2 c2).it;rw[e,k.fresh.2 (λ h=>c2 (hk.2 h))] at q1;cases q1
theorem unit_facts:∀(l l0:List Nd)(S S':Cs),(∀x,x∈l→De x)→UnOk l0 S→K.statsL declC l S=.ok S'→UnOk (l0++l) S'
 | [],l0,S,S',hl,h,e=>by cases e;rw[List.append_nil];exact h
 | d::l,l0,S,S',hl,h,e=>by
  obtain⟨U,e1,e2⟩:=CR.bind_ok e;have:=unit_facts l (l0++[d]) U S' (λ x hx=>hl x (List.mem_cons_of_mem _ hx)) (h.snoc (decl_step (hl d (List.mem_cons_self ..)) e1)) e2;rw[List.append_assoc] at this;exact this
theorem unit_ok (hn:Un n) (h:unitC n=.ok S):UnOk n.kids S:=by
 obtain⟨l,rfl,hl⟩:=hn;exact unit_facts l [] _ S hl ⟨λ d hd=>(by cases hd),λ x q e=>(by cases e),λ x t e=>(by cases e),λ i j a b _ ha=>by simp at ha⟩ h
inductive JR (α:Type)
 | ok (x:α)
 | no (unit code at_:Int)
def JR.bind {α β:Type}(q:JR α)(f:α→JR β):JR β:=match q with|.ok x=>f x|.no u c a=>.no u c a
theorem JR.bind_ok {β : Type} {q : JR α} {f : α→JR β} {y : β} (h:q.bind f=.ok y):∃x,q=.ok x∧f x=.ok y:=by
 cases q with
 | ok x=>exact⟨x,rfl,h⟩
 | no u c a=>cases h
structure Uq where
 node:Nd
 signs:List ByteArray
def dM:Nat→List Nd→List Nat
 | _,[]=>[]
 | k,x::l=>k::dM (k+sz x) l
def numAt (u:Uq)(i:Nat):Int:=((dM 1 u.node.kids).getD i 0:Nat)
def signOf (u:Uq)(i:Nat):ByteArray:=u.signs.getD i eB
def dN (d:Nd):Bool:=decide (d.num % 2=1)
def firstV (d:Nd):Va:=if d.kind≠6 then vZ else numN (kid1 d)
structure Jn where
 op:NM
 ts:List Th
 now:List Va
structure Mj where
 st:NM
 me:NM
 j:Jn
def dJ (a:Nat)(u:Uq)(i:Nat)(d:Nd)(m:Mj):JR Mj:=
 if d.kind=2 then .ok { m with st:=putM m.st d.text i }
 else if d.kind=7∨d.kind=6 then
  if (m.j.op d.text).isSome=true∧dN d=false then .no a 5 (numAt u i)
  else .ok ⟨m.st,putM m.me d.text m.j.ts.length,⟨if dN d=true then m.j.op else putM m.j.op d.text m.j.ts.length,m.j.ts++[⟨d,a,signOf u i⟩],m.j.now++[firstV d]⟩⟩
 else .ok m
def gatherL (a:Nat)(u:Uq):Nat→List Nd→Mj→JR Mj
 | _,[],m=>.ok m
 | i,d::l,m=>(dJ a u i d m).bind λ m=>gatherL a u (i+1) l m
def bI:Nat→List Ui→List Uq→Jn→JR (List Ui × Jn)
 | _,acc,[],j=>.ok (acc,j)
 | a,acc,u::l,j=>(gatherL a u 0 u.node.kids ⟨noN,noN,j⟩).bind λ m=>bI (a+1) (acc++[⟨u.node,m.st,m.me⟩]) l m.j
def bZ (a:Nat)(u:Uq)(j:Jn)(i:Nat)(d:Nd)(me:NM):JR NM:=
 if d.kind=4∨d.kind=5 then match j.op d.text with
  | none=>.no a 4 (numAt u i)
  | some p=>if ((j.ts[p]?).elim eB Th.sign)≠signOf u i then .no a 3 (numAt u i) else .ok (putM me d.text p)
 else .ok me
def resolveL (a:Nat)(u:Uq)(j:Jn):Nat→List Nd→NM→JR NM
 | _,[],me=>.ok me
 | i,d::l,me=>(bZ a u j i d me).bind λ me=>resolveL a u j (i+1) l me
def bF (j:Jn):Nat→List Ui→List Uq→List Ui→JR (List Ui)
 | a,acc,u::l,v::k=>(resolveL a u j 0 u.node.kids v.me).bind λ me=>bF j (a+1) (acc++[⟨v.node,v.st,me⟩]) l k
 | _,acc,_,_=>.ok acc
def wMAIN:ByteArray:=⟨#[109,97,105,110]⟩
def wFNINT:ByteArray:=⟨#[102,110,40,41,105,110,116]⟩
def dD (j:Jn):JR Nat:=match j.op wMAIN with
 | none=>.no 0 4 0
 | some p=>if ((j.ts[p]?).elim 0 λ t=>t.node.kind)≠7 then .no 0 4 0 else if ((j.ts[p]?).elim eB Th.sign)≠wFNINT then .no 0 3 0 else .ok p
def eQ:Nat→List ByteArray→JR (List Uq)
 | _,[]=>.ok []
 | a,t::l=>match checkQ t with
  | .inr (c,x)=>.no a c x
  | .inl (n,sg)=>(eQ (a+1) l).bind λ k=>.ok (⟨n,sg⟩::k)
structure Rdy where
 pg:Pg
 now:List Va
 main:Nat
def b8 (l:List ByteArray):JR Rdy:=
 if l.length<1∨4<l.length then .no 0 1 0
 else (eQ 0 l).bind λ us=>(bI 0 [] us ⟨noN,[],[]⟩).bind λ q=>(bF q.2 0 [] us q.1).bind λ vs=>(dD q.2).bind λ p=>.ok ⟨⟨vs,q.2.ts⟩,q.2.now,p⟩
structure UqOk (u:Uq)(S:Cs):Prop where
 un:Un u.node
 ch:unitC u.node=.ok S
 sg:u.signs=u.node.kids.map λ d=>eA (if d.kind=2 then (S.st d.text).getD tZ else (S.de d.text).elim tZ Prod.fst)
abbrev Us:=List (Uq × Cs)
structure TsOk (U:Us)(j:Jn):Prop where
 len:j.now.length=j.ts.length
 at_:∀(i:Nat) t,j.ts[i]?=some t→j.now[i]?=some (firstV t.node)∧(t.node.kind=7∨t.node.kind=6)∧∃(u:Uq) (S:Cs) (k:Nat),U[t.unit]?=some (u,S)∧u.node.kids[k]?=some t.node∧t.sign=signOf u k
 op:∀x p,j.op x=some p→p<j.ts.length
theorem TsOk.snoc {U : Us} {j : Jn} {a : Nat} {u : Uq} {op : NM} (h:TsOk U j) (h1:U[a]?=some (u,S)) (h2:u.node.kids[k]?=some d) (h3:d.kind=7∨d.kind=6) (h4:∀x p,op x=some p→p<j.ts.length+1):
  TsOk U ⟨op,j.ts++[⟨d,a,signOf u k⟩],j.now++[firstV d]⟩:=by
 refine⟨by simp [h.len],λ i t e=>?_,λ x p e=>by simpa using h4 x p e⟩;by_cases c:i<j.ts.length
 ·have e:(j.ts++[⟨d,a,signOf u k⟩])[i]?=some t:=e;rw[List.getElem?_append_left c] at e;obtain⟨q1,q2⟩:=h.at_ i t e;exact⟨by show (j.now++_)[i]?=_;rw[List.getElem?_append_left (by rw[h.len];exact c)];exact q1,q2⟩
 have e:(j.ts++[⟨d,a,signOf u k⟩])[i]?=some t:=e;have hi:=(List.getElem?_eq_some_iff.1 e).1;rw[List.length_append,List.length_singleton] at hi;rw[List.getElem?_append_right (by omega),show i - j.ts.length=0 by omega] at e;cases e;exact⟨by show (j.now++_)[i]?=_;rw[List.getElem?_append_right (by rw[h.len];omega),show i - j.now.length=0 by rw[h.len];omega];rfl,h3,u,S,k,h1,h2,rfl⟩
structure MeOk (l:List Nd)(a:Nat)(u:Uq)(k:Nat)(st me:NM)(ts:List Th):Prop where
 st:∀(i:Nat) d,i<k→l[i]?=some d→d.kind=2→st d.text=some i
 me:∀(i:Nat) d,i<k→l[i]?=some d→(d.kind=7∨d.kind=6)→∃p:Nat,me d.text=some p∧ts[p]?=some ⟨d,a,signOf u i⟩
theorem gatherL_ok {U:Us}{a:Nat}{u:Uq}{S:Cs}{all:List Nd}(hU:U[a]?=some (u,S))(ha:u.node.kids=all)(one:∀(i j:Nat) (x y:Nd),i<j→all[i]?=some x→all[j]?=some y→(x.kind=2 ↔ y.kind=2)→x.text≠y.text):
  ∀(l:List Nd) (k:Nat) (m m':Mj),all.drop k=l→TsOk U m.j→MeOk all a u k m.st m.me m.j.ts→gatherL a u k l m=.ok m'→TsOk U m'.j∧MeOk all a u all.length m'.st m'.me m'.j.ts∧∃r,m'.j.ts=m.j.ts++r
 | [],k,m,m',hd,ht,hm,h=>by
  cases h;have:all.length≤k:=by have:=congrArg List.length hd;rw[List.length_drop] at this;simp at this;omega
  exact⟨ht,⟨λ i d hi=>hm.st i d (by omega),λ i d hi=>hm.me i d (by omega)⟩,[],by simp⟩
 | d::l,k,m,m',hd,ht,hm,h=>by
  obtain⟨m1,e1,e2⟩:=JR.bind_ok h;have hk:all[k]?=some d:=by rw[← List.head?_drop,hd];rfl
  have hd':all.drop (k+1)=l:=by rw[← List.tail_drop,hd];rfl
  have next:TsOk U m1.j→MeOk all a u (k+1) m1.st m1.me m1.j.ts→(∃r,m1.j.ts=m.j.ts++r)→TsOk U m'.j∧MeOk all a u all.length m'.st m'.me m'.j.ts∧∃r,m'.j.ts=m.j.ts++r:=λ q1 q2 ⟨r,q3⟩=>by
   obtain⟨w1,w2,r',w3⟩:=gatherL_ok hU ha one l (k+1) m1 m' hd' q1 q2 e2;exact⟨w1,w2,r++r',by rw[w3,q3,List.append_assoc]⟩
  unfold dJ at e1;split at e1
  ·rename_i k2
   cases e1;refine next ht ⟨λ i x hi hx hxk=>?_,λ i x hi hx hxk=>?_⟩ ⟨[],by simp⟩
   ·by_cases c:i<k
    ·have:=one i k x d c hx hk ⟨λ_=>k2,λ_=>hxk⟩;show putM m.st d.text k x.text=_;unfold putM;rw[if_neg this];exact hm.st i x c hx hxk
    obtain rfl:i=k:=by omega
    rw[hk] at hx;cases hx;exact putM_at
   have c:i<k:=by
    by_cases c:i<k
    ·exact c
    obtain rfl:i=k:=by omega
    rw[hk] at hx;cases hx;omega
   exact hm.me i x c hx hxk
  rename_i k2
  split at e1
  ·rename_i k67
   split at e1
   ·cases e1
   cases e1;refine next (ht.snoc hU (by rw[ha];exact hk) k67 λ x p e=>?_) ⟨λ i x hi hx hxk=>?_,λ i x hi hx hxk=>?_⟩ ⟨_,rfl⟩
   ·split at e
    ·have:=ht.op x p e;omega
    unfold putM at e;split at e
    ·cases e;omega
    have:=ht.op x p e;omega
   ·have c:i<k:=by
     by_cases c:i<k
     ·exact c
     obtain rfl:i=k:=by omega
     rw[hk] at hx;cases hx;exact absurd hxk k2
    exact hm.st i x c hx hxk
   by_cases c:i<k
   ·have:=one i k x d c hx hk ⟨λ h=>by omega,λ h=>absurd h k2⟩;obtain⟨p,q1,q2⟩:=hm.me i x c hx hxk;refine⟨p,?_,at_app _ q2⟩;show putM m.me d.text _ x.text=_;unfold putM;rw[if_neg this];exact q1
   obtain rfl:i=k:=by omega
   rw[hk] at hx;cases hx;refine⟨m.j.ts.length,putM_at,?_⟩;show (m.j.ts++_)[m.j.ts.length]?=_;rw[List.getElem?_append_right (Nat.le_refl _),Nat.sub_self];rfl
  rename_i k67
  cases e1;have c:∀i x,i<k+1→all[i]?=some x→(x.kind=2∨x.kind=7∨x.kind=6)→i<k:=λ i x hi hx hxk=>by
   by_cases c:i<k
   ·exact c
   obtain rfl:i=k:=by omega
   rw[hk] at hx;cases hx;omega
  exact next ht ⟨λ i x hi hx hxk=>hm.st i x (c i x hi hx (.inl hxk)) hx hxk,λ i x hi hx hxk=>hm.me i x (c i x hi hx (.inr hxk)) hx hxk⟩ ⟨[],by simp⟩
structure VsU (U:Us)(n:Nat)(vs:List Ui)(ts:List Th):Prop where
 len:vs.length=n
 at_:∀(a:Nat) v,vs[a]?=some v→∃u S,U[a]?=some (u,S)∧v.node=u.node∧MeOk u.node.kids a u u.node.kids.length v.st v.me ts
theorem MeOk.app {a : Nat} {u : Uq} {st me : NM} {ts : List Th} (h:MeOk l a u k st me ts) (r:List Th):MeOk l a u k st me (ts++r):=⟨h.st,λ i d hi hd hk=>by
 obtain⟨p,q1,q2⟩:=h.me i d hi hd hk;exact⟨p,q1,at_app r q2⟩⟩
theorem gatherQ_ok {U:Us}(hU:∀u S,(u,S)∈U→UqOk u S):∀(us:List Uq) (a:Nat) (acc vs:List Ui) (j j':Jn),(U.drop a).map Prod.fst=us→TsOk U j→VsU U a acc j.ts→bI a acc us j=.ok (vs,j')→TsOk U j'∧VsU U (a+us.length) vs j'.ts
 | [],a,acc,vs,j,j',hd,ht,hv,h=>by cases h;exact⟨ht,hv⟩
 | u::us,a,acc,vs,j,j',hd,ht,hv,h=>by
  obtain⟨m,e1,e2⟩:=JR.bind_ok h;obtain⟨S,hS⟩:∃S,U[a]?=some (u,S):=by
   have:((U.drop a).map Prod.fst)[0]?=some u:=by rw[hd];rfl
   rw[List.getElem?_map,List.getElem?_drop] at this;cases hq:U[a+0]? with
   | none=>rw[hq] at this;cases this
   | some q=>rw[hq] at this;injection this with this;subst this;exact⟨q.2,rfl⟩
  have hq:=hU u S (List.mem_of_getElem? hS);have hun:=unit_ok hq.un hq.ch;obtain⟨w1,w2,r,w3⟩:=gatherL_ok hS rfl hun.one u.node.kids 0 ⟨noN,noN,j⟩ m (by simp) ht ⟨λ i d hi=>absurd hi (Nat.not_lt_zero _),λ i d hi=>absurd hi (Nat.not_lt_zero _)⟩ e1;have w3:m.j.ts=j.ts++r:=w3;have hd':(U.drop (a+1)).map Prod.fst=us:=by
   rw[← List.tail_drop,List.map_tail,hd];rfl
  have:=gatherQ_ok hU us (a+1) _ vs m.j j' hd' w1 ⟨by simp [hv.len],λ b v hb=>?_⟩ e2
  ·rw[List.length_cons,show a+(us.length+1)=a+1+us.length by omega];exact this
  by_cases c:b<a
  ·rw[List.getElem?_append_left (by rw[hv.len];exact c)] at hb;obtain⟨u',S',q1,q2,q3⟩:=hv.at_ b v hb;exact⟨u',S',q1,q2,by rw[w3];exact q3.app r⟩
  have hi:=(List.getElem?_eq_some_iff.1 hb).1;rw[List.length_append,List.length_singleton,hv.len] at hi;obtain rfl:b=a:=by omega
  rw[List.getElem?_append_right (by rw[hv.len];exact Nat.le_refl _),hv.len,Nat.sub_self] at hb;cases hb;exact⟨u,S,hS,rfl,w2⟩
def RsOk (l:List Nd)(u:Uq)(j:Jn)(k:Nat)(me:NM):Prop:=∀(i:Nat) d,i<k→l[i]?=some d→(d.kind=4∨d.kind=5)→∃p t,me d.text=some p∧j.ts[p]?=some t∧t.sign=signOf u i
theorem resolveL_ok {U:Us}{a:Nat}{u:Uq}{st:NM}{j:Jn}{all:List Nd}(hj:TsOk U j)(one:∀(i j:Nat) (x y:Nd),i<j→all[i]?=some x→all[j]?=some y→(x.kind=2 ↔ y.kind=2)→x.text≠y.text):
  ∀(l:List Nd) (k:Nat) (me me':NM),all.drop k=l→MeOk all a u all.length st me j.ts→RsOk all u j k me→resolveL a u j k l me=.ok me'→MeOk all a u all.length st me' j.ts∧RsOk all u j all.length me'
 | [],k,me,me',hd,hm,hr,h=>by
  cases h;have:all.length≤k:=by have:=congrArg List.length hd;rw[List.length_drop] at this;simp at this;omega
  exact⟨hm,λ i d hi=>hr i d (by omega)⟩
 | d::l,k,me,me',hd,hm,hr,h=>by
  obtain⟨m1,e1,e2⟩:=JR.bind_ok h;have hk:all[k]?=some d:=by rw[← List.head?_drop,hd];rfl
  have hd':all.drop (k+1)=l:=by rw[← List.tail_drop,hd];rfl
  have other:∀{i x},all[i]?=some x→i≠k→d.kind≠2→x.kind≠2→x.text≠d.text:=λ {i x} hx hne h1 h2=>by
   by_cases c:i<k
   ·exact one i k x d c hx hk ⟨λ h=>absurd h h2,λ h=>absurd h h1⟩
   exact (one k i d x (by omega) hk hx ⟨λ h=>absurd h h1,λ h=>absurd h h2⟩).symm
  unfold bZ at e1;split at e1
  ·rename_i k45
   split at e1
   ·cases e1
   rename_i p hp
   split at e1
   ·cases e1
   rename_i hs
   cases e1;have hs:=Decidable.not_not.1 hs;have hlt:=hj.op _ _ hp;rw[List.getElem?_eq_getElem hlt] at hs;refine resolveL_ok hj one l (k+1) _ me' hd' ⟨hm.st,λ i x hi hx hxk=>?_⟩ (λ i x hi hx hxk=>?_) e2
   ·obtain⟨q,q1,q2⟩:=hm.me i x hi hx hxk;refine⟨q,?_,q2⟩;unfold putM;rw[if_neg (other hx (λ e=>by subst e;rw[hk] at hx;cases hx;omega) (by omega) (by omega))];exact q1
   by_cases c:i=k
   ·subst c;rw[hk] at hx;cases hx;exact⟨p,_,putM_at,List.getElem?_eq_getElem hlt,hs⟩
   obtain⟨q,t,q1,q2⟩:=hr i x (by omega) hx hxk;refine⟨q,t,?_,q2⟩;unfold putM;rw[if_neg (other hx c (by omega) (by omega))];exact q1
  rename_i k45
  cases e1;refine resolveL_ok hj one l (k+1) _ me' hd' hm (λ i x hi hx hxk=>?_) e2;by_cases c:i=k
  ·subst c;rw[hk] at hx;cases hx;exact absurd hxk k45
  exact hr i x (by omega) hx hxk
structure WsU (U:Us)(n:Nat)(vs:List Ui)(j:Jn):Prop where
 len:vs.length=n
 at_:∀(a:Nat) v,vs[a]?=some v→∃u S,U[a]?=some (u,S)∧v.node=u.node∧MeOk u.node.kids a u u.node.kids.length v.st v.me j.ts∧RsOk u.node.kids u j u.node.kids.length v.me
theorem resolveQ_ok {U:Us}(hU:∀u S,(u,S)∈U→UqOk u S){j:Jn}(hj:TsOk U j){V:List Ui}(hV:VsU U U.length V j.ts):∀(us:List Uq) (k:List Ui) (a:Nat) (acc vs:List Ui),(U.drop a).map Prod.fst=us→V.drop a=k→WsU U a acc j→a≤U.length→bF j a acc us k=.ok vs→WsU U U.length vs j
 | [],k,a,acc,vs,hd,hk,ha,hle,h=>by
  rw[show bF j a acc [] k=.ok acc by cases k<;>rfl] at h;cases h;have:U.length≤a:=by have:=congrArg List.length hd;rw[List.length_map,List.length_drop] at this;simp at this;omega
  rwa [show U.length=a by omega]
 | u::us,[],a,acc,vs,hd,hk,ha,hle,h=>by
  exfalso
  have h1:=congrArg List.length hd;have h2:=congrArg List.length hk;rw[List.length_map,List.length_drop,List.length_cons] at h1;rw[List.length_drop,hV.len,List.length_nil] at h2;omega
 | u::us,v::k,a,acc,vs,hd,hk,ha,hle,h=>by
  obtain⟨me,e1,e2⟩:=JR.bind_ok h;have hv:V[a]?=some v:=by rw[← List.head?_drop,hk];rfl
  obtain⟨u',S,q1,q2,q3⟩:=hV.at_ a v hv;obtain rfl:u=u':=by
   have:((U.drop a).map Prod.fst)[0]?=some u:=by rw[hd];rfl
   rw[List.getElem?_map,List.getElem?_drop,Nat.add_zero,q1] at this;cases this;rfl
  have hq:=hU u S (List.mem_of_getElem? q1);have hun:=unit_ok hq.un hq.ch;obtain⟨w1,w2⟩:=resolveL_ok hj hun.one u.node.kids 0 v.me me (by simp) q3 (λ i d hi=>absurd hi (Nat.not_lt_zero _)) e1;have hlt:=(List.getElem?_eq_some_iff.1 q1).1;refine resolveQ_ok hU hj hV us k (a+1) _ vs (by rw[← List.tail_drop,List.map_tail,hd];rfl) (by rw[← List.tail_drop,hk];rfl) ⟨by simp [ha.len],λ b x hb=>?_⟩ (by omega) e2;by_cases c:b<a
  ·rw[List.getElem?_append_left (by rw[ha.len];exact c)] at hb;exact ha.at_ b x hb
  have hi:=(List.getElem?_eq_some_iff.1 hb).1;rw[List.length_append,List.length_singleton,ha.len] at hi;obtain rfl:b=a:=by omega
  rw[List.getElem?_append_right (by rw[ha.len];exact Nat.le_refl _),ha.len,Nat.sub_self] at hb;cases hb;exact⟨u,S,q1,q2,w1,w2⟩
def typesG (U:Us)(ts:List Th)(i:Nat):Option T.Ty:=(ts[i]?).bind λ t=>(U[t.unit]?).bind λ q=>(q.2.de t.node.text).map Prod.fst
theorem textB_may {t : T.Ty} (h:may t=true):eA t=T.strOf (T.textT t):=if_pos h
theorem textB_inj {a b : T.Ty} (ha:may a=true) (hb:may b=true) (h:eA a=eA b):T.textT a=T.textT b:=by
 rw[textB_may ha,textB_may hb] at h;have:=congrArg T.bytes h;exact this
theorem sign_of {u : Uq} (h:UqOk u S) {t : T.Ty} {b : Bool} (hd:u.node.kids[k]?=some d) (hk:d.kind≠2) (e:S.de d.text=some (t,b)):signOf u k=eA t:=by
 unfold signOf;rw[h.sg,List.getD_eq_getElem?_getD,List.getElem?_map,hd];show eA (if d.kind=2 then _ else _)=_;rw[if_neg hk,e];rfl
theorem de_kinds (h:De d):d.kind=2∨d.kind=4∨d.kind=5∨d.kind=6∨d.kind=7:=by
 cases h with
 | struct s l _=>exact .inl rfl
 | outside n ht=>obtain⟨s,t,rfl,_⟩:=ht;exact .inr (.inr (.inl rfl))
 | extern s m l t _ _ _=>exact .inr (.inl rfl)
 | global s m t k v _ _ _ _ _=>exact .inr (.inr (.inr (.inl rfl)))
 | func s m l t b _ _ _ _ _=>exact .inr (.inr (.inr (.inr rfl)))
section
variable {U : Us} {j : Jn} {vs : List Ui} (hU : ∀ u S, (u, S) ∈ U → UqOk u S) (hj : TsOk U j) (hV : WsU U U.length vs j)
include hU hj
theorem thing_type {i : Nat} {t : Th} (h:j.ts[i]?=some t):∃(u:Uq) (S:Cs) (k:Nat) (g:T.Ty) (b:Bool),U[t.unit]?=some (u,S)∧u.node.kids[k]?=some t.node∧(t.node.kind=7∨t.node.kind=6)∧S.de t.node.text=some (g,b)∧may g=true∧t.sign=eA g∧typesG U j.ts i=some g∧(t.node.kind=7→FnOk S t.node g)∧(t.node.kind=6→tyk g≠4∧∀G,HT G (numN (kid1 t.node)) g):=by
 obtain⟨q1,q2,u,S,k,q3,q4,q5⟩:=hj.at_ i t h;have hq:=hU u S (List.mem_of_getElem? q3);have hun:=unit_ok hq.un hq.ch;have k2:t.node.kind≠2:=by omega
 obtain⟨g,b,w1,w2,w3,w4,w5,w6⟩:=((hun.ok t.node (List.mem_of_getElem? q4)).2 k2).it;refine⟨u,S,k,g,b,q3,q4,q2,w1,w2,q5.trans (sign_of hq q4 k2 w1),?_,w5,w6⟩;unfold typesG;rw[h];show (U[t.unit]?).bind _=_;rw[q3];show (S.de t.node.text).map _=_;rw[w1];rfl
theorem now_ok:dX (typesG U j.ts) j.now:=λ i g hg hk=>by
 cases h:j.ts[i]? with
 | none=>unfold typesG at hg;rw[h] at hg;cases hg
 | some t=>
  obtain⟨u,S,k,g',b,q1,q2,q3,q4,q5,q6,q7,q8,q9⟩:=thing_type hU hj h;rw[q7] at hg;cases hg;refine⟨_,(hj.at_ i t h).1,?_⟩;have k6:t.node.kind=6:=by
   rcases q3 with e|e
   ·exfalso
    obtain⟨s,v,sx,m,l,t0,b0,ps,r,_,_,_,_,_,e,_⟩:=(q8 e).it;rw[e] at hk;exact hk rfl
   exact e
  unfold firstV;rw[if_neg (λ h=>h k6)];exact (q9 k6).2 _
include hV
theorem ui_ok {a : Nat} {v : Ui} (hv:vs[a]?=some v):∃u S,U[a]?=some (u,S)∧UiOk (typesG U j.ts) v S:=by
 obtain⟨u,S,q1,q2,q3,q4⟩:=hV.at_ a v hv;have hq:=hU u S (List.mem_of_getElem? q1);have hun:=unit_ok hq.un hq.ch;have hm:∀d,d∈u.node.kids→De d:=by obtain⟨l,hl,hde⟩:=hq.un;rw[hl];exact hde
 refine⟨u,S,q1,λ x t b e=>?_,λ x t e=>?_⟩
 ·obtain⟨d,d1,d2,rfl⟩:=hun.de x _ e;obtain⟨t',b',w1,w2,w3,w4,w5,w6⟩:=((hun.ok d d1).2 d2).it;rw[e] at w1;cases w1;refine⟨may_T w2,w3,w4,?_⟩;obtain⟨i,hi,rfl⟩:=List.getElem_of_mem d1;have hd:=List.getElem?_eq_getElem hi;have hsg:=sign_of hq hd d2 e;have fin:∀p th,v.me (u.node.kids[i]).text=some p→j.ts[p]?=some th→th.sign=signOf u i→∃i' g,v.me (u.node.kids[i]).text=some i'∧typesG U j.ts i'=some g∧MayT g∧T.textT g=T.textT t:=λ p th e1 e2 e3=>by
   obtain⟨_,_,_,g,_,_,_,_,_,z5,z6,z7,_⟩:=thing_type hU hj e2;exact⟨p,g,e1,z7,may_T z5,textB_inj z5 w2 (by rw[← z6,e3,hsg])⟩
  have hkind:=de_kinds (hm _ d1);by_cases k67:(u.node.kids[i]).kind=7∨(u.node.kids[i]).kind=6
  ·obtain⟨p,e1,e2⟩:=q3.me i _ hi hd k67;exact fin p _ e1 e2 rfl
  obtain⟨p,th,e1,e2,e3⟩:=q4 i _ hi hd (by omega);exact fin p th e1 e2 e3
 obtain⟨d,d1,d2,rfl⟩:=hun.st x _ e;obtain⟨t',w1,w2,w3,w4,w5⟩:=((hun.ok d d1).1 d2).it;rw[e] at w1;cases w1;obtain⟨i,hi,rfl⟩:=List.getElem_of_mem d1;have hd:=List.getElem?_eq_getElem hi;exact⟨may_T w2,w3,i,_,q3.st i _ hi hd d2,by rw[q2];exact hd,w4,w5⟩
theorem pg_ok:PgOk ⟨vs,j.ts⟩ (typesG U j.ts):=⟨λ i g hg hk=>by
 cases h:j.ts[i]? with
 | none=>unfold typesG at hg;rw[h] at hg;cases hg
 | some t=>
  obtain⟨u,S,k,g',b,q1,q2,q3,q4,q5,q6,q7,q8,q9⟩:=thing_type hU hj h;rw[q7] at hg;cases hg;have k7:t.node.kind=7:=q3.elim id λ e=>absurd hk (q9 e).1;obtain⟨s,v,sx,m,l,t0,b0,ps,r,z1,z2,z3,z4,z5,z6,z7,z8,z9⟩:=(q8 k7).it;have hlt:t.unit<vs.length:=by rw[hV.len];exact (List.getElem?_eq_some_iff.1 q1).1
  obtain⟨u',S',y1,y2⟩:=ui_ok hU hj hV (List.getElem?_eq_getElem hlt);rw[q1] at y1;cases y1;exact⟨t,rfl,vs[t.unit],s,v,sx,m,l,t0,b0,ps,r,List.getElem?_eq_getElem hlt,z1,y2.sub z2,z3,z4,z5,z6,z7,z8,z9⟩⟩
end
theorem us_of:∀(us:List Uq),(∀u,u∈us→∃S,UqOk u S)→∃U:Us,U.map Prod.fst=us∧∀u S,(u,S)∈U→UqOk u S
 | [],_=>⟨[],rfl,λ u S h=>by cases h⟩
 | u::us,h=>by
  obtain⟨S,hS⟩:=h u (List.mem_cons_self ..);obtain⟨U,h1,h2⟩:=us_of us λ x hx=>h x (List.mem_cons_of_mem _ hx);refine⟨(u,S)::U,by rw[List.map_cons,h1],λ x X hx=>?_⟩;rcases List.mem_cons.1 hx with e|hx
  ·cases e;exact hS
  exact h2 x X hx
structure RdyOk (r:Rdy):Prop where
 it:∃G g,PgOk r.pg G∧dX G r.now∧r.now.length=r.pg.ts.length∧G r.main=some g∧tyk g=4∧MayT g∧T.textT g=T.textT (mkTy 4 eB [] [tI] false)∧r.main<r.pg.ts.length
theorem joined_ok {us : List Uq} (h:∀u,u∈us→∃S,UqOk u S) {vs ws : List Ui} {j : Jn} {p : Nat} (e1:bI 0 [] us ⟨noN,[],[]⟩=.ok (vs,j)) (e2:bF j 0 [] us vs=.ok ws) (e3:dD j=.ok p):RdyOk ⟨⟨ws,j.ts⟩,j.now,p⟩:=by
 obtain⟨U,hU1,hU⟩:=us_of us h;subst hU1;obtain⟨hj,hV⟩:=gatherQ_ok hU _ 0 [] vs _ j (by simp) ⟨rfl,λ i t e=>by simp at e,λ x p e=>by cases e⟩ ⟨rfl,λ a v e=>by simp at e⟩ e1;rw[List.length_map,Nat.zero_add] at hV;have hW:=resolveQ_ok hU hj hV _ vs 0 [] ws (by simp) (by simp) ⟨rfl,λ a v e=>by simp at e⟩ (Nat.zero_le _) e2;unfold dD at e3;split at e3
 ·cases e3
 rename_i q hq
 split at e3
 ·cases e3
 rename_i hk
 split at e3
 ·cases e3
 rename_i hs
 cases e3;have hlt:=hj.op _ _ hq;rw[List.getElem?_eq_getElem hlt] at hk hs;have hk:=Decidable.not_not.1 hk;have hs:=Decidable.not_not.1 hs;obtain⟨u,S,k,g,b,q1,q2,q3,q4,q5,q6,q7,q8,q9⟩:=thing_type hU hj (List.getElem?_eq_getElem hlt);obtain⟨s,v,sx,m,l,t0,b0,ps,r,z1,z2,z3,z4,z5,z6,z7⟩:=(q8 hk).it;refine⟨_,g,pg_ok hU hj hW,now_ok hU hj,hj.len,q7,by rw[z6];rfl,may_T q5,?_,hlt⟩;have hs:(j.ts[p]).sign=wFNINT:=hs;rw[q6,textB_may q5] at hs;have:=congrArg T.bytes hs;have e:T.textT (mkTy 4 eB [] [tI] false)=T.bytes wFNINT:=by decide +kernel
 rw[e];exact this
def runO (f:Nat)(r:Rdy):O Va:=bM r.pg (evM f r.pg 2001).2 r.main [] ⟨0,[],r.now⟩
structure Sh where
 end_:Int
 value:Int
 steps:Nat
 out:List Int
def shO:O Va→Sh
 | .ok v p=>⟨1,wrap32 v.num,p.steps,p.out⟩
 | .ret v p=>⟨1,wrap32 v.num,p.steps,p.out⟩
 | .fin e p=>⟨e,0,p.steps,p.out⟩
 | .stuck=>⟨0,0,0,[]⟩
def runQ (f:Nat)(r:Rdy):Sh:=shO (runO f r)
theorem run_good {f : Nat} {r : Rdy} (h:RdyOk r) (hf:f≤2000):runO f r≠.stuck∧(∀v p,runO f r≠.ret v p)∧(∀v p,runO f r=.ok v p→p.steps≤f)∧∀e p,runO f r=.fin e p→(e=0∧p.steps=f)∨e=2:=by
 obtain⟨G,g,h1,h2,h3,h4,h5,h6,h7,h8⟩:=h.it;have hp:tpn g=1:=(cI (fJ h6 ⟨2,by decide +kernel⟩ h7)).pn;have q:=result_sound h1 (ev_sound f h1 2001).2 (ev_18 f r.pg 2001) r.main g [] ⟨0,[],r.now⟩ h4 h5 h6 (by rw[hp];exact Nat.zero_le _) (λ j v hj=>by rw[hp] at hj;exact absurd hj (Nat.not_lt_zero _)) (Nat.zero_le _) (by show f+1≤0+2001;omega) h2;unfold runO;generalize bM r.pg (evM f r.pg 2001).2 r.main [] ⟨0,[],r.now⟩=a at q ⊢;cases a with
 | ok v p=>exact⟨nofun,nofun,λ v' p' e=>(by cases e;exact q.2.1),nofun⟩
 | ret v p=>exact q.2.2.2.elim
 | fin e p=>exact⟨nofun,nofun,nofun,λ e' p' h=>(by cases h;exact q)⟩
 | stuck=>exact q.elim
theorem run_two {few more : Nat} {r : Rdy} (h:RdyOk r) (hf:few≤more) (hm:more≤2000):
  ((runQ few r).end_=0→(runQ few r).steps=few∧few≤(runQ more r).steps∧(runQ few r).out <+: (runQ more r).out)∧((runQ few r).end_≠0→runQ few r=runQ more r):=by
 obtain⟨a1,a2,a3,a4⟩:=run_good (f:=few) h (by omega);obtain⟨b1,b2,b3,b4⟩:=run_good (f:=more) h hm;have t:Twin (runO few r) (runO more r):=result_two (ev_wo r.pg hf 2001) hf r.pg r.main [] ⟨0,[],r.now⟩ (Nat.zero_le _);unfold runQ;rcases t with t|⟨q,t1,t2⟩
 ·refine⟨λ e=>?_,λ_=>by rw[t]⟩;rw[← t];cases ha:runO few r with
  | ok v p=>rw[ha] at e;exact absurd (show (1:Int)=0 from e) (by decide)
  | ret v p=>exact absurd ha (a2 v p)
  | fin e' p=>
   rw[ha] at e;have e:e'=0:=e;have hs:p.steps=few:=by
    rcases a4 e' p ha with q|q
    ·exact q.2
    omega
   exact⟨hs,by show few≤p.steps;omega,List.prefix_refl _⟩
  | stuck=>exact absurd ha a1
 rw[t1];have hs:q.steps=few:=by
  rcases a4 0 q t1 with q|q
  ·exact q.2
  exact absurd q (by decide)
 refine⟨λ_=>⟨hs,?_⟩,λ e=>absurd rfl e⟩;cases hb:runO more r with
 | ok v p=>rw[hb] at t2;exact⟨by rw[← hs];exact t2.1,t2.2⟩
 | ret v p=>exact absurd hb (b2 v p)
 | fin e' p=>rw[hb] at t2;exact⟨by rw[← hs];exact t2.1,t2.2⟩
 | stuck=>exact absurd hb b1
theorem isStatic_any (h:Fr B w L) (x:Nd) (a:Option Addr) (n c:Nat):Calls prog 20 #[.agg #[.int .i64 x.kind,.string x.text,.int .i64 x.num,.slice a n c]] w λ e w'=>e=.returned (.bool (dN x))∧Fr B w' L:=by
 have HF:=h;clear h;have HA:=ah (and_one x.num);go_enter func20,ntmps20;replace HF:=aN HF w.heap.size x.kind x.text x.num a n c;have c_x:=HF.cell 0 rfl;go_wp2;go_ret
 refine⟨?_,HF.tail⟩;show Ending.returned (.bool (decide (bits .and .i64 x.num 1=1)))=_;rw[HA.out];rfl
theorem szs_le:∀(j:Nat)(l:List Nd),szs (l.take j)≤szs l
 | 0,l=>by simp [szs]
 | j+1,[]=>by simp
 | j+1,x::l=>by
  have:=szs_le j l;simp only[List.take_succ_cons,szs];omega
theorem Fr.three {a b c d : Rs} (h:Fr B w (a::b::c::d::L)):Fr B w (b::c::a::d::L):=h.fr12
theorem numPerm (t y k b3 b4:Rs) (L:List Rs):List.Perm (t::y::k::b3::b4::L) (b3::b4::t::y::k::L):=
 List.Perm.append_right L (List.perm_append_comm (l₁:=[t,y,k]) (l₂:=[b3,b4]))
theorem szs_step {j : Nat} {y : Nd} (h:l[j]?=some y):szs (l.take (j+1))=szs (l.take j)+sz y:=by
 induction l generalizing j with
 | nil=>simp at h
 | cons x l ih=>
  cases j with
  | zero=>simp at h;subst h;simp [szs]
  | succ j=>
   have:=ih (j:=j) (by simpa using h);simp only[List.take_succ_cons,szs];omega
theorem num_any:∀(N:Nat){B:Bs}{w:World}{L:List Rs}{b3 b4 k:Nat}{n:Nd}{a_n:Option Addr}{c_n:Nat}(h:Fr B w (.blk b3 #[.int .i64 ((k:Nat):Int)] 3::.blk b4 #[.func (.func 29) #[] #[.pointer (some ⟨b3,0,none⟩),.pointer (some ⟨b4,0,none⟩)]] 94::L))(i:Nat)(hi:L[i]?=some (.el NdE (ndc n.kind n.text n.num a_n n.kids.length c_n) n))(hN:sz n<N)(hk:k+sz n≤1000000),Calls prog 29 #[.agg #[.int .i64 n.kind,.string n.text,.int .i64 n.num,.slice a_n n.kids.length c_n],.pointer (some ⟨b3,0,none⟩),.pointer (some ⟨b4,0,none⟩)] w λ e w'=>e=.returned (.tuple #[])∧Fr B w' (.blk b3 #[.int .i64 ((k+sz n:Nat):Int)] 3::.blk b4 #[.func (.func 29) #[] #[.pointer (some ⟨b3,0,none⟩),.pointer (some ⟨b4,0,none⟩)]] 94::L)
 | 0,_,_,_,_,_,_,_,_,_,_,_,_,hN,_=>absurd hN (Nat.not_lt_zero _)
 | N+1,B,w,L,b3,b4,k,n,a_n,c_n,h,i,hi,hN,hk=>by
  have hsz:=bU n;have HF:=(h.dup (i+2) hi).fr12;have HK:=ah hk;have HS:=ah hsz;have hkn:n.kids.length≤1000000:=by have:=fA n.kids;omega
  have hw1:IntKind.i64.wrap ((k:Int)+1)=(k:Int)+1:=by rw[IntKind.wrap_i64];omega
  clear h hi hk hsz;go_enter func29,ntmps29;replace HF:=aM HF w.heap.size n a_n c_n;have c_t3:=HF.cell 0 rfl;obtain⟨c_b3,f_b3⟩:=cf HF 1;replace HF:=HF.set 1 rfl 0 (.int .i64 ((k:Int)+1));have c_t3':=HF.cell 0 rfl;go_wp2;generalize hWm:((w.alloc (.cells #[.int .i64 n.kind,.string n.text,.int .i64 n.num,.slice a_n n.kids.length c_n] 52)).setCell ⟨b3,0,none⟩ (.int .i64 ((k:Int)+1)))=wm at HF ⊢;go_loopw [5,11] (λ_ iv wr=>Hid (∃j:Nat,j≤n.kids.length∧iv=.int .i64 (j:Int)∧Fr B wr (.blk b3 #[.int .i64 ((k+1+szs (n.kids.take j):Nat):Int)] 3::.blk b4 #[.func (.func 29) #[] #[.pointer (some ⟨b3,0,none⟩),.pointer (some ⟨b4,0,none⟩)]] 94::.blk w.heap.size #[.int .i64 n.kind,.string n.text,.int .i64 n.num,.slice a_n n.kids.length c_n] 52::.el NdE (ndc n.kind n.text n.num a_n n.kids.length c_n) n::L))) (λ_ iv _=>n.kids.length - (intOf iv).toNat)
  case atStart=>exact ah ⟨0,Nat.zero_le _,rfl,Fr.three HF⟩
  clear HF hWm c_t3 c_t3' c_b3 f_b3;obtain⟨j,hj,rfl,hf⟩:=hrel.out;clear hrel;have HF:=hf;clear hf;by_cases hlt:j<n.kids.length
  ·obtain⟨y,hy⟩:∃y,n.kids[j]?=some y:=⟨_,List.getElem?_eq_getElem hlt⟩
   have hym:=List.mem_of_getElem? hy;obtain⟨g_y,o_y,a_y,c_y,cur_y,f_y,ha_y,hc1,hc2,hk_y,hf⟩:=HF.kidK 3 rfl j hy;have HK_y:=ah hk_y;have HST:=ah (szs_step hy);have HSM:=ah (eH hym);have HSP:=ah (szs_le (j+1) n.kids);have HLT:=ah hlt;have hlb:(j:Int)<(n.kids.length:Int):=by omega
   replace HF:=hf;clear hf hk_y hc1 hc2 hy hym hlt;subst ha_y;obtain⟨e0,e1,e2,e3⟩:=aC (HF.knc 1 rfl) HK_y;replace HF:=aM HF wr.heap.size y a_y c_y;have c_t5:=HF.cell 0 rfl;have c_b4:=HF.cell 4 rfl;go_wp2_with fail;clear c_t5 c_b4 e0 e1 e2 e3;have hG:=HF.perm (numPerm _ _ _ _ _ _);refine (num_any N hG 1 rfl (by have:=HS.out;have:=HSM.out;omega) (by have:=HST.out;have:=HSP.out;have:=HS.out;have:=HK.out;omega)).mono ?_;rintro e w9 ⟨rfl,hf⟩;rw[Nat.add_assoc,← HST.out] at hf;go_wp2;exact⟨ah ⟨j+1,HLT,rfl,Fr.lose hf⟩,by simp only[intOf];omega⟩
  have hjn:j=n.kids.length:=by omega
  subst hjn;have hli:¬ (n.kids.length:Int)<(n.kids.length:Int):=by omega
  go_wp2;go_end0
  have hf:=HF;rw[List.take_length,Nat.add_assoc,← HS.out] at hf;exact⟨rfl,hf.lose⟩
def IntE:El Nat:=⟨λ_ cs n=>cs=[.int .i64 (n:Int)],λ_ _ _ _ h _=>h⟩
theorem info3:(prog.info? 3).map (λ i=>(i.zero,i.size,i.bytes))=some (some (.int .i64 0),1,8):=by kernel_rfl
theorem Fr.intEl (h:Fr B w L) (x:Nat):Fr B w (.el IntE [.int .i64 (x:Int)] x::L):=
 h.sure ⟨λ H=>IntE.p H [.int .i64 (x:Int)] x,λ H H' h hl=>h⟩ λ H=>rfl
theorem numsL_step:∀{l:List Nd}{j k:Nat}{y:Nd},l[j]?=some y→dM k (l.take (j+1))=dM k (l.take j)++[k+szs (l.take j)]
 | [],j,k,y,h=>by simp at h
 | x::l,0,k,y,h=>by simp [dM,szs]
 | x::l,j+1,k,y,h=>by
  have h1:=numsL_step (l:=l) (j:=j) (k:=k+sz x) (by simpa using h);simp only[List.take_succ_cons,dM,szs,List.cons_append];rw[h1,Nat.add_assoc]
theorem numPerm2 (v b4 b3 t1:Rs) (L:List Rs):List.Perm (v::b4::b3::t1::L) (b3::b4::v::t1::L):=
 (((List.Perm.swap b3 b4 (t1::L)).cons v).trans (List.perm_middle (a:=v) (l₁:=[b3,b4]) (l₂:=t1::L)).symm)
theorem numPerm3 (a b c d b3 b4:Rs) (L:List Rs):List.Perm (a::b::c::d::b3::b4::L) (b3::b4::a::b::c::d::L):=
 List.Perm.append_right L (List.perm_append_comm (l₁:=[a,b,c,d]) (l₂:=[b3,b4]))
theorem dG:∀(l:List Nd)(k:Nat),(dM k l).length=l.length
 | [],k=>rfl
 | x::l,k=>by rw[dM,List.length_cons,dG l,List.length_cons]
section
variable (h:Fr B w L) (i:Nat) (hi:L[i]?=some (.el NdE (ndc n.kind n.text n.num a_n n.kids.length c_n) n))
include h hi
theorem fS (hs:sz n≤700):Calls prog 19 #[.agg #[.int .i64 n.kind,.string n.text,.int .i64 n.num,.slice a_n n.kids.length c_n]] w λ e w'=>∃v,e=.returned v∧Fr B w' (.els IntE v 3 1 (dM 1 n.kids)::L):=by
 have HS:=ah (bU n);have HN:=ah hs;have hkn:n.kids.length≤700:=by have:=fA n.kids;have:=bU n;omega
 have hmf:∀(fn:Fn) (first cap:Array Value) (w:World),(Instr.makeFunc fn first cap).run prog w=.ok (.func fn first cap) w:=λ_ _ _ _=>rfl;have hsf:∀(w:World) (a:Addr) (fn:Fn) (f c:Array Value) (m:Mode),(store a (.func fn f c) m).run prog w=stored prog w a (.func fn f c) m:=λ w a fn f c m=>run_store prog w a _ _ rfl;have HF:=h.dup i hi;clear h hi hs;have HF2:=HF;go_enter func19,ntmps19;replace HF:=aM HF w.heap.size n a_n c_n;have c_t1:=HF.cell 0 rfl;replace HF:=ax HF (w.heap.size+1) #[.int .i64 0] 3;replace HF:=ax HF (w.heap.size+1+1) #[.func (.func 29) #[] #[.pointer (some ⟨w.heap.size+1,0,none⟩),.pointer (some ⟨w.heap.size+1+1,0,none⟩)]] 94;obtain⟨c_b3,f_b3⟩:=cf HF 1;have c_t1':=HF.cell 2 rfl;go_wp2;have hF:=((HF2.alloc (q:=w.heap.size) (by simp) #[.int .i64 n.kind,.string n.text,.int .i64 n.num,.slice a_n n.kids.length c_n] 52).alloc (q:=w.heap.size+1) (by simp) #[.int .i64 1] 3).alloc (q:=w.heap.size+1+1) (by simp) #[.func (.func 29) #[] #[.pointer (some ⟨w.heap.size+1,0,none⟩),.pointer (some ⟨w.heap.size+1+1,0,none⟩)]] 94;have hF:=hF.noEls IntE 3 1;have hF:=hF.perm (numPerm2 _ _ _ _ _);generalize (((w.alloc (.cells #[.int .i64 n.kind,.string n.text,.int .i64 n.num,.slice a_n n.kids.length c_n] 52)).alloc (.cells #[.int .i64 1] 3)).alloc (.cells #[.func (.func 29) #[] #[.pointer (some ⟨w.heap.size+1,0,none⟩),.pointer (some ⟨w.heap.size+1+1,0,none⟩)]] 94))=wm at hF ⊢;go_loopw [5,7,14] (λ sv _ iv wr=>Hid (∃j s:Nat,j≤n.kids.length∧s=1+szs (n.kids.take j)∧iv=.int .i64 (j:Int)∧Fr B wr (.blk (w.heap.size+1) #[.int .i64 (s:Int)] 3::.blk (w.heap.size+1+1) #[.func (.func 29) #[] #[.pointer (some ⟨w.heap.size+1,0,none⟩),.pointer (some ⟨w.heap.size+1+1,0,none⟩)]] 94::.els IntE sv 3 1 (dM 1 (n.kids.take j))::.blk w.heap.size #[.int .i64 n.kind,.string n.text,.int .i64 n.num,.slice a_n n.kids.length c_n] 52::.el NdE (ndc n.kind n.text n.num a_n n.kids.length c_n) n::L))) (λ_ _ iv _=>n.kids.length - (intOf iv).toNat)
 case atStart=>exact ah ⟨0,1,Nat.zero_le _,rfl,rfl,hF⟩
 clear HF HF2 hF c_t1 c_t1' c_b3 f_b3;obtain⟨j,s,hj,hs,rfl,hf⟩:=hrel.out;clear hrel;have HF:=hf;have HSS:=ah hs;clear hf hs;by_cases hlt:j<n.kids.length
 ·obtain⟨y,hy⟩:∃y,n.kids[j]?=some y:=⟨_,List.getElem?_eq_getElem hlt⟩
  have hym:=List.mem_of_getElem? hy;obtain⟨g_y,o_y,a_y,c_y,cur_y,f_y,ha_y,hc1,hc2,hk_y,hf⟩:=HF.kidK 4 rfl j hy;have HK_y:=ah hk_y;have HST:=ah (szs_step hy);have HNS:=ah (numsL_step (k:=1) hy);have HSM:=ah (eH hym);have HSP:=ah (szs_le (j+1) n.kids);have HLT:=ah hlt;have hlb:(j:Int)<(n.kids.length:Int):=by omega
  replace HF:=hf;clear hf hk_y hc1 hc2 hy hym hlt;subst ha_y;obtain⟨e0,e1,e2,e3⟩:=aC (HF.knc 1 rfl) HK_y;replace HF:=aM HF wr.heap.size y a_y c_y;replace HF:=HF.intEl s;have c_t7:=HF.cell 1 rfl;have c_b3:=HF.cell 4 rfl;go_wp2_with (at_builtin;refine Fr.elAppL 59 info3 underlying59 rfl (by decide) (by decide) (HF.alloc (q:=wr.heap.size+1) (by simp) #[.int .i64 (s:Int)] 3) 6 rfl (by rw[dG,List.length_take];omega) 0 rfl _ _ rfl rfl (by rfl) (by rfl) rfl rfl ?_;intro g5 cap5 w5 hF hgr;have c_t7:=hF.cell 1 rfl;have c_b4:=hF.cell 5 rfl)
  replace HF:=hF;clear hF hgr c_t7 c_b4;have hG:=HF.perm (numPerm3 _ _ _ _ _ _ _);refine (num_any (sz y+1) hG 2 rfl (Nat.lt_succ_self _) (by have:=HSS.out;have:=HST.out;have:=HSP.out;have:=HS.out;have:=HN.out;omega)).mono ?_;rintro e w9 ⟨rfl,hf⟩;have e9:dM 1 (n.kids.take (j+1))=dM 1 (n.kids.take j)++[s]:=by rw[HNS.out,HSS.out]
  have hf':=hf.perm (numPerm3 _ _ _ _ _ _ _).symm;replace HF:=hf;clear hf hf' hG;go_wp2;have hf:=HF;simp only[← e9] at hf;exact⟨ah ⟨j+1,s+sz y,HLT,by rw[HSS.out,HST.out];omega,rfl,hf.lose⟩,by simp only[intOf];omega⟩
 have hjn:j=n.kids.length:=by omega
 subst hjn;have hli:¬ (n.kids.length:Int)<(n.kids.length:Int):=by omega
 go_wp2;go_ret
 have hf:=HF;rw[List.take_length] at hf;exact⟨_,rfl,hf.lose⟩
theorem firstV_any (hn:Nk n) (hk:n.kind=6→∃y,n.kids[1]?=some y∧kid1 n=y):Calls prog 21 #[.agg #[.int .i64 n.kind,.string n.text,.int .i64 n.num,.slice a_n n.kids.length c_n]] w (PVa B (firstV n) L):=by
 have HN:=ah hn;have HK:=ah hk;have HF:=h.dup i hi;clear h hi hn hk;go_enter func21,ntmps21;replace HF:=aM HF w.heap.size n a_n c_n;replace HF:=aV HF (w.heap.size+1) 0 0 none 0 0 none 0 0;have c_t1:=HF.cell 1 rfl;obtain⟨c_t2,f_t2⟩:=cf HF 0;by_cases k6:n.kind=6
 ·have HK6:=ah k6;obtain⟨y,hy,hy1⟩:=HK k6;have HY:=ah hy1;have q6:(n.kind=6)=True:=eq_true k6;have q6b:(n.kind != 6)=false:=by rw[k6];decide
  have q6c:(n.kind == 6)=true:=by rw[k6];decide
  clear k6;obtain⟨g_y,o_y,a_y,c_y,cur_y,f_y,ha_y,hc1,hc2,hk_y,hf⟩:=HF.kidK 2 rfl 1 hy;have HK_y:=ah hk_y;have HYN:=ah (HN.kids y (List.mem_of_getElem? hy));have hl1:(1:Int)<(n.kids.length:Int):=by have:=(List.getElem?_eq_some_iff.1 hy).1;omega
  replace HF:=hf;clear hf hk_y hc1 hc2 hy hy1;subst ha_y;obtain⟨e0,e1,e2,e3⟩:=aC (HF.knc 1 rfl) HK_y;go_wp2_with fail;clear c_t1 c_t2 f_t2 e0 e1 e2 e3;go_at_call 30;refine (numV_any HF y _ _ _ HYN.num).mono ?_;rintro e w1 ⟨a_v,c_v,pa_v,pc_v,rfl,r_v,HF⟩;obtain⟨c_t2,f_t2⟩:=cf HF 3;have hG:=HF.nd4 3 rfl (.int .i64 (numN y).kind) (.int .i64 (numN y).num) (.slice a_v (numN y).names.length c_v) (.slice pa_v (numN y).parts.length pc_v);go_wp2;clear c_t2 f_t2;refine br (rt48 results21 rfl (hG.blkAt 3 rfl)) ?_;rw[show firstV n=numN y by unfold firstV;rw[if_neg (by rw[HK6.out];decide),HY.out]];exact PVa.got r_v hG.lose
 go_wp2;clear c_t1 c_t2 f_t2;refine br (rt48 results21 rfl (HF.blkAt 0 rfl)) ?_;rw[show firstV n=vZ by unfold firstV;rw[if_pos k6]];have hd:=HF.vaBare 0 0 (by decide) (by decide);exact PVa.got (show R64 0 from by unfold R64;omega) hd.lose
end
end Go.Proofs.YtdnhbedbpbgeeaaGreatDoor.K
