/- 12 -/
import Derived.Test.YtdnhbedbpbgeeaaGreatDoorMAl
set_option maxRecDepth 100000
set_option maxHeartbeats 2000000
set_option linter.all false
namespace Go.Proofs.YtdnhbedbpbgeeaaGreatDoor.K
open Go.RowKit Go.Proofs.Tryz
variable {a_n pa a : Option Addr} {c : Cm} {pg : Pg} {c_n pc bc bp n0 m f n1 N mq j cp z : Nat} {p p' : Pm} {vs : List Va} {k : CQ} {q : PQ} {n y x : Nd} {l : List Nd} {a0 a1 d a2 a3 : Rs} {α : Type} {e : TypeId} {m0 : NM}
variable {B : Bs} {w w' : World} {L : List Rs}
theorem Fr.fr12 {c : Rs} (h:Fr B w (a0::c::d::L)):Fr B w (c::d::a0::L):=h.perm (List.Perm.append_right L (List.perm_append_comm (l₁:=[a0]) (l₂:=[c,d])))
theorem Fr.fr22 {c : Rs} (h:Fr B w (a0::a1::c::d::L)):Fr B w (c::d::a0::a1::L):=h.perm (List.Perm.append_right L (List.perm_append_comm (l₁:=[a0,a1]) (l₂:=[c,d])))
theorem Fr.fr32 {c : Rs} (h:Fr B w (a0::a1::a2::c::d::L)):Fr B w (c::d::a0::a1::a2::L):=h.perm (List.Perm.append_right L (List.perm_append_comm (l₁:=[a0,a1,a2]) (l₂:=[c,d])))
theorem Fr.fr42 {c : Rs} (h:Fr B w (a0::a1::a2::a3::c::d::L)):Fr B w (c::d::a0::a1::a2::a3::L):=h.perm (List.Perm.append_right L (List.perm_append_comm (l₁:=[a0,a1,a2,a3]) (l₂:=[c,d])))
theorem Fr.fr11 {c : Rs} (h:Fr B w (a0::c::L)):Fr B w (c::a0::L):=h.perm (List.Perm.append_right L (List.perm_append_comm (l₁:=[a0]) (l₂:=[c])))
theorem Fr.fr21 {c : Rs} (h:Fr B w (a0::a1::c::L)):Fr B w (c::a0::a1::L):=h.perm (List.Perm.append_right L (List.perm_append_comm (l₁:=[a0,a1]) (l₂:=[c])))
theorem Fr.fr51 {a4 c : Rs} (h:Fr B w (a0::a1::a2::a3::a4::c::L)):Fr B w (c::a0::a1::a2::a3::a4::L):=h.perm (List.Perm.append_right L (List.perm_append_comm (l₁:=[a0,a1,a2,a3,a4]) (l₂:=[c])))
theorem Fr.move2 {a b : Rs} (h:Fr B w (d::a::b::L)):Fr B w (a::b::d::L):=h.fr12
theorem PMe.val {Q : O Va} {v : Va} {a_v pa_v : Option Addr} {c_v pc_v : Nat} (hq:Q=.ok v p) (hr:R64 v.num) (hi:PI pg f m n0 p) (h:Fr B w' (.el VaE [.int .i64 v.kind,.int .i64 v.num,.slice a_v v.names.length c_v,.slice pa_v v.parts.length pc_v] v::.cm bc bp k c::.pm bp q pg f p false::L)):PMe Q B bc bp k c q pg f m n0 L (.returned (.agg #[.int .i64 v.kind,.int .i64 v.num,.slice a_v v.names.length c_v,.slice pa_v v.parts.length pc_v])) w':=PMo.ok' hq ⟨q.outv,a_v,c_v,pa_v,pc_v,rfl,hr,hi,h.move2⟩
section
variable (h:Fr B w (.cm bc bp k c::.pm bp q pg f p false::L)) (hc:CI k c n1) (hp:PI pg f m n0 p) (i j:Nat) (hi:L[i]?=some (.el NdE (ndc n.kind n.text n.num a_n n.kids.length c_n) n)) (hn:Nk n) (hdk:∀d,d∈c.u.node.kids→d.kids.length≤16000) (hj:L[j]?=some (.sl VaE (.slice pa vs.length pc) 48 4 vs)) (hvl:vs.length≤16000)
include h hc hp hi hn hdk hj hvl
theorem mvalue_23 (hne:aG c n vs p≠.stuck) (hk:n.kind=23):Calls prog 60 #[ptr bc,.agg #[.int .i64 n.kind,.string n.text,.int .i64 n.num,.slice a_n n.kids.length c_n],.slice pa vs.length pc] w (PMe (aG c n vs p) B bc bp k c q pg f m n0 L):=by
 have e0:aG c n vs p=O.of (varM c n.text p) p:=by
  unfold aG;simp only[hk,Int.reduceEq,reduceIte,or_true,true_or,or_false,false_or,ite_true,ite_false]
 rw[e0] at hne ⊢;obtain⟨v,hv,hQ⟩:=of_ok rfl hne;have HQ:=ah hQ;have HV:=ah hv;clear e0 hne hQ hv;have q23:(n.kind == 23)=true:=by simpa using hk
 have HC:=ah hc;have HP:=ah hp;have HN:=ah hn;have HF:=h;clear h hc hp hi hj hn hk;go_enter func60,ntmps60;replace HF:=aM HF w.heap.size n a_n c_n;replace HF:=ax HF (w.heap.size+1) vz 48;replace HF:=Fr.fr22 HF;have c_t4:=HF.cell 3 rfl;go_wp2_with fail;clear c_t4;go_at_call 61;refine (variable_any HF HC HP.now n.text HN.text HV).mono ?_;rintro e w1 ⟨gv,ovv,rfl,hva,hf⟩;obtain⟨a_v,c_v,pa_v,pc_v,hrv,hfz,⟨e0,e1,e2,e3⟩,hf2⟩:=hf.varCells 0 1 rfl rfl hva HV HP.now;have HF:=hf2;have HR:=ah hrv;clear hf hf2 hrv hfz hva;obtain⟨c_r,f_r⟩:=cf HF 3;replace HF:=sV HF 3 v.kind v.num a_v v.names.length c_v pa_v v.parts.length pc_v;go_wp2;clear c_r f_r;refine br (rt48 results60 rfl (HF.blkAt 3 rfl)) ?_;exact PMe.val HQ HR HP HF.lose
theorem mvalue_26 (hme:∀x i,c.u.me x=some i→i≤9223372036854775807) (hne:aG c n vs p≠.stuck) (hk:n.kind=26):Calls prog 60 #[ptr bc,.agg #[.int .i64 n.kind,.string n.text,.int .i64 n.num,.slice a_n n.kids.length c_n],.slice pa vs.length pc] w (PMe (aG c n vs p) B bc bp k c q pg f m n0 L):=by
 have e0:aG c n vs p=O.of ((c.u.me n.text).map λ (i:Nat)=>Va.mk 4 (i:Int) [] []) p:=by
  unfold aG;simp only[hk,Int.reduceEq,reduceIte,or_true,true_or,or_false,false_or,ite_true,ite_false]
 rw[e0] at hne ⊢;obtain⟨v,hv,hQ⟩:=of_ok rfl hne;obtain⟨mi,hmi,rfl⟩:∃i,c.u.me n.text=some i∧v=.mk 4 (i:Int) [] []:=by
  cases e:c.u.me n.text with
  | none=>rw[e] at hv;cases hv
  | some i=>rw[e] at hv;cases hv;exact⟨i,rfl,rfl⟩
 have hmb:mi≤9223372036854775807:=hme _ _ hmi;have HQ:=ah hQ;have HMI:=ah hmi;have hxm:n.text.size≤maxLen:=Nat.le_trans hn.text (by decide:4000≤maxLen);clear e0 hne hQ hv hmi;have q23:(n.kind == 23)=false:=by rw[hk];decide
 have q26:(n.kind == 26)=true:=by simpa using hk
 have HC:=ah hc;have HP:=ah hp;have HN:=ah hn;have HF:=h;clear h hc hp hi hj hn hk;go_enter func60,ntmps60;replace HF:=aM HF w.heap.size n a_n c_n;replace HF:=ax HF (w.heap.size+1) vz 48;replace HF:=Fr.fr22 HF;have c_t4:=HF.cell 3 rfl;go_wp2_with fail;clear c_t4;go_wp2;refine regK [] HF (λ w h=>⟨(h.cmCell 0 rfl),(h.cell 3 rfl)⟩) (λ wd1 HF hC=>?_) (C:=λ w'=>(∀o,w'.cell? ⟨bc,o,none⟩=(#[ptr bp,k.n0,k.n1,k.n2,k.n3,k.sg,k.nu,.map (some k.m1),.map (some k.m2),k.bv,k.lv,k.wv]:Array Value)[o]?)∧(∀o,w'.cell? ⟨w.heap.size,o,none⟩=(#[.int .i64 n.kind,.string n.text,.int .i64 n.num,.slice a_n n.kids.length c_n]:Array Value)[o]?));refine tq4 0 1 2 3 ?_;refine tq3 4 5 6 ?_;refine rq 7 λ K hK=>?_;have hlk:=HF.cmMe 0 rfl n.text hxm;rw[HMI.out] at hlk;simp only[Option.getD_some] at hlk;go_simp;clear hlk;refine uq hK ⟨(HF.cmCell 0 rfl),(HF.cell 3 rfl)⟩ λ hC=>?_;refine tq 8 ?_;refine rq 9 λ K hK=>?_;obtain⟨c_r,f_r⟩:=cf HF 2;replace HF:=sV HF 2 4 (mi:Int) none 0 0 none 0 0;go_simp;clear c_r f_r;refine uq hK ⟨(HF.cmCell 0 rfl),(HF.cell 3 rfl)⟩ λ hC=>?_;refine dq ?_;go_wp2;refine br (rt48 results60 rfl (HF.blkAt 2 rfl)) ?_;exact PMe.val (v:=.mk 4 (mi:Int) [] []) HQ (by unfold R64;show (-9223372036854775808:Int)≤(mi:Int)∧(mi:Int)≤9223372036854775807;omega) HP ((HF.vaBare 4 (mi:Int) (by omega) (by omega)).lose)
theorem mvalue_27 (hne:aG c n vs p≠.stuck) (hk:n.kind=27):Calls prog 60 #[ptr bc,.agg #[.int .i64 n.kind,.string n.text,.int .i64 n.num,.slice a_n n.kids.length c_n],.slice pa vs.length pc] w (PMe (aG c n vs p) B bc bp k c q pg f m n0 L):=by
 have e0:aG c n vs p=O.of (madeM c.u n.text vs) p:=by
  unfold aG;simp only[hk,Int.reduceEq,reduceIte,or_true,true_or,or_false,false_or,ite_true,ite_false]
 rw[e0] at hne ⊢;obtain⟨v,hv,hQ⟩:=of_ok rfl hne;have HQ:=ah hQ;have HV:=ah hv;clear e0 hne hQ hv;have q23:(n.kind == 23)=false:=by rw[hk];decide
 have q26:(n.kind == 26)=false:=by rw[hk];decide
 have q27:(n.kind == 27)=true:=by simpa using hk
 have HC:=ah hc;have HP:=ah hp;have HN:=ah hn;have HF:=h;clear h hc hp hi hn hk;go_enter func60,ntmps60;replace HF:=aM HF w.heap.size n a_n c_n;replace HF:=ax HF (w.heap.size+1) vz 48;replace HF:=Fr.fr22 HF;have c_t4:=HF.cell 3 rfl;go_wp2_with fail;clear c_t4;go_at_call 87;refine (made_any (L:=_::_) HF HC hdk n.text HN.text (j+3) hj hvl HV).mono ?_;rintro e w1 ⟨a_v,c_v,pa_v,pc_v,rfl,r_v,HF⟩;obtain⟨c_r,f_r⟩:=cf HF 3;replace HF:=sV HF 3 v.kind v.num a_v v.names.length c_v pa_v v.parts.length pc_v;go_wp2;clear c_r f_r;refine br (rt48 results60 rfl (HF.blkAt 3 rfl)) ?_;exact PMe.val HQ r_v HP HF.lose
theorem mvalue_28 (hne:aG c n vs p≠.stuck) (hk:n.kind=28):Calls prog 60 #[ptr bc,.agg #[.int .i64 n.kind,.string n.text,.int .i64 n.num,.slice a_n n.kids.length c_n],.slice pa vs.length pc] w (PMe (aG c n vs p) B bc bp k c q pg f m n0 L):=by
 cases vs with
 | nil=>exact absurd (by unfold aG;simp only[hk,Int.reduceEq,reduceIte,or_true,true_or,or_false,false_or,ite_true,ite_false]) hne
 | cons v l=>
  have e0:aG c n (v::l) p=.ok (negM v) p:=by
   unfold aG;simp only[hk,Int.reduceEq,reduceIte,or_true,true_or,or_false,false_or,ite_true,ite_false]
  rw[e0] at hne ⊢;clear e0 hne;have q23:(n.kind == 23)=false:=by rw[hk];decide
  have q26:(n.kind == 26)=false:=by rw[hk];decide
  have q27:(n.kind == 27)=false:=by rw[hk];decide
  have q24:(n.kind == 24)=false:=by rw[hk];decide
  have q28:(n.kind == 28)=true:=by simpa using hk
  have HC:=ah hc;have HP:=ah hp;have HN:=ah hn;obtain⟨gu,ou,a_u,c_u,pa_u,pc_u,cur,fu,rfl,-,hc1,hc2,hru,hku,hf⟩:=(h.dupSl (j+2) hj).vaKn 0 rfl 0 (by simp);simp only[List.getElem_cons_zero,Nat.zero_mul,Nat.add_zero] at hru hku hf;rw[List.length_cons] at hj ⊢;have HKU:=ah hku;have HRU:=ah hru;have hz0:(0:Int)<(l.length:Int)+1:=by omega
  replace hf:=hf.lose (K:=.el VaE [.int .i64 v.kind,.int .i64 v.num,.slice a_u v.names.length c_u,.slice pa_u v.parts.length pc_u] v::.kn gu cur 48 fu::.cm bc bp k c::.pm bp q pg f p false::L);have HF:=ah hf.fr22;clear h hf hku hru hc1 hc2;clear hc hp hi hj hn hk;go_enter func60,ntmps60;replace HF:=aM HF w.heap.size n a_n c_n;replace HF:=ax HF (w.heap.size+1) vz 48;replace HF:=Fr.fr22 HF;have c_t4:=HF.cell 3 rfl;obtain⟨e0,e1,e2,e3⟩:=aC (o:=ou) (HF.knc 5 rfl) (by simpa only [Nat.zero_mul,Nat.add_zero] using HKU.out);go_wp2_with fail;clear c_t4 e0 e1 e2 e3;go_at_call 89;refine (negated_any HF (v:=v) (a_v:=a_u) (pa_v:=pa_u) (c_v:=c_u) (pc_v:=pc_u)).mono ?_;rintro e w1 ⟨a_y,c_y,pa_y,pc_y,rfl,r_y,HF⟩;obtain⟨c_r,f_r⟩:=cf HF 3;replace HF:=sV HF 3 (negM v).kind (negM v).num a_y (negM v).names.length c_y pa_y (negM v).parts.length pc_y;go_wp2;clear c_r f_r;refine br (rt48 results60 rfl (HF.blkAt 3 rfl)) ?_;exact PMe.val (v:=(negM v)) rfl r_y HP HF.lose
theorem mvalue_29 (hne:aG c n vs p≠.stuck) (hk:n.kind=29):Calls prog 60 #[ptr bc,.agg #[.int .i64 n.kind,.string n.text,.int .i64 n.num,.slice a_n n.kids.length c_n],.slice pa vs.length pc] w (PMe (aG c n vs p) B bc bp k c q pg f m n0 L):=by
 cases vs with
 | nil=>exact absurd (by unfold aG;simp only[hk,Int.reduceEq,reduceIte,or_true,true_or,or_false,false_or,ite_true,ite_false]) hne
 | cons v l=>
  have e0:aG c n (v::l) p=.ok (vB (decide (v.num=0))) p:=by
   unfold aG;simp only[hk,Int.reduceEq,reduceIte,or_true,true_or,or_false,false_or,ite_true,ite_false]
  rw[e0] at hne ⊢;clear e0 hne;have q23:(n.kind == 23)=false:=by rw[hk];decide
  have q26:(n.kind == 26)=false:=by rw[hk];decide
  have q27:(n.kind == 27)=false:=by rw[hk];decide
  have q24:(n.kind == 24)=false:=by rw[hk];decide
  have q28:(n.kind == 28)=false:=by rw[hk];decide
  have q29:(n.kind == 29)=true:=by simpa using hk
  have HC:=ah hc;have HP:=ah hp;have HN:=ah hn;obtain⟨gu,ou,a_u,c_u,pa_u,pc_u,cur,fu,rfl,-,hc1,hc2,hru,hku,hf⟩:=(h.dupSl (j+2) hj).vaKn 0 rfl 0 (by simp);simp only[List.getElem_cons_zero,Nat.zero_mul,Nat.add_zero] at hru hku hf;rw[List.length_cons] at hj ⊢;have HKU:=ah hku;have HRU:=ah hru;have hz0:(0:Int)<(l.length:Int)+1:=by omega
  replace hf:=hf.lose (K:=.el VaE [.int .i64 v.kind,.int .i64 v.num,.slice a_u v.names.length c_u,.slice pa_u v.parts.length pc_u] v::.kn gu cur 48 fu::.cm bc bp k c::.pm bp q pg f p false::L);have HF:=ah hf.fr22;clear h hf hku hru hc1 hc2;clear hc hp hi hj hn hk;go_enter func60,ntmps60;replace HF:=aM HF w.heap.size n a_n c_n;replace HF:=ax HF (w.heap.size+1) vz 48;replace HF:=Fr.fr22 HF;have c_t4:=HF.cell 3 rfl;obtain⟨e0,e1,e2,e3⟩:=aC (o:=ou) (HF.knc 5 rfl) (by simpa only [Nat.zero_mul,Nat.add_zero] using HKU.out);go_wp2_with fail;clear c_t4 e0 e1 e2 e3;go_at_call 90;refine (truth_any HF (decide (v.num=0))).mono ?_;rintro e w1 ⟨a_y,c_y,pa_y,pc_y,rfl,r_y,HF⟩;obtain⟨c_r,f_r⟩:=cf HF 3;replace HF:=sV HF 3 (vB (decide (v.num=0))).kind (vB (decide (v.num=0))).num a_y (vB (decide (v.num=0))).names.length c_y pa_y (vB (decide (v.num=0))).parts.length pc_y;go_wp2;clear c_r f_r;refine br (rt48 results60 rfl (HF.blkAt 3 rfl)) ?_;exact PMe.val (v:=(vB (decide (v.num=0)))) rfl r_y HP HF.lose
theorem mvalue_30 (hne:aG c n vs p≠.stuck) (hk:n.kind=30):Calls prog 60 #[ptr bc,.agg #[.int .i64 n.kind,.string n.text,.int .i64 n.num,.slice a_n n.kids.length c_n],.slice pa vs.length pc] w (PMe (aG c n vs p) B bc bp k c q pg f m n0 L):=by
 cases vs with
 | nil=>exact absurd (by unfold aG;simp only[hk,Int.reduceEq,reduceIte,or_true,true_or,or_false,false_or,ite_true,ite_false]) hne
 | cons v l=>
  have e0:aG c n (v::l) p=.ok (vI (wrap32 v.num)) p:=by
   unfold aG;simp only[hk,Int.reduceEq,reduceIte,or_true,true_or,or_false,false_or,ite_true,ite_false]
  rw[e0] at hne ⊢;clear e0 hne;have q23:(n.kind == 23)=false:=by rw[hk];decide
  have q26:(n.kind == 26)=false:=by rw[hk];decide
  have q27:(n.kind == 27)=false:=by rw[hk];decide
  have q24:(n.kind == 24)=false:=by rw[hk];decide
  have q28:(n.kind == 28)=false:=by rw[hk];decide
  have q29:(n.kind == 29)=false:=by rw[hk];decide
  have q30:(n.kind == 30)=true:=by simpa using hk
  have HC:=ah hc;have HP:=ah hp;have HN:=ah hn;obtain⟨gu,ou,a_u,c_u,pa_u,pc_u,cur,fu,rfl,-,hc1,hc2,hru,hku,hf⟩:=(h.dupSl (j+2) hj).vaKn 0 rfl 0 (by simp);simp only[List.getElem_cons_zero,Nat.zero_mul,Nat.add_zero] at hru hku hf;rw[List.length_cons] at hj ⊢;have HKU:=ah hku;have HRU:=ah hru;have hz0:(0:Int)<(l.length:Int)+1:=by omega
  replace hf:=hf.lose (K:=.el VaE [.int .i64 v.kind,.int .i64 v.num,.slice a_u v.names.length c_u,.slice pa_u v.parts.length pc_u] v::.kn gu cur 48 fu::.cm bc bp k c::.pm bp q pg f p false::L);have HF:=ah hf.fr22;clear h hf hku hru hc1 hc2;clear hc hp hi hj hn hk;go_enter func60,ntmps60;replace HF:=aM HF w.heap.size n a_n c_n;replace HF:=ax HF (w.heap.size+1) vz 48;replace HF:=Fr.fr22 HF;have c_t4:=HF.cell 3 rfl;obtain⟨e0,e1,e2,e3⟩:=aC (o:=ou) (HF.knc 5 rfl) (by simpa only [Nat.zero_mul,Nat.add_zero] using HKU.out);go_wp2_with fail;clear c_t4 e0 e1 e2 e3;go_at_call 40;refine (cC HF (wrap32 v.num) (aZ v.num).1 (aZ v.num).2).mono ?_;rintro e w1 ⟨a_y,c_y,pa_y,pc_y,rfl,r_y,HF⟩;obtain⟨c_r,f_r⟩:=cf HF 3;replace HF:=sV HF 3 (vI (wrap32 v.num)).kind (vI (wrap32 v.num)).num a_y (vI (wrap32 v.num)).names.length c_y pa_y (vI (wrap32 v.num)).parts.length pc_y;go_wp2;clear c_r f_r;refine br (rt48 results60 rfl (HF.blkAt 3 rfl)) ?_;exact PMe.val (v:=(vI (wrap32 v.num))) rfl r_y HP HF.lose
theorem mvalue_31 (hne:aG c n vs p≠.stuck) (hk:n.kind=31):Calls prog 60 #[ptr bc,.agg #[.int .i64 n.kind,.string n.text,.int .i64 n.num,.slice a_n n.kids.length c_n],.slice pa vs.length pc] w (PMe (aG c n vs p) B bc bp k c q pg f m n0 L):=by
 cases vs with
 | nil=>exact absurd (by unfold aG;simp only[hk,Int.reduceEq,reduceIte,or_true,true_or,or_false,false_or,ite_true,ite_false]) hne
 | cons v l=>
  have e0:aG c n (v::l) p=.ok (vL v.num) p:=by
   unfold aG;simp only[hk,Int.reduceEq,reduceIte,or_true,true_or,or_false,false_or,ite_true,ite_false]
  rw[e0] at hne ⊢;clear e0 hne;have q23:(n.kind == 23)=false:=by rw[hk];decide
  have q26:(n.kind == 26)=false:=by rw[hk];decide
  have q27:(n.kind == 27)=false:=by rw[hk];decide
  have q24:(n.kind == 24)=false:=by rw[hk];decide
  have q28:(n.kind == 28)=false:=by rw[hk];decide
  have q29:(n.kind == 29)=false:=by rw[hk];decide
  have q30:(n.kind == 30)=false:=by rw[hk];decide
  have q31:(n.kind == 31)=true:=by simpa using hk
  have HC:=ah hc;have HP:=ah hp;have HN:=ah hn;obtain⟨gu,ou,a_u,c_u,pa_u,pc_u,cur,fu,rfl,-,hc1,hc2,hru,hku,hf⟩:=(h.dupSl (j+2) hj).vaKn 0 rfl 0 (by simp);simp only[List.getElem_cons_zero,Nat.zero_mul,Nat.add_zero] at hru hku hf;rw[List.length_cons] at hj ⊢;have HKU:=ah hku;have HRU:=ah hru;have hz0:(0:Int)<(l.length:Int)+1:=by omega
  replace hf:=hf.lose (K:=.el VaE [.int .i64 v.kind,.int .i64 v.num,.slice a_u v.names.length c_u,.slice pa_u v.parts.length pc_u] v::.kn gu cur 48 fu::.cm bc bp k c::.pm bp q pg f p false::L);have HF:=ah hf.fr22;clear h hf hku hru hc1 hc2;clear hc hp hi hj hn hk;go_enter func60,ntmps60;replace HF:=aM HF w.heap.size n a_n c_n;replace HF:=ax HF (w.heap.size+1) vz 48;replace HF:=Fr.fr22 HF;have c_t4:=HF.cell 3 rfl;obtain⟨e0,e1,e2,e3⟩:=aC (o:=ou) (HF.knc 5 rfl) (by simpa only [Nat.zero_mul,Nat.add_zero] using HKU.out);go_wp2_with fail;clear c_t4 e0 e1 e2 e3;go_at_call 39;refine (long_any HF v.num HRU).mono ?_;rintro e w1 ⟨a_y,c_y,pa_y,pc_y,rfl,r_y,HF⟩;obtain⟨c_r,f_r⟩:=cf HF 3;replace HF:=sV HF 3 (vL v.num).kind (vL v.num).num a_y (vL v.num).names.length c_y pa_y (vL v.num).parts.length pc_y;go_wp2;clear c_r f_r;refine br (rt48 results60 rfl (HF.blkAt 3 rfl)) ?_;exact PMe.val (v:=(vL v.num)) rfl r_y HP HF.lose
theorem mvalue_34 (hne:aG c n vs p≠.stuck) (hk:n.kind=34):Calls prog 60 #[ptr bc,.agg #[.int .i64 n.kind,.string n.text,.int .i64 n.num,.slice a_n n.kids.length c_n],.slice pa vs.length pc] w (PMe (aG c n vs p) B bc bp k c q pg f m n0 L):=by
 cases vs with
 | nil=>exact absurd (by unfold aG;simp only[hk,Int.reduceEq,reduceIte,or_true,true_or,or_false,false_or,ite_true,ite_false]) hne
 | cons v l=>
  have e0:aG c n (v::l) p=.ok (fM c.be v.num) p:=by
   unfold aG;simp only[hk,Int.reduceEq,reduceIte,or_true,true_or,or_false,false_or,ite_true,ite_false]
  rw[e0] at hne ⊢;clear e0 hne;have q23:(n.kind == 23)=false:=by rw[hk];decide
  have q26:(n.kind == 26)=false:=by rw[hk];decide
  have q27:(n.kind == 27)=false:=by rw[hk];decide
  have q24:(n.kind == 24)=false:=by rw[hk];decide
  have q28:(n.kind == 28)=false:=by rw[hk];decide
  have q29:(n.kind == 29)=false:=by rw[hk];decide
  have q30:(n.kind == 30)=false:=by rw[hk];decide
  have q31:(n.kind == 31)=false:=by rw[hk];decide
  have q32:(n.kind == 32)=false:=by rw[hk];decide
  have q33:(n.kind == 33)=false:=by rw[hk];decide
  have q34:(n.kind == 34)=true:=by simpa using hk
  have HC:=ah hc;have HP:=ah hp;have HN:=ah hn;obtain⟨gu,ou,a_u,c_u,pa_u,pc_u,cur,fu,rfl,-,hc1,hc2,hru,hku,hf⟩:=(h.dupSl (j+2) hj).vaKn 0 rfl 0 (by simp);simp only[List.getElem_cons_zero,Nat.zero_mul,Nat.add_zero] at hru hku hf;rw[List.length_cons] at hj ⊢;have HKU:=ah hku;have HRU:=ah hru;have hz0:(0:Int)<(l.length:Int)+1:=by omega
  replace hf:=hf.lose (K:=.el VaE [.int .i64 v.kind,.int .i64 v.num,.slice a_u v.names.length c_u,.slice pa_u v.parts.length pc_u] v::.kn gu cur 48 fu::.cm bc bp k c::.pm bp q pg f p false::L);have HF:=ah hf.fr22;clear h hf hku hru hc1 hc2;clear hc hp hi hj hn hk;go_enter func60,ntmps60;replace HF:=aM HF w.heap.size n a_n c_n;replace HF:=ax HF (w.heap.size+1) vz 48;replace HF:=Fr.fr22 HF;have c_t4:=HF.cell 3 rfl;obtain⟨e0,e1,e2,e3⟩:=aC (o:=ou) (HF.knc 5 rfl) (by simpa only [Nat.zero_mul,Nat.add_zero] using HKU.out);go_wp2_with fail;clear c_t4 e0 e1 e2 e3;go_at_call 92;refine (extra_any HF v.num).mono ?_;rintro e w1 ⟨a_y,c_y,pa_y,pc_y,rfl,r_y,HF⟩;obtain⟨c_r,f_r⟩:=cf HF 3;replace HF:=sV HF 3 (fM c.be v.num).kind (fM c.be v.num).num a_y (fM c.be v.num).names.length c_y pa_y (fM c.be v.num).parts.length pc_y;go_wp2;clear c_r f_r;refine br (rt48 results60 rfl (HF.blkAt 3 rfl)) ?_;exact PMe.val (v:=(fM c.be v.num)) rfl r_y HP HF.lose
theorem mvalue_33 (hne:aG c n vs p≠.stuck) (hk:n.kind=33):Calls prog 60 #[ptr bc,.agg #[.int .i64 n.kind,.string n.text,.int .i64 n.num,.slice a_n n.kids.length c_n],.slice pa vs.length pc] w (PMe (aG c n vs p) B bc bp k c q pg f m n0 L):=by
 have e0:aG c n vs p=.ok (vI (wrap32 c.be.length)) p:=by
  unfold aG;simp only[hk,Int.reduceEq,reduceIte,or_true,true_or,or_false,false_or,ite_true,ite_false]
 rw[e0] at hne ⊢;clear e0 hne;obtain⟨wa,wd,hwv,hw1,hw2,-⟩:=h.cmBe 0 rfl;have HWV:=ah hwv;clear hwv;have q23:(n.kind == 23)=false:=by rw[hk];decide
 have q26:(n.kind == 26)=false:=by rw[hk];decide
 have q27:(n.kind == 27)=false:=by rw[hk];decide
 have q24:(n.kind == 24)=false:=by rw[hk];decide
 have q28:(n.kind == 28)=false:=by rw[hk];decide
 have q29:(n.kind == 29)=false:=by rw[hk];decide
 have q30:(n.kind == 30)=false:=by rw[hk];decide
 have q31:(n.kind == 31)=false:=by rw[hk];decide
 have q32:(n.kind == 32)=false:=by rw[hk];decide
 have q33:(n.kind == 33)=true:=by simpa using hk
 have HC:=ah hc;have HP:=ah hp;have HN:=ah hn;have HF:=h;clear h hc hp hi hj hn hk;go_enter func60,ntmps60;replace HF:=aM HF w.heap.size n a_n c_n;replace HF:=ax HF (w.heap.size+1) vz 48;replace HF:=Fr.fr22 HF;have c_t4:=HF.cell 3 rfl;have c_cm:∀o,(((w.alloc (.cells #[.int .i64 n.kind,.string n.text,.int .i64 n.num,.slice a_n n.kids.length c_n] 52)).alloc (.cells vz 48))).cell? ⟨bc,o,none⟩=(#[ptr bp,k.n0,k.n1,k.n2,k.n3,k.sg,k.nu,.map (some k.m1),.map (some k.m2),k.bv,k.lv,(.slice wa c.be.length wd)]:Array Value)[o]?:=HWV.out ▸ HF.cmCell 0 rfl;go_wp2_with fail;clear c_t4 c_cm;go_at_call 40;refine (cC HF (wrap32 c.be.length) (aZ _).1 (aZ _).2).mono ?_;rintro e w1 ⟨a_y,c_y,pa_y,pc_y,rfl,r_y,HF⟩;obtain⟨c_r,f_r⟩:=cf HF 3;replace HF:=sV HF 3 (vI (wrap32 c.be.length)).kind (vI (wrap32 c.be.length)).num a_y (vI (wrap32 c.be.length)).names.length c_y pa_y (vI (wrap32 c.be.length)).parts.length pc_y;go_wp2;clear c_r f_r;refine br (rt48 results60 rfl (HF.blkAt 3 rfl)) ?_;exact PMe.val (v:=vI (wrap32 c.be.length)) rfl r_y HP HF.lose
theorem mvalue_else (hne:aG c n vs p≠.stuck) (hk:¬ (n.kind=23∨n.kind=26∨n.kind=27∨n.kind=24∨n.kind=28∨n.kind=29∨n.kind=30∨n.kind=31∨n.kind=32∨n.kind=33∨n.kind=34)):Calls prog 60 #[ptr bc,.agg #[.int .i64 n.kind,.string n.text,.int .i64 n.num,.slice a_n n.kids.length c_n],.slice pa vs.length pc] w (PMe (aG c n vs p) B bc bp k c q pg f m n0 L):=by
 have q23:(n.kind == 23)=false:=by simp;omega
 have q26:(n.kind == 26)=false:=by simp;omega
 have q27:(n.kind == 27)=false:=by simp;omega
 have q24:(n.kind == 24)=false:=by simp;omega
 have q28:(n.kind == 28)=false:=by simp;omega
 have q29:(n.kind == 29)=false:=by simp;omega
 have q30:(n.kind == 30)=false:=by simp;omega
 have q31:(n.kind == 31)=false:=by simp;omega
 have q32:(n.kind == 32)=false:=by simp;omega
 have q33:(n.kind == 33)=false:=by simp;omega
 have q34:(n.kind == 34)=false:=by simp;omega
 have e0:aG c n vs p=.ok (numN n) p:=by
  unfold aG;rw[if_neg (by omega),if_neg (by omega),if_neg (by omega),if_neg (by omega),if_neg (by omega)]
 rw[e0] at hne ⊢;clear e0 hne;have HC:=ah hc;have HP:=ah hp;have HN:=ah hn;have HF:=h;clear h hc hp hi hj hn hk;go_enter func60,ntmps60;replace HF:=aM HF w.heap.size n a_n c_n;replace HF:=ax HF (w.heap.size+1) vz 48;replace HF:=Fr.fr22 HF;have c_t4:=HF.cell 3 rfl;go_wp2_with fail;clear c_t4;go_at_call 30;refine (numV_any HF n a_n n.kids.length c_n HN.num).mono ?_;rintro e w1 ⟨a_y,c_y,pa_y,pc_y,rfl,r_y,HF⟩;obtain⟨c_r,f_r⟩:=cf HF 3;replace HF:=sV HF 3 (numN n).kind (numN n).num a_y (numN n).names.length c_y pa_y (numN n).parts.length pc_y;go_wp2;clear c_r f_r;refine br (rt48 results60 rfl (HF.blkAt 3 rfl)) ?_;exact PMe.val (v:=numN n) rfl r_y HP HF.lose
theorem mvalue_24 (hne:aG c n vs p≠.stuck) (hk:n.kind=24):Calls prog 60 #[ptr bc,.agg #[.int .i64 n.kind,.string n.text,.int .i64 n.num,.slice a_n n.kids.length c_n],.slice pa vs.length pc] w (PMe (aG c n vs p) B bc bp k c q pg f m n0 L):=by
 cases vs with
 | nil=>exact absurd (by unfold aG;simp only[hk,Int.reduceEq,reduceIte,or_true,true_or,or_false,false_or,ite_true,ite_false]) hne
 | cons v l=>
  have e0:aG c n (v::l) p=O.of (fieldM v n.text) p:=by
   unfold aG;simp only[hk,Int.reduceEq,reduceIte,or_true,true_or,or_false,false_or,ite_true,ite_false]
  rw[e0] at hne ⊢;obtain⟨y,hv,hQ⟩:=of_ok rfl hne;have HQ:=ah hQ;have HV:=ah hv;clear e0 hne hQ hv;have q23:(n.kind == 23)=false:=by rw[hk];decide
  have q26:(n.kind == 26)=false:=by rw[hk];decide
  have q27:(n.kind == 27)=false:=by rw[hk];decide
  have q24:(n.kind == 24)=true:=by simpa using hk
  have HC:=ah hc;have HP:=ah hp;have HN:=ah hn;obtain⟨gu,ou,a_u,c_u,pa_u,pc_u,cur,fu,rfl,-,hc1,hc2,hru,hku,hf⟩:=(h.dupSl (j+2) hj).vaKn 0 rfl 0 (by simp);simp only[List.getElem_cons_zero,Nat.zero_mul,Nat.add_zero] at hru hku hf;rw[List.length_cons] at hj ⊢;have HKU:=ah hku;have HRU:=ah hru;have hz0:(0:Int)<(l.length:Int)+1:=by omega
  replace hf:=hf.lose (K:=.el VaE [.int .i64 v.kind,.int .i64 v.num,.slice a_u v.names.length c_u,.slice pa_u v.parts.length pc_u] v::.kn gu cur 48 fu::.cm bc bp k c::.pm bp q pg f p false::L);have HF:=ah hf.fr22;clear h hf hku hru hc1 hc2;clear hc hp hi hj hn hk;go_enter func60,ntmps60;replace HF:=aM HF w.heap.size n a_n c_n;replace HF:=ax HF (w.heap.size+1) vz 48;replace HF:=Fr.fr22 HF;have c_t4:=HF.cell 3 rfl;go_wp2_with fail;clear c_t4;go_wp2;refine regK [] HF (λ w h=>⟨(h.cell 3 rfl),(aC (o:=ou) (h.knc 5 rfl) (by simpa only [Nat.zero_mul,Nat.add_zero] using HKU.out))⟩) (λ wd1 HF hC=>?_) (C:=λ w'=>(∀o,w'.cell? ⟨w.heap.size,o,none⟩=(#[.int .i64 n.kind,.string n.text,.int .i64 n.num,.slice a_n n.kids.length c_n]:Array Value)[o]?)∧(w'.cell? ⟨gu,ou,none⟩=some (.int .i64 v.kind)∧w'.cell? ⟨gu,ou+1,none⟩=some (.int .i64 v.num)∧w'.cell? ⟨gu,ou+2,none⟩=some (.slice a_u v.names.length c_u)∧w'.cell? ⟨gu,ou+3,none⟩=some (.slice pa_u v.parts.length pc_u)));refine tq4 0 1 2 3 ?_;refine tq 4 ?_;refine rq 5 λ K hK=>?_;go_simp;refine (part_any HF 4 rfl n.text HV).mono ?_;rintro e w5 ⟨a_y,c_y,pa_y,pc_y,rfl,r_y,hf⟩;have HF:=hf;clear hf;refine uq hK ⟨(HF.cell 4 rfl),(aC (o:=ou) (HF.knc 6 rfl) (by simpa only [Nat.zero_mul,Nat.add_zero] using HKU.out))⟩ λ hC=>?_;refine rq 6 λ K hK=>?_;obtain⟨c_r,f_r⟩:=cf HF 3;replace HF:=sV HF 3 y.kind y.num a_y y.names.length c_y pa_y y.parts.length pc_y;go_simp;clear c_r f_r;refine uq hK ⟨(HF.cell 4 rfl),(aC (o:=ou) (HF.knc 6 rfl) (by simpa only [Nat.zero_mul,Nat.add_zero] using HKU.out))⟩ λ hC=>?_;refine dq ?_;go_wp2;refine br (rt48 results60 rfl (HF.blkAt 3 rfl)) ?_;exact PMe.val HQ r_y HP HF.lose
theorem mvalue_32 (hne:aG c n vs p≠.stuck) (hk:n.kind=32):Calls prog 60 #[ptr bc,.agg #[.int .i64 n.kind,.string n.text,.int .i64 n.num,.slice a_n n.kids.length c_n],.slice pa vs.length pc] w (PMe (aG c n vs p) B bc bp k c q pg f m n0 L):=by
 cases vs with
 | nil=>exact absurd (by unfold aG;simp only[hk,Int.reduceEq,reduceIte,or_true,true_or,or_false,false_or,ite_true,ite_false]) hne
 | cons v l=>
 cases l with
 | nil=>exact absurd (by unfold aG;simp only[hk,Int.reduceEq,reduceIte,or_true,true_or,or_false,false_or,ite_true,ite_false]) hne
 | cons y l=>
  have e0:aG c n (v::y::l) p=if (f7 n.num v y).2=true then .ok (f7 n.num v y).1 p else .fin 2 p:=by
   unfold aG;simp only[hk,Int.reduceEq,reduceIte,or_true,true_or,or_false,false_or,ite_true,ite_false]
  rw[e0] at hne ⊢;clear e0 hne;have q23:(n.kind == 23)=false:=by rw[hk];decide
  have q26:(n.kind == 26)=false:=by rw[hk];decide
  have q27:(n.kind == 27)=false:=by rw[hk];decide
  have q24:(n.kind == 24)=false:=by rw[hk];decide
  have q28:(n.kind == 28)=false:=by rw[hk];decide
  have q29:(n.kind == 29)=false:=by rw[hk];decide
  have q30:(n.kind == 30)=false:=by rw[hk];decide
  have q31:(n.kind == 31)=false:=by rw[hk];decide
  have q32:(n.kind == 32)=true:=by simpa using hk
  have HC:=ah hc;have HP:=ah hp;have HN:=ah hn;obtain⟨u,ok,hou⟩:∃u ok,f7 n.num v y=(u,ok):=⟨_,_,rfl⟩
  rw[hou];dsimp only;generalize hQ:(if ok=true then O.ok u p else O.fin 2 p)=Q;have HQ:=ah hQ;clear hQ;have HOU:=ah hou;obtain⟨gu,ou,a_v,c_v,pa_v,pc_v,cur,fu,rfl,-,hc1,hc2,hrv,hkv,hf⟩:=(h.dupSl (j+2) hj).vaKn 0 rfl 0 (by simp);obtain⟨g2,o2,a_y,c_y,pa_y,pc_y,cury,fy,e2,-,hc3,hc4,hry,hky,hf2⟩:=hf.vaKn 2 rfl 1 (by simp);cases e2;simp only[List.getElem_cons_zero,List.getElem_cons_succ,Nat.zero_mul,Nat.add_zero,Nat.one_mul] at hrv hkv hry hky hf2;rw[List.length_cons,List.length_cons] at hj ⊢;have HKV:=ah hkv;have HRV:=ah hrv;have HKY:=ah hky;have HRY:=ah hry;have hz0:(0:Int)<(l.length:Int)+1+1:=by omega
  have hz1:(1:Int)<(l.length:Int)+1+1:=by omega
  replace hf2:=hf2.lose (K:=.el VaE [.int .i64 y.kind,.int .i64 y.num,.slice a_y y.names.length c_y,.slice pa_y y.parts.length pc_y] y::.kn gu cury 48 fy::.el VaE [.int .i64 v.kind,.int .i64 v.num,.slice a_v v.names.length c_v,.slice pa_v v.parts.length pc_v] v::.kn gu cur 48 fu::.cm bc bp k c::.pm bp q pg f p false::L);have HF:=ah hf2.fr42;clear h hf hf2 hkv hrv hky hry hc1 hc2 hc3 hc4 hou hc hp hi hj hn hk;go_enter func60,ntmps60;replace HF:=aM HF w.heap.size n a_n c_n;replace HF:=ax HF (w.heap.size+1) vz 48;replace HF:=Fr.fr22 HF;have c_t4:=HF.cell 3 rfl;go_wp2_with fail;clear c_t4;go_wp2;refine regK [] HF (λ w h=>⟨(h.cell 3 rfl),(aC (o:=ou) (h.knc 7 rfl) (by simpa only [Nat.zero_mul,Nat.add_zero] using HKV.out)),(aC (o:=ou+4) (h.knc 5 rfl) HKY.out)⟩) (λ wd1 HF hC=>?_) (C:=λ w'=>(∀o,w'.cell? ⟨w.heap.size,o,none⟩=(#[.int .i64 n.kind,.string n.text,.int .i64 n.num,.slice a_n n.kids.length c_n]:Array Value)[o]?)∧(w'.cell? ⟨gu,ou,none⟩=some (.int .i64 v.kind)∧w'.cell? ⟨gu,ou+1,none⟩=some (.int .i64 v.num)∧w'.cell? ⟨gu,ou+2,none⟩=some (.slice a_v v.names.length c_v)∧w'.cell? ⟨gu,ou+3,none⟩=some (.slice pa_v v.parts.length pc_v))∧(w'.cell? ⟨gu,ou+4,none⟩=some (.int .i64 y.kind)∧w'.cell? ⟨gu,ou+4+1,none⟩=some (.int .i64 y.num)∧w'.cell? ⟨gu,ou+4+2,none⟩=some (.slice a_y y.names.length c_y)∧w'.cell? ⟨gu,ou+4+3,none⟩=some (.slice pa_y y.parts.length pc_y)));refine tq4 0 1 2 3 ?_;refine tq4 4 5 6 7 ?_;refine rq2 8 12 (λ K hK=>?_) λ K hK=>?_
  ·go_simp;refine (operV_any HF n.num HRV HRY HOU).mono ?_;rintro e w5 ⟨a_u,c_u,pa_u,pc_u,rfl,r_u,hf⟩;have HF:=hf;clear hf;refine uq hK ⟨(HF.cell 4 rfl),(aC (o:=ou) (HF.knc 8 rfl) (by simpa only [Nat.zero_mul,Nat.add_zero] using HKV.out)),(aC (o:=ou+4) (HF.knc 6 rfl) HKY.out)⟩ λ hC=>?_;refine tq3 9 10 11 ?_;refine rq 12 λ K hK=>?_;have HF0:=HF;replace HF:=ax HF w5.heap.size vz 48;go_simp;refine uq hK ⟨(HF.cell 5 rfl),(aC (o:=ou) (HF.knc 9 rfl) (by simpa only [Nat.zero_mul,Nat.add_zero] using HKV.out)),(aC (o:=ou+4) (HF.knc 7 rfl) HKY.out)⟩ λ hC=>?_;refine rq 13 λ K hK=>?_;obtain⟨c_t7,f_t7⟩:=cf HF 0;replace HF:=aV HF0 w5.heap.size u.kind u.num a_u u.names.length c_u pa_u u.parts.length pc_u;go_simp;clear c_t7 f_t7;clear HF0;refine uq hK ⟨(HF.cell 5 rfl),(aC (o:=ou) (HF.knc 9 rfl) (by simpa only [Nat.zero_mul,Nat.add_zero] using HKV.out)),(aC (o:=ou+4) (HF.knc 7 rfl) HKY.out)⟩ λ hC=>?_;refine tq 14 ?_;refine dq ?_;cases ok
   ·replace HF:=Fr.fr22 HF;have c_cm:=HF.cmCell 0 rfl;go_wp2_with fail;clear c_cm;replace HF:=ah HF.tail;go_at_call 57;refine (end_any HF 2).mono ?_;rintro e w20 ⟨rfl,hf⟩;exact⟨rfl,PMo.fin' (ov:=q.outv) (HQ.symm.trans (if_neg (by decide))) HP hf.lose⟩
   have c_t7:=HF.cell 0 rfl;obtain⟨c_r,f_r⟩:=cf HF 4;replace HF:=sV HF 4 u.kind u.num a_u u.names.length c_u pa_u u.parts.length pc_u;go_wp2;clear c_t7 c_r f_r;refine br (rt48 results60 rfl (HF.blkAt 4 rfl)) ?_;exact PMe.val HQ.symm r_u HP HF.lose
  replace HF:=ax HF wd1.heap.size vz 48;go_simp;refine uq hK ⟨(HF.cell 4 rfl),(aC (o:=ou) (HF.knc 8 rfl) (by simpa only [Nat.zero_mul,Nat.add_zero] using HKV.out)),(aC (o:=ou+4) (HF.knc 6 rfl) HKY.out)⟩ λ hC=>?_;refine rq 8 λ K hK=>?_;go_simp;refine (operV_any HF n.num HRV HRY HOU).mono ?_;rintro e w5 ⟨a_u,c_u,pa_u,pc_u,rfl,r_u,hf⟩;have HF:=hf;clear hf;refine uq hK ⟨(HF.cell 5 rfl),(aC (o:=ou) (HF.knc 9 rfl) (by simpa only [Nat.zero_mul,Nat.add_zero] using HKV.out)),(aC (o:=ou+4) (HF.knc 7 rfl) HKY.out)⟩ λ hC=>?_;refine tq3 9 10 11 ?_;refine rq 13 λ K hK=>?_;obtain⟨c_t7,f_t7⟩:=cf HF 1;replace HF:=sV HF 1 u.kind u.num a_u u.names.length c_u pa_u u.parts.length pc_u;go_simp;clear c_t7 f_t7;refine uq hK ⟨(HF.cell 5 rfl),(aC (o:=ou) (HF.knc 9 rfl) (by simpa only [Nat.zero_mul,Nat.add_zero] using HKV.out)),(aC (o:=ou+4) (HF.knc 7 rfl) HKY.out)⟩ λ hC=>?_;refine tq 14 ?_;refine dq ?_;cases ok
  ·replace HF:=Fr.fr22 HF;have c_cm:=HF.cmCell 0 rfl;go_wp2_with fail;clear c_cm;replace HF:=ah HF.tail;go_at_call 57;refine (end_any HF 2).mono ?_;rintro e w20 ⟨rfl,hf⟩;exact⟨rfl,PMo.fin' (ov:=q.outv) (HQ.symm.trans (if_neg (by decide))) HP hf.lose⟩
  have c_t7:=HF.cell 1 rfl;obtain⟨c_r,f_r⟩:=cf HF 4;replace HF:=sV HF 4 u.kind u.num a_u u.names.length c_u pa_u u.parts.length pc_u;go_wp2;clear c_t7 c_r f_r;refine br (rt48 results60 rfl (HF.blkAt 4 rfl)) ?_;exact PMe.val HQ.symm r_u HP HF.lose
end
structure UnI (u:Ui):Prop where
 dk:∀d,d∈u.node.kids→d.kids.length≤16000
 me:∀x i,u.me x=some i→i≤9223372036854775807
theorem PI.up (h:PI pg f m p.steps p') (k:PI pg f m n0 p):PI pg f m n0 p':=h.at (Nat.le_trans k.from_ h.from_)
theorem PI.here (h:PI pg f m n0 p):PI pg f m p.steps p:=h.at (Nat.le_refl _)
theorem CI.mono {n n' : Nat} (h:CI k c n) (hl:n≤n') (h2:n'≤2000):CI k c n':=⟨h.em,by have:=h.N;omega,by have:=h.lo;omega,by have:=h.bl;omega,h2,h.un⟩
theorem CI.on (h:CI k c p.steps) (hi:PI pg f m p.steps p'):CI k c p'.steps:=h.mono hi.from_ (Nat.le_trans hi.steps hi.f)
theorem valueM_any (h:Fr B w (.cm bc bp k c::.pm bp q pg f p false::L)) (hu:UnI c.u) (hc:CI k c n1) (hp:PI pg f m n0 p) (i j:Nat) (hi:L[i]?=some (.el NdE (ndc n.kind n.text n.num a_n n.kids.length c_n) n)) (hn:Nk n) (hj:L[j]?=some (.sl VaE (.slice pa vs.length pc) 48 4 vs)) (hvl:vs.length≤16000) (hne:aG c n vs p≠.stuck):Calls prog 60 #[ptr bc,.agg #[.int .i64 n.kind,.string n.text,.int .i64 n.num,.slice a_n n.kids.length c_n],.slice pa vs.length pc] w (PMe (aG c n vs p) B bc bp k c q pg f m n0 L):=by
 by_cases k23:n.kind=23
 ·exact mvalue_23 h hc hp i j hi hn hu.dk hj hvl hne k23
 by_cases k26:n.kind=26
 ·exact mvalue_26 h hc hp i j hi hn hu.dk hj hvl hu.me hne k26
 by_cases k27:n.kind=27
 ·exact mvalue_27 h hc hp i j hi hn hu.dk hj hvl hne k27
 by_cases k24:n.kind=24
 ·exact mvalue_24 h hc hp i j hi hn hu.dk hj hvl hne k24
 by_cases k28:n.kind=28
 ·exact mvalue_28 h hc hp i j hi hn hu.dk hj hvl hne k28
 by_cases k29:n.kind=29
 ·exact mvalue_29 h hc hp i j hi hn hu.dk hj hvl hne k29
 by_cases k30:n.kind=30
 ·exact mvalue_30 h hc hp i j hi hn hu.dk hj hvl hne k30
 by_cases k31:n.kind=31
 ·exact mvalue_31 h hc hp i j hi hn hu.dk hj hvl hne k31
 by_cases k32:n.kind=32
 ·exact mvalue_32 h hc hp i j hi hn hu.dk hj hvl hne k32
 by_cases k33:n.kind=33
 ·exact mvalue_33 h hc hp i j hi hn hu.dk hj hvl hne k33
 by_cases k34:n.kind=34
 ·exact mvalue_34 h hc hp i j hi hn hu.dk hj hvl hne k34
 exact mvalue_else h hc hp i j hi hn hu.dk hj hvl hne (by omega)
def ExprH (f:Nat)(pg:Pg)(N:Nat):Prop:=∀{B:Bs} {w:World} {L:List Rs} {bc bp:Nat} {k:CQ} {c:Cm} {q:PQ} {m n0:Nat} {p:Pm} {n:Nd} {a_n:Option Addr} {c_n:Nat} (h:Fr B w (.cm bc bp k c::.pm bp q pg f p false::L)) (hu:UnI c.u) (hc:CI k c p.steps) (hp:PI pg f m n0 p) (i:Nat) (hi:L[i]?=some (.el NdE (ndc n.kind n.text n.num a_n n.kids.length c_n) n)) (hn:Nk n) (hs:sz n≤700) (hne:(evM f pg N).1 c n p≠.stuck),
 Calls prog 42 #[ptr bc,.agg #[.int .i64 n.kind,.string n.text,.int .i64 n.num,.slice a_n n.kids.length c_n]] w (PMe ((evM f pg N).1 c n p) B bc bp k c q pg f m n0 L)
theorem allL_step {e : Nd→Pm→O Va} {acc : List Va} (h:l[j]?=some y):allL e acc (l.drop j) p=(e y p).bind λ v p=>allL e (acc++[v]) (l.drop (j+1)) p:=by
 obtain⟨hj,rfl⟩:=List.getElem?_eq_some_iff.1 h;rw[eF hj];rfl
theorem Fr.slK (h:Fr B w L) (i:Nat) {c : Nat} (hi:L[i]?=some (.sl NdE (.slice a l.length c) 52 4 l)) (j:Nat) (hj:l[j]?=some y):
  ∃g o a' c' cur f,a=some ⟨g,o,none⟩∧l.length≤c∧c≤maxLen∧(∀k,k<4→cur[o+j*4+k]?=([.int .i64 y.kind,.string y.text,.int .i64 y.num,.slice a' y.kids.length c']:List Value)[k]?)∧Fr B w (.el NdE (ndc y.kind y.text y.num a' y.kids.length c') y::.kn g cur 52 f::L):=by
 obtain⟨hjl,rfl⟩:=List.getElem?_eq_some_iff.1 hj;obtain⟨g,o,c',cur,f,cs,e,h2,h3,h4,h5,h6⟩:=h.elem i hi j hjl;obtain⟨a',c'',e2⟩:=h6.ndForm 0 rfl;subst e2;cases e;exact⟨g,o,a',c'',cur,f,rfl,h2,h3,h5,h6⟩
theorem all_any (ih:ExprH f pg N) (h:Fr B w (.cm bc bp k c::.pm bp q pg f p false::L)) (hu:UnI c.u) (hc:CI k c p.steps) (hp:PI pg f m n0 p) {la : Option Addr} {lc : Nat} (i:Nat) (hi:L[i]?=some (.sl NdE (.slice la l.length lc) 52 4 l)) (hnk:∀x,x∈l→Nk x∧sz x≤700) (hl:l.length≤16000) {Q : O (List Va)} (hQ:Q=allL ((evM f pg N).1 c) [] l p) (hne:Q≠.stuck):
  Calls prog 59 #[ptr bc,.slice la l.length lc] w (PMo Q (λ vs p' e w'=>∃ov v,e=.returned v∧vs.length=l.length∧PI pg f m n0 p'∧Fr B w' (.cm bc bp k c::.pm bp (q.at ov) pg f p' false::.els VaE v 48 4 vs::L)) B bp q pg f m n0 L):=by
 have h0:Fr B w (.cm bc bp k c::.pm bp (q.at q.outv) pg f p false::.els VaE (Value.slice none 0 0) 48 4 []::.sl NdE (.slice la l.length lc) 52 4 l::L):=Fr.fr12 (((h.dupSl (i+2) hi).fr12).noEls VaE 48 4);have HC:=ah hc;have HU:=ah hu;have HNK:=ah hnk;have HNE:=ah hne;go_enter func59,ntmps59;go_wp2;go_loopw [5,7,10] (λ nv _ iv wr=>Hid (∃(j:Nat) (ps:Pm) (vs:List Va) (ov:Value),j≤l.length∧iv=.int .i64 (j:Int)∧Q=allL ((evM f pg N).1 c) vs (l.drop j) ps∧vs.length=j∧PI pg f m n0 ps∧p.steps≤ps.steps∧Fr B wr (.cm bc bp k c::.pm bp (q.at ov) pg f ps false::.els VaE nv 48 4 vs::.sl NdE (.slice la l.length lc) 52 4 l::L))) (λ_ _ iv _=>l.length - (intOf iv).toNat)
 case atStart=>exact ah ⟨0,p,[],q.outv,Nat.zero_le _,rfl,hQ,rfl,hp,Nat.le_refl _,h0⟩
 clear h h0 hQ hc hu hnk hp hi hne;obtain⟨j,ps,vs,ov,hj,rfl,hQ,hvl,hpi,hst,hf⟩:=hrel.out;clear hrel;have HQ:=ah hQ;have HPI:=ah hpi;have HST:=ah hst;obtain⟨na,nc,rfl,-,-⟩:=hf.elsForm 2 rfl;have hvn:vs.length≤16000:=by omega
 have HVL:=ah hvl;have HF:=hf;clear hf hQ hpi hst hvl;by_cases hlt:j<l.length
 ·obtain⟨y,hy⟩:∃y,l[j]?=some y:=⟨_,List.getElem?_eq_getElem hlt⟩
  have hym:=List.mem_of_getElem? hy;have hQ2:=HQ.trans (allL_step hy);obtain⟨g_y,o_y,a_y,c_y,cur_y,f_y,rfl,hc1,hc2,hk_y,hf⟩:=HF.slK 3 rfl j hy;have HK_y:=ah hk_y;have HQ2:=ah hQ2;have HYN:=ah (HNK y hym);have HLT:=ah hlt;have hlb:(j:Int)<(l.length:Int):=by omega
  have HF:=hf;clear hf hk_y hc1 hc2 hQ2 hy hym hlt;obtain⟨e0,e1,e2,e3⟩:=aC (HF.knc 1 rfl) HK_y;replace HF:=aM HF wr.heap.size y a_y c_y;replace HF:=Fr.fr32 HF;have c_t7:=HF.cell 2 rfl;go_wp2_with fail;clear c_t7 e0 e1 e2 e3;go_at_call 42;refine (ih HF HU (HC.mono HST (Nat.le_trans HPI.steps HPI.f)) HPI.here 1 rfl HYN.1 HYN.2 (b_no HQ2 HNE)).mono ?_;intro e w3 hpost;revert hpost
  cases hE:(evM f pg N).1 c y ps with
  | stuck=>intro hpost;exact False.elim hpost
  | ret v0 p0=>
   rintro⟨ov,a0,c0,pa0,pc0,rfl,hr0,hi0,hf0⟩;exact⟨rfl,PMo.ret' (dE HQ2 hE) hr0 (hi0.up HPI) hf0.lose⟩
  | fin e0 p0=>
   rintro⟨ov,rfl,hi0,hf0⟩;exact⟨rfl,PMo.fin' (dF HQ2 hE) (hi0.up HPI) hf0.lose⟩
  | ok v p3=>
  rintro⟨ov1,a_v,c_v,pa_v,pc_v,rfl,hr,hi,hf⟩;have HQ3:=ah (b_ok HQ2 hE);have HPI2:=ah (hi.up HPI);have HST2:=ah (Nat.le_trans HST hi.from_);have HF:=hf;clear hf hi hE HQ HQ2 hr;go_wp2_with (at_builtin;refine Fr.elAppL 46 info48 underlying46 rfl (by decide) (by decide) (HF.alloc (q:=w3.heap.size) (by simp) #[.int .i64 v.kind,.int .i64 v.num,.slice a_v v.names.length c_v,.slice pa_v v.parts.length pc_v] 48) 6 rfl hvn 2 rfl _ _ rfl rfl (by rfl) (by rfl) rfl rfl ?_;intro g4 cap4 w4 hF hgr)
  replace HF:=hF;clear hF hgr;go_roundw
  case rel=>exact ah ⟨j+1,p3,vs++[v],ov1,HLT,rfl,HQ3,by rw[List.length_append,HVL.out];rfl,HPI2,HST2,HF.lose⟩
  case measure=>simp only[intOf];omega
 have hjn:j=l.length:=by omega
 have hQ4:Q=.ok vs ps:=by
  rw[HQ.out,hjn,List.drop_length];rfl
 have HQ4:=ah hQ4;subst hjn;have hli:¬ (l.length:Int)<(l.length:Int):=by omega
 clear hQ4;go_wp2;go_ret
 exact PMo.ok' HQ4 ⟨ov,_,rfl,HVL,HPI,HF.lose⟩
theorem field48 (a b c d:Value) (w:World):(Instr.field 48 (.agg #[a,b,c,d]) 1).run prog w=.ok b w:=by simp [Instr.field,asAgg,go_sem]
theorem callee_any (ih:ExprH f pg N) (h:Fr B w (.cm bc bp k c::.pm bp q pg f p false::L)) (hu:UnI c.u) (hc:CI k c p.steps) (hp:PI pg f m n0 p) (i:Nat) (hi:L[i]?=some (.el NdE (ndc n.kind n.text n.num a_n n.kids.length c_n) n)) (hn:Nk n) (hs:sz n≤700) {Q : O Int} (hQ:Q=fF ((evM f pg N).1 c) c n p) (hne:Q≠.stuck):
  Calls prog 58 #[ptr bc,.agg #[.int .i64 n.kind,.string n.text,.int .i64 n.num,.slice a_n n.kids.length c_n]] w (PMo Q (λ i p' e w'=>∃ov,e=.returned (.int .i64 i)∧PI pg f m n0 p'∧Fr B w' (.cm bc bp k c::.pm bp (q.at ov) pg f p' false::L)) B bp q pg f m n0 L):=by
 have HC:=ah hc;have HU:=ah hu;have HPI:=ah hp;have HN:=ah hn;have HNE:=ah hne;have hbl:c.bl.length≤16000:=by have:=hc.bl;have:=hc.n;omega
 have hxm:n.text.size≤maxLen:=Nat.le_trans hn.text (by decide:4000≤maxLen);have HF:=ah (h.dup (i+2) hi).fr12;clear h hc hu hp hn hne hi;by_cases hk:n.kind=23∧dK c.bl n.text=none
 ·have hQ1:=hQ.trans (if_pos hk);obtain⟨iv,hiv,hQ2⟩:=of_ok hQ1 HNE;obtain⟨mi,hmi,rfl⟩:∃i,c.u.me n.text=some i∧iv=(i:Int):=by
   cases e:c.u.me n.text with
   | none=>rw[e] at hiv;cases hiv
   | some i=>rw[e] at hiv;cases hiv;exact⟨i,rfl,rfl⟩
  have q23:(n.kind == 23)=true:=by simpa using hk.1
  have HQ2:=ah hQ2;have HMI:=ah hmi;have HFN:=ah hk.2;clear hQ hQ1 hQ2 hiv hmi hk;go_enter func58,ntmps58;replace HF:=aM HF w.heap.size n a_n c_n;replace HF:=Fr.fr12 HF;have c_t3:=HF.cell 2 rfl;go_wp2_with fail;clear c_t3;go_at_call 86;refine (local86 HF HC.em hbl n.text hxm).mono ?_;rintro e w1 ⟨rfl,HF⟩;simp only[HFN.out,Option.getD_none,Option.isSome_none];have c_t3:=HF.cell 2 rfl;go_wp2_with fail;clear c_t3;go_wp2;refine regK [] HF (λ w h=>⟨(h.cmCell 0 rfl),(h.cell 2 rfl)⟩) (λ wd2 HF hC=>?_) (C:=λ w'=>(∀o,w'.cell? ⟨bc,o,none⟩=(#[ptr bp,k.n0,k.n1,k.n2,k.n3,k.sg,k.nu,.map (some k.m1),.map (some k.m2),k.bv,k.lv,k.wv]:Array Value)[o]?)∧(∀o,w'.cell? ⟨w.heap.size,o,none⟩=(#[.int .i64 n.kind,.string n.text,.int .i64 n.num,.slice a_n n.kids.length c_n]:Array Value)[o]?));refine tq4 0 1 2 3 ?_;refine tq3 4 5 6 ?_;refine rq 7 λ K hK=>?_;have hlk:=HF.cmMe 0 rfl n.text hxm;rw[HMI.out] at hlk;simp only[Option.getD_some] at hlk;go_simp;clear hlk;refine uq hK ⟨(HF.cmCell 0 rfl),(HF.cell 2 rfl)⟩ λ hC=>?_;refine tq 8 ?_;refine dq ?_;go_wp2;go_ret
  exact PMo.ok' HQ2 ⟨q.outv,rfl,HPI,HF.lose⟩
 have hQ1:=hQ.trans (if_neg hk);have HQ1:=ah hQ1;have HK:=ah hk;clear hQ hQ1 hk;obtain⟨fo,hfo⟩:∃fo,dK c.bl n.text=fo:=⟨_,rfl⟩
 by_cases hk:n.kind=23
 ·have q23:(n.kind == 23)=true:=by simpa using hk
  cases fo with
  | none=>exact absurd ⟨hk,hfo⟩ HK
  | some jv=>
  have HFO:=ah hfo;clear hfo hk;go_enter func58,ntmps58;replace HF:=aM HF w.heap.size n a_n c_n;replace HF:=Fr.fr12 HF;have c_t3:=HF.cell 2 rfl;go_wp2_with fail;clear c_t3;go_at_call 86;refine (local86 HF HC.em hbl n.text hxm).mono ?_;rintro e w1 ⟨rfl,HF⟩;simp only[HFO.out,Option.getD_some,Option.isSome_some];have c_t3:=HF.cell 2 rfl;go_wp2_with fail;clear c_t3;go_at_call 42;refine (ih HF HU HC HPI.here 1 rfl HN hs (b_no HQ1 HNE)).mono ?_;intro e w2 hpost;revert hpost
  cases hE:(evM f pg N).1 c n p with
  | stuck=>intro hpost;exact False.elim hpost
  | ret v0 p0=>
   rintro⟨ov,a0,c0,pa0,pc0,rfl,hr0,hi0,hf0⟩;exact⟨rfl,PMo.ret' (dE HQ1 hE) hr0 (hi0.up HPI) hf0.lose⟩
  | fin e0 p0=>
   rintro⟨ov,rfl,hi0,hf0⟩;exact⟨rfl,PMo.fin' (dF HQ1 hE) (hi0.up HPI) hf0.lose⟩
  | ok v p2=>
  rintro⟨ov1,a_v,c_v,pa_v,pc_v,rfl,hr,hi,hf⟩;have hfld:=field48 (.int .i64 v.kind) (.int .i64 v.num) (.slice a_v v.names.length c_v) (.slice pa_v v.parts.length pc_v) w2;go_wp2;go_ret
  have hq5:=b_ok HQ1 hE;exact PMo.ok' hq5 ⟨ov1,rfl,hi.up HPI,hf.lose⟩
 have q23:(n.kind == 23)=false:=by simpa using hk
 have HFO:=ah hfo;clear hfo hk;go_enter func58,ntmps58;replace HF:=aM HF w.heap.size n a_n c_n;replace HF:=Fr.fr12 HF;have c_t3:=HF.cell 2 rfl;go_wp2_with fail;clear c_t3;go_at_call 86;refine (local86 HF HC.em hbl n.text hxm).mono ?_;rintro e w1 ⟨rfl,HF⟩;generalize ((dK c.bl n.text).getD 0)=jv at *;generalize (dK c.bl n.text).isSome=jb at *;have c_t3:=HF.cell 2 rfl;go_wp2_with fail;clear c_t3;go_at_call 42;refine (ih HF HU HC HPI.here 1 rfl HN hs (b_no HQ1 HNE)).mono ?_;intro e w2 hpost;revert hpost
 cases hE:(evM f pg N).1 c n p with
 | stuck=>intro hpost;exact False.elim hpost
 | ret v0 p0=>
  rintro⟨ov,a0,c0,pa0,pc0,rfl,hr0,hi0,hf0⟩;exact⟨rfl,PMo.ret' (dE HQ1 hE) hr0 (hi0.up HPI) hf0.lose⟩
 | fin e0 p0=>
  rintro⟨ov,rfl,hi0,hf0⟩;exact⟨rfl,PMo.fin' (dF HQ1 hE) (hi0.up HPI) hf0.lose⟩
 | ok v p2=>
 rintro⟨ov1,a_v,c_v,pa_v,pc_v,rfl,hr,hi,hf⟩;have hfld:=field48 (.int .i64 v.kind) (.int .i64 v.num) (.slice a_v v.names.length c_v) (.slice pa_v v.parts.length pc_v) w2;go_wp2;go_ret
 have hq5:=b_ok HQ1 hE;exact PMo.ok' hq5 ⟨ov1,rfl,hi.up HPI,hf.lose⟩
theorem beq_dec (a b:Int):(a == b)=decide (a=b):=by rw[Bool.eq_iff_iff];simp
theorem holds_any (ih:ExprH f pg N) (h:Fr B w (.cm bc bp k c::.pm bp q pg f p false::L)) (hu:UnI c.u) (hc:CI k c p.steps) (hp:PI pg f m n0 p) (i:Nat) (hi:L[i]?=some (.el NdE (ndc n.kind n.text n.num a_n n.kids.length c_n) n)) (hn:Nk n) (hs:sz n≤700) {Q : O Bool} (hQ:Q=(((evM f pg N).1 c n p).bind λ v p=>.ok (!decide (v.num=0)) p)) (hne:Q≠.stuck):
  Calls prog 44 #[ptr bc,.agg #[.int .i64 n.kind,.string n.text,.int .i64 n.num,.slice a_n n.kids.length c_n]] w (PMo Q (λ b p' e w'=>∃ov,e=.returned (.bool b)∧PI pg f m n0 p'∧Fr B w' (.cm bc bp k c::.pm bp (q.at ov) pg f p' false::L)) B bp q pg f m n0 L):=by
 have HNE:=ah hne;have HPI:=ah hp;have HF:=ah (h.dup (i+2) hi).fr12;clear h hp hne hi;go_enter func44,ntmps44;replace HF:=aM HF w.heap.size n a_n c_n;replace HF:=Fr.fr12 HF;have c_t3:=HF.cell 2 rfl;go_wp2_with fail;clear c_t3;go_at_call 42;refine (ih HF hu hc HPI.here 1 rfl hn hs (b_no hQ HNE)).mono ?_;intro e w1 hpost;revert hpost
 cases hE:(evM f pg N).1 c n p with
 | stuck=>intro hpost;exact False.elim hpost
 | ret v0 p0=>
  rintro⟨ov,a0,c0,pa0,pc0,rfl,hr0,hi0,hf0⟩;exact⟨rfl,PMo.ret' (dE hQ hE) hr0 (hi0.up HPI) hf0.lose⟩
 | fin e0 p0=>
  rintro⟨ov,rfl,hi0,hf0⟩;exact⟨rfl,PMo.fin' (dF hQ hE) (hi0.up HPI) hf0.lose⟩
 | ok v p1=>
 rintro⟨ov1,a_v,c_v,pa_v,pc_v,rfl,hr,hi,hf⟩;have HQ:=ah (b_ok hQ hE);clear hQ hE;have hfld:=field48 (.int .i64 v.kind) (.int .i64 v.num) (.slice a_v v.names.length c_v) (.slice pa_v v.parts.length pc_v) w1;go_wp2;go_ret
 exact PMo.ok' HQ ⟨ov1,by simp [bne,beq_dec],hi.up HPI,hf.lose⟩
def ResH (f:Nat)(pg:Pg)(N:Nat):Prop:=∀{B:Bs} {w:World} {L:List Rs} {bp:Nat} {q:PQ} {m n0:Nat} {p:Pm} {pl:Int} {vs:List Va} {va:Option Addr} {vc:Nat} (h:Fr B w (.pm bp q pg f p false::L)) (hp:PI pg f m n0 p) (i:Nat) (hi:L[i]?=some (.sl VaE (.slice va vs.length vc) 48 4 vs)) (hvl:vs.length≤700) (hne:bM pg (evM f pg N).2 pl vs p≠.stuck),
 Calls prog 16 #[ptr bp,.int .i64 pl,.slice va vs.length vc] w (PMr (bM pg (evM f pg N).2 pl vs p) B bp q pg f m n0 L)
theorem fA:∀(l:List Nd),l.length≤szs l
 | []=>Nat.le_refl _
 | x::l=>by have:=fX x;have:=fA l;simp only[szs,List.length_cons];omega
theorem aS (hn:Nk n) (hs:sz n≤700):(∀x,x∈n.kids→Nk x∧sz x≤700)∧n.kids.length≤699:=
 ⟨λ x hx=>⟨hn.kids x hx,by have:=bU n;have:=eH hx;omega⟩,by have:=bU n;have:=fA n.kids;omega⟩
theorem Fr.ndSl (h:Fr B w L) (i:Nat) {c : Nat} (hi:L[i]?=some (.el NdE (ndc x.kind x.text x.num a x.kids.length c) x)):Fr B w (.sl NdE (.slice a x.kids.length c) 52 4 x.kids::L):=by
 cases x with
 | mk k s m l=>exact (h.kids i hi).2
theorem Fr.ndTail (h:Fr B w L) (i:Nat) {g o c : Nat} {n : Nat} {ks : List Nd} (ha:a=some ⟨g,o,none⟩) (hk:ks=x::l) (hn:n=l.length+1) (hi:L[i]?=some (.sl NdE (.slice a n c) 52 4 ks)):Fr B w (.sl NdE (.slice (if c=1 then some ⟨g,o,none⟩ else some ⟨g,o+4,none⟩) l.length (c - 1)) 52 4 l::L):=by
 subst hn ha hk;refine h.know (K:=[_]) λ H w hr k hk=>?_;obtain rfl:=List.mem_singleton.1 hk;obtain⟨a',c',e1,h2,h3,h4⟩:SlP NdE (.slice (some ⟨g,o,none⟩) (l.length+1) c) 52 4 (x::l) H:=hr _ (List.mem_of_getElem? hi);cases e1;refine⟨⟨_,c - 1,rfl,by simp at h2;omega,by omega,λ hne=>?_⟩,λ q hq=>hq⟩;obtain⟨g',o',cur,f,e1,e2,e3⟩:=h4 (by simp);cases e1;have hl0:=List.length_pos_iff.2 hne;refine⟨g,o+4,cur,f,if_neg (by simp at h2;omega),e2,λ j hj=>?_⟩;obtain⟨cs,r1,r2,r3⟩:=e3 (j+1) (by simp;omega);exact⟨cs,r1,λ i hi=>by rw[← r2 i hi];congr 1;omega,r3⟩
theorem expr_q (ih:ExprH f pg N) (hr:ResH f pg N) (h:Fr B w (.cm bc bp k c::.pm bp q pg f p false::L)) (hu:UnI c.u) (hc:CI k c p.steps) (hp:PI pg f m n0 p) (i:Nat) (hi:L[i]?=some (.el NdE (ndc n.kind n.text n.num a_n n.kids.length c_n) n)) (hn:Nk n) (hs:sz n≤700) {Q : O Va} (hQ:Q=exprSM f pg (evM f pg N).1 (evM f pg N).2 c n p) (hne:Q≠.stuck):Calls prog 42 #[ptr bc,.agg #[.int .i64 n.kind,.string n.text,.int .i64 n.num,.slice a_n n.kids.length c_n]] w (PMe Q B bc bp k c q pg f m n0 L):=by
 unfold exprSM at hQ;have HQ:=ah hQ;have HNE:=ah hne;have HPI:=ah hp;have HC:=ah hc;have HU:=ah hu;have HN:=ah hn;have HSM:=ah (aS hn hs);have HF:=ah (h.dup (i+2) hi).fr12;clear h hp hne hi hc hu hn hQ;go_enter func42,ntmps42;replace HF:=aM HF w.heap.size n a_n c_n;replace HF:=ax HF (w.heap.size+1) vz 48;replace HF:=Fr.fr22 HF;have c_cm:=HF.cmCell 0 rfl;have f_cm:=HF.cmFrz 0 rfl;clear f_cm;go_wp2_with fail;clear c_cm;replace HF:=ah HF.swap;go_at_call 41;refine (eV HF HPI.here).mono ?_;intro e w1 hpost;revert hpost
 cases hE:dH f p with
 | stuck=>intro hpost;exact False.elim hpost
 | ret v0 p0=>
  rintro⟨ov,a0,c0,pa0,pc0,rfl,hr0,hi0,hf0⟩;exact⟨rfl,PMo.ret' (dE HQ hE) hr0 (hi0.up HPI) hf0.lose⟩
 | fin e0 p0=>
  rintro⟨ov,rfl,hi0,hf0⟩;exact⟨rfl,PMo.fin' (dF HQ hE) (hi0.up HPI) hf0.lose⟩
 | ok u0 p1=>
 rintro⟨rfl,hi1,hf1⟩;have hQ2:=b_ok HQ hE;replace HPI:=ah (hi1.less.up HPI);replace HC:=ah (HC.on hi1);replace HF:=ah hf1.swap;clear hi1 hf1 hE HQ;by_cases hk:n.kind=25
 ·rw[if_pos hk] at hQ2;have q25:(n.kind == 25)=true:=by simpa using hk
  clear hk;obtain⟨x,l,hkl⟩:∃x l,n.kids=x::l:=by
   cases e:n.kids with
   | nil=>rw[e] at hQ2;exact absurd hQ2 HNE
   | cons x l=>exact⟨x,l,rfl⟩
  rw[hkl] at hQ2;dsimp only at hQ2;have HQ2:=ah hQ2;have hx0:n.kids[0]?=some x:=by rw[hkl];rfl
  have hlen:n.kids.length=l.length+1:=by rw[hkl];rfl
  have HXN:=ah (HSM.1 x (by rw[hkl];exact List.mem_cons_self ..));have HLN:Hid (∀y,y∈l→Nk y∧sz y≤700):=λ y hy=>HSM.1 y (by rw[hkl];exact List.mem_cons_of_mem _ hy);have hln:l.length≤698:=by have:=HSM.2;omega
  have HKL:=ah hkl;clear hQ2 hkl;obtain⟨g_x,o_x,a_x,c_x,cur_x,f_x,ha_x,hc1,hc2,hk_x,hf⟩:=HF.kidK 4 rfl 0 hx0;have HK_x:=ah hk_x;have hb_x:0<n.kids.length:=(List.getElem?_eq_some_iff.1 hx0).1;have hbi_x:((0:Nat):Int)<(n.kids.length:Int):=by omega
  replace HF:=hf;clear hf hk_x;simp only[Nat.zero_mul,Nat.add_zero] at HK_x;have hfs:=(HF.ndSl 6 rfl)
  have hft:=hfs.ndTail 0 ha_x HKL hlen rfl;replace HF:=ah hft.tail2;clear hfs hft;have h1n:(1:Int)≤(n.kids.length:Int):=by omega
  have hnc:n.kids.length≤c_n:=by omega
  have hll:n.kids.length - 1=l.length:=by omega
  clear hlen;replace HF:=Fr.fr32 HF;subst ha_x;have c_t3:=HF.cell 6 rfl;go_wp2_with fail;clear c_t3;go_wp2;refine regK [] HF (λ w h=>⟨(h.cmCell 0 rfl),(h.cell 6 rfl),(aC (o:=o_x) (h.knc 4 rfl) HK_x)⟩) (λ wd2 HF hC=>?_) (C:=λ w'=>(∀o,w'.cell? ⟨bc,o,none⟩=(#[ptr bp,k.n0,k.n1,k.n2,k.n3,k.sg,k.nu,.map (some k.m1),.map (some k.m2),k.bv,k.lv,k.wv]:Array Value)[o]?)∧(∀o,w'.cell? ⟨w.heap.size,o,none⟩=(#[.int .i64 n.kind,.string n.text,.int .i64 n.num,.slice (some ⟨g_x,o_x,none⟩) n.kids.length c_n]:Array Value)[o]?)∧(w'.cell? ⟨g_x,o_x,none⟩=some (.int .i64 x.kind)∧w'.cell? ⟨g_x,o_x+1,none⟩=some (.string x.text)∧w'.cell? ⟨g_x,o_x+2,none⟩=some (.int .i64 x.num)∧w'.cell? ⟨g_x,o_x+3,none⟩=some (.slice a_x x.kids.length c_x)));refine tq4 0 1 2 3 ?_;refine tq4 4 5 6 7 ?_;refine tq4 8 10 11 12 ?_;refine tq 13 ?_;generalize (if c_n=1 then (some ⟨g_x,o_x,none⟩:Option Addr) else some ⟨g_x,o_x+4,none⟩)=la at *;refine rq 9 λ K hK=>?_;go_simp;refine (callee_any ih HF HU HC HPI.here 1 rfl HXN.1 HXN.2 rfl (b_no HQ2 HNE)).mono ?_;intro e w3 hpost;revert hpost
  cases hE:fF ((evM f pg N).1 c) c x p1 with
  | stuck=>intro hpost;exact False.elim hpost
  | ret v0 p0=>
   rintro⟨ov,a0,c0,pa0,pc0,rfl,hr0,hi0,hf0⟩;exact⟨rfl,PMo.ret' (dE HQ2 hE) hr0 (hi0.up HPI) hf0.lose⟩
  | fin e0 p0=>
   rintro⟨ov,rfl,hi0,hf0⟩;exact⟨rfl,PMo.fin' (dF HQ2 hE) (hi0.up HPI) hf0.lose⟩
  | ok pl p3=>
  rintro⟨ov1,rfl,hi,hf⟩;have HQ3:=ah (b_ok HQ2 hE);replace HC:=ah (HC.on hi);replace HPI:=ah (hi.up HPI);replace HF:=hf;clear hi hf hE HQ2;refine uq hK ⟨(HF.cmCell 0 rfl),(HF.cell 6 rfl),(aC (o:=o_x) (HF.knc 4 rfl) HK_x)⟩ λ hC=>?_;refine rq 14 λ K hK=>?_;go_simp;refine (all_any ih HF HU HC HPI.here 0 rfl HLN (by omega) rfl (b_no HQ3 HNE)).mono ?_;intro e w4 hpost;revert hpost
  cases hE:allL ((evM f pg N).1 c) [] l p3 with
  | stuck=>intro hpost;exact False.elim hpost
  | ret v0 p0=>
   rintro⟨ov,a0,c0,pa0,pc0,rfl,hr0,hi0,hf0⟩;exact⟨rfl,PMo.ret' (dE HQ3 hE) hr0 (hi0.up HPI) hf0.lose⟩
  | fin e0 p0=>
   rintro⟨ov,rfl,hi0,hf0⟩;exact⟨rfl,PMo.fin' (dF HQ3 hE) (hi0.up HPI) hf0.lose⟩
  | ok vs p4=>
  rintro⟨ov2,vv,rfl,hvl,hi,hf⟩;obtain⟨va,vc,rfl,-,-⟩:=hf.elsForm 2 rfl;have HQ4:=ah (b_ok HQ3 hE);replace HC:=ah (HC.on hi);replace HPI:=ah (hi.up HPI);have HF:=hf.give 2 rfl;have HVL:=ah hvl;clear hi hf hE HQ3 hvl;refine uq hK ⟨(HF.cmCell 0 rfl),(HF.cell 7 rfl),(aC (o:=o_x) (HF.knc 5 rfl) HK_x)⟩ λ hC=>?_;refine rq 15 λ K hK=>?_;go_simp;replace HF:=ah HF.swap;refine (hr HF HPI.here 1 rfl (by rw[HVL.out];omega) (by rw[← HQ4.out];exact HNE)).mono ?_;intro e w5 hpost;revert hpost
  cases hE:bM pg (evM f pg N).2 pl vs p4 with
  | stuck=>intro hpost;exact False.elim hpost
  | ret v0 p0=>
   rintro⟨ov,a0,c0,pa0,pc0,rfl,hr0,hi0,hf0⟩;exact⟨rfl,PMo.ret' (HQ4.trans hE) hr0 (hi0.up HPI) hf0.lose⟩
  | fin e0 p0=>
   rintro⟨ov,rfl,hi0,hf0⟩;exact⟨rfl,PMo.fin' (HQ4.trans hE) (hi0.up HPI) hf0.lose⟩
  | ok v p5=>
  rintro⟨ov3,a_v,c_v,pa_v,pc_v,rfl,hrv,hi,hf⟩;have HQ5:=ah (HQ4.trans hE);replace HPI:=ah (hi.up HPI);have HR:=ah hrv;have HF:=Fr.fr21 hf;clear hi hf hE HQ4 hrv;refine uq hK ⟨(HF.cmCell 0 rfl),(HF.cell 8 rfl),(aC (o:=o_x) (HF.knc 6 rfl) HK_x)⟩ λ hC=>?_;refine rq 16 λ K hK=>?_;obtain⟨c_r,f_r⟩:=cf HF 7;replace HF:=sV HF 7 v.kind v.num a_v v.names.length c_v pa_v v.parts.length pc_v;go_simp;clear c_r f_r;refine uq hK ⟨(HF.cmCell 0 rfl),(HF.cell 8 rfl),(aC (o:=o_x) (HF.knc 6 rfl) HK_x)⟩ λ hC=>?_;refine dq ?_;go_wp2;refine br (rt48 results42 rfl (HF.blkAt 7 rfl)) ?_;exact PMo.ok' HQ5 ⟨ov3,a_v,c_v,pa_v,pc_v,rfl,HR,HPI,HF.lose⟩
 rw[if_neg hk] at hQ2;have q25:(n.kind == 25)=false:=by simpa using hk
 have HQ2:=ah hQ2;clear hk hQ2;have HF:=HF.ndSl 4 rfl;replace HF:=Fr.fr12 HF;have c_t3:=HF.cell 4 rfl;go_wp2_with fail;clear c_t3;go_wp2;refine regK [] HF (λ w h=>(h.cell 4 rfl)) (λ wd2 HF hC=>?_);refine tq4 0 1 2 3 ?_;refine tq 4 ?_;refine rq 5 λ K hK=>?_;go_simp;refine (all_any ih HF HU HC HPI.here 0 rfl HSM.1 (by have:=HSM.2;omega) rfl (b_no HQ2 HNE)).mono ?_;intro e w3 hpost;revert hpost
 cases hE:allL ((evM f pg N).1 c) [] n.kids p1 with
 | stuck=>intro hpost;exact False.elim hpost
 | ret v0 p0=>
  rintro⟨ov,a0,c0,pa0,pc0,rfl,hr0,hi0,hf0⟩;exact⟨rfl,PMo.ret' (dE HQ2 hE) hr0 (hi0.up HPI) hf0.lose⟩
 | fin e0 p0=>
  rintro⟨ov,rfl,hi0,hf0⟩;exact⟨rfl,PMo.fin' (dF HQ2 hE) (hi0.up HPI) hf0.lose⟩
 | ok vs p3=>
 rintro⟨ov2,vv,rfl,hvl,hi,hf⟩;obtain⟨va,vc,rfl,-,-⟩:=hf.elsForm 2 rfl;have HQ4:=ah (b_ok HQ2 hE);replace HC:=ah (HC.on hi);replace HPI:=ah (hi.up HPI);have HF:=hf.give 2 rfl;have HVL:=ah hvl;clear hi hf hE HQ2 hvl;refine uq hK (HF.cell 5 rfl) λ hC=>?_;refine rq 6 λ K hK=>?_;go_simp;refine (valueM_any HF HU HC HPI.here 4 0 rfl HN rfl (by rw[HVL.out];have:=HSM.2;omega) (by rw[← HQ4.out];exact HNE)).mono ?_;intro e w4 hpost;revert hpost
 cases hE:aG c n vs p3 with
 | stuck=>intro hpost;exact False.elim hpost
 | ret v0 p0=>
  rintro⟨ov,a0,c0,pa0,pc0,rfl,hr0,hi0,hf0⟩;exact⟨rfl,PMo.ret' (HQ4.trans hE) hr0 (hi0.up HPI) hf0.lose⟩
 | fin e0 p0=>
  rintro⟨ov,rfl,hi0,hf0⟩;exact⟨rfl,PMo.fin' (HQ4.trans hE) (hi0.up HPI) hf0.lose⟩
 | ok v p4=>
 rintro⟨ov3,a_v,c_v,pa_v,pc_v,rfl,hrv,hi,hf⟩;have HQ5:=ah (HQ4.trans hE);replace HPI:=ah (hi.up HPI);have HR:=ah hrv;have HF:=hf;clear hi hf hE HQ4 hrv;refine uq hK (HF.cell 6 rfl) λ hC=>?_;refine rq 7 λ K hK=>?_;obtain⟨c_r,f_r⟩:=cf HF 5;replace HF:=sV HF 5 v.kind v.num a_v v.names.length c_v pa_v v.parts.length pc_v;go_simp;clear c_r f_r;refine uq hK (HF.cell 6 rfl) λ hC=>?_;refine dq ?_;go_wp2;refine br (rt48 results42 rfl (HF.blkAt 5 rfl)) ?_;exact PMo.ok' HQ5 ⟨ov3,a_v,c_v,pa_v,pc_v,rfl,HR,HPI,HF.lose⟩
theorem expr_step_ok (ih:ExprH f pg N) (hr:ResH f pg N):ExprH f pg (N+1):=λ h hu hc hp i hi hn hs hne=>expr_q ih hr h hu hc hp i hi hn hs rfl hne
structure Fm (c d:Cm):Prop where
 u:d.u=c.u
 be:d.be=c.be
 tl:d.bl.tail=c.bl.tail
 len:d.bl.length=c.bl.length
theorem Fm.rfl' :Fm c c:=⟨rfl,rfl,rfl,rfl⟩
theorem Fm.trans {d e : Cm} (h:Fm c d) (k:Fm d e):Fm c e:=⟨k.u.trans h.u,k.be.trans h.be,k.tl.trans h.tl,k.len.trans h.len⟩
def FmO (c:Cm):O Cm→Prop
 | .ok d _=>Fm c d
 | _=>True
theorem FmO.bind {a : O α} {g : α→Pm→O Cm} (h:∀x p,FmO c (g x p)):FmO c (a.bind g):=by
 cases a with
 | ok x p=>exact h x p
 | ret _ _=>trivial
 | fin _ _=>trivial
 | stuck=>trivial
theorem FmO.then {a : O Cm} {g : Cm→Pm→O Cm} (ha:FmO c a) (h:∀d p,Fm c d→FmO c (g d p)):FmO c (a.bind g):=by
 cases a with
 | ok x p=>exact h x p ha
 | ret _ _=>trivial
 | fin _ _=>trivial
 | stuck=>trivial
theorem FmO.on {d : Cm} (k:Fm c d) {a : O Cm} (h:FmO d a):FmO c a:=by
 cases a with
 | ok x p=>exact k.trans h
 | ret _ _=>trivial
 | fin _ _=>trivial
 | stuck=>trivial
theorem FmO.ite {b : Prop} [Decidable b] {x y : O Cm} (hx:FmO c x) (hy:FmO c y):FmO c (if b then x else y):=by
 split
 ·exact hx
 exact hy
section
variable {s : EvS} (hs : ∀ c n p, FmO c (s c n p))
include hs
theorem stats_fm:∀(l:List Nd)(c:Cm)(p:Pm),FmO c (eJ s c l p)
 | [],c,p=>.rfl'
 | x::l,c,p=>(hs c x p).then λ d p k=>.on k (stats_fm l d p)
theorem block_fm (m:NM) (c:Cm) (n:Nd) (p:Pm):FmO c (bY s m c n p):=by
 have h:=stats_fm hs n.kids { c with bl:=m::c.bl } p;unfold bY;generalize eJ s { c with bl:=m::c.bl } n.kids p=a at h;cases a with
 | ok d r=>
  show FmO c (if _ then _ else _);refine .ite ⟨h.u,h.be,rfl,rfl⟩ trivial
 | ret _ _=>trivial
 | fin _ _=>trivial
 | stuck=>trivial
theorem while_fm (e:EvE)(n b:Nd):∀(k:Nat) (c:Cm) (p:Pm),FmO c (fV e s n b k c p)
 | 0,c,p=>trivial
 | k+1,c,p=>.bind λ v p=>.ite .rfl' ((block_fm hs _ c b p).then λ d p h=>.on h (while_fm e n b k d p))
theorem stat_fm (f k:Nat) (e:EvE) (c:Cm) (n:Nd) (p:Pm):FmO c (cB f k e s c n p):=by
 unfold cB;refine .bind λ_ p=>.ite ?_ (.ite ?_ (.ite ?_ .rfl'))
 ·split
  ·refine .bind λ v p=>.ite ?_ ?_
   ·unfold putTop;cases hb:c.bl with
    | nil=>trivial
    | cons m l=>exact⟨rfl,rfl,by rw[hb];rfl,by rw[hb];rfl⟩
   unfold setM;split
   ·trivial
   split
   ·trivial
   split
   ·trivial
   unfold dA;split
   ·exact .ite ⟨rfl,rfl,rfl,rfl⟩ trivial
   split
   ·exact .ite .rfl' trivial
   trivial
  trivial
 ·split
  ·refine .ite (while_fm hs _ _ _ _ _ _) (.bind λ v p=>.ite ?_ (block_fm hs _ _ _ _));split
   ·exact .rfl'
   exact block_fm hs _ _ _ _
  trivial
 split
 ·exact .bind λ v p=>.ite trivial (.ite .rfl' .rfl')
 trivial
end
theorem ev_fm (f:Nat)(pg:Pg):∀(N:Nat) (c:Cm) (n:Nd) (p:Pm),FmO c ((evM f pg N).2 c n p)
 | 0,c,n,p=>trivial
 | N+1,c,n,p=>stat_fm (ev_fm f pg N) f (N+1) (evM f pg N).1 c n p
theorem row_take {base : Nat} {n : Nat} {xs : List Value} (h:w.ownsRow base e z (.slice a n cp) n xs) (hm:m≤n):w.ownsRow base e z (.slice a m cp) m (xs.take (m*z)):=by
 have hz:m*z≤n*z:=Nat.mul_le_mul_right z hm;refine⟨by rw[List.length_take,h.1];omega,?_⟩;rcases h.2 with⟨h1,h2⟩|⟨g,cap,cur,h1,h2,h3,a1,a2,a3,a4⟩
 ·cases h1;exact Or.inl ⟨by rw[show m=0 by omega],by omega⟩
 cases h1;refine Or.inr ⟨g,_,cur,rfl,h2,h3,by omega,a2,a3,?_⟩;rw[← a4,List.take_take,Nat.min_eq_left hz]
theorem els_take {E : El α} {H : Snap} {n : Nat} {l : List α} (h:(Rs.els E (.slice a n cp) e z l).ok H w) (hn:n=l.length) (hm:m≤n):(Rs.els E (.slice a m cp) e z (l.take m)).ok H w:=by
 subst hn;obtain⟨css,h1,hz,h2,h3⟩:=h;have hl:(l.take m).length=m:=by rw[List.length_take];omega
 have hfl:∀(css:List (List Value)) (m:Nat),(∀c,c∈css→c.length=z)→css.flatten.take (m*z)=(css.take m).flatten:=by
  intro css;induction css with
  | nil=>intro m _;simp
  | cons c css ih=>
   intro m hc;cases m with
   | zero=>simp
   | succ m=>
    have h0:=hc c (List.mem_cons_self ..);rw[List.take_succ_cons,List.flatten_cons,List.flatten_cons,← ih m λ x hx=>hc x (List.mem_cons_of_mem _ hx),List.take_append,h0,List.take_of_length_le (by rw[h0,Nat.succ_mul];omega)];rw[show (m+1)*z - z=m*z by rw[Nat.succ_mul];omega]
 refine⟨css.take m,by rw[List.length_take,List.length_take,h1],λ c hc=>hz c (List.mem_of_mem_take hc),?_,λ j hj hj'=>?_⟩
 ·rw[hl,← hfl css m hz];exact row_take h2 hm
 rw[List.getElem_take,List.getElem_take];exact h3 j _ _
theorem Fr.cmPushed {v : Value} {K : Rs} (h:Fr B w (K::((cmK bc bp k c).set 1 (.row v 40 1 (c.bl.length+1) ((k.em.reverse.map λ m=>Value.map (some m))++[.map (some mq)]))++(bH k.N k.em c.bl++(.pm bp q pg f p false::.mp zN VNat mq k.N m0::L))))):
  Fr B (w.setCell ⟨bc,9,none⟩ v) (.cm bc bp { k with bv:=v,em:=mq::k.em } { c with bl:=m0::c.bl }::.pm bp q pg f p false::K::L):=by
 have h1:=h.set 1 rfl 9 v;have hr:(mq::k.em).reverse.map (λ m=>Value.map (some m))=(k.em.reverse.map λ m=>Value.map (some m))++[.map (some mq)]:=by simp
 refine Fr.cmShut (k:={ k with bv:=v,em:=mq::k.em }) (c:={ c with bl:=m0::c.bl }) ?_;obtain⟨A,hA⟩:∃A,A=cmK bc bp { k with bv:=v,em:=mq::k.em } { c with bl:=m0::c.bl }:=⟨_,rfl⟩
 have h2:Fr B (w.setCell ⟨bc,9,none⟩ v) (K::(A++(bH k.N k.em c.bl++(.pm bp q pg f p false::.mp zN VNat mq k.N m0::L)))):=by
  rw[hA];show Fr B _ (K::(.blk bc _ 76::.row v 40 1 (c.bl.length+1) ((mq::k.em).reverse.map λ m=>Value.map (some m))::_));rw[hr];exact h1
 rw[← hA];refine h2.perm ?_;show (K::(A++(bH k.N k.em c.bl++_))).Perm (A++((.mp zN VNat mq k.N m0::bH k.N k.em c.bl)++_));generalize bH k.N k.em c.bl=M;have e1:(M++(.pm bp q pg f p false::.mp zN VNat mq k.N m0::L)).Perm (.mp zN VNat mq k.N m0::(M++(.pm bp q pg f p false::L))):=(List.Perm.append_left M (List.Perm.swap _ _ _)).trans List.perm_middle;have e2:=(List.Perm.append_left A e1).cons K;refine e2.trans ?_;have e3:(K::(A++.mp zN VNat mq k.N m0::(M++.pm bp q pg f p false::L)))=K::((A++.mp zN VNat mq k.N m0::(M++[.pm bp q pg f p false]))++L):=by simp
 rw[e3];refine List.perm_middle.symm.trans ?_;exact List.Perm.of_eq (by simp)
theorem Fr.cmPopped {v0 : Value} {K : Rs} {d : Nat} {m' : NM} {bl0 : List NM} {em0 : List Nat} (h:Fr B w (.cm bc bp k c::.pm bp q pg f p false::K::L)) (hem:k.em=mq::em0) (hbl:c.bl=m'::bl0) (hK:KeepR v0 40 bl0.length (em0.reverse.map λ m=>Value.map (some m)) k.bv K) (hlv:k.lv=.slice a c.lo.length d) (hm:m≤c.lo.length):
  Fr B ((w.setCell ⟨bc,9,none⟩ v0).setCell ⟨bc,10,none⟩ (.slice a m d)) (.cm bc bp { k with bv:=v0,em:=em0,lv:=.slice a m d } { c with bl:=bl0,lo:=c.lo.take m }::.pm bp q pg f p false::L):=by
 have hr:k.em.reverse.map (λ m=>Value.map (some m))=(em0.reverse.map λ m=>Value.map (some m))++[.map (some mq)]:=by rw[hem];simp
 have h1:=h.cmOpen;obtain⟨A,hA⟩:∃A,A=cmK bc bp k c:=⟨_,rfl⟩
 have h2:Fr B w (K::(A++((.mp zN VNat mq k.N m'::bH k.N em0 bl0)++(.pm bp q pg f p false::L)))):=by
  have e0:bH k.N k.em c.bl=.mp zN VNat mq k.N m'::bH k.N em0 bl0:=by rw[hem,hbl];rfl
  rw[e0,← hA] at h1;refine h1.perm ?_;have e3:(A++((.mp zN VNat mq k.N m'::bH k.N em0 bl0)++(.pm bp q pg f p false::K::L)))=(A++((.mp zN VNat mq k.N m'::bH k.N em0 bl0)++[.pm bp q pg f p false]))++K::L:=by simp
  rw[e3];refine List.perm_middle.trans ?_;exact List.Perm.of_eq (by simp)
 subst hA;have h3:=h2.popRow hK 1 (by
  show some (Rs.row k.bv 40 1 c.bl.length (k.em.reverse.map λ m=>Value.map (some m)))=_;rw[hr,hbl];rfl)
 have h4:=h3.same 2 (r:=.els VaE k.lv 48 4 c.lo) rfl (r':=.els VaE (.slice a m d) 48 4 (c.lo.take m)) (λ H hH=>by rw[hlv] at hH;exact els_take hH rfl hm) (λ q hq=>by
  rw[hlv];show (Value.slice a c.lo.length d).ownBlock=some q;have e:(Value.slice a m d).ownBlock=some q:=hq;rw[← e];cases a<;>rfl)
 have h5:=(h4.set 0 rfl 9 v0).set 0 rfl 10 (.slice a m d);refine Fr.cmShut (k:={ k with bv:=v0,em:=em0,lv:=.slice a m d }) (c:={ c with bl:=bl0,lo:=c.lo.take m }) ?_;refine h5.sub ?_;show List.Sublist (_::_::_::_::_::_::_::(bH k.N em0 bl0++_)) (_::_::_::_::_::_::_::(_::(bH k.N em0 bl0++_)));iterate 7 apply List.Sublist.cons_cons
 exact List.sublist_cons_self _ _
theorem info40:(prog.info? 40).map (λ i=>(i.zero,i.size,i.bytes))=some (some (.map none),1,8):=by kernel_rfl
abbrev PMt (q:O Cm)(B:Bs)(bc bp:Nat)(k:CQ)(Q:PQ)(pg:Pg)(f m n0:Nat)(L:List Rs):Ending→World→Prop:=
 PMo q (λ c p e w'=>∃ov k',e=.returned (.tuple #[])∧PI pg f m n0 p∧CI k' c p.steps∧k'.bv=k.bv∧k'.em=k.em∧Fr B w' (.cm bc bp k' c::.pm bp (Q.at ov) pg f p false::L)) B bp Q pg f m n0 L
def StatH (f:Nat)(pg:Pg)(N:Nat):Prop:=∀{B:Bs} {w:World} {L:List Rs} {bc bp:Nat} {k:CQ} {c:Cm} {q:PQ} {m n0:Nat} {p:Pm} {n:Nd} {a_n:Option Addr} {c_n:Nat} (h:Fr B w (.cm bc bp k c::.pm bp q pg f p false::L)) (hu:UnI c.u) (hc:CI k c p.steps) (hp:PI pg f m n0 p) (i:Nat) (hi:L[i]?=some (.el NdE (ndc n.kind n.text n.num a_n n.kids.length c_n) n)) (hn:Nk n) (hs:sz n≤700) (hne:(evM f pg N).2 c n p≠.stuck),
 Calls prog 32 #[ptr bc,.agg #[.int .i64 n.kind,.string n.text,.int .i64 n.num,.slice a_n n.kids.length c_n]] w (PMt ((evM f pg N).2 c n p) B bc bp k q pg f m n0 L)
theorem statsM_step {s : EvS} (h:l[j]?=some y):eJ s c (l.drop j) p=(s c y p).bind λ c p=>eJ s c (l.drop (j+1)) p:=by
 obtain⟨hj,rfl⟩:=List.getElem?_eq_some_iff.1 h;rw[eF hj];rfl
theorem bb {β γ : Type} {a : O α} {g : α→Pm→O β} {k : β→Pm→O γ}:(a.bind g).bind k=a.bind λ x p=>(g x p).bind k:=by cases a<;>rfl
theorem blockM_any (ihs:StatH f pg N) (h:Fr B w (.cm bc bp k c::.pm bp q pg f p false::.mp zN VNat mq k.N m0::L)) (hu:UnI c.u) (hc:CI k c p.steps) (hb:c.bl.length≤p.steps) (hp:PI pg f m n0 p) (i:Nat) (hi:L[i]?=some (.el NdE (ndc n.kind n.text n.num a_n n.kids.length c_n) n)) (hn:Nk n) (hs:sz n≤700) {Q : O Cm} (hQ:Q=bY (evM f pg N).2 m0 c n p) (hne:Q≠.stuck):
  Calls prog 25 #[ptr bc,.agg #[.int .i64 n.kind,.string n.text,.int .i64 n.num,.slice a_n n.kids.length c_n],.map (some mq)] w (PMt Q B bc bp k q pg f m n0 L):=by
 replace hQ:Q=(eJ (evM f pg N).2 { c with bl:=m0::c.bl } n.kids p).bind (λ (d:Cm) (p:Pm)=>if c.lo.length≤d.lo.length then O.ok { d with bl:=c.bl,lo:=d.lo.take c.lo.length } p else .stuck):=hQ;obtain⟨la,ld,hlv,hl1,hl2⟩:=h.cmEls 0 rfl;obtain⟨ba,bd,hbv0,-⟩:=row_form (h.cmOpen.rowAt 1 rfl);have HBV:=ah hbv0;have hkn:=(aS hn hs).2;have hbl:c.bl.length≤16000:=by have:=hp.steps;have:=hp.f;omega
 have HLV:=ah hlv;have HQ:=ah hQ;have HNE:=ah hne;have HC:=ah hc;have HU:=ah hu;have HPI:=ah hp;have HB:=ah hb;have HSM:=ah (aS hn hs);have HF:=ah (h.dup (i+3) hi).fr12;clear h hp hne hi hc hu hn hQ hb hlv hbv0;go_enter func25,ntmps25;replace HF:=aM HF w.heap.size n a_n c_n;replace HF:=Fr.fr12 HF;replace HF:=HF.perm (List.Perm.cons _ (List.Perm.cons _ ((List.Perm.cons _ (List.Perm.swap _ _ _)).trans (List.Perm.swap _ _ _))));go_wp2_with fail;go_wp2;refine regK [] HF (λ w h=>(HBV.out ▸ HLV.out ▸ h.cmCell 0 rfl)) (λ wd1 HF hC=>?_) (C:=λ w'=>(∀o,w'.cell? ⟨bc,o,none⟩=(#[ptr bp,k.n0,k.n1,k.n2,k.n3,k.sg,k.nu,.map (some k.m1),.map (some k.m2),(.slice ba c.bl.length bd),(.slice la c.lo.length ld),k.wv]:Array Value)[o]?));refine tq4 0 1 2 3 ?_;refine tq4 4 5 6 7 ?_;refine tq3 8 9 10 ?_;refine dq ?_;have HFo:=ah HF.cmOpen;have c_cm:∀o,wd1.cell? ⟨bc,o,none⟩=(#[ptr bp,k.n0,k.n1,k.n2,k.n3,k.sg,k.nu,.map (some k.m1),.map (some k.m2),(.slice ba c.bl.length bd),k.lv,k.wv]:Array Value)[o]?:=HBV.out ▸ HF.cmCell 0 rfl;have f_cm:=HF.cmFrz 0 rfl;clear HF;go_wp2_with (at_builtin;refine Fr.pushRow (v:=.slice ba c.bl.length bd) (n:=c.bl.length) (xs:=k.em.reverse.map λ m=>Value.map (some m)) info40 underlying74 rfl (by decide) (HFo.alloc (q:=wd1.heap.size) (by simp) #[.map (some mq)] 40) rfl 1 (by show some (Rs.row k.bv 40 1 c.bl.length _)=_;rw[HBV.out]) hbl _ _ rfl rfl (by rfl) (by rfl) ?_;intro g3 cap3 w3 K hK hF;have c_b:=hF.cell 1 rfl;have f_b:=hF.frz 1 rfl;have hG:=Fr.cmPushed (L:=.blk w.heap.size #[.int .i64 n.kind,.string n.text,.int .i64 n.num,.slice a_n n.kids.length c_n] 52::.el NdE (ndc n.kind n.text n.num a_n n.kids.length c_n) n::L) hF;have c_t4:=hG.cell 3 rfl)
 clear c_cm f_cm HFo c_b f_b hF c_t4;have HK:=ah hK;obtain⟨bv',hbv⟩:∃bv',bv'=Value.slice (some ⟨g3,0,none⟩) (c.bl.length+1) cap3:=⟨_,rfl⟩
 rw[← hbv] at hG HK;have hci:CI { k with bv:=bv',em:=mq::k.em } { c with bl:=m0::c.bl } p.steps:=⟨by simp [HC.out.em],HC.N,HC.lo,by have:=HB.out;show c.bl.length+1≤p.steps+1;omega,HC.n,HC.un⟩
 go_loopw [9,32] (λ_ iv wr=>Hid (∃(j:Nat) (kj:CQ) (cj:Cm) (pj:Pm) (ov:Value),j≤n.kids.length∧iv=.int .i64 (j:Int)∧Q=(eJ (evM f pg N).2 cj (n.kids.drop j) pj).bind (λ (d:Cm) (p:Pm)=>if c.lo.length≤d.lo.length then O.ok { d with bl:=c.bl,lo:=d.lo.take c.lo.length } p else .stuck)∧PI pg f m n0 pj∧p.steps≤pj.steps∧CI kj cj pj.steps∧kj.bv=bv'∧kj.em=mq::k.em∧Fm { c with bl:=m0::c.bl } cj∧Fr B wr (.cm bc bp kj cj::.pm bp (q.at ov) pg f pj false::K::.blk w.heap.size #[.int .i64 n.kind,.string n.text,.int .i64 n.num,.slice a_n n.kids.length c_n] 52::.el NdE (ndc n.kind n.text n.num a_n n.kids.length c_n) n::L))) (λ_ iv _=>n.kids.length - (intOf iv).toNat)
 case atStart=>exact ah ⟨0,_,_,p,q.outv,Nat.zero_le _,rfl,HQ,HPI,Nat.le_refl _,hci,rfl,rfl,.rfl',by rw[← hbv];exact hG⟩
 clear hG hK hci hbv HQ;obtain⟨j,kj,cj,pj,ov,hj,rfl,hQ,hpi,hst,hcj,hkb,hke,hfm,hf⟩:=hrel.out;clear hrel;have HQ:=ah hQ;have HPI:=ah hpi;have HST:=ah hst;have HCJ:=ah hcj;have HKB:=ah hkb;have HKE:=ah hke;have HFM:=ah hfm;have HUJ:Hid (UnI cj.u):=by
  show UnI cj.u;rw[HFM.out.u];exact HU
 have HF:=hf;clear hf hQ hpi hst hcj hkb hke hfm;by_cases hlt:j<n.kids.length
 ·obtain⟨y,hy⟩:∃y,n.kids[j]?=some y:=⟨_,List.getElem?_eq_getElem hlt⟩
  have hym:=List.mem_of_getElem? hy;have hQ2:=HQ.out;rw[statsM_step hy,bb] at hQ2;obtain⟨g_y,o_y,a_y,c_y,cur_y,f_y,ha_y,hc1,hc2,hk_y,hf⟩:=HF.kidK 4 rfl j hy;have HK_y:=ah hk_y;have HQ2:=ah hQ2;have HYN:=ah (HSM.1 y hym);have HLT:=ah hlt;have hlb:(j:Int)<(n.kids.length:Int):=by omega
  replace HF:=hf;clear hf hk_y hc1 hc2 hQ2 hy hym hlt HQ;subst ha_y;obtain⟨e0,e1,e2,e3⟩:=aC (HF.knc 1 rfl) HK_y;replace HF:=aM HF wr.heap.size y a_y c_y;replace HF:=Fr.fr32 HF;have c_t9:=HF.cell 2 rfl;go_wp2_with fail;clear c_t9 e0 e1 e2 e3;go_at_call 32;refine (ihs HF HUJ HCJ HPI.here 1 rfl HYN.1 HYN.2 (b_no HQ2 HNE)).mono ?_;intro e w5 hpost;revert hpost
  cases hE:(evM f pg N).2 cj y pj with
  | stuck=>intro hpost;exact False.elim hpost
  | ret v0 p0=>
   rintro⟨ov,a0,c0,pa0,pc0,rfl,hr0,hi0,hf0⟩;exact⟨rfl,PMo.ret' (dE HQ2 hE) hr0 (hi0.up HPI) hf0.lose⟩
  | fin e0 p0=>
   rintro⟨ov,rfl,hi0,hf0⟩;exact⟨rfl,PMo.fin' (dF HQ2 hE) (hi0.up HPI) hf0.lose⟩
  | ok d p5=>
  rintro⟨ov1,kd,rfl,hi,hcd,hb1,hb2,hf⟩;have hfm2:Fm cj d:=by
   have:=ev_fm f pg N cj y pj;rw[hE] at this;exact this
  have HQ3:=ah (b_ok HQ2 hE);have HPI2:=ah (hi.up HPI);have HST2:=ah (Nat.le_trans HST hi.from_);have HFM2:=ah (HFM.trans hfm2);have HCD:=ah hcd;have HB1:=ah (hb1.trans HKB);have HB2:=ah (hb2.trans HKE);replace HF:=hf;clear hf hi hE HQ2 hcd hb1 hb2 hfm2;go_wp2;go_roundw
  case rel=>exact ah ⟨j+1,kd,d,p5,ov1,HLT,rfl,HQ3,HPI2,HST2,HCD,HB1,HB2,HFM2,HF.lose⟩
  case measure=>simp only[intOf];omega
 have hjn:j=n.kids.length:=by omega
 have hQ2:=HQ.out;rw[hjn,List.drop_length] at hQ2;replace hQ2:Q=if c.lo.length≤cj.lo.length then O.ok { cj with bl:=c.bl,lo:=cj.lo.take c.lo.length } pj else .stuck:=hQ2
 have hlo:c.lo.length≤cj.lo.length:=by
  by_cases e:c.lo.length≤cj.lo.length
  ·exact e
  rw[if_neg e] at hQ2;exact absurd hQ2 HNE
 rw[if_pos hlo] at hQ2;have HQ2:=ah hQ2;obtain⟨m',hbj⟩:∃m',cj.bl=m'::c.bl:=by
  have h1:=HFM.tl;have h2:=HFM.len;cases e:cj.bl with
  | nil=>rw[e] at h2;simp at h2
  | cons a b=>rw[e] at h1;exact⟨a,by rw[show b=c.bl from h1]⟩
 obtain⟨lb,le,hlv2,hm1,hm2⟩:=HF.cmEls 0 rfl;have HLV2:=ah hlv2;have HBJ:=ah hbj;have HLO:=ah hlo;have hcl:c.lo.length≤le:=by omega
 have hcli:(c.lo.length:Int)≤(le:Int):=by omega
 have hli:¬ (n.kids.length:Int)<(n.kids.length:Int):=by omega
 subst hjn;clear hQ2 hbj hlv2 hlo hm1 HQ;have c_t4:=HF.cell 3 rfl;go_wp2_with fail;clear c_t4;go_wp2;refine regK [14] HF (λ w h=>((h.cmCell 0 rfl 10).trans (congrArg some HLV2))) (λ wd5 HF hC=>?_) (C:=λ w'=>(w'.cell? ⟨bc,10,none⟩=some (.slice lb cj.lo.length le)));refine tq4 0 1 2 3 ?_;refine tq4 4 5 6 7 ?_;refine tq3 8 9 10 ?_;refine rq 11 λ K hK=>?_;have c_cm:=HF.cmCell 0 rfl;have f_cm:=HF.cmFrz 0 rfl;have HM2:=ah (HF.cmOpen.set 0 rfl 9 (.slice ba c.bl.length bd));go_simp;clear c_cm f_cm;refine uq hK ((HM2.cell 0 rfl 10).trans (congrArg some HLV2)) λ hC=>?_;refine rq 12 λ K hK=>?_;go_simp;refine uq hK ((HM2.cell 0 rfl 10).trans (congrArg some HLV2)) λ hC=>?_;refine rq 13 λ K hK=>?_;go_simp;refine uq hK ((HM2.cell 0 rfl 10).trans (congrArg some HLV2)) λ hC=>?_;refine rqb 14 λ K hK=>?_;obtain⟨c_cm,f_cm⟩:=cf HM2 0;have hF:=HF.cmPopped (v0:=.slice ba c.bl.length bd) (em0:=k.em) (bl0:=c.bl) HKE HBJ (by rw[HKB.out];exact HK) HLV2 HLO;go_simp;clear c_cm f_cm HM2;replace HF:=hF;clear hF;refine ub hK ?_;refine dq ?_;go_wp2;go_end0
 exact PMo.ok' HQ2 ⟨ov,{ kj with bv:=.slice ba c.bl.length bd,em:=k.em,lv:=.slice lb c.lo.length le },rfl,HPI,⟨HC.em,HCJ.N,by show (cj.lo.take c.lo.length).length≤_;rw[List.length_take];have:=HCJ.lo;omega,by show c.bl.length≤_;have:=HB.out;have:=HST.out;omega,HCJ.n,HCJ.un⟩,HBV.symm,rfl,HF.lose⟩
end Go.Proofs.YtdnhbedbpbgeeaaGreatDoor.K
