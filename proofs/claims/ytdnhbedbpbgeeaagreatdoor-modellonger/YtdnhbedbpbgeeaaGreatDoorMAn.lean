/- 13 -/
import Derived.Test.YtdnhbedbpbgeeaaGreatDoorMAm
import Derived.Defers
import Derived.Recover
set_option maxRecDepth 100000
set_option maxHeartbeats 2000000
set_option linter.all false
namespace Go.Proofs.YtdnhbedbpbgeeaaGreatDoor.K
open Go.RowKit Go.Proofs.Tryz
variable {a_n : Option Addr} {pg : Pg} {c : Cm} {p p' : Pm} {k : CQ} {bp bc c_n N f n0 m mq : Nat} {q : PQ} {n : Nd} {em0 : List Nat} {ov : Bool} {v : Va} {β α : Type} {a b : O α} {g : α→Pm→O β}
variable {B : Bs} {w w' : World} {L : List Rs}
theorem PI.up2 {m' : Nat} (h:PI pg f m' p.steps p') (k:PI pg f m n0 p):PI pg f m' n0 p':=h.at (Nat.le_trans k.from_ h.from_)
theorem cZ {p1 : Pm} {u : Unit} (h:dH f p=.ok u p1):p1.steps=p.steps+1:=by
 unfold dH at h;split at h
 ·cases h
 cases h;rfl
theorem PMt.ok' {ov : Value} {Q : O Cm} (hq:Q=.ok c p) (hi:PI pg f m n0 p) (hc:CI k c p.steps) (h:Fr B w' (.cm bc bp k c::.pm bp (q.at ov) pg f p false::L)):PMt Q B bc bp k q pg f m n0 L (.returned (.tuple #[])) w':=PMo.ok' hq ⟨ov,k,rfl,hi,hc,rfl,rfl,h⟩
section
variable (ih:ExprH f pg N) (ihs:StatH f pg N) (h:Fr B w (.cm bc bp k c::.pm bp q pg f p false::L)) (hu:UnI c.u) (hc:CI k c p.steps) (hp:PI pg f m n0 p) (i:Nat) (hi:L[i]?=some (.el NdE (ndc n.kind n.text n.num a_n n.kids.length c_n) n)) (hn:Nk n) (hs:sz n≤700) {Q : O Cm} (hQ:Q=cB f (N+1) (evM f pg N).1 (evM f pg N).2 c n p) (hne:Q≠.stuck)
include ih ihs h hu hc hp hi hn hs hQ hne
theorem mstat_else (hk:¬ (n.kind=14∨n.kind=15∨n.kind=16∨n.kind=17∨n.kind=19∨n.kind=20∨n.kind=18)):Calls prog 32 #[ptr bc,.agg #[.int .i64 n.kind,.string n.text,.int .i64 n.num,.slice a_n n.kids.length c_n]] w (PMt Q B bc bp k q pg f m n0 L):=by
 unfold cB at hQ;have HQ:=ah hQ;have HNE:=ah hne;have HPI:=ah hp;have HC:=ah hc;have HU:=ah hu;have HSM:=ah (aS hn hs);have HTX:=ah hn.text;have hkn:=(aS hn hs).2;have HK:=ah hk;have HF:=ah (h.dup (i+2) hi).fr12;have q14:(n.kind == 14)=false:=by simp;omega
 have q15:(n.kind == 15)=false:=by simp;omega
 have q16:(n.kind == 16)=false:=by simp;omega
 have q17:(n.kind == 17)=false:=by simp;omega
 have q19:(n.kind == 19)=false:=by simp;omega
 have q20:(n.kind == 20)=false:=by simp;omega
 have q18:(n.kind == 18)=false:=by simp;omega
 clear h hp hne hi hc hu hn hQ hk;go_enter func32,ntmps32;replace HF:=aM HF w.heap.size n a_n c_n;replace HF:=Fr.fr12 HF;have c_cm:=HF.cmCell 0 rfl;have f_cm:=HF.cmFrz 0 rfl;clear f_cm;go_wp2_with fail;clear c_cm;replace HF:=ah HF.swap;go_at_call 41;refine (eV HF HPI.here).mono ?_;intro e w1 hpost;revert hpost
 cases hE:dH f p with
 | stuck=>intro hpost;exact False.elim hpost
 | ret v0 p0=>
  rintro⟨ov,a0,c0,pa0,pc0,rfl,hr0,hi0,hf0⟩;exact⟨rfl,PMo.ret' (dE HQ hE) hr0 (hi0.up2 HPI) hf0.lose⟩
 | fin e0 p0=>
  rintro⟨ov,rfl,hi0,hf0⟩;exact⟨rfl,PMo.fin' (dF HQ hE) (hi0.up2 HPI) hf0.lose⟩
 | ok u0 p1=>
 rintro⟨rfl,hi1,hf1⟩;have hQ2:=b_ok HQ hE;have HS1:Hid (p1.steps=p.steps+1):=cZ hE;have HPM:=ah (hi1.up2 HPI);replace HPI:=ah (hi1.less.up2 HPI);have HCB:Hid (c.bl.length≤p1.steps):=by
  have:=HC.bl;have:=HS1.out;show _≤_;omega
 replace HC:=ah (HC.on hi1);replace HF:=ah hf1.swap;clear hi1 hf1 hE HQ;rw[if_neg (by have:=HK.out;omega),if_neg (by have:=HK.out;omega),if_neg (by have:=HK.out;omega)] at hQ2;have HQ2:=ah hQ2;clear hQ2;have c_t3:=HF.cell 2 rfl;go_wp2;clear c_t3;go_end0
 exact PMt.ok' (ov:=q.outv) HQ2 HPI HC HF.lose
theorem mstat_20 (hk:n.kind=20):Calls prog 32 #[ptr bc,.agg #[.int .i64 n.kind,.string n.text,.int .i64 n.num,.slice a_n n.kids.length c_n]] w (PMt Q B bc bp k q pg f m n0 L):=by
 unfold cB at hQ;have e14:=hk;have HQ:=ah hQ;have HNE:=ah hne;have HPI:=ah hp;have HC:=ah hc;have HU:=ah hu;have HSM:=ah (aS hn hs);have HTX:=ah hn.text;have hkn:=(aS hn hs).2;have HK:=ah hk;have HF:=ah (h.dup (i+2) hi).fr12;have q14:(n.kind == 14)=false:=by rw[hk];decide
 have q15:(n.kind == 15)=false:=by rw[hk];decide
 have q16:(n.kind == 16)=false:=by rw[hk];decide
 have q17:(n.kind == 17)=false:=by rw[hk];decide
 have q19:(n.kind == 19)=false:=by rw[hk];decide
 have q20:(n.kind == 20)=true:=by rw[hk];decide
 clear e14;clear h hp hne hi hc hu hn hQ hk;go_enter func32,ntmps32;replace HF:=aM HF w.heap.size n a_n c_n;replace HF:=Fr.fr12 HF;have c_cm:=HF.cmCell 0 rfl;have f_cm:=HF.cmFrz 0 rfl;clear f_cm;go_wp2_with fail;clear c_cm;replace HF:=ah HF.swap;go_at_call 41;refine (eV HF HPI.here).mono ?_;intro e w1 hpost;revert hpost
 cases hE:dH f p with
 | stuck=>intro hpost;exact False.elim hpost
 | ret v0 p0=>
  rintro⟨ov,a0,c0,pa0,pc0,rfl,hr0,hi0,hf0⟩;exact⟨rfl,PMo.ret' (dE HQ hE) hr0 (hi0.up2 HPI) hf0.lose⟩
 | fin e0 p0=>
  rintro⟨ov,rfl,hi0,hf0⟩;exact⟨rfl,PMo.fin' (dF HQ hE) (hi0.up2 HPI) hf0.lose⟩
 | ok u0 p1=>
 rintro⟨rfl,hi1,hf1⟩;have hQ2:=b_ok HQ hE;have HS1:Hid (p1.steps=p.steps+1):=cZ hE;have HPM:=ah (hi1.up2 HPI);replace HPI:=ah (hi1.less.up2 HPI);have HCB:Hid (c.bl.length≤p1.steps):=by
  have:=HC.bl;have:=HS1.out;show _≤_;omega
 replace HC:=ah (HC.on hi1);replace HF:=ah hf1.swap;clear hi1 hf1 hE HQ;obtain⟨x,l,hkl⟩:∃x l,n.kids=x::l:=by
  have e0:=HK.out;simp only[e0,Int.reduceEq,reduceIte,or_true,true_or,or_false,false_or,ite_true,ite_false] at hQ2;cases e1:n.kids with
  | nil=>rw[e1] at hQ2;exact absurd hQ2 HNE
  | cons x l=>exact⟨x,l,rfl⟩
 have e0:=HK.out;simp only[e0,hkl,Int.reduceEq,reduceIte,or_true,true_or,or_false,false_or,ite_true,ite_false] at hQ2;have HQ2:=ah hQ2;clear hQ2 e0;have hxk:n.kids[0]?=some x:=by rw[hkl];rfl
 have HXN:=ah (HSM.1 x (by rw[hkl];simp));have HKL:=ah hkl;clear hkl;obtain⟨g_x,o_x,a_x,c_x,cur_x,f_x,ha_x,hc1,hc2,hk_x,hf⟩:=HF.kidK 3 rfl 0 hxk;have HK_x:=ah hk_x;have hb_x:0<n.kids.length:=(List.getElem?_eq_some_iff.1 hxk).1;have hbi_x:((0:Nat):Int)<(n.kids.length:Int):=by omega
 replace HF:=hf;clear hf hk_x hc1;have hbj_x:(0:Int)<(n.kids.length:Int):=by omega
 clear hxk hc2;subst ha_x;simp only[Nat.zero_mul,Nat.add_zero] at HK_x;replace HF:=Fr.fr22 HF;have c_t3:=HF.cell 4 rfl;obtain⟨e0_x,e1_x,e2_x,e3_x⟩:=aC (o:=o_x) (HF.knc 3 rfl) HK_x;go_wp2_with fail;clear c_t3 e0_x e1_x e2_x e3_x;go_at_call 42;refine (ih HF HU HC HPI.here 0 rfl HXN.1 HXN.2 (b_no HQ2 HNE)).mono ?_;intro e w2 hpost;revert hpost
 cases hE:(evM f pg N).1 c x p1 with
 | stuck=>intro hpost;exact False.elim hpost
 | ret v0 p0=>
  rintro⟨ov,a0,c0,pa0,pc0,rfl,hr0,hi0,hf0⟩;exact⟨rfl,PMo.ret' (dE HQ2 hE) hr0 (hi0.up2 HPI) hf0.lose⟩
 | fin e0 p0=>
  rintro⟨ov,rfl,hi0,hf0⟩;exact⟨rfl,PMo.fin' (dF HQ2 hE) (hi0.up2 HPI) hf0.lose⟩
 | ok v p2=>
 rintro⟨ov1,a_v,c_v,pa_v,pc_v,rfl,hr,hi,hf⟩;have HQ3:=ah (b_ok HQ2 hE);replace HC:=ah (HC.on hi);replace HPI:=ah (hi.up2 HPI);replace HF:=hf;clear hi hf hE HQ2;go_wp2;go_end0
 exact PMt.ok' HQ3 HPI HC HF.lose
theorem mstat_15 (hk:n.kind=15):Calls prog 32 #[ptr bc,.agg #[.int .i64 n.kind,.string n.text,.int .i64 n.num,.slice a_n n.kids.length c_n]] w (PMt Q B bc bp k q pg f m n0 L):=by
 unfold cB at hQ;have e14:=hk;have HQ:=ah hQ;have HNE:=ah hne;have HPI:=ah hp;have HC:=ah hc;have HU:=ah hu;have HSM:=ah (aS hn hs);have HTX:=ah hn.text;have hkn:=(aS hn hs).2;have HK:=ah hk;have HF:=ah (h.dup (i+2) hi).fr12;have q14:(n.kind == 14)=false:=by rw[hk];decide
 have q15:(n.kind == 15)=true:=by rw[hk];decide
 clear e14;clear h hp hne hi hc hu hn hQ hk;go_enter func32,ntmps32;replace HF:=aM HF w.heap.size n a_n c_n;replace HF:=Fr.fr12 HF;have c_cm:=HF.cmCell 0 rfl;have f_cm:=HF.cmFrz 0 rfl;clear f_cm;go_wp2_with fail;clear c_cm;replace HF:=ah HF.swap;go_at_call 41;refine (eV HF HPI.here).mono ?_;intro e w1 hpost;revert hpost
 cases hE:dH f p with
 | stuck=>intro hpost;exact False.elim hpost
 | ret v0 p0=>
  rintro⟨ov,a0,c0,pa0,pc0,rfl,hr0,hi0,hf0⟩;exact⟨rfl,PMo.ret' (dE HQ hE) hr0 (hi0.up2 HPI) hf0.lose⟩
 | fin e0 p0=>
  rintro⟨ov,rfl,hi0,hf0⟩;exact⟨rfl,PMo.fin' (dF HQ hE) (hi0.up2 HPI) hf0.lose⟩
 | ok u0 p1=>
 rintro⟨rfl,hi1,hf1⟩;have hQ2:=b_ok HQ hE;have HS1:Hid (p1.steps=p.steps+1):=cZ hE;have HPM:=ah (hi1.up2 HPI);replace HPI:=ah (hi1.less.up2 HPI);have HCB:Hid (c.bl.length≤p1.steps):=by
  have:=HC.bl;have:=HS1.out;show _≤_;omega
 replace HC:=ah (HC.on hi1);replace HF:=ah hf1.swap;clear hi1 hf1 hE HQ;obtain⟨x,y,l,hkl⟩:∃x y l,n.kids=x::y::l:=by
  have e0:=HK.out;simp only[e0,Int.reduceEq,reduceIte,or_true,true_or,or_false,false_or,ite_true,ite_false] at hQ2;cases e1:n.kids with
  | nil=>rw[e1] at hQ2;exact absurd hQ2 HNE
  | cons x l=>
   cases l with
   | nil=>rw[e1] at hQ2;exact absurd hQ2 HNE
   | cons y l=>exact⟨x,y,l,rfl⟩
 have e0:=HK.out;simp only[e0,hkl,Int.reduceEq,reduceIte,or_true,true_or,or_false,false_or,ite_true,ite_false] at hQ2;have HQ2:=ah hQ2;clear hQ2 e0;have hxk:n.kids[0]?=some x:=by rw[hkl];rfl
 have HXN:=ah (HSM.1 x (by rw[hkl];simp));have hyk:n.kids[1]?=some y:=by rw[hkl];rfl
 have HYN:=ah (HSM.1 y (by rw[hkl];simp));have HKL:=ah hkl;clear hkl;obtain⟨g_x,o_x,a_x,c_x,cur_x,f_x,ha_x,hc1,hc2,hk_x,hf⟩:=HF.kidK 3 rfl 0 hxk;have HK_x:=ah hk_x;have hb_x:0<n.kids.length:=(List.getElem?_eq_some_iff.1 hxk).1;have hbi_x:((0:Nat):Int)<(n.kids.length:Int):=by omega
 replace HF:=hf;clear hf hk_x hc1;have hbj_x:(0:Int)<(n.kids.length:Int):=by omega
 clear hxk hc2;subst ha_x;simp only[Nat.zero_mul,Nat.add_zero] at HK_x;obtain⟨g_y,o_y,a_y,c_y,cur_y,f_y,ha_y,hc1,hc2,hk_y,hf⟩:=HF.kidK 5 rfl 1 hyk;have HK_y:=ah hk_y;have hb_y:1<n.kids.length:=(List.getElem?_eq_some_iff.1 hyk).1;have hbi_y:((1:Nat):Int)<(n.kids.length:Int):=by omega
 replace HF:=hf;clear hf hk_y hc1;have hbj_y:(1:Int)<(n.kids.length:Int):=by omega
 clear hyk hc2;cases ha_y;simp only[Nat.one_mul] at HK_y;replace HF:=Fr.fr42 HF;have c_t3:=HF.cell 6 rfl;go_wp2_with fail;clear c_t3;go_wp2;refine regK [] HF (λ w h=>aI (h.cell 6 rfl) (aI (aC (o:=o_x) (h.knc 5 rfl) HK_x) (aC (o:=o_x+4) (h.knc 3 rfl) HK_y))) (λ wd2 HF hC=>?_);refine tq4 0 1 2 3 ?_;refine tq4 4 5 6 7 ?_;refine tq2 8 9 ?_;refine rq 10 λ K hK=>?_;go_simp;refine (ih HF HU HC HPI.here 0 rfl HYN.1 HYN.2 (b_no HQ2 HNE)).mono ?_;intro e w3 hpost;revert hpost
 cases hE:(evM f pg N).1 c y p1 with
 | stuck=>intro hpost;exact False.elim hpost
 | ret v0 p0=>
  rintro⟨ov,a0,c0,pa0,pc0,rfl,hr0,hi0,hf0⟩;exact⟨rfl,PMo.ret' (dE HQ2 hE) hr0 (hi0.up2 HPI) hf0.lose⟩
 | fin e0 p0=>
  rintro⟨ov,rfl,hi0,hf0⟩;exact⟨rfl,PMo.fin' (dF HQ2 hE) (hi0.up2 HPI) hf0.lose⟩
 | ok v p3=>
 rintro⟨ov1,a_v,c_v,pa_v,pc_v,rfl,hr,hi,hf⟩;have HQ3:=ah (b_ok HQ2 hE);replace HC:=ah (HC.on hi);replace HPI:=ah (hi.up2 HPI);have HR:=ah hr;replace HF:=hf;clear hi hf hE HQ2 hr;refine uq hK ⟨(HF.cell 7 rfl),(aC (o:=o_x) (HF.knc 6 rfl) HK_x),(aC (o:=o_x+4) (HF.knc 4 rfl) HK_y)⟩ λ hC=>?_;refine rq 11 λ K hK=>?_;go_simp;refine (set_any HF HC HPI.here 3 0 rfl HXN.1 HXN.2 rfl HR (by rw[← HQ3.out];exact HNE)).mono ?_;rintro e w9 ⟨c',p',hE,hc',hi',rfl,hf'⟩;have HQ4:=ah (HQ3.trans hE);replace HPI:=ah (hi'.up2 HPI);have HC':=ah (hc'.on hi');replace HF:=ah hf';clear hf' hi' hc' hE HQ3;refine uq hK ⟨(HF.cell 7 rfl),(aC (o:=o_x) (HF.knc 6 rfl) HK_x),(aC (o:=o_x+4) (HF.knc 4 rfl) HK_y)⟩ λ hC=>?_;refine dq ?_;go_wp2;go_end0
 exact PMt.ok' HQ4 HPI HC' HF.lose
theorem mstat_18 (hk:n.kind=18):Calls prog 32 #[ptr bc,.agg #[.int .i64 n.kind,.string n.text,.int .i64 n.num,.slice a_n n.kids.length c_n]] w (PMt Q B bc bp k q pg f m n0 L):=by
 unfold cB at hQ;have e14:=hk;have HQ:=ah hQ;have HNE:=ah hne;have HPI:=ah hp;have HC:=ah hc;have HU:=ah hu;have HSM:=ah (aS hn hs);have HTX:=ah hn.text;have hkn:=(aS hn hs).2;have HK:=ah hk;have HF:=ah (h.dup (i+2) hi).fr12;have q14:(n.kind == 14)=false:=by rw[hk];decide
 have q15:(n.kind == 15)=false:=by rw[hk];decide
 have q16:(n.kind == 16)=false:=by rw[hk];decide
 have q17:(n.kind == 17)=false:=by rw[hk];decide
 have q19:(n.kind == 19)=false:=by rw[hk];decide
 have q20:(n.kind == 20)=false:=by rw[hk];decide
 have q18:(n.kind == 18)=true:=by rw[hk];decide
 clear e14;clear h hp hne hi hc hu hn hQ hk;go_enter func32,ntmps32;replace HF:=aM HF w.heap.size n a_n c_n;replace HF:=Fr.fr12 HF;have c_cm:=HF.cmCell 0 rfl;have f_cm:=HF.cmFrz 0 rfl;clear f_cm;go_wp2_with fail;clear c_cm;replace HF:=ah HF.swap;go_at_call 41;refine (eV HF HPI.here).mono ?_;intro e w1 hpost;revert hpost
 cases hE:dH f p with
 | stuck=>intro hpost;exact False.elim hpost
 | ret v0 p0=>
  rintro⟨ov,a0,c0,pa0,pc0,rfl,hr0,hi0,hf0⟩;exact⟨rfl,PMo.ret' (dE HQ hE) hr0 (hi0.up2 HPI) hf0.lose⟩
 | fin e0 p0=>
  rintro⟨ov,rfl,hi0,hf0⟩;exact⟨rfl,PMo.fin' (dF HQ hE) (hi0.up2 HPI) hf0.lose⟩
 | ok u0 p1=>
 rintro⟨rfl,hi1,hf1⟩;have hQ2:=b_ok HQ hE;have HS1:Hid (p1.steps=p.steps+1):=cZ hE;have HPM:=ah (hi1.up2 HPI);replace HPI:=ah (hi1.less.up2 HPI);have HCB:Hid (c.bl.length≤p1.steps):=by
  have:=HC.bl;have:=HS1.out;show _≤_;omega
 replace HC:=ah (HC.on hi1);replace HF:=ah hf1.swap;clear hi1 hf1 hE HQ;obtain⟨x,l,hkl⟩:∃x l,n.kids=x::l:=by
  have e0:=HK.out;simp only[e0,Int.reduceEq,reduceIte,or_true,true_or,or_false,false_or,ite_true,ite_false] at hQ2;cases e1:n.kids with
  | nil=>rw[e1] at hQ2;exact absurd hQ2 HNE
  | cons x l=>exact⟨x,l,rfl⟩
 have e0:=HK.out;simp only[e0,hkl,Int.reduceEq,reduceIte,or_true,true_or,or_false,false_or,ite_true,ite_false] at hQ2;have HQ2:=ah hQ2;clear hQ2 e0;have hxk:n.kids[0]?=some x:=by rw[hkl];rfl
 have HXN:=ah (HSM.1 x (by rw[hkl];simp));have HKL:=ah hkl;clear hkl;obtain⟨g_x,o_x,a_x,c_x,cur_x,f_x,ha_x,hc1,hc2,hk_x,hf⟩:=HF.kidK 3 rfl 0 hxk;have HK_x:=ah hk_x;have hb_x:0<n.kids.length:=(List.getElem?_eq_some_iff.1 hxk).1;have hbi_x:((0:Nat):Int)<(n.kids.length:Int):=by omega
 replace HF:=hf;clear hf hk_x hc1;have hbj_x:(0:Int)<(n.kids.length:Int):=by omega
 clear hxk hc2;subst ha_x;simp only[Nat.zero_mul,Nat.add_zero] at HK_x;replace HF:=Fr.fr22 HF;have c_t3:=HF.cell 4 rfl;obtain⟨e0_x,e1_x,e2_x,e3_x⟩:=aC (o:=o_x) (HF.knc 3 rfl) HK_x;go_wp2_with fail;clear c_t3 e0_x e1_x e2_x e3_x;go_at_call 42;refine (ih HF HU HC HPI.here 0 rfl HXN.1 HXN.2 (b_no HQ2 HNE)).mono ?_;intro e w2 hpost;revert hpost
 cases hE:(evM f pg N).1 c x p1 with
 | stuck=>intro hpost;exact False.elim hpost
 | ret v0 p0=>
  rintro⟨ov,a0,c0,pa0,pc0,rfl,hr0,hi0,hf0⟩;exact⟨rfl,PMo.ret' (dE HQ2 hE) hr0 (hi0.up2 HPI) hf0.lose⟩
 | fin e0 p0=>
  rintro⟨ov,rfl,hi0,hf0⟩;exact⟨rfl,PMo.fin' (dF HQ2 hE) (hi0.up2 HPI) hf0.lose⟩
 | ok v p2=>
 rintro⟨ov1,a_v,c_v,pa_v,pc_v,rfl,hr,hi,hf⟩;have HQ3:=ah (b_ok HQ2 hE);replace HPI:=ah (hi.up2 HPI);have HR:=ah hr;replace HF:=hf;clear hi hf hE HQ2 hr;go_wp2;exact⟨rfl,PMo.ret' HQ3 HR HPI HF.lose⟩
end
structure Ext (p q:Pm):Prop where
 steps:p.steps≤q.steps
 out:p.out <+: q.out
theorem Ext.rfl' :Ext p p:=⟨Nat.le_refl _,List.prefix_refl _⟩
theorem Ext.trans {q r : Pm} (h:Ext p q) (k:Ext q r):Ext p r:=⟨Nat.le_trans h.1 k.1,h.2.trans k.2⟩
def Inn {α:Type}(f:Nat)(p:Pm):O α→Prop
 | .ok _ r=>Ext p r∧r.steps≤f
 | .ret _ r=>Ext p r∧r.steps≤f
 | .fin e r=>Ext p r∧r.steps≤f∧(e=0→r.steps=f)
 | .stuck=>True
section
variable {few more : Nat} {r : Pm} {e e' : EvE} {s s' : EvS}
theorem Inn.from (h:Inn f r a) (k:Ext p r):Inn f p a:=by
 cases a with
 | ok x q=>exact⟨k.trans h.1,h.2⟩
 | ret x q=>exact⟨k.trans h.1,h.2⟩
 | fin x q=>exact⟨k.trans h.1,h.2⟩
 | stuck=>trivial
theorem Inn.bind (h:Inn f p a) (k:∀x r,r.steps≤f→Inn f r (g x r)):Inn f p (a.bind g):=by
 cases a with
 | ok x q=>exact (k x q h.2).from h.1
 | ret x q=>exact h
 | fin x q=>exact h
 | stuck=>trivial
theorem Inn.ok {x : α} (h:p.steps≤f):Inn f p (.ok x p):=⟨.rfl',h⟩
theorem Inn.of {q : Option α} (h:p.steps≤f):Inn f p (O.of q p):=by
 cases q with
 | none=>trivial
 | some x=>exact .ok h
theorem Inn.ite {c : Prop} [Decidable c] (ha:c→Inn f p a) (hb:¬ c→Inn f p b):Inn f p (if c then a else b):=by
 by_cases h:c
 ·rw[if_pos h];exact ha h
 rw[if_neg h];exact hb h
theorem step_in (h:p.steps≤f):Inn f p (dH f p):=by
 unfold dH;exact .ite (λ e=>⟨.rfl',h,λ_=>e⟩) λ e=>⟨⟨Nat.le_succ _,List.prefix_refl _⟩,by show p.steps+1≤f;omega⟩
def IE (f:Nat)(e:EvE):Prop:=∀c n p,p.steps≤f→Inn f p (e c n p)
def IS (f:Nat)(s:EvS):Prop:=∀c n p,p.steps≤f→Inn f p (s c n p)
theorem fP (he:IE f e)(c:Cm):∀(l:List Nd) (acc:List Va) (p:Pm),p.steps≤f→Inn f p (allL (e c) acc l p)
 | [],acc,p,h=>.ok h
 | x::l,acc,p,h=>(he c x p h).bind λ v r hr=>fP he c l _ r hr
theorem callee_in (he:IE f e) (c:Cm) (n:Nd) (p:Pm) (h:p.steps≤f):Inn f p (fF (e c) c n p):=.ite (λ_=>.of h) λ_=>(he c n p h).bind λ v r hr=>.ok hr
theorem stats_in (hs:IS f s):∀(l:List Nd) (c:Cm) (p:Pm),p.steps≤f→Inn f p (eJ s c l p)
 | [],c,p,h=>.ok h
 | x::l,c,p,h=>(hs c x p h).bind λ d r hr=>stats_in hs l d r hr
theorem dR (hs:IS f s) (m:NM) (c:Cm) (n:Nd) (p:Pm) (h:p.steps≤f):Inn f p (bY s m c n p):=(stats_in hs _ _ p h).bind λ d r hr=>.ite (λ_=>.ok hr) λ_=>trivial
theorem result_in (hs:IS f s) (pg:Pg) (i:Int) (vs:List Va) (p:Pm) (h:p.steps≤f):Inn f p (bM pg s i vs p):=by
 unfold bM;refine .ite (λ_=>trivial) λ_=>?_;split
 ·trivial
 refine .ite (λ_=>trivial) λ_=>?_;split
 ·trivial
 rename_i t _ _ _ u _
 have hb:=dR hs (bW noN 0 (t.node.kids.take (t.node.kids.length - 2))) ⟨u,[],vs.take (t.node.kids.length - 2),(vs.drop (t.node.kids.length - 2)).flatMap aQ⟩ (cY t.node.kids 1) p h;split
 ·rename_i e1;rw[e1] at hb;exact hb
 ·rename_i e1;rw[e1] at hb;exact hb
 trivial
theorem value_in (c:Cm) (n:Nd) (vs:List Va) (p:Pm) (h:p.steps≤f):Inn f p (aG c n vs p):=by
 unfold aG;refine .ite (λ_=>.of h) λ_=>.ite (λ_=>.of h) λ_=>.ite (λ_=>.of h) λ_=>.ite (λ_=>.ok h) λ_=>.ite (λ_=>?_) λ_=>.ok h;cases vs with
 | nil=>trivial
 | cons v l=>
  refine .ite (λ_=>.of h) λ_=>.ite (λ_=>.ok h) λ_=>.ite (λ_=>.ok h) λ_=>.ite (λ_=>.ok h) λ_=>.ite (λ_=>.ok h) λ_=>.ite (λ_=>.ok h) λ_=>?_;cases l with
  | nil=>trivial
  | cons w l=>exact .ite (λ_=>.ok h) λ_=>⟨.rfl',h,λ e=>by cases e⟩
theorem setVar_in (c:Cm) (x:ByteArray) (v:Va) (p:Pm) (h:p.steps≤f):Inn f p (dA c x v p):=by
 unfold dA;split
 ·exact .ite (λ_=>.ok h) λ_=>trivial
 split
 ·exact .ite (λ_=>⟨⟨Nat.le_refl _,List.prefix_refl _⟩,h⟩) λ_=>trivial
 trivial
theorem set_in (c:Cm) (n:Nd) (v:Va) (p:Pm) (h:p.steps≤f):Inn f p (setM c n v p):=by
 unfold setM;split
 ·trivial
 split
 ·trivial
 split
 ·trivial
 exact setVar_in c _ _ p h
theorem while_in (he:IE f e)(hs:IS f s)(n b:Nd):∀(k:Nat) (c:Cm) (p:Pm),p.steps≤f→Inn f p (fV e s n b k c p)
 | 0,c,p,h=>trivial
 | k+1,c,p,h=>(he c n p h).bind λ v r hr=>.ite (λ_=>.ok hr) λ_=>(dR hs _ c b r hr).bind λ d q hq=>while_in he hs n b k d q hq
theorem expr_in (he:IE f e) (hs:IS f s):IE f (exprSM f pg e s):=λ c n p h=>(step_in h).bind λ_ r hr=>by
 refine .ite (λ_=>?_) λ_=>(fP he c _ _ r hr).bind λ vs q hq=>value_in c n vs q hq;split
 ·trivial
 exact (callee_in he c _ r hr).bind λ i q hq=>(fP he c _ _ q hq).bind λ vs q hq=>result_in hs pg i vs q hq
theorem stat_in (k:Nat) (he:IE f e) (hs:IS f s):IS f (cB f k e s):=λ c n p h=>(step_in h).bind λ_ r hr=>by
 refine .ite (λ_=>?_) λ_=>.ite (λ_=>?_) λ_=>.ite (λ_=>?_) λ_=>.ok hr
 ·split
  ·exact (he c _ r hr).bind λ v q hq=>.ite (λ_=>.of hq) λ_=>set_in c _ v q hq
  trivial
 ·split
  ·refine .ite (λ_=>while_in he hs _ _ k c r hr) λ_=>(he c _ r hr).bind λ v q hq=>.ite (λ_=>?_) λ_=>dR hs _ c _ q hq;split
   ·exact .ok hq
   exact dR hs _ c _ q hq
  trivial
 split
 ·exact (he c _ r hr).bind λ v q hq=>.ite (λ_=>⟨.rfl',hq⟩) λ_=>.ite (λ_=>⟨⟨Nat.le_refl _,List.prefix_append ..⟩,hq⟩) λ_=>.ok hq
 trivial
theorem ev_in (f:Nat)(pg:Pg):∀(N:Nat),IE f (evM f pg N).1∧IS f (evM f pg N).2
 | 0=>⟨λ_ _ _ _=>trivial,λ_ _ _ _=>trivial⟩
 | N+1=>⟨expr_in (ev_in f pg N).1 (ev_in f pg N).2,stat_in _ (ev_in f pg N).1 (ev_in f pg N).2⟩
def Al {α:Type}(q:Pm):O α→Prop
 | .ok _ r=>Ext q r
 | .ret _ r=>Ext q r
 | .fin _ r=>Ext q r
 | .stuck=>True
theorem Inn.al (h:Inn f p a):Al p a:=by
 cases a with
 | ok x q=>exact h.1
 | ret x q=>exact h.1
 | fin x q=>exact h.1
 | stuck=>trivial
def Twin {α:Type}(a b:O α):Prop:=a=b∨∃q,a=.fin 0 q∧Al q b
theorem Twin.same :Twin a a:=.inl rfl
theorem Twin.bind {k : α→Pm→O β} (h:Twin a b) (ha:Inn few p a) (hb:Inn more p b) (h1:∀x r,r.steps≤few→Twin (g x r) (k x r)) (h2:∀x r,r.steps≤more→Inn more r (k x r)):Twin (a.bind g) (b.bind k):=by
 rcases h with rfl|⟨q,rfl,h⟩
 ·cases a with
  | ok x r=>exact h1 x r ha.2
  | ret x r=>exact .same
  | fin x r=>exact .same
  | stuck=>exact .same
 refine .inr ⟨q,rfl,?_⟩;cases b with
 | ok x r=>exact ((h2 x r hb.2).from h).al
 | ret x r=>exact h
 | fin x r=>exact h
 | stuck=>trivial
theorem Twin.ite {c : Prop} [Decidable c] {a' b' : O α} (ha:Twin a a') (hb:Twin b b'):Twin (if c then a else b) (if c then a' else b'):=by
 split
 ·exact ha
 exact hb
theorem step_two (hf:few≤more) (h:p.steps≤few):Twin (dH few p) (dH more p):=by
 unfold dH;by_cases e1:p.steps=few
 ·rw[if_pos e1];by_cases e2:p.steps=more
  ·rw[if_pos e2];exact .same
  rw[if_neg e2];exact .inr ⟨p,rfl,⟨Nat.le_succ _,List.prefix_refl _⟩⟩
 rw[if_neg e1,if_neg (by omega)];exact .same
structure Wo (few more:Nat)(e e':EvE)(s s':EvS):Prop where
 ie:IE few e
 ie':IE more e'
 is:IS few s
 is':IS more s'
 te:∀c n p,p.steps≤few→Twin (e c n p) (e' c n p)
 ts:∀c n p,p.steps≤few→Twin (s c n p) (s' c n p)
variable (W : Wo few more e e' s s') (hf : few ≤ more)
include W hf
theorem all_two (c:Cm):∀(l:List Nd) (acc:List Va) (p:Pm),p.steps≤few→Twin (allL (e c) acc l p) (allL (e' c) acc l p)
 | [],acc,p,h=>.same
 | x::l,acc,p,h=>(W.te c x p h).bind (W.ie c x p h) (W.ie' c x p (by omega)) (λ v r hr=>all_two c l _ r hr) λ v r hr=>fP W.ie' c l _ r hr
theorem callee_two (c:Cm) (n:Nd) (p:Pm) (h:p.steps≤few):Twin (fF (e c) c n p) (fF (e' c) c n p):=
 .ite .same ((W.te c n p h).bind (W.ie c n p h) (W.ie' c n p (by omega)) (λ v r hr=>.same) λ v r hr=>.ok hr)
theorem stats_two:∀(l:List Nd)(c:Cm)(p:Pm),p.steps≤few→Twin (eJ s c l p) (eJ s' c l p)
 | [],c,p,h=>.same
 | x::l,c,p,h=>(W.ts c x p h).bind (W.is c x p h) (W.is' c x p (by omega)) (λ d r hr=>stats_two l d r hr) λ d r hr=>stats_in W.is' l d r hr
theorem block_two (m:NM) (c:Cm) (n:Nd) (p:Pm) (h:p.steps≤few):Twin (bY s m c n p) (bY s' m c n p):=
 (stats_two W hf _ _ p h).bind (stats_in W.is _ _ p h) (stats_in W.is' _ _ p (by omega)) (λ d r hr=>.same) λ d r hr=>.ite (λ_=>.ok hr) λ_=>trivial
theorem result_two (pg:Pg) (i:Int) (vs:List Va) (p:Pm) (h:p.steps≤few):Twin (bM pg s i vs p) (bM pg s' i vs p):=by
 unfold bM;refine .ite .same ?_;split
 ·exact .same
 refine .ite .same ?_;split
 ·exact .same
 rename_i t _ _ u _
 rcases block_two W hf (bW noN 0 (t.node.kids.take (t.node.kids.length - 2))) ⟨u,[],vs.take (t.node.kids.length - 2),(vs.drop (t.node.kids.length - 2)).flatMap aQ⟩ (cY t.node.kids 1) p h with e1|⟨q,e1,e2⟩
 ·rw[e1];exact .same
 rw[e1];refine .inr ⟨q,rfl,?_⟩;split
 ·rename_i e3;rw[e3] at e2;exact e2
 ·rename_i e3;rw[e3] at e2;exact e2
 trivial
theorem while_two (n b:Nd):∀(k:Nat) (c:Cm) (p:Pm),p.steps≤few→Twin (fV e s n b k c p) (fV e' s' n b k c p)
 | 0,c,p,h=>.same
 | k+1,c,p,h=>(W.te c n p h).bind (W.ie c n p h) (W.ie' c n p (by omega)) (λ v r hr=>.ite .same ((block_two W hf _ c b r hr).bind (dR W.is _ c b r hr) (dR W.is' _ c b r (by omega)) (λ d q hq=>while_two n b k d q hq) λ d q hq=>while_in W.ie' W.is' n b k d q hq))
   λ v r hr=>.ite (λ_=>.ok hr) λ_=>(dR W.is' _ c b r hr).bind λ d q hq=>while_in W.ie' W.is' n b k d q hq
theorem expr_two (c:Cm) (n:Nd) (p:Pm) (h:p.steps≤few):Twin (exprSM few pg e s c n p) (exprSM more pg e' s' c n p):=by
 refine (step_two hf h).bind (step_in h) (step_in (by omega)) (λ_ r hr=>.ite ?_ ?_) λ_ r hr=>.ite (λ_=>?_) λ_=>(fP W.ie' c _ _ r hr).bind λ vs q hq=>value_in c n vs q hq
 ·split
  ·exact .same
  exact (callee_two W hf c _ r hr).bind (callee_in W.ie c _ r hr) (callee_in W.ie' c _ r (by omega)) (λ i q hq=>(all_two W hf c _ _ q hq).bind (fP W.ie c _ _ q hq) (fP W.ie' c _ _ q (by omega)) (λ vs q hq=>result_two W hf pg i vs q hq) λ vs q hq=>result_in W.is' pg i vs q hq)
   λ i q hq=>(fP W.ie' c _ _ q hq).bind λ vs q hq=>result_in W.is' pg i vs q hq
 ·exact (all_two W hf c _ _ r hr).bind (fP W.ie c _ _ r hr) (fP W.ie' c _ _ r (by omega)) (λ vs q hq=>.same) λ vs q hq=>value_in c n vs q hq
 split
 ·trivial
 exact (callee_in W.ie' c _ r hr).bind λ i q hq=>(fP W.ie' c _ _ q hq).bind λ vs q hq=>result_in W.is' pg i vs q hq
theorem stat_two (k:Nat) (c:Cm) (n:Nd) (p:Pm) (h:p.steps≤few):Twin (cB few k e s c n p) (cB more k e' s' c n p):=by
 have hi:∀(a:Unit) (r:Pm),r.steps≤more→Inn more r ((λ (_:Unit) (p:Pm)=>if n.kind=14∨n.kind=15 then match n.kids with
   | x::y::_=>(e' c y p).bind λ v p=>if n.kind=14 then .of (putTop c n.text v) p else setM c x v p
   | _=>.stuck
  else if n.kind=16∨n.kind=17 then match n.kids with
   | x::y::l=>if n.kind=17 then fV e' s' x y k c p else (e' c x p).bind λ v p=>if v.num=0 then (match l with|[]=>.ok c p|z::_=>bY s' noN c z p) else bY s' noN c y p
   | _=>.stuck
  else if n.kind=18∨n.kind=19∨n.kind=20 then match n.kids with
   | x::_=>(e' c x p).bind λ v p=>if n.kind=18 then .ret v p else if n.kind=19 then .ok c { p with out:=p.out++aQ v } else .ok c p
   | _=>.stuck
  else .ok c p) a r):=λ a r hr=>by
  refine .ite (λ_=>?_) λ_=>.ite (λ_=>?_) λ_=>.ite (λ_=>?_) λ_=>.ok hr
  ·split
   ·exact (W.ie' c _ r hr).bind λ v q hq=>.ite (λ_=>.of hq) λ_=>set_in c _ v q hq
   trivial
  ·split
   ·refine .ite (λ_=>while_in W.ie' W.is' _ _ k c r hr) λ_=>(W.ie' c _ r hr).bind λ v q hq=>.ite (λ_=>?_) λ_=>dR W.is' _ c _ q hq;split
    ·exact .ok hq
    exact dR W.is' _ c _ q hq
   trivial
  split
  ·exact (W.ie' c _ r hr).bind λ v q hq=>.ite (λ_=>⟨.rfl',hq⟩) λ_=>.ite (λ_=>⟨⟨Nat.le_refl _,List.prefix_append ..⟩,hq⟩) λ_=>.ok hq
  trivial
 refine (step_two hf h).bind (step_in h) (step_in (by omega)) (λ_ r hr=>.ite ?_ (.ite ?_ (.ite ?_ .same))) hi
 ·split
  ·exact (W.te c _ r hr).bind (W.ie c _ r hr) (W.ie' c _ r (by omega)) (λ v q hq=>.same) λ v q hq=>.ite (λ_=>.of hq) λ_=>set_in c _ v q hq
  exact .same
 ·split
  ·refine .ite (while_two W hf _ _ k c r hr) ((W.te c _ r hr).bind (W.ie c _ r hr) (W.ie' c _ r (by omega)) (λ v q hq=>.ite ?_ (block_two W hf _ c _ q hq)) λ v q hq=>.ite (λ_=>?_) λ_=>dR W.is' _ c _ q hq)
   ·split
    ·exact .same
    exact block_two W hf _ c _ q hq
   split
   ·exact .ok hq
   exact dR W.is' _ c _ q hq
  exact .same
 split
 ·exact (W.te c _ r hr).bind (W.ie c _ r hr) (W.ie' c _ r (by omega)) (λ v q hq=>.same) λ v q hq=>.ite (λ_=>⟨.rfl',hq⟩) λ_=>.ite (λ_=>⟨⟨Nat.le_refl _,List.prefix_append ..⟩,hq⟩) λ_=>.ok hq
 exact .same
end
theorem ev_wo {few more:Nat}(pg:Pg)(hf:few≤more):∀(N:Nat),Wo few more (evM few pg N).1 (evM more pg N).1 (evM few pg N).2 (evM more pg N).2
 | 0=>⟨(ev_in few pg 0).1,(ev_in more pg 0).1,(ev_in few pg 0).2,(ev_in more pg 0).2,λ_ _ _ _=>.same,λ_ _ _ _=>.same⟩
 | N+1=>⟨(ev_in few pg (N+1)).1,(ev_in more pg (N+1)).1,(ev_in few pg (N+1)).2,(ev_in more pg (N+1)).2,expr_two (ev_wo pg hf N) hf,stat_two (ev_wo pg hf N) hf (N+1)⟩
theorem notdec {a : Int}:(!decide (a=0))=false ↔ a=0:=by simp
theorem notdec' {a : Int}:(!decide (a=0))=true ↔ a≠0:=by simp
theorem ev_strict (hp:p.steps≤f) (h:(evM f pg N).1 c n p=.ok v p'):p.steps+1≤p'.steps:=by
 cases N with
 | zero=>cases h
 | succ N=>
  have h:exprSM f pg (evM f pg N).1 (evM f pg N).2 c n p=.ok v p':=h;unfold exprSM at h;cases hE:dH f p with
  | stuck=>rw[hE] at h;cases h
  | ret _ _=>rw[hE] at h;cases h
  | fin _ _=>rw[hE] at h;cases h
  | ok u r=>
   have hs:=cZ hE;have hin:=step_in hp;rw[hE] at hin;rw[hE] at h;obtain⟨he,hst⟩:=ev_in f pg N;have key:Inn f r (if n.kind=25 then match n.kids with
     | []=>O.stuck
     | x::l=>(fF ((evM f pg N).1 c) c x r).bind λ i p=>(allL ((evM f pg N).1 c) [] l p).bind λ vs p=>bM pg (evM f pg N).2 i vs p
    else (allL ((evM f pg N).1 c) [] n.kids r).bind λ vs p=>aG c n vs p):=by
    refine .ite (λ_=>?_) λ_=>(fP he c _ _ r hin.2).bind λ vs q hq=>value_in c n vs q hq;split
    ·trivial
    exact (callee_in he c _ r hin.2).bind λ i q hq=>(fP he c _ _ q hq).bind λ vs q hq=>result_in hst pg i vs q hq
   have h:_=O.ok v p':=h;rw[show (if n.kind=25 then match n.kids with
     | []=>O.stuck
     | x::l=>(fF ((evM f pg N).1 c) c x r).bind λ i p=>(allL ((evM f pg N).1 c) [] l p).bind λ vs p=>bM pg (evM f pg N).2 i vs p
    else (allL ((evM f pg N).1 c) [] n.kids r).bind λ vs p=>aG c n vs p)=O.ok v p' from h] at key
   have:=key.1.steps;omega
def stepsOf (w:World)(b:Nat):Nat:=match w.cell? ⟨b,3,none⟩ with|some (.int _ n)=>n.toNat|_=>0
theorem Fr.stepsOf (h:Fr B w L) (i:Nat) (hi:L[i]?=some (.pm bp q pg f p ov)):K.stepsOf w bp=p.steps:=by
 have:=h.pmCell i hi 3;unfold K.stepsOf;rw[show w.cell? ⟨bp,3,none⟩=some (.int .i64 (p.steps:Int)) from this];rfl
theorem b_h {a : O Va} {g : Va→Pm→O β} {Q : O β} (hQ:Q=a.bind g) (h:(a.bind λ v p=>(.ok (!decide (v.num=0)) p:O Bool))=.stuck):Q=.stuck:=by
 cases a with
 | stuck=>exact hQ
 | ok x p=>cases h
 | ret _ _=>cases h
 | fin _ _=>cases h
section
variable (ih:ExprH f pg N) (ihs:StatH f pg N) (h:Fr B w (.cm bc bp k c::.pm bp q pg f p false::L)) (hu:UnI c.u) (hc:CI k c p.steps) (hp:PI pg f m n0 p) (i:Nat) (hi:L[i]?=some (.el NdE (ndc n.kind n.text n.num a_n n.kids.length c_n) n)) (hn:Nk n) (hs:sz n≤700) {Q : O Cm} (hQ:Q=cB f (N+1) (evM f pg N).1 (evM f pg N).2 c n p) (hne:Q≠.stuck)
include ih ihs h hu hc hp hi hn hs hQ hne
theorem mstat_16 (hk:n.kind=16):Calls prog 32 #[ptr bc,.agg #[.int .i64 n.kind,.string n.text,.int .i64 n.num,.slice a_n n.kids.length c_n]] w (PMt Q B bc bp k q pg f m n0 L):=by
 have hmm:=@run_makeMap prog;unfold cB at hQ;have e14:=hk;have HQ:=ah hQ;have HNE:=ah hne;have HPI:=ah hp;have HC:=ah hc;have HU:=ah hu;have HSM:=ah (aS hn hs);have HTX:=ah hn.text;have hkn:=(aS hn hs).2;have HK:=ah hk;have HF:=ah (h.dup (i+2) hi).fr12;have q14:(n.kind == 14)=false:=by rw[hk];decide
 have q15:(n.kind == 15)=false:=by rw[hk];decide
 have q16:(n.kind == 16)=true:=by rw[hk];decide
 clear e14;clear h hp hne hi hc hu hn hQ hk;go_enter func32,ntmps32;replace HF:=aM HF w.heap.size n a_n c_n;replace HF:=Fr.fr12 HF;have c_cm:=HF.cmCell 0 rfl;have f_cm:=HF.cmFrz 0 rfl;clear f_cm;go_wp2_with fail;clear c_cm;replace HF:=ah HF.swap;go_at_call 41;refine (eV HF HPI.here).mono ?_;intro e w1 hpost;revert hpost
 cases hE:dH f p with
 | stuck=>intro hpost;exact False.elim hpost
 | ret v0 p0=>
  rintro⟨ov,a0,c0,pa0,pc0,rfl,hr0,hi0,hf0⟩;exact⟨rfl,PMo.ret' (dE HQ hE) hr0 (hi0.up2 HPI) hf0.lose⟩
 | fin e0 p0=>
  rintro⟨ov,rfl,hi0,hf0⟩;exact⟨rfl,PMo.fin' (dF HQ hE) (hi0.up2 HPI) hf0.lose⟩
 | ok u0 p1=>
 rintro⟨rfl,hi1,hf1⟩;have hQ2:=b_ok HQ hE;have HS1:Hid (p1.steps=p.steps+1):=cZ hE;have HPM:=ah (hi1.up2 HPI);replace HPI:=ah (hi1.less.up2 HPI);have HCB:Hid (c.bl.length≤p1.steps):=by
  have:=HC.bl;have:=HS1.out;show _≤_;omega
 replace HC:=ah (HC.on hi1);replace HF:=ah hf1.swap;clear hi1 hf1 hE HQ;obtain⟨x,y,l,hkl⟩:∃x y l,n.kids=x::y::l:=by
  have e0:=HK.out;simp only[e0,Int.reduceEq,reduceIte,or_true,true_or,or_false,false_or,ite_true,ite_false] at hQ2;cases e1:n.kids with
  | nil=>rw[e1] at hQ2;exact absurd hQ2 HNE
  | cons x l=>
   cases l with
   | nil=>rw[e1] at hQ2;exact absurd hQ2 HNE
   | cons y l=>exact⟨x,y,l,rfl⟩
 have e0:=HK.out;simp only[e0,hkl,Int.reduceEq,reduceIte,or_true,true_or,or_false,false_or,ite_true,ite_false] at hQ2;have HQ2:=ah hQ2;clear hQ2 e0;have hxk:n.kids[0]?=some x:=by rw[hkl];rfl
 have HXN:=ah (HSM.1 x (by rw[hkl];simp));have hyk:n.kids[1]?=some y:=by rw[hkl];rfl
 have HYN:=ah (HSM.1 y (by rw[hkl];simp));have HKL:=ah hkl;clear hkl;obtain⟨g_x,o_x,a_x,c_x,cur_x,f_x,ha_x,hc1,hc2,hk_x,hf⟩:=HF.kidK 3 rfl 0 hxk;have HK_x:=ah hk_x;have hb_x:0<n.kids.length:=(List.getElem?_eq_some_iff.1 hxk).1;have hbi_x:((0:Nat):Int)<(n.kids.length:Int):=by omega
 replace HF:=hf;clear hf hk_x hc1;have hbj_x:(0:Int)<(n.kids.length:Int):=by omega
 clear hxk hc2;subst ha_x;simp only[Nat.zero_mul,Nat.add_zero] at HK_x;obtain⟨g_y,o_y,a_y,c_y,cur_y,f_y,ha_y,hc1,hc2,hk_y,hf⟩:=HF.kidK 5 rfl 1 hyk;have HK_y:=ah hk_y;have hb_y:1<n.kids.length:=(List.getElem?_eq_some_iff.1 hyk).1;have hbi_y:((1:Nat):Int)<(n.kids.length:Int):=by omega
 replace HF:=hf;clear hf hk_y hc1;have hbj_y:(1:Int)<(n.kids.length:Int):=by omega
 clear hyk hc2;cases ha_y;simp only[Nat.one_mul] at HK_y;replace HF:=Fr.fr42 HF;have c_t3:=HF.cell 6 rfl;obtain⟨e0_x,e1_x,e2_x,e3_x⟩:=aC (o:=o_x) (HF.knc 5 rfl) HK_x;go_wp2_with fail;clear c_t3 e0_x e1_x e2_x e3_x;go_at_call 44;refine (holds_any ih HF HU HC HPI.here 2 rfl HXN.1 HXN.2 rfl (λ e=>HNE (b_h HQ2 e))).mono ?_;intro e w2 hpost;revert hpost
 cases hE:(evM f pg N).1 c x p1 with
 | stuck=>intro hpost;exact False.elim hpost
 | ret v0 p0=>
  rintro⟨ov,a0,c0,pa0,pc0,rfl,hr0,hi0,hf0⟩;exact⟨rfl,PMo.ret' (dE HQ2 hE) hr0 (hi0.up2 HPI) hf0.lose⟩
 | fin e0 p0=>
  rintro⟨ov,rfl,hi0,hf0⟩;exact⟨rfl,PMo.fin' (dF HQ2 hE) (hi0.up2 HPI) hf0.lose⟩
 | ok v p2=>
 rintro⟨ov1,rfl,hi,hf⟩;have HQ3:=ah (b_ok HQ2 hE);have HB2:Hid (c.bl.length≤p2.steps):=Nat.le_trans HCB hi.from_;replace HC:=ah (HC.on hi);replace HPI:=ah (hi.up2 HPI);replace HF:=hf;clear hi hf hE HQ2;obtain⟨bz,hbz⟩:∃b,(!decide (v.num=0))=b:=⟨_,rfl⟩
 rw[hbz];have HBZ:=ah hbz;clear hbz;cases bz
 ·have hQ4:=HQ3.out;rw[if_pos (notdec.1 HBZ.out)] at hQ4;have HQ4:=ah hQ4;clear hQ4 HQ3;cases l with
  | nil=>
   have hlen:¬ (2:Int)<(n.kids.length:Int):=by rw[HKL.out];simp
   have c_t3:=HF.cell 6 rfl;go_wp2;clear c_t3;go_end0
   exact PMt.ok' HQ4 HPI HC HF.lose
  | cons z l=>
   have hzk:n.kids[2]?=some z:=by rw[HKL.out];rfl
   have HZN:=ah (HSM.1 z (by rw[HKL.out];simp));obtain⟨g_z,o_z,a_z,c_z,cur_z,f_z,ha_z,hc1,hc2,hk_z,hf⟩:=HF.kidK 7 rfl 2 hzk;have HK_z:=ah hk_z;have hb_z:2<n.kids.length:=(List.getElem?_eq_some_iff.1 hzk).1;have hbi_z:((2:Nat):Int)<(n.kids.length:Int):=by omega
   replace HF:=hf;clear hf hk_z hc1;have hbj_z:(2:Int)<(n.kids.length:Int):=by omega
   clear hzk hc2;cases ha_z;simp only[Nat.reduceMul] at HK_z;replace HF:=Fr.fr22 HF;have c_t3:=HF.cell 8 rfl;obtain⟨e0_z,e1_z,e2_z,e3_z⟩:=aC (o:=o_x+8) (HF.knc 3 rfl) HK_z;replace HF:=Fr.fr12 (HF.mpMade VNat zN k.N (q:=w2.heap.size) rfl);go_wp2_with fail;clear c_t3 e0_z e1_z e2_z e3_z;go_at_call 25;refine (blockM_any (m0:=noN) ihs HF HU HC HB2 HPI.here 0 rfl HZN.1 HZN.2 rfl (by rw[← HQ4.out];exact HNE)).mono ?_;intro e w3 hpost;revert hpost
   cases hE:bY (evM f pg N).2 noN c z p2 with
   | stuck=>intro hpost;exact False.elim hpost
   | ret v0 p0=>
    rintro⟨ov,a0,c0,pa0,pc0,rfl,hr0,hi0,hf0⟩;exact⟨rfl,PMo.ret' (HQ4.trans hE) hr0 (hi0.up2 HPI) hf0.lose⟩
   | fin e0 p0=>
    rintro⟨ov,rfl,hi0,hf0⟩;exact⟨rfl,PMo.fin' (HQ4.trans hE) (hi0.up2 HPI) hf0.lose⟩
   | ok d p3=>
   rintro⟨ov2,k2,rfl,hi,hc2,hb1,hb2,hf⟩;go_wp2;go_end0
   exact PMo.ok' (HQ4.trans hE) ⟨ov2,k2,rfl,hi.up2 HPI,hc2,hb1,hb2,hf.lose⟩
 have hQ4:=HQ3.out;rw[if_neg (notdec'.1 HBZ.out)] at hQ4;have HQ4:=ah hQ4;clear hQ4 HQ3;have c_t3:=HF.cell 6 rfl;obtain⟨e0_y,e1_y,e2_y,e3_y⟩:=aC (o:=o_x+4) (HF.knc 3 rfl) HK_y;replace HF:=Fr.fr12 (HF.mpMade VNat zN k.N (q:=w2.heap.size) rfl);go_wp2_with fail;clear c_t3 e0_y e1_y e2_y e3_y;go_at_call 25;refine (blockM_any (m0:=noN) ihs HF HU HC HB2 HPI.here 0 rfl HYN.1 HYN.2 rfl (by rw[← HQ4.out];exact HNE)).mono ?_;intro e w3 hpost;revert hpost
 cases hE:bY (evM f pg N).2 noN c y p2 with
 | stuck=>intro hpost;exact False.elim hpost
 | ret v0 p0=>
  rintro⟨ov,a0,c0,pa0,pc0,rfl,hr0,hi0,hf0⟩;exact⟨rfl,PMo.ret' (HQ4.trans hE) hr0 (hi0.up2 HPI) hf0.lose⟩
 | fin e0 p0=>
  rintro⟨ov,rfl,hi0,hf0⟩;exact⟨rfl,PMo.fin' (HQ4.trans hE) (hi0.up2 HPI) hf0.lose⟩
 | ok d p3=>
 rintro⟨ov2,k2,rfl,hi,hc2,hb1,hb2,hf⟩;go_wp2;go_end0
 exact PMo.ok' (HQ4.trans hE) ⟨ov2,k2,rfl,hi.up2 HPI,hc2,hb1,hb2,hf.lose⟩
theorem mstat_17 (hk:n.kind=17):Calls prog 32 #[ptr bc,.agg #[.int .i64 n.kind,.string n.text,.int .i64 n.num,.slice a_n n.kids.length c_n]] w (PMt Q B bc bp k q pg f m n0 L):=by
 have hmm:=@run_makeMap prog;unfold cB at hQ;have e14:=hk;have HQ:=ah hQ;have HNE:=ah hne;have HPI:=ah hp;have HC:=ah hc;have HU:=ah hu;have HSM:=ah (aS hn hs);have HTX:=ah hn.text;have hkn:=(aS hn hs).2;have HK:=ah hk;have HF:=ah (h.dup (i+2) hi).fr12;have q14:(n.kind == 14)=false:=by rw[hk];decide
 have q15:(n.kind == 15)=false:=by rw[hk];decide
 have q16:(n.kind == 16)=false:=by rw[hk];decide
 have q17:(n.kind == 17)=true:=by rw[hk];decide
 clear e14;clear h hp hne hi hc hu hn hQ hk;go_enter func32,ntmps32;replace HF:=aM HF w.heap.size n a_n c_n;replace HF:=Fr.fr12 HF;have c_cm:=HF.cmCell 0 rfl;have f_cm:=HF.cmFrz 0 rfl;clear f_cm;go_wp2_with fail;clear c_cm;replace HF:=ah HF.swap;go_at_call 41;refine (eV HF HPI.here).mono ?_;intro e w1 hpost;revert hpost
 cases hE:dH f p with
 | stuck=>intro hpost;exact False.elim hpost
 | ret v0 p0=>
  rintro⟨ov,a0,c0,pa0,pc0,rfl,hr0,hi0,hf0⟩;exact⟨rfl,PMo.ret' (dE HQ hE) hr0 (hi0.up2 HPI) hf0.lose⟩
 | fin e0 p0=>
  rintro⟨ov,rfl,hi0,hf0⟩;exact⟨rfl,PMo.fin' (dF HQ hE) (hi0.up2 HPI) hf0.lose⟩
 | ok u0 p1=>
 rintro⟨rfl,hi1,hf1⟩;have hQ2:=b_ok HQ hE;have HS1:Hid (p1.steps=p.steps+1):=cZ hE;have HPM:=ah (hi1.up2 HPI);replace HPI:=ah (hi1.less.up2 HPI);have HCB:Hid (c.bl.length≤p1.steps):=by
  have:=HC.bl;have:=HS1.out;show _≤_;omega
 replace HC:=ah (HC.on hi1);replace HF:=ah hf1.swap;clear hi1 hf1 hE HQ;obtain⟨x,y,l,hkl⟩:∃x y l,n.kids=x::y::l:=by
  have e0:=HK.out;simp only[e0,Int.reduceEq,reduceIte,or_true,true_or,or_false,false_or,ite_true,ite_false] at hQ2;cases e1:n.kids with
  | nil=>rw[e1] at hQ2;exact absurd hQ2 HNE
  | cons x l=>
   cases l with
   | nil=>rw[e1] at hQ2;exact absurd hQ2 HNE
   | cons y l=>exact⟨x,y,l,rfl⟩
 have e0:=HK.out;simp only[e0,hkl,Int.reduceEq,reduceIte,or_true,true_or,or_false,false_or,ite_true,ite_false] at hQ2;have HQ2:=ah hQ2;clear hQ2 e0;have hxk:n.kids[0]?=some x:=by rw[hkl];rfl
 have HXN:=ah (HSM.1 x (by rw[hkl];simp));have hyk:n.kids[1]?=some y:=by rw[hkl];rfl
 have HYN:=ah (HSM.1 y (by rw[hkl];simp));have HKL:=ah hkl;clear hkl;obtain⟨g_x,o_x,a_x,c_x,cur_x,f_x,ha_x,hc1,hc2,hk_x,hf⟩:=HF.kidK 3 rfl 0 hxk;have HK_x:=ah hk_x;have hb_x:0<n.kids.length:=(List.getElem?_eq_some_iff.1 hxk).1;have hbi_x:((0:Nat):Int)<(n.kids.length:Int):=by omega
 replace HF:=hf;clear hf hk_x hc1;have hbj_x:(0:Int)<(n.kids.length:Int):=by omega
 clear hxk hc2;subst ha_x;simp only[Nat.zero_mul,Nat.add_zero] at HK_x;obtain⟨g_y,o_y,a_y,c_y,cur_y,f_y,ha_y,hc1,hc2,hk_y,hf⟩:=HF.kidK 5 rfl 1 hyk;have HK_y:=ah hk_y;have hb_y:1<n.kids.length:=(List.getElem?_eq_some_iff.1 hyk).1;have hbi_y:((1:Nat):Int)<(n.kids.length:Int):=by omega
 replace HF:=hf;clear hf hk_y hc1;have hbj_y:(1:Int)<(n.kids.length:Int):=by omega
 clear hyk hc2;cases ha_y;simp only[Nat.one_mul] at HK_y;replace HF:=Fr.fr42 HF;have HM:Hid (∃(jj:Nat) (kj:CQ) (cj:Cm) (pj:Pm) (ov:Value),Q=fV (evM f pg N).1 (evM f pg N).2 x y jj cj pj∧PI pg f m n0 pj∧p1.steps≤pj.steps∧CI kj cj pj.steps∧kj.bv=k.bv∧kj.em=k.em∧Fm c cj∧Fr B w1 (.cm bc bp kj cj::.pm bp (q.at ov) pg f pj false::.el NdE (ndc y.kind y.text y.num a_y y.kids.length c_y) y::.kn g_x cur_y 52 f_y::.el NdE (ndc x.kind x.text x.num a_x x.kids.length c_x) x::.kn g_x cur_x 52 f_x::.blk w.heap.size #[.int .i64 n.kind,.string n.text,.int .i64 n.num,.slice (some ⟨g_x,o_x,none⟩) n.kids.length c_n] 52::.el NdE (ndc n.kind n.text n.num (some ⟨g_x,o_x,none⟩) n.kids.length c_n) n::L)):=ah ⟨N+1,k,c,p1,q.outv,HQ2,HPI,Nat.le_refl _,HC,rfl,rfl,.rfl',HF⟩;have HP1:=HPI;clear HF HQ2 HC HPI;have c_t3:∀o,w1.cell? ⟨w.heap.size,o,none⟩=(#[.int .i64 n.kind,.string n.text,.int .i64 n.num,.slice (some ⟨g_x,o_x,none⟩) n.kids.length c_n]:Array Value)[o]?:=by
  obtain⟨_,_,_,_,_,_,_,_,_,_,_,_,hf⟩:=HM;exact hf.cell 6 rfl
 go_wp2;clear c_t3;go_loopw [] (λ wr=>Hid (∃(jj:Nat) (kj:CQ) (cj:Cm) (pj:Pm) (ov:Value),Q=fV (evM f pg N).1 (evM f pg N).2 x y jj cj pj∧PI pg f m n0 pj∧p1.steps≤pj.steps∧CI kj cj pj.steps∧kj.bv=k.bv∧kj.em=k.em∧Fm c cj∧Fr B wr (.cm bc bp kj cj::.pm bp (q.at ov) pg f pj false::.el NdE (ndc y.kind y.text y.num a_y y.kids.length c_y) y::.kn g_x cur_y 52 f_y::.el NdE (ndc x.kind x.text x.num a_x x.kids.length c_x) x::.kn g_x cur_x 52 f_x::.blk w.heap.size #[.int .i64 n.kind,.string n.text,.int .i64 n.num,.slice (some ⟨g_x,o_x,none⟩) n.kids.length c_n] 52::.el NdE (ndc n.kind n.text n.num (some ⟨g_x,o_x,none⟩) n.kids.length c_n) n::L))) (λ wr=>f - stepsOf wr bp)
 case atStart=>exact HM
 clear HM;obtain⟨jj,kj,cj,pj,ov,hQ,hpi,hst,hcj,hkb,hke,hfm,hf⟩:=hrel.out;clear hrel;have hso:=hf.stepsOf 1 rfl;have HSO:=ah hso;have HQ:=ah hQ;have HPI:=ah hpi;have HST:=ah hst;have HC:=ah hcj;have HKB:=ah hkb;have HKE:=ah hke;have HFM:=ah hfm;have HUJ:Hid (UnI cj.u):=by
  show UnI cj.u;rw[HFM.out.u];exact HU
 have HF:=hf;clear hf hQ hpi hst hcj hkb hke hfm hso;cases jj with
 | zero=>exact absurd HQ HNE
 | succ jj=>
 have HQ2:Hid (Q=((evM f pg N).1 cj x pj).bind λ v p=>if v.num=0 then .ok cj p else (bY (evM f pg N).2 noN cj y p).bind λ c p=>fV (evM f pg N).1 (evM f pg N).2 x y jj c p):=HQ;clear HQ;have c_t3:=HF.cell 6 rfl;obtain⟨e0_x,e1_x,e2_x,e3_x⟩:=aC (o:=o_x) (HF.knc 5 rfl) HK_x;go_wp2_with fail;clear c_t3 e0_x e1_x e2_x e3_x;go_at_call 44;refine (holds_any ih HF HUJ HC HPI.here 2 rfl HXN.1 HXN.2 rfl (λ e=>HNE (b_h HQ2 e))).mono ?_;intro e w41 hpost;revert hpost
 cases hE:(evM f pg N).1 cj x pj with
 | stuck=>intro hpost;exact False.elim hpost
 | ret v0 p0=>
  rintro⟨ov,a0,c0,pa0,pc0,rfl,hr0,hi0,hf0⟩;exact⟨rfl,PMo.ret' (dE HQ2 hE) hr0 (hi0.up2 HPI) hf0.lose⟩
 | fin e0 p0=>
  rintro⟨ov,rfl,hi0,hf0⟩;exact⟨rfl,PMo.fin' (dF HQ2 hE) (hi0.up2 HPI) hf0.lose⟩
 | ok v p41=>
 rintro⟨ov1,rfl,hi,hf⟩;have HQ3:=ah (b_ok HQ2 hE);have HSTR:=ah (ev_strict HPI.steps hE);have HB2:Hid (cj.bl.length≤p41.steps):=by
  have h1:=HFM.len;have h2:=HCB.out;have h3:=HST.out;have h4:=hi.from_;show _≤_;omega
 have HST2:=ah (Nat.le_trans HST hi.from_);replace HC:=ah (HC.on hi);replace HPI:=ah (hi.up2 HPI);replace HF:=hf;clear hi hf hE HQ2;obtain⟨bz,hbz⟩:∃b,(!decide (v.num=0))=b:=⟨_,rfl⟩
 rw[hbz];have HBZ:=ah hbz;clear hbz;cases bz
 ·have hQ4:=HQ3.out;rw[if_pos (notdec.1 HBZ.out)] at hQ4;have HQ4:=ah hQ4;clear hQ4 HQ3;go_wp2;go_end0
  exact PMo.ok' HQ4 ⟨ov1,kj,rfl,HPI,HC,HKB,HKE,HF.lose⟩
 have hQ4:=HQ3.out;rw[if_neg (notdec'.1 HBZ.out)] at hQ4;have HQ4:=ah hQ4;clear hQ4 HQ3;have c_t3:=HF.cell 6 rfl;obtain⟨e0_y,e1_y,e2_y,e3_y⟩:=aC (o:=o_x+4) (HF.knc 3 rfl) HK_y;replace HF:=Fr.fr12 (HF.mpMade VNat zN kj.N (q:=w41.heap.size) rfl);go_wp2_with fail;clear c_t3 e0_y e1_y e2_y e3_y;go_at_call 25;refine (blockM_any (m0:=noN) ihs HF HUJ HC HB2 HPI.here 0 rfl HYN.1 HYN.2 rfl (b_no HQ4 HNE)).mono ?_;intro e w42 hpost;revert hpost
 cases hE:bY (evM f pg N).2 noN cj y p41 with
 | stuck=>intro hpost;exact False.elim hpost
 | ret v0 p0=>
  rintro⟨ov,a0,c0,pa0,pc0,rfl,hr0,hi0,hf0⟩;exact⟨rfl,PMo.ret' (dE HQ4 hE) hr0 (hi0.up2 HPI) hf0.lose⟩
 | fin e0 p0=>
  rintro⟨ov,rfl,hi0,hf0⟩;exact⟨rfl,PMo.fin' (dF HQ4 hE) (hi0.up2 HPI) hf0.lose⟩
 | ok d p42=>
 rintro⟨ov2,k2,rfl,hi,hc2,hb1,hb2,hf⟩;have hfm2:Fm cj d:=by
  have:=block_fm (ev_fm f pg N) noN cj y p41;rw[hE] at this;exact this
 have HQ5:=ah (b_ok HQ4 hE);have HFM2:=ah (HFM.trans hfm2);have HST3:=ah (Nat.le_trans HST2 hi.from_);have HMS:=ah (Nat.le_trans HSTR hi.from_);have HPI2:=ah (hi.up2 HPI);have HC2:=ah hc2;have HB3:=ah (hb1.trans HKB);have HB4:=ah (hb2.trans HKE);have hso2:=ah (hf.stepsOf 1 rfl);replace HF:=hf;clear hf hi hE hc2 hb1 hb2 hfm2 HQ4;go_wp2;go_roundw
 case rel=>exact ah ⟨jj,k2,d,p42,ov2,HQ5,HPI2,HST3,HC2,HB3,HB4,HFM2,HF.lose⟩
 case measure=>(rw[hso2.out,HSO.out];have:=HMS.out;have:=HPI2.steps;omega)
end
theorem i32_one (H:Snap) (c:List Value) (x:Int) (h:I32E.p H c x):c.all (λ u=>u.oneCell')=true:=by
 obtain⟨rfl,-⟩:c=[.int .i32 x]∧_:=h;rfl
theorem Fr.pmOut (h:Fr B w L) (i:Nat) (hi:L[i]?=some (.pm bp q pg f p ov)):∃a d,q.outv=.slice a p.out.length d:=by
 obtain⟨H,h1,-⟩:=h.get hi;obtain⟨a,d,e,-⟩:=els_form (h1.1 (.els I32E q.outv 21 1 p.out) (by simp));exact⟨a,d,e⟩
theorem Fr.mv3 {a b c : Rs} (h:Fr B w (a::b::c::L)):Fr B w (c::a::b::L):=h.fr21
theorem mstat_19 (ih:ExprH f pg N) (ihs:StatH f pg N) (h:Fr B w (.cm bc bp k c::.pm bp q pg f p false::L)) (hu:UnI c.u) (hc:CI k c p.steps) (hp:PI pg f m n0 p) (i:Nat) (hi:L[i]?=some (.el NdE (ndc n.kind n.text n.num a_n n.kids.length c_n) n)) (hn:Nk n) (hs:sz n≤700) {Q : O Cm} (hQ:Q=cB f (N+1) (evM f pg N).1 (evM f pg N).2 c n p) (hne:Q≠.stuck) (hk:n.kind=19):Calls prog 32 #[ptr bc,.agg #[.int .i64 n.kind,.string n.text,.int .i64 n.num,.slice a_n n.kids.length c_n]] w (PMt Q B bc bp k q pg f m n0 L):=by
 unfold cB at hQ;have e14:=hk;have HQ:=ah hQ;have HNE:=ah hne;have HPI:=ah hp;have HC:=ah hc;have HU:=ah hu;have HSM:=ah (aS hn hs);have HTX:=ah hn.text;have hkn:=(aS hn hs).2;have HK:=ah hk;have HF:=ah (h.dup (i+2) hi).fr12;have q14:(n.kind == 14)=false:=by rw[hk];decide
 have q15:(n.kind == 15)=false:=by rw[hk];decide
 have q16:(n.kind == 16)=false:=by rw[hk];decide
 have q17:(n.kind == 17)=false:=by rw[hk];decide
 have q19:(n.kind == 19)=true:=by rw[hk];decide
 clear e14;clear h hp hne hi hc hu hn hQ hk;go_enter func32,ntmps32;replace HF:=aM HF w.heap.size n a_n c_n;replace HF:=Fr.fr12 HF;have c_cm:=HF.cmCell 0 rfl;have f_cm:=HF.cmFrz 0 rfl;clear f_cm;go_wp2_with fail;clear c_cm;replace HF:=ah HF.swap;go_at_call 41;refine (eV HF HPI.here).mono ?_;intro e w1 hpost;revert hpost
 cases hE:dH f p with
 | stuck=>intro hpost;exact False.elim hpost
 | ret v0 p0=>
  rintro⟨ov,a0,c0,pa0,pc0,rfl,hr0,hi0,hf0⟩;exact⟨rfl,PMo.ret' (dE HQ hE) hr0 (hi0.up2 HPI) hf0.lose⟩
 | fin e0 p0=>
  rintro⟨ov,rfl,hi0,hf0⟩;exact⟨rfl,PMo.fin' (dF HQ hE) (hi0.up2 HPI) hf0.lose⟩
 | ok u0 p1=>
 rintro⟨rfl,hi1,hf1⟩;have hQ2:=b_ok HQ hE;have HS1:Hid (p1.steps=p.steps+1):=cZ hE;have HPM:=ah (hi1.up2 HPI);replace HPI:=ah (hi1.less.up2 HPI);have HCB:Hid (c.bl.length≤p1.steps):=by
  have:=HC.bl;have:=HS1.out;show _≤_;omega
 replace HC:=ah (HC.on hi1);replace HF:=ah hf1.swap;clear hi1 hf1 hE HQ;obtain⟨x,l,hkl⟩:∃x l,n.kids=x::l:=by
  have e0:=HK.out;simp only[e0,Int.reduceEq,reduceIte,or_true,true_or,or_false,false_or,ite_true,ite_false] at hQ2;cases e1:n.kids with
  | nil=>rw[e1] at hQ2;exact absurd hQ2 HNE
  | cons x l=>exact⟨x,l,rfl⟩
 have e0:=HK.out;simp only[e0,hkl,Int.reduceEq,reduceIte,or_true,true_or,or_false,false_or,ite_true,ite_false] at hQ2;have HQ2:=ah hQ2;clear hQ2 e0;have hxk:n.kids[0]?=some x:=by rw[hkl];rfl
 have HXN:=ah (HSM.1 x (by rw[hkl];simp));have HKL:=ah hkl;clear hkl;obtain⟨g_x,o_x,a_x,c_x,cur_x,f_x,ha_x,hc1,hc2,hk_x,hf⟩:=HF.kidK 3 rfl 0 hxk;have HK_x:=ah hk_x;have hb_x:0<n.kids.length:=(List.getElem?_eq_some_iff.1 hxk).1;have hbi_x:((0:Nat):Int)<(n.kids.length:Int):=by omega
 replace HF:=hf;clear hf hk_x hc1;have hbj_x:(0:Int)<(n.kids.length:Int):=by omega
 clear hxk hc2;subst ha_x;simp only[Nat.zero_mul,Nat.add_zero] at HK_x;replace HF:=Fr.fr22 HF;have c_t3:=HF.cell 4 rfl;obtain⟨e0_x,e1_x,e2_x,e3_x⟩:=aC (o:=o_x) (HF.knc 3 rfl) HK_x;go_wp2_with fail;clear c_t3 e0_x e1_x e2_x e3_x;go_at_call 42;refine (ih HF HU HC HPM.here 0 rfl HXN.1 HXN.2 (b_no HQ2 HNE)).mono ?_;intro e w2 hpost;revert hpost
 cases hE:(evM f pg N).1 c x p1 with
 | stuck=>intro hpost;exact False.elim hpost
 | ret v0 p0=>
  rintro⟨ov,a0,c0,pa0,pc0,rfl,hr0,hi0,hf0⟩;exact⟨rfl,PMo.ret' (dE HQ2 hE) hr0 (hi0.up2 HPM).less hf0.lose⟩
 | fin e0 p0=>
  rintro⟨ov,rfl,hi0,hf0⟩;exact⟨rfl,PMo.fin' (dF HQ2 hE) (hi0.up2 HPM).less hf0.lose⟩
 | ok v p2=>
 rintro⟨ov1,a_v,c_v,pa_v,pc_v,rfl,hr,hi,hf⟩;have HQ3:=ah (b_ok HQ2 hE);replace HC:=ah (HC.on hi);have HPI2:=ah (hi.up2 HPM);obtain⟨oa,od,hov⟩:=hf.pmOut 1 rfl;have hol:p2.out.length≤16000:=by have:=(hi.up2 HPM).out;have:=(hi.up2 HPM).steps;have:=(hi.up2 HPM).f;omega
 replace hov:ov1=.slice oa p2.out.length od:=hov;subst hov;replace HF:=hf;clear hi hf hE HQ2 hr;replace HF:=aV HF w2.heap.size v.kind v.num a_v v.names.length c_v pa_v v.parts.length pc_v;replace HF:=Fr.fr12 HF;go_wp2_with fail;go_wp2;refine regK [19] HF (λ w h=>⟨(h.cmCell 0 rfl),(h.pmCell 1 rfl),(h.cell 2 rfl)⟩) (λ wd3 HF hC=>?_) (C:=λ w'=>(∀o,w'.cell? ⟨bc,o,none⟩=(#[ptr bp,k.n0,k.n1,k.n2,k.n3,k.sg,k.nu,.map (some k.m1),.map (some k.m2),k.bv,k.lv,k.wv]:Array Value)[o]?)∧(∀o,w'.cell? ⟨bp,o,none⟩=(#[.int .i64 0,.int .i32 0,(.slice oa p2.out.length od),.int .i64 p2.steps,q.uv,q.tv,q.ov,.int .i64 f,.bool false]:Array Value)[o]?)∧(∀o,w'.cell? ⟨w2.heap.size,o,none⟩=(#[.int .i64 v.kind,.int .i64 v.num,.slice a_v v.names.length c_v,.slice pa_v v.parts.length pc_v]:Array Value)[o]?));refine tq4 0 1 2 3 ?_;refine tq4 4 5 6 7 ?_;refine tq4 8 9 10 11 ?_;refine tq 12 ?_;refine rq 13 λ K hK=>?_;replace HF:=aV HF wd3.heap.size v.kind v.num a_v v.names.length c_v pa_v v.parts.length pc_v;go_simp;refine uq hK ⟨(HF.cmCell 1 rfl),(HF.pmCell 2 rfl),(HF.cell 3 rfl)⟩ λ hC=>?_;refine rq 14 λ K hK=>?_;go_simp;replace HF:=(HF.lay1 (E:=VaE) (z:=4) 0 rfl 4 rfl rfl).give 0 rfl;refine (words_any (vs:=[v]) HF (by simp)).mono ?_;rintro e w14 ⟨vv,rfl,HF⟩;refine uq hK ⟨(HF.cmCell 1 rfl),(HF.pmCell 2 rfl),(HF.cell 3 rfl)⟩ λ hC=>?_;refine rq 15 λ K hK=>?_;obtain⟨wa,wd,rfl,-,-⟩:=HF.elsForm 0 rfl;have hwl:([v].flatMap aQ).length≤2:=flat_len2 [v];have hF:=(HF.mv3).pmOpen;have hF:Fr B w14 (.blk bp (pmC (q.at (.slice oa p2.out.length od)) f p2 false) 42::.els I32E (.slice oa p2.out.length od) 21 1 p2.out::.els ThE q.tv 67 10 (pg.ts.zip p2.now)::.sl UiE q.uv 62 8 pg.us::.els I32E (.slice wa ([v].flatMap aQ).length wd) 21 1 ([v].flatMap aQ)::.cm bc bp k c::_):=hF;refine fR (by rfl) (Fr.elRows info21 underlying23 rfl (by decide) (by decide) i32_one hF 1 4 rfl rfl hol (by omega) _ _ rfl rfl rfl λ ad cap w15 hF=>?_);replace HF:=hF;clear hF;refine uq hK ⟨(HF.cmCell 5 rfl),(HF.cell 0 rfl),(HF.cell 6 rfl)⟩ λ hC=>?_;refine rq 16 λ K hK=>?_;go_simp;refine uq hK ⟨(HF.cmCell 5 rfl),(HF.cell 0 rfl),(HF.cell 6 rfl)⟩ λ hC=>?_;refine rq 17 λ K hK=>?_;go_simp;refine uq hK ⟨(HF.cmCell 5 rfl),(HF.cell 0 rfl),(HF.cell 6 rfl)⟩ λ hC=>?_;refine rq 18 λ K hK=>?_;go_simp;refine uq hK ⟨(HF.cmCell 5 rfl),(HF.cell 0 rfl),(HF.cell 6 rfl)⟩ λ hC=>?_;refine rqb 19 λ K hK=>?_;obtain⟨c_b,f_b⟩:=cf HF 0;have hF:=HF.set 0 rfl 2 (.slice ad (p2.out.length+([v].flatMap aQ).length) cap);have hout:[v].flatMap aQ=aQ v:=by simp
 have hF:Fr B _ (.pm bp (q.at (.slice ad (p2.out.length+([v].flatMap aQ).length) cap)) pg f { p2 with out:=p2.out++[v].flatMap aQ } false::.els I32E (.slice wa ([v].flatMap aQ).length wd) 21 1 ([v].flatMap aQ)::.cm bc bp k c::_):=Fr.pmShut hF;rw[hout] at hF;have HOL:Hid ((aQ v).length≤2):=by rw[← hout];exact hwl
 simp only[hout];go_simp;clear c_b f_b hout;replace HF:=hF;clear hF;refine ub hK ?_;refine dq ?_;go_wp2;go_end0
 have hpi:=HPI2.out;exact PMt.ok' HQ3 ⟨hpi.now,hpi.steps,hpi.f,by show (p2.out++aQ v).length+2*m≤_;rw[List.length_append];have:=HOL.out;have:=hpi.out;show _≤2*p2.steps;omega,hpi.from_⟩ HC (Fr.fr21 HF).lose
theorem mapsR_more {N M:Nat}(hM:N≤M):∀{em:List Nat} {bl:List NM} {A L:List Rs},Fr B w (A++(bH N em bl++L))→Fr B w (A++(bH M em bl++L))
 | [],_,A,L,h=>by cases ‹List NM›<;>exact h
 | _::_,[],A,L,h=>h
 | m::em,f::bl,A,L,h=>by
  have h1:Fr B w (A++(.mp zN VNat m N f::(bH N em bl++L))):=h;have h2:=h1.mpMore A.length (by rw[List.getElem?_append_right (Nat.le_refl _),Nat.sub_self];rfl) hM;rw[List.set_append_right _ _ (Nat.le_refl _),Nat.sub_self,List.set_cons_zero] at h2;have h3:Fr B w ((A++[.mp zN VNat m M f])++(bH N em bl++L)):=by simpa using h2
  have h4:=mapsR_more hM h3;have h5:Fr B w (A++(.mp zN VNat m M f::(bH M em bl++L))):=by simpa using h4
  exact h5
theorem Fr.topMap {d : Nat} {a : Option Addr} (h:Fr B w (.cm bc bp k c::L)) (hem:k.em=mq::em0) (hl:k.em.length=c.bl.length) (hbv:k.bv=.slice a c.bl.length d):∃g o,a=some ⟨g,o,none⟩∧w.cell? ⟨g,o+em0.length,none⟩=some (.map (some mq)):=by
 obtain⟨a',d',e,hM⟩:=h.blRow hl;rw[hbv] at e;have hlen:em0.length<k.em.reverse.length:=by rw[hem];simp
 obtain⟨g,o,e1,-,e2⟩:=hM em0.length hlen;have ea:a=a':=by injection e
 refine⟨g,o,ea.trans e1,e2.trans ?_⟩;have:k.em.reverse[em0.length]?=some mq:=by rw[hem,List.reverse_cons,List.getElem?_append_right (by simp)];simp
 rw[List.getElem?_eq_getElem hlen] at this;rw[Option.some.inj this]
theorem Fr.cmNamed {m1 : NM} {bl0 : List NM} (h:Fr B w (.cm bc bp k c::L)) (hem:k.em=mq::em0) (hbl:c.bl=m1::bl0) (s:ByteArray) (hs:s.size≤maxLen) (i:Nat) (hN:k.N<16000):
  ∃w',(Instr.mapUpdate 40 (.map (some mq)) (.string s) (.int .i64 (i:Int))).run prog w=.ok () w'∧Fr B w' (.cm bc bp { k with N:=k.N+1 } { c with bl:=putM m1 s i::bl0 }::L):=by
 have h1:Fr B w (.ve VNat (.int .i64 (i:Int)) i::.cm bc bp k c::L):=h.sure ⟨λ H=>VNat.p H (.int .i64 (i:Int)) i,λ H H' h hl=>h⟩ λ H=>rfl;have h2:=h1.swap.cmOpen;have e0:bH k.N k.em c.bl=.mp zN VNat mq k.N m1::bH k.N em0 bl0:=by rw[hem,hbl];rfl
 rw[e0] at h2;have hm:maxLen=9223372036854775807:=rfl;obtain⟨w',u1,u2,-⟩:=h2.mpPut 7 rfl 40 3 u40 s hs (by omega) (8+(bH k.N em0 bl0).length) (v:=.int .i64 (i:Int)) (x:=i) (by
  rw[List.getElem?_append_right (by simp;omega),List.getElem?_append_right (by simp;omega)];simp only[List.length_cons,List.length_nil];rw[show 8+(bH k.N em0 bl0).length - (0+1+1+1+1+1+1+1) - ((bH k.N em0 bl0).length+1)=0 by omega];rfl)
 refine⟨w',u1,?_⟩;have h3:Fr B w' ((cmK bc bp k c++[.mp zN VNat mq (k.N+1) (putM m1 s i)])++(bH k.N em0 bl0++(.ve VNat (.int .i64 (i:Int)) i::L))):=by simpa using u2
 have h4:=mapsR_more (Nat.le_succ k.N) h3;have h5:Fr B w' (cmK bc bp { k with N:=k.N+1 } { c with bl:=putM m1 s i::bl0 }++(bH (k.N+1) (mq::em0) (putM m1 s i::bl0)++(.ve VNat (.int .i64 (i:Int)) i::L))):=by
  have e1:c.bl.length=(putM m1 s i::bl0).length:=by rw[hbl];rfl
  show Fr B w' (.blk bc _ 76::.row k.bv 40 1 (putM m1 s i::bl0).length _::_);rw[← e1];exact h4
 have h6:=Fr.cmShut (k:={ k with N:=k.N+1 }) (c:={ c with bl:=putM m1 s i::bl0 }) (by
  show Fr B w' (cmK bc bp { k with N:=k.N+1 } { c with bl:=putM m1 s i::bl0 }++(bH (k.N+1) k.em (putM m1 s i::bl0)++_));rw[← hem] at h5;exact h5)
 exact h6.tail2
theorem putTop_some {x : ByteArray} {d : Cm} (h:putTop c x v=some d):∃m1 bl0,c.bl=m1::bl0∧d={ c with bl:=putM m1 x c.lo.length::bl0,lo:=c.lo++[v] }:=by
 unfold putTop at h;cases e:c.bl with
 | nil=>rw[e] at h;cases h
 | cons m1 bl0=>rw[e] at h;cases h;exact⟨m1,bl0,rfl,rfl⟩
theorem cells_lv {M : Nat} {v : Value} (h:k.lv=v) (hc:∀o,w.cell? ⟨bc,o,none⟩=(cmC bp { k with N:=M })[o]?):∀o,w.cell? ⟨bc,o,none⟩=(#[ptr bp,k.n0,k.n1,k.n2,k.n3,k.sg,k.nu,.map (some k.m1),.map (some k.m2),k.bv,v,k.wv]:Array Value)[o]?:=by
 subst h;exact hc
theorem set_last (l:List α) (a b:α):(l++[a]).set l.length b=l++[b]:=by
 rw[List.set_append_right _ _ (Nat.le_refl _),Nat.sub_self];rfl
theorem perm_mid3 (K M P L:List Rs):List.Perm (K++(M++(P++L))) (P++(K++(M++L))):=by
 have e1:K++(M++(P++L))=((K++M)++P)++L:=by simp only[List.append_assoc]
 have e2:P++(K++(M++L))=(P++(K++M))++L:=by simp only[List.append_assoc]
 rw[e1,e2];exact List.Perm.append_right L List.perm_append_comm
theorem Fr.cmOpenP (P:List Rs) (h:Fr B w (P++.cm bc bp k c::L)):Fr B w (P++(cmK bc bp k c++(bH k.N k.em c.bl++L))):=
 (h.perm (List.perm_middle (l₁:=P) (l₂:=L) (a:=.cm bc bp k c))).cmOpen.perm (perm_mid3 _ _ P L)
theorem Fr.cmShutP (P:List Rs) (h:Fr B w (P++(cmK bc bp k c++(bH k.N k.em c.bl++L)))):Fr B w (P++.cm bc bp k c::L):=
 (Fr.cmShut (h.perm (perm_mid3 _ _ P L).symm)).perm (List.perm_middle (l₁:=P) (l₂:=L) (a:=.cm bc bp k c)).symm
theorem top_at {g o l : Nat} (h:∃g' o',(some ⟨g,o,none⟩:Option Addr)=some ⟨g',o',none⟩∧w.cell? ⟨g',o'+l,none⟩=some (.map (some mq))):w.cell? ⟨g,o+l,none⟩=some (.map (some mq)):=by
 obtain⟨g',o',e1,e2⟩:=h;cases e1;exact e2
theorem mstat_14 (ih:ExprH f pg N) (ihs:StatH f pg N) (h:Fr B w (.cm bc bp k c::.pm bp q pg f p false::L)) (hu:UnI c.u) (hc:CI k c p.steps) (hp:PI pg f m n0 p) (i:Nat) (hi:L[i]?=some (.el NdE (ndc n.kind n.text n.num a_n n.kids.length c_n) n)) (hn:Nk n) (hs:sz n≤700) {Q : O Cm} (hQ:Q=cB f (N+1) (evM f pg N).1 (evM f pg N).2 c n p) (hne:Q≠.stuck) (hk:n.kind=14):Calls prog 32 #[ptr bc,.agg #[.int .i64 n.kind,.string n.text,.int .i64 n.num,.slice a_n n.kids.length c_n]] w (PMt Q B bc bp k q pg f m n0 L):=by
 unfold cB at hQ;have e14:=hk;have HQ:=ah hQ;have HNE:=ah hne;have HPI:=ah hp;have HC:=ah hc;have HU:=ah hu;have HSM:=ah (aS hn hs);have HTX:=ah hn.text;have hkn:=(aS hn hs).2;have HK:=ah hk;have HF:=ah (h.dup (i+2) hi).fr12;have q14:(n.kind == 14)=true:=by rw[hk];decide
 clear e14;clear h hp hne hi hc hu hn hQ hk;go_enter func32,ntmps32;replace HF:=aM HF w.heap.size n a_n c_n;replace HF:=Fr.fr12 HF;have c_cm:=HF.cmCell 0 rfl;have f_cm:=HF.cmFrz 0 rfl;clear f_cm;go_wp2_with fail;clear c_cm;replace HF:=ah HF.swap;go_at_call 41;refine (eV HF HPI.here).mono ?_;intro e w1 hpost;revert hpost
 cases hE:dH f p with
 | stuck=>intro hpost;exact False.elim hpost
 | ret v0 p0=>
  rintro⟨ov,a0,c0,pa0,pc0,rfl,hr0,hi0,hf0⟩;exact⟨rfl,PMo.ret' (dE HQ hE) hr0 (hi0.up2 HPI) hf0.lose⟩
 | fin e0 p0=>
  rintro⟨ov,rfl,hi0,hf0⟩;exact⟨rfl,PMo.fin' (dF HQ hE) (hi0.up2 HPI) hf0.lose⟩
 | ok u0 p1=>
 rintro⟨rfl,hi1,hf1⟩;have hQ2:=b_ok HQ hE;have HS1:Hid (p1.steps=p.steps+1):=cZ hE;have HPM:=ah (hi1.up2 HPI);replace HPI:=ah (hi1.less.up2 HPI);have HCB:Hid (c.bl.length≤p1.steps):=by
  have:=HC.bl;have:=HS1.out;show _≤_;omega
 replace HC:=ah (HC.on hi1);replace HF:=ah hf1.swap;clear hi1 hf1 hE HQ;obtain⟨x,y,l,hkl⟩:∃x y l,n.kids=x::y::l:=by
  have e0:=HK.out;simp only[e0,Int.reduceEq,reduceIte,or_true,true_or,or_false,false_or,ite_true,ite_false] at hQ2;cases e1:n.kids with
  | nil=>rw[e1] at hQ2;exact absurd hQ2 HNE
  | cons x l=>
   cases l with
   | nil=>rw[e1] at hQ2;exact absurd hQ2 HNE
   | cons y l=>exact⟨x,y,l,rfl⟩
 have e0:=HK.out;simp only[e0,hkl,Int.reduceEq,reduceIte,or_true,true_or,or_false,false_or,ite_true,ite_false] at hQ2;have HQ2:=ah hQ2;clear hQ2 e0;have hxk:n.kids[0]?=some x:=by rw[hkl];rfl
 have HXN:=ah (HSM.1 x (by rw[hkl];simp));have hyk:n.kids[1]?=some y:=by rw[hkl];rfl
 have HYN:=ah (HSM.1 y (by rw[hkl];simp));have HKL:=ah hkl;clear hkl;obtain⟨g_x,o_x,a_x,c_x,cur_x,f_x,ha_x,hc1,hc2,hk_x,hf⟩:=HF.kidK 3 rfl 0 hxk;have HK_x:=ah hk_x;have hb_x:0<n.kids.length:=(List.getElem?_eq_some_iff.1 hxk).1;have hbi_x:((0:Nat):Int)<(n.kids.length:Int):=by omega
 replace HF:=hf;clear hf hk_x hc1;have hbj_x:(0:Int)<(n.kids.length:Int):=by omega
 clear hxk hc2;subst ha_x;simp only[Nat.zero_mul,Nat.add_zero] at HK_x;obtain⟨g_y,o_y,a_y,c_y,cur_y,f_y,ha_y,hc1,hc2,hk_y,hf⟩:=HF.kidK 5 rfl 1 hyk;have HK_y:=ah hk_y;have hb_y:1<n.kids.length:=(List.getElem?_eq_some_iff.1 hyk).1;have hbi_y:((1:Nat):Int)<(n.kids.length:Int):=by omega
 replace HF:=hf;clear hf hk_y hc1;have hbj_y:(1:Int)<(n.kids.length:Int):=by omega
 clear hyk hc2;cases ha_y;simp only[Nat.one_mul] at HK_y;replace HF:=Fr.fr42 HF;have c_t3:=HF.cell 6 rfl;obtain⟨e0_y,e1_y,e2_y,e3_y⟩:=aC (o:=o_x+4) (HF.knc 3 rfl) HK_y;go_wp2_with fail;clear c_t3 e0_y e1_y e2_y e3_y;go_at_call 42;refine (ih HF HU HC HPI.here 0 rfl HYN.1 HYN.2 (b_no HQ2 HNE)).mono ?_;intro e w2 hpost;revert hpost
 cases hE:(evM f pg N).1 c y p1 with
 | stuck=>intro hpost;exact False.elim hpost
 | ret v0 p0=>
  rintro⟨ov,a0,c0,pa0,pc0,rfl,hr0,hi0,hf0⟩;exact⟨rfl,PMo.ret' (dE HQ2 hE) hr0 (hi0.up2 HPI) hf0.lose⟩
 | fin e0 p0=>
  rintro⟨ov,rfl,hi0,hf0⟩;exact⟨rfl,PMo.fin' (dF HQ2 hE) (hi0.up2 HPI) hf0.lose⟩
 | ok v p2=>
 rintro⟨ov1,a_v,c_v,pa_v,pc_v,rfl,hr,hi,hf⟩;have hq9:=b_ok HQ2 hE;obtain⟨d,hd,hQ3⟩:=of_ok hq9 HNE;obtain⟨m1,bl0,hbl0,rfl⟩:=putTop_some hd;have HQ3:=ah hQ3;have HSTR:=ah (ev_strict HPI.steps hE);have HC0:=HC;replace HC:=ah (HC.on hi);replace HPI:=ah (hi.up2 HPI);have HBL0:=ah hbl0;obtain⟨mq,em0,hem⟩:∃mq em0,k.em=mq::em0:=by
  have:=HC.em;rw[hbl0] at this;cases e:k.em with
  | nil=>rw[e] at this;simp at this
  | cons a b=>exact⟨a,b,rfl⟩
 have HEM:=ah hem;obtain⟨ba,bd,hbv0,hbd⟩:=row_form (hf.cmOpen.rowAt 1 rfl);obtain⟨gb,ob,rfl,-⟩:=hf.topMap hem HC.em hbv0;have HBV:=ah hbv0;obtain⟨la,ld,hlv,hl1,hl2⟩:=hf.cmEls 0 rfl;have HLV:=ah hlv;have hbe:Hid (em0.length+1=c.bl.length):=by
  have:=HC.em;rw[hem] at this;exact this
 have hln:c.lo.length≤16000:=by have:=HC.lo;have:=HC.n;omega
 have hbn:em0.length≤2001:=by have:=HC.bl;have:=HC.n;have:=hbe.out;omega
 have HWR:True:=trivial;have hwr:IntKind.i64.wrap (em0.length:Int)=(em0.length:Int):=by rw[IntKind.wrap_i64];omega
 have hwi:(0:Int)≤(em0.length:Int)∧(em0.length:Int)<(em0.length:Int)+1:=by omega
 have HBW:Hid (k.bv=.slice (some ⟨gb,ob,none⟩) (em0.length+1) bd):=ah (by rw[hbv0,← hbe.out]);have hxm:n.text.size≤maxLen:=Nat.le_trans HTX (by decide:4000≤maxLen);replace HF:=hf;clear hi hf hE HQ2 hr hd hQ3 hq9 hbl0 hem hbv0 hlv;replace HF:=aV HF w2.heap.size v.kind v.num a_v v.names.length c_v pa_v v.parts.length pc_v;replace HF:=Fr.fr12 HF;go_wp2_with fail;go_wp2;refine regK [19] HF (λ w h=>⟨(HBW.out ▸ HLV.out ▸ h.cmCell 0 rfl),(h.cell 8 rfl),(top_at (h.topMap HEM HC.em HBV))⟩) (λ wd3 HF hC=>?_) (C:=λ w'=>(∀o,w'.cell? ⟨bc,o,none⟩=(#[ptr bp,k.n0,k.n1,k.n2,k.n3,k.sg,k.nu,.map (some k.m1),.map (some k.m2),(.slice (some ⟨gb,ob,none⟩) (em0.length+1) bd),(.slice la c.lo.length ld),k.wv]:Array Value)[o]?)∧(∀o,w'.cell? ⟨w.heap.size,o,none⟩=(#[.int .i64 n.kind,.string n.text,.int .i64 n.num,.slice (some ⟨g_x,o_x,none⟩) n.kids.length c_n]:Array Value)[o]?)∧(w'.cell? ⟨gb,ob+em0.length,none⟩=some (.map (some mq))));refine tq4 0 1 2 3 ?_;refine tq4 4 5 6 7 ?_;refine tq4 8 9 10 11 ?_;refine tq4 12 13 14 15 ?_;refine tq3 16 17 18 ?_;refine rqb 19 λ K hK=>?_;obtain⟨w6,hup,hf6⟩:=HF.cmNamed HEM HBL0 n.text hxm c.lo.length (by have:=HC.N;have:=HC.n;omega);go_simp;replace HF:=hf6;clear hf6 hup;refine ub hK ?_;refine dq ?_;go_wp2_with fail;go_wp2;refine regK [7,8,9,10,11,12] HF (λ w h=>⟨(cells_lv HLV (h.cmCell 0 rfl)),(h.cell 2 rfl)⟩) (λ wd4 HF hC=>?_) (C:=λ w'=>(∀o,w'.cell? ⟨bc,o,none⟩=(#[ptr bp,k.n0,k.n1,k.n2,k.n3,k.sg,k.nu,.map (some k.m1),.map (some k.m2),k.bv,(.slice la c.lo.length ld),k.wv]:Array Value)[o]?)∧(∀o,w'.cell? ⟨w2.heap.size,o,none⟩=(#[.int .i64 v.kind,.int .i64 v.num,.slice a_v v.names.length c_v,.slice pa_v v.parts.length pc_v]:Array Value)[o]?));refine tq4 0 1 2 3 ?_;refine tq2 4 5 ?_;refine rq 6 λ K hK=>?_;replace HF:=ax HF wd4.heap.size vz 48;go_simp;refine uq hK ⟨(cells_lv HLV (HF.cmCell 1 rfl)),(HF.cell 3 rfl)⟩ λ hC=>?_;refine rqb 7 λ K hK=>?_;have hd:=(HF.dup 4 rfl).vaBare 0 0 (by decide) (by decide);have hd2:Fr B _ (.blk wd4.heap.size vz 48::.el VaE (vac 0 0 none 0 0 none 0 0) vZ::.el VaE [.int .i64 v.kind,.int .i64 v.num,.slice a_v v.names.length c_v,.slice pa_v v.parts.length pc_v] v::.cm bc bp { k with N:=k.N+1 } { c with bl:=putM m1 n.text c.lo.length::bl0 }::_):=hd.perm ((List.Perm.cons _ (List.Perm.swap _ _ _)).trans (List.Perm.swap _ _ _));have hF:=Fr.cmOpenP [_,_,_] hd2;clear hd hd2;refine fR (by rfl) (Fr.elApp info48 underlying46 rfl (by decide) (by decide) hF 4 (by rw[← HLV.out];rfl) hln 0 rfl _ _ rfl rfl (by rfl) rfl (by rfl) λ g7 cap7 w7 hF hgr=>?_);clear hgr;replace HF:=hF;clear hF;clear hwr hwi;refine ub hK ?_;try simp only[qq]
 have hli:(0:Int)≤(c.lo.length:Int)∧(c.lo.length:Int)<(c.lo.length:Int)+1:=by omega
 refine tqP 8 ?_;refine tqP 10 ?_;refine tqP 11 ?_;refine rq2b 9 12 (λ K hK=>?_) λ K hK=>?_
 ·obtain⟨g9,e9,-,hfz,d9,hd9,hc9,-⟩:=HF.elsGet 4 rfl c.lo.length (by simp);cases e9;have e0:=hc9 0 (by omega);have e1:=hc9 1 (by omega);have e2:=hc9 2 (by omega);have e3:=hc9 3 (by omega);obtain⟨z0,z1,z2,z3,rfl⟩:∃z0 z1 z2 z3,d9=[z0,z1,z2,z3]:=by
   match d9,hd9 with
   | [z0,z1,z2,z3],_=>exact⟨z0,z1,z2,z3,rfl⟩
  simp only[Nat.add_zero,List.getElem?_cons_zero,List.getElem?_cons_succ] at e0 e1 e2 e3;have hF:=HF.putD (F:=VaE) 4 rfl c.lo.length (by simp) 0 (by omega) (x:=v) 1 rfl (λ H cs e1 _ e3=>by
   match cs,e1 with
   | [d0,d1,d2,d3],_=>exact e3) (o:=c.lo.length*4) rfl rfl rfl rfl
  rw[set_last] at hF;clear hc9 hd9;go_simp;clear e0 e1 e2 e3 hfz;replace HF:=hF;clear hF;refine ub hK ?_;refine rqb 12 λ K hK=>?_;obtain⟨c_b,f_b⟩:=cf HF 2;have hF:=HF.set 2 rfl 10 (.slice (some ⟨g7,0,none⟩) (c.lo.length+1) cap7);go_simp;clear c_b f_b;replace HF:=hF;clear hF;refine ub hK ?_;refine dq ?_;go_wp2;have hlen:(c.lo++[v]).length=c.lo.length+1:=by simp
  have hF:Fr B _ ([.el VaE (vac 0 0 none 0 0 none 0 0) vZ,.el VaE [.int .i64 v.kind,.int .i64 v.num,.slice a_v v.names.length c_v,.slice pa_v v.parts.length pc_v] v]++(cmK bc bp { k with N:=k.N+1,lv:=.slice (some ⟨g7,0,none⟩) (c.lo.length+1) cap7 } { c with bl:=putM m1 n.text c.lo.length::bl0,lo:=c.lo++[v] }++(bH (k.N+1) k.em (putM m1 n.text c.lo.length::bl0)++_))):=HF;have hF:=Fr.cmShutP (k:={ k with N:=k.N+1,lv:=.slice (some ⟨g7,0,none⟩) (c.lo.length+1) cap7 }) (c:={ c with bl:=putM m1 n.text c.lo.length::bl0,lo:=c.lo++[v] }) [_,_] hF;go_end0
  have hpi:=HPI.out;have hst:=HSTR.out;have hc0:=HC0.out;refine PMo.ok' HQ3 ⟨ov1,{ k with N:=k.N+1,lv:=.slice (some ⟨g7,0,none⟩) (c.lo.length+1) cap7 },rfl,hpi,⟨?_,?_,?_,?_,?_,hc0.un⟩,rfl,rfl,(Fr.fr22 hF).lose⟩
  ·exact (HC.em).trans (by rw[HBL0.out];rfl)
  ·show k.N+1≤700+_;have:=hc0.N;omega
  ·show (c.lo++[v]).length≤700+_;rw[hlen];have:=hc0.lo;omega
  ·show (putM m1 n.text c.lo.length::bl0).length≤_+1;have h1:=hc0.bl;rw[HBL0.out] at h1;simp only[List.length_cons] at h1 ⊢;omega
  exact HC.n
 obtain⟨c_b,f_b⟩:=cf HF 2;have hF:=HF.set 2 rfl 10 (.slice (some ⟨g7,0,none⟩) (c.lo.length+1) cap7);go_simp;clear c_b f_b;replace HF:=hF;clear hF;refine ub hK ?_;refine rqb 9 λ K hK=>?_;obtain⟨g9,e9,-,hfz,d9,hd9,hc9,-⟩:=HF.elsGet 4 rfl c.lo.length (by simp);cases e9;have e0:=hc9 0 (by omega);have e1:=hc9 1 (by omega);have e2:=hc9 2 (by omega);have e3:=hc9 3 (by omega);obtain⟨z0,z1,z2,z3,rfl⟩:∃z0 z1 z2 z3,d9=[z0,z1,z2,z3]:=by
  match d9,hd9 with
  | [z0,z1,z2,z3],_=>exact⟨z0,z1,z2,z3,rfl⟩
 simp only[Nat.add_zero,List.getElem?_cons_zero,List.getElem?_cons_succ] at e0 e1 e2 e3;have hF:=HF.putD (F:=VaE) 4 rfl c.lo.length (by simp) 0 (by omega) (x:=v) 1 rfl (λ H cs e1 _ e3=>by
  match cs,e1 with
  | [d0,d1,d2,d3],_=>exact e3) (o:=c.lo.length*4) rfl rfl rfl rfl
 rw[set_last] at hF;clear hc9 hd9;go_simp;clear e0 e1 e2 e3 hfz;replace HF:=hF;clear hF;refine ub hK ?_;refine dq ?_;go_wp2;have hlen:(c.lo++[v]).length=c.lo.length+1:=by simp
 have hF:Fr B _ ([.el VaE (vac 0 0 none 0 0 none 0 0) vZ,.el VaE [.int .i64 v.kind,.int .i64 v.num,.slice a_v v.names.length c_v,.slice pa_v v.parts.length pc_v] v]++(cmK bc bp { k with N:=k.N+1,lv:=.slice (some ⟨g7,0,none⟩) (c.lo.length+1) cap7 } { c with bl:=putM m1 n.text c.lo.length::bl0,lo:=c.lo++[v] }++(bH (k.N+1) k.em (putM m1 n.text c.lo.length::bl0)++_))):=HF;have hF:=Fr.cmShutP (k:={ k with N:=k.N+1,lv:=.slice (some ⟨g7,0,none⟩) (c.lo.length+1) cap7 }) (c:={ c with bl:=putM m1 n.text c.lo.length::bl0,lo:=c.lo++[v] }) [_,_] hF;go_end0
 have hpi:=HPI.out;have hst:=HSTR.out;have hc0:=HC0.out;refine PMo.ok' HQ3 ⟨ov1,{ k with N:=k.N+1,lv:=.slice (some ⟨g7,0,none⟩) (c.lo.length+1) cap7 },rfl,hpi,⟨?_,?_,?_,?_,?_,hc0.un⟩,rfl,rfl,(Fr.fr22 hF).lose⟩
 ·exact (HC.em).trans (by rw[HBL0.out];rfl)
 ·show k.N+1≤700+_;have:=hc0.N;omega
 ·show (c.lo++[v]).length≤700+_;rw[hlen];have:=hc0.lo;omega
 ·show (putM m1 n.text c.lo.length::bl0).length≤_+1;have h1:=hc0.bl;rw[HBL0.out] at h1;simp only[List.length_cons] at h1 ⊢;omega
 exact HC.n
theorem stat_step_ok (ih:ExprH f pg N) (ihs:StatH f pg N):StatH f pg (N+1):=by
 intro B w L bc bp k c q m n0 p n a_n c_n h hu hc hp i hi hn hs hne;by_cases k14:n.kind=14
 ·exact mstat_14 ih ihs h hu hc hp i hi hn hs rfl hne k14
 by_cases k15:n.kind=15
 ·exact mstat_15 ih ihs h hu hc hp i hi hn hs rfl hne k15
 by_cases k16:n.kind=16
 ·exact mstat_16 ih ihs h hu hc hp i hi hn hs rfl hne k16
 by_cases k17:n.kind=17
 ·exact mstat_17 ih ihs h hu hc hp i hi hn hs rfl hne k17
 by_cases k19:n.kind=19
 ·exact mstat_19 ih ihs h hu hc hp i hi hn hs rfl hne k19
 by_cases k20:n.kind=20
 ·exact mstat_20 ih ihs h hu hc hp i hi hn hs rfl hne k20
 by_cases k18:n.kind=18
 ·exact mstat_18 ih ihs h hu hc hp i hi hn hs rfl hne k18
 exact mstat_else ih ihs h hu hc hp i hi hn hs rfl hne (by omega)
theorem hand_over (qp qr bp:Nat) (x0 x1 x2 x3 x4 x5 x6 x7:Value) (es:List PanicEntry) (w:World) (hq:w.heap[qp]?=some (.cells #[ptr bp] 35 (0,0))) (hb:w.heap[bp]?=some (.cells #[x0,x1,x2,x3,x4,x5,x6,x7,.bool true] 42 (0,0))):
  CallsD prog 22 #[.pointer (some ⟨qp,0,none⟩),.pointer (some ⟨qr,0,none⟩)] (.panicking es) w λ e u' w'=>e=.returned (.tuple #[])∧u'=.panicking es∧w'=w:=by
 have hcc:=aA hq;have hcb:=aA hb;refine callsD_of_wpS func22 rfl λ c₀ cs hu=>?_;apply wpS_seq
 refine wpS_of_wp ?_;change Code.wp _ _ _ ⟨#[.pointer (some ⟨qp,0,none⟩),.pointer (some ⟨qr,0,none⟩),undef,undef,undef,undef,undef,undef,undef,undef,undef,undef,undef,undef,undef,undef],[]⟩ _;go_wp2;cases c₀;simp_all [Exit.thenS,bodyPostS,results,results22]
theorem hand_ret (qp qr bp:Nat) (x0 x1 x2 x3 x4 x5 x6 x7:Value) (ka kb:Int) (pa pb:Option Addr) (na nb ca cb:Nat) (r0 r1 r2 r3:Value) (older:List PanicEntry) (w:World) (hq:w.heap[qp]?=some (.cells #[ptr bp] 35 (0,0))) (hb:w.heap[bp]?=some (.cells #[x0,x1,x2,x3,x4,x5,x6,x7,.bool false] 42 (0,0))) (hr:w.heap[qr]?=some (.cells #[r0,r1,r2,r3] 48 (0,0))):
  CallsD prog 22 #[.pointer (some ⟨qp,0,none⟩),.pointer (some ⟨qr,0,none⟩)] (.panicking ({ v:=.iface 69 (.agg #[.int .i64 ka,.int .i64 kb,.slice pa na ca,.slice pb nb cb]),recovered:=false }::older)) w λ e u' w'=>
   e=.returned (.tuple #[])∧u'=.panicking ({ v:=.iface 69 (.agg #[.int .i64 ka,.int .i64 kb,.slice pa na ca,.slice pb nb cb]),recovered:=true }::older)∧w'=((((w.setCell ⟨qr,0,none⟩ (.int .i64 ka)).setCell ⟨qr,1,none⟩ (.int .i64 kb)).setCell ⟨qr,2,none⟩ (.slice pa na ca)).setCell ⟨qr,3,none⟩ (.slice pb nb cb)).alloc (.cells #[.int .i64 ka,.int .i64 kb,.slice pa na ca,.slice pb nb cb] 69):=by
 have hta:∀(w:World),(Instr.typeAssert (.iface 69 (.agg #[.int .i64 ka,.int .i64 kb,.slice pa na ca,.slice pb nb cb])) 20 69 true).run prog w=.ok (.tuple #[.agg #[.int .i64 ka,.int .i64 kb,.slice pa na ca,.slice pb nb cb],.bool true]) w:=λ_=>by kernel_rfl
 have hst:((store ⟨w.heap.size,0,none⟩ (.int .i64 ka)).run prog (w.alloc (.cells #[.int .i64 0,.int .i64 0,.slice none 0 0,.slice none 0 0] 69))).andThen (λ_ w'=>((store ⟨w.heap.size,1,none⟩ (.int .i64 kb)).run prog w').andThen λ_ w'=>((store ⟨w.heap.size,2,none⟩ (.slice pa na ca)).run prog w').andThen λ_ w'=>(store ⟨w.heap.size,3,none⟩ (.slice pb nb cb)).run prog w')=.ok () (w.alloc (.cells #[.int .i64 ka,.int .i64 kb,.slice pa na ca,.slice pb nb cb] 69)):=by
  simp [go_sem]
 have hcc:=aA hq;have hcb:=aA hb;have hlt:=(Array.getElem?_eq_some_iff.1 hr).1;have hr1:(w.alloc (.cells #[.int .i64 ka,.int .i64 kb,.slice pa na ca,.slice pb nb cb] 69)).heap[qr]?=some (.cells #[r0,r1,r2,r3] 48 (0,0)):=(Below.heap_alloc _ _ _ hlt).trans hr;have hcr:=aA hr1;have hfr:=aX hr1;have hcr0:=aA hr;have hfr0:=aX hr;have hne:qr≠w.heap.size:=by omega
 refine callsD_of_wpS func22 rfl λ c₀ cs hu=>?_;apply wpS_seq
 refine wpS_of_wp ?_;change Code.wp _ _ _ ⟨#[.pointer (some ⟨qp,0,none⟩),.pointer (some ⟨qr,0,none⟩),undef,undef,undef,undef,undef,undef,undef,undef,undef,undef,undef,undef,undef,undef],[]⟩ _;go_wp2;show Code.wpS _ _ _ _ _ _;apply wpS_seq
 apply wpS_region
 simp [wpOpsS,go_sem,recoverD,hu,hta,hst,Exit.thenS];refine wpS_of_wp ?_;change Code.wp _ _ _ ⟨#[.pointer (some ⟨qp,0,none⟩),.pointer (some ⟨qr,0,none⟩),_,_,_,_,_,_,_,_,_,_,_,_,_,_],[]⟩ _;go_wp2;simp [bodyPostS,results,results22]
end Go.Proofs.YtdnhbedbpbgeeaaGreatDoor.K
