/- 10 -/
import Derived.Test.YtdnhbedbpbgeeaaGreatDoorMAj
set_option maxRecDepth 100000
set_option maxHeartbeats 2000000
set_option linter.all false
namespace Go.Proofs.YtdnhbedbpbgeeaaGreatDoor.K
open Go.RowKit Go.Proofs.Tryz
variable {ts : List T.Ty} {ka va : Option Addr} {pg : Pg} {b f bp kc vn vc by' m n0 o1 o2 o3 o4 : Nat} {n : Nd} {c : Cm} {xs : List Value} {zv ov u : Value} {w : World} {v : Va} {t : TypeId}
variable {B : Bs} {w' : World} {L : List Rs} {p : CP} {s : Cs}
section
variable (h:Fr B w (.cs b p s::L)) (i:Nat) {kn : Nat} (hi:L[i]?=some (.sl TyE (.slice va vn vc) 83 5 ts)) (hm:∀t,t∈ts→may t=true) (tx:ByteArray) (nm:Int) (kids:List Nd) (hx:tx.size≤maxLen)
include h kn hi hm nm kids hx
theorem value_25 (hn:1≤ts.length) (hal:ts.tail.length≤16000) (at_:Nat):Calls prog 71 #[ptr b,.agg #[.int .i64 25,.string tx,.int .i64 nm,.slice ka kn kc],.int .i64 at_,.slice va vn vc] w (PTz (bB s (.mk 25 tx nm kids) at_ ts) B b p s L):=by
 have HF:=ah (h.slDup (i+1) hi).swap;obtain⟨_,_,e1,-,-⟩:=h.slForm (i+1) hi;cases e1;clear h hi;obtain⟨g1,o1,cur1,f1,nm_u,a_u,c_u,pa_u,pc_u,hva,-,hle,hmx,hcu,hf⟩:=HF.slTy 1 rfl 0 (by omega);subst hva;replace HF:=hf.perm (List.perm_middle (l₁:=[_,_]));have hn0:0<ts.length:=by omega
 have HV:Hid (arg ts 0=ts[0]'(by omega)):=fC _;have hmu:=hm _ (List.getElem_mem (show 0<ts.length by omega));simp only[Nat.zero_mul,Nat.add_zero] at hcu;clear hf;obtain⟨u0,ts0,hts⟩:∃u0 ts0,ts=u0::ts0:=by
  cases ts with
  | nil=>simp at hn
  | cons u0 ts0=>exact⟨u0,ts0,rfl⟩
 subst hts;simp only[List.getElem_cons_zero] at HV HF hcu hmu;have HU:=ah hmu;go_enter func71,ntmps71;replace HF:=yN HF w.heap.size 25 tx nm ka kn kc;replace HF:=bx HF (w.heap.size+1) tyz 83;replace HF:=yT HF (w.heap.size+1+1) 1 eB none 0 0 none 0 0 false;replace HF:=yT HF (w.heap.size+1+1+1) 2 eB none 0 0 none 0 0 false;have HE:Hid (bB s (.mk 25 tx nm kids) at_ (u0::ts0)=resultC at_ u0 ts0):=rfl;by_cases hc:vc=1
 ·subst hc;obtain rfl:ts0=[]:=List.eq_nil_of_length_eq_zero (by simp only[List.length_cons] at hle;omega);have h2:=HF.slTail 7 rfl;simp only[if_true,List.length_cons,List.length_nil,Nat.zero_add,Nat.sub_self] at h2;replace HF:=ah h2.swap;clear h2;go_wp2;refine regK [7] HF (λ w h=>aI (h.cell 5 rfl) (bK (h.knc 7 rfl) hcu)) (λ wd1 HF hC=>?_);refine tq4 0 1 2 3 ?_;refine tq2 4 5 ?_;refine rq 6 λ K hK=>?_;go_simp;refine (result108 HF 6 1 rfl rfl HU hal at_).mono ?_;rintro e w2 (⟨c1,p1,h3,rfl,hf⟩|⟨t,nm_t,a_t,c_t,pa_t,pc_t,h3,hmt,rfl,hf⟩)
  ·exact⟨rfl,PTz.no (HE.trans h3) hf.lose⟩
  have H3:=ah (HE.trans h3);replace HF:=ah hf.swap;clear h3 hf;refine uq hK ⟨(HF.cell 6 rfl),(bK (HF.knc 8 rfl) hcu)⟩ λ hC=>?_;refine rqb 7 λ K hK=>?_;obtain⟨c_res,f_res⟩:=cf HF 5;replace HF:=sT HF 5 (tyk t) nm_t a_t (tnn t) c_t pa_t (tpn t) pc_t (tmy t);go_simp;refine ub hK ?_;refine dq ?_;go_wp2;refine br (rt83 results71 rfl (HF.blkAt 5 rfl)) ?_;exact PTz.yes H3 hmt HF.lose
 have h2:=HF.slTail 7 rfl;rw[if_neg hc] at h2;have h1l:(1:Int)≤(ts0.length:Int)+1:=by omega
 simp only[List.length_cons,Nat.add_sub_cancel,Option.map_some,Addr.add,Nat.one_mul] at h2;replace HF:=ah h2.swap;clear h2;go_wp2;refine regK [7] HF (λ w h=>aI (h.cell 5 rfl) (bK (h.knc 7 rfl) hcu)) (λ wd1 HF hC=>?_);refine tq4 0 1 2 3 ?_;refine tq2 4 5 ?_;refine rq 6 λ K hK=>?_;go_simp;refine (result108 HF 6 1 rfl rfl HU hal at_).mono ?_;rintro e w2 (⟨c1,p1,h3,rfl,hf⟩|⟨t,nm_t,a_t,c_t,pa_t,pc_t,h3,hmt,rfl,hf⟩)
 ·exact⟨rfl,PTz.no (HE.trans h3) hf.lose⟩
 have H3:=ah (HE.trans h3);replace HF:=ah hf.swap;clear h3 hf;refine uq hK ⟨(HF.cell 6 rfl),(bK (HF.knc 8 rfl) hcu)⟩ λ hC=>?_;refine rqb 7 λ K hK=>?_;obtain⟨c_res,f_res⟩:=cf HF 5;replace HF:=sT HF 5 (tyk t) nm_t a_t (tnn t) c_t pa_t (tpn t) pc_t (tmy t);go_simp;refine ub hK ?_;refine dq ?_;go_wp2;refine br (rt83 results71 rfl (HF.blkAt 5 rfl)) ?_;exact PTz.yes H3 hmt HF.lose
theorem value_26 (at_:Nat):Calls prog 71 #[ptr b,.agg #[.int .i64 26,.string tx,.int .i64 nm,.slice ka kn kc],.int .i64 at_,.slice va vn vc] w (PTz (bB s (.mk 26 tx nm kids) at_ ts) B b p s L):=by
 have HF:=ah (h.slDup (i+1) hi).swap;obtain⟨_,_,e1,-,-⟩:=h.slForm (i+1) hi;cases e1;clear h hi;go_enter func71,ntmps71;replace HF:=yN HF w.heap.size 26 tx nm ka kn kc;replace HF:=bx HF (w.heap.size+1) tyz 83;replace HF:=yT HF (w.heap.size+1+1) 1 eB none 0 0 none 0 0 false;replace HF:=yT HF (w.heap.size+1+1+1) 2 eB none 0 0 none 0 0 false;have HE:Hid (bB s (.mk 26 tx nm kids) at_ ts=(match s.de tx with|some p=>askC p.2 4 at_ (.ok p.1)|none=>.no 4 at_)):=rfl;go_wp2;refine regK [8] HF (λ w h=>⟨h.csCell,(h.cell 4 rfl)⟩) (λ wd1 HF hC=>?_) (C:=λ w'=>(∀o,w'.cell? ⟨b,o,none⟩=(#[p.n0,p.n1,p.n2,p.n3,p.r0,p.r1,p.r2,p.r3,p.r4,.bool s.many,p.bv,.int .i64 s.wo,p.kv,.map (some p.sm),.map (some p.dm)]:Array Value)[o]?)∧(∀o,w'.cell? ⟨w.heap.size,o,none⟩=(#[.int .i64 26,.string tx,.int .i64 nm,.slice ka kn kc]:Array Value)[o]?));refine tq4 0 1 2 3 ?_;refine tq2 4 5 ?_;obtain⟨⟨m,mb⟩,nm_m,a_m,c_m,pa_m,pc_m,hm2,hlook,hf⟩:=HF.lookDe tx hx;simp only at hlook hf;have hdl:=HF.dmLt;replace HF:=hf;have hM:=ah hm2;clear hf hm2;have HF0:=HF;refine rq2 6 7 (λ K hK=>?_) λ K hK=>?_
 ·have hl1:=(hlook _ rfl).2;go_simp;refine uq hK ⟨HF.csCell,(HF.cell 5 rfl)⟩ λ hC=>?_;try simp only[qq]
  clear hl1;refine rq 7 λ K hK=>?_;go_simp;replace HF:=bx HF wd1.heap.size #[.int .i64 0,.string ⟨#[]⟩,.slice none 0 0,.slice none 0 0,.bool false,.bool false] 99;refine uq hK ⟨HF.csCell,(HF.cell 6 rfl)⟩ λ hC=>?_;refine rqb 8 λ K hK=>?_;obtain⟨c_b11,f_b11⟩:=cf HF 1;go_simp;clear c_b11 f_b11;replace HF:=bx HF0 wd1.heap.size #[.int .i64 (tyk m),.string nm_m,.slice a_m (tnn m) c_m,.slice pa_m (tpn m) pc_m,.bool (tmy m),.bool mb] 99;refine ub hK ?_;refine dq ?_;cases mb
  ·have c_b11:=HF.cell 1 rfl;go_wp2_with fail;go_at_call 69;refine (aU HF 4 at_).mono ?_;rintro e w2 ⟨rfl,HF⟩;clear c_b11;refine⟨rfl,PTz.no (a:=at_) (c:=4) ?_ HF.lose⟩;rw[HE.out];cases e2:s.de tx with
   | none=>rfl
   | some m0=>
    rw[e2] at hM;obtain rfl:(m,false)=m0:=hM.out;rfl
  have c_b11:=HF.cell 1 rfl;go_wp2_with fail;go_at_call 69;refine (aL HF 4 at_).mono ?_;rintro e w2 ⟨rfl,HF⟩;clear c_b11;have hde:s.de tx=some (m,true):=by
   cases e2:s.de tx with
   | none=>rw[e2] at hM;cases hM.out
   | some m0=>rw[e2] at hM;exact congrArg some hM.out.symm
  have HD:=ah hde;clear hde;have c_b11:=HF.cell 1 rfl;obtain⟨c_res,f_res⟩:=cf HF 5;replace HF:=sT HF 5 (tyk m) nm_m a_m (tnn m) c_m pa_m (tpn m) pc_m (tmy m);go_wp2;refine br (rt83 results71 rfl (HF.blkAt 5 rfl)) ?_;exact PTz.yes (by rw[HE.out,HD.out];rfl) (HF.csInv.de tx _ HD) HF.lose
 go_simp;replace HF:=bx HF wd1.heap.size #[.int .i64 0,.string ⟨#[]⟩,.slice none 0 0,.slice none 0 0,.bool false,.bool false] 99;refine uq hK ⟨HF.csCell,(HF.cell 6 rfl)⟩ λ hC=>?_;refine rq 6 λ K hK=>?_;have hl1:=(hlook (wd1.alloc (.cells #[.int .i64 0,.string ⟨#[]⟩,.slice none 0 0,.slice none 0 0,.bool false,.bool false] 99)) (Below.heap_alloc _ _ _ hdl)).2;go_simp;refine uq hK ⟨HF.csCell,(HF.cell 6 rfl)⟩ λ hC=>?_;try simp only[qq]
 clear hl1;refine rqb 8 λ K hK=>?_;obtain⟨c_b11,f_b11⟩:=cf HF 1;go_simp;clear c_b11 f_b11;replace HF:=bx HF0 wd1.heap.size #[.int .i64 (tyk m),.string nm_m,.slice a_m (tnn m) c_m,.slice pa_m (tpn m) pc_m,.bool (tmy m),.bool mb] 99;refine ub hK ?_;refine dq ?_;cases mb
 ·have c_b11:=HF.cell 1 rfl;go_wp2_with fail;go_at_call 69;refine (aU HF 4 at_).mono ?_;rintro e w2 ⟨rfl,HF⟩;clear c_b11;refine⟨rfl,PTz.no (a:=at_) (c:=4) ?_ HF.lose⟩;rw[HE.out];cases e2:s.de tx with
  | none=>rfl
  | some m0=>
   rw[e2] at hM;obtain rfl:(m,false)=m0:=hM.out;rfl
 have c_b11:=HF.cell 1 rfl;go_wp2_with fail;go_at_call 69;refine (aL HF 4 at_).mono ?_;rintro e w2 ⟨rfl,HF⟩;clear c_b11;have hde:s.de tx=some (m,true):=by
  cases e2:s.de tx with
  | none=>rw[e2] at hM;cases hM.out
  | some m0=>rw[e2] at hM;exact congrArg some hM.out.symm
 have HD:=ah hde;clear hde;have c_b11:=HF.cell 1 rfl;obtain⟨c_res,f_res⟩:=cf HF 5;replace HF:=sT HF 5 (tyk m) nm_m a_m (tnn m) c_m pa_m (tpn m) pc_m (tmy m);go_wp2;refine br (rt83 results71 rfl (HF.blkAt 5 rfl)) ?_;exact PTz.yes (by rw[HE.out,HD.out];rfl) (HF.csInv.de tx _ HD) HF.lose
theorem value_30 (hn:1≤ts.length) (at_:Nat):Calls prog 71 #[ptr b,.agg #[.int .i64 30,.string tx,.int .i64 nm,.slice ka kn kc],.int .i64 at_,.slice va vn vc] w (PTz (bB s (.mk 30 tx nm kids) at_ ts) B b p s L):=by
 have HF:=ah (h.slDup (i+1) hi).swap;obtain⟨_,_,e1,-,-⟩:=h.slForm (i+1) hi;cases e1;clear h hi;obtain⟨g1,o1,cur1,f1,nm_u,a_u,c_u,pa_u,pc_u,hva,-,hle,hmx,hcu,hf⟩:=HF.slTy 1 rfl 0 (by omega);subst hva;replace HF:=hf.perm (List.perm_middle (l₁:=[_,_]));have hn0:0<ts.length:=by omega
 have HV:Hid (arg ts 0=ts[0]'(by omega)):=fC _;have hmu:=hm _ (List.getElem_mem (show 0<ts.length by omega));simp only[Nat.zero_mul,Nat.add_zero] at hcu;clear hf;generalize ts[0]'(by omega)=u at *;go_enter func71,ntmps71;replace HF:=yN HF w.heap.size 30 tx nm ka kn kc;replace HF:=bx HF (w.heap.size+1) tyz 83;replace HF:=yT HF (w.heap.size+1+1) 1 eB none 0 0 none 0 0 false;replace HF:=yT HF (w.heap.size+1+1+1) 2 eB none 0 0 none 0 0 false;have HE:Hid (bB s (.mk 30 tx nm kids) at_ ts=askC (cA u) 3 at_ (.ok tI)):=by show _=_;rw[← HV.out];rfl
 obtain⟨e0,e1,e2,e3,e4⟩:=bK (HF.knc 6 rfl) hcu;have c_n:=HF.cell 4 rfl;go_wp2_with fail;clear c_n;clear e0 e1 e2 e3 e4;go_at_call 73;refine (eT HF 5 rfl).mono ?_;rintro e w1 ⟨rfl,HF⟩;cases hq:cA u
 ·rw[hq] at HE;clear hq;go_wp2_with fail;go_at_call 69;refine (aU HF 3 at_).mono ?_;rintro e w2 ⟨rfl,HF⟩;exact⟨rfl,PTz.no HE HF.lose⟩
 rw[hq] at HE;clear hq;go_wp2_with fail;go_at_call 69;refine (aL HF 3 at_).mono ?_;rintro e w2 ⟨rfl,HF⟩;have c_t9:=HF.cell 2 rfl;obtain⟨c_res,f_res⟩:=cf HF 3;replace HF:=sT HF 3 1 eB none 0 0 none 0 0 false;go_wp2;refine br (rt83 results71 rfl (HF.blkAt 3 rfl)) ?_;exact PTz.yes (t:=tI) HE may_tI ((HF.tyBare 1 (by omega)).swap.lose)
theorem value_31 (hn:1≤ts.length) (at_:Nat):Calls prog 71 #[ptr b,.agg #[.int .i64 31,.string tx,.int .i64 nm,.slice ka kn kc],.int .i64 at_,.slice va vn vc] w (PTz (bB s (.mk 31 tx nm kids) at_ ts) B b p s L):=by
 have HF:=ah (h.slDup (i+1) hi).swap;obtain⟨_,_,e1,-,-⟩:=h.slForm (i+1) hi;cases e1;clear h hi;obtain⟨g1,o1,cur1,f1,nm_u,a_u,c_u,pa_u,pc_u,hva,-,hle,hmx,hcu,hf⟩:=HF.slTy 1 rfl 0 (by omega);subst hva;replace HF:=hf.perm (List.perm_middle (l₁:=[_,_]));have hn0:0<ts.length:=by omega
 have HV:Hid (arg ts 0=ts[0]'(by omega)):=fC _;have hmu:=hm _ (List.getElem_mem (show 0<ts.length by omega));simp only[Nat.zero_mul,Nat.add_zero] at hcu;clear hf;generalize ts[0]'(by omega)=u at *;go_enter func71,ntmps71;replace HF:=yN HF w.heap.size 31 tx nm ka kn kc;replace HF:=bx HF (w.heap.size+1) tyz 83;replace HF:=yT HF (w.heap.size+1+1) 1 eB none 0 0 none 0 0 false;replace HF:=yT HF (w.heap.size+1+1+1) 2 eB none 0 0 none 0 0 false;have HE:Hid (bB s (.mk 31 tx nm kids) at_ ts=askC (cA u) 3 at_ (.ok tL)):=by show _=_;rw[← HV.out];rfl
 obtain⟨e0,e1,e2,e3,e4⟩:=bK (HF.knc 6 rfl) hcu;have c_n:=HF.cell 4 rfl;go_wp2_with fail;clear c_n;clear e0 e1 e2 e3 e4;go_at_call 73;refine (eT HF 5 rfl).mono ?_;rintro e w1 ⟨rfl,HF⟩;cases hq:cA u
 ·rw[hq] at HE;clear hq;go_wp2_with fail;go_at_call 69;refine (aU HF 3 at_).mono ?_;rintro e w2 ⟨rfl,HF⟩;exact⟨rfl,PTz.no HE HF.lose⟩
 rw[hq] at HE;clear hq;go_wp2_with fail;go_at_call 69;refine (aL HF 3 at_).mono ?_;rintro e w2 ⟨rfl,HF⟩;have c_t10:=HF.cell 1 rfl;obtain⟨c_res,f_res⟩:=cf HF 3;replace HF:=sT HF 3 2 eB none 0 0 none 0 0 false;go_wp2;refine br (rt83 results71 rfl (HF.blkAt 3 rfl)) ?_;exact PTz.yes (t:=tL) HE may_tL ((HF.tyBare 2 (by omega)).swap.lose)
theorem value_32 (hn:2≤ts.length) (at_:Nat):Calls prog 71 #[ptr b,.agg #[.int .i64 32,.string tx,.int .i64 nm,.slice ka kn kc],.int .i64 at_,.slice va vn vc] w (PTz (bB s (.mk 32 tx nm kids) at_ ts) B b p s L):=by
 have HF:=ah (h.slDup (i+1) hi).swap;obtain⟨_,_,e1,-,-⟩:=h.slForm (i+1) hi;cases e1;clear h hi;obtain⟨g1,o1,cur1,f1,nm_u,a_u,c_u,pa_u,pc_u,hva,-,hle,hmx,hcu,hf⟩:=HF.slTy 1 rfl 0 (by omega);subst hva;replace HF:=hf.perm (List.perm_middle (l₁:=[_,_]));have hn0:0<ts.length:=by omega
 have HV:Hid (arg ts 0=ts[0]'(by omega)):=fC _;have hmu:=hm _ (List.getElem_mem (show 0<ts.length by omega));simp only[Nat.zero_mul,Nat.add_zero] at hcu;clear hf;obtain⟨g1',o1',cur2,f2,nm_v,a_v,c_v,pa_v,pc_v,hva2,-,-,-,hcv,hf⟩:=HF.slTy 3 rfl 1 (by omega);cases hva2;replace HF:=hf.perm (List.perm_middle (l₁:=[_,_]));have hn1:1<ts.length:=by omega
 have hn1i:(1:Int)<(ts.length:Int):=by omega
 have HW:Hid (arg ts 1=ts[1]'(by omega)):=fC _;have hmv:=hm _ (List.getElem_mem (show 1<ts.length by omega));simp only[Nat.one_mul] at hcv;clear hf;generalize ts[1]'(by omega)=v at *;generalize ts[0]'(by omega)=u at *;go_enter func71,ntmps71;replace HF:=yN HF w.heap.size 32 tx nm ka kn kc;replace HF:=bx HF (w.heap.size+1) tyz 83;replace HF:=yT HF (w.heap.size+1+1) 1 eB none 0 0 none 0 0 false;replace HF:=yT HF (w.heap.size+1+1+1) 2 eB none 0 0 none 0 0 false;have HE:Hid (bB s (.mk 32 tx nm kids) at_ ts=operC nm at_ u v):=by show _=_;rw[← HV.out,← HW.out];rfl
 go_wp2;refine regK [10] HF (λ w h=>aI (h.cell 4 rfl) (aI (bK (h.knc 8 rfl) hcu) (bK (h.knc 6 rfl) hcv))) (λ wd1 HF hC=>?_);refine tq4 0 1 2 3 ?_;refine tq4 4 5 6 7 ?_;refine tq 8 ?_;refine rq 9 λ K hK=>?_;go_simp;refine (oper109 HF 7 5 rfl rfl nm at_).mono ?_;rintro e w2 (⟨c1,p1,h3,rfl,hf⟩|⟨t,nm_t,a_t,c_t,pa_t,pc_t,h3,hmt,rfl,hf⟩)
 ·exact⟨rfl,PTz.no (HE.trans h3) hf.lose⟩
 have H3:=ah (HE.trans h3);replace HF:=ah hf.swap;clear h3 hf;refine uq hK ⟨(HF.cell 5 rfl),(bK (HF.knc 9 rfl) hcu),(bK (HF.knc 7 rfl) hcv)⟩ λ hC=>?_;refine rqb 10 λ K hK=>?_;obtain⟨c_res,f_res⟩:=cf HF 4;replace HF:=sT HF 4 (tyk t) nm_t a_t (tnn t) c_t pa_t (tpn t) pc_t (tmy t);go_simp;refine ub hK ?_;refine dq ?_;go_wp2;refine br (rt83 results71 rfl (HF.blkAt 4 rfl)) ?_;exact PTz.yes H3 hmt HF.lose
theorem value_33 (at_:Nat):Calls prog 71 #[ptr b,.agg #[.int .i64 33,.string tx,.int .i64 nm,.slice ka kn kc],.int .i64 at_,.slice va vn vc] w (PTz (bB s (.mk 33 tx nm kids) at_ ts) B b p s L):=by
 have HF:=ah (h.slDup (i+1) hi).swap;obtain⟨_,_,e1,-,-⟩:=h.slForm (i+1) hi;cases e1;clear h hi;go_enter func71,ntmps71;replace HF:=yN HF w.heap.size 33 tx nm ka kn kc;replace HF:=bx HF (w.heap.size+1) tyz 83;replace HF:=yT HF (w.heap.size+1+1) 1 eB none 0 0 none 0 0 false;replace HF:=yT HF (w.heap.size+1+1+1) 2 eB none 0 0 none 0 0 false;have HE:Hid (bB s (.mk 33 tx nm kids) at_ ts=askC s.many 2 at_ (.ok tI)):=rfl;have c_cs:=HF.csCell;rw[show csC p s=#[p.n0,p.n1,p.n2,p.n3,p.r0,p.r1,p.r2,p.r3,p.r4,.bool s.many,p.bv,.int .i64 s.wo,p.kv,.map (some p.sm),.map (some p.dm)] from rfl] at c_cs;cases hq:s.many
 ·rw[hq] at HE c_cs;clear hq;go_wp2_with fail;clear c_cs;go_at_call 69;refine (aU HF 2 at_).mono ?_;rintro e w1 ⟨rfl,HF⟩;exact⟨rfl,PTz.no HE HF.lose⟩
 rw[hq] at HE c_cs;clear hq;go_wp2_with fail;clear c_cs;go_at_call 69;refine (aL HF 2 at_).mono ?_;rintro e w1 ⟨rfl,HF⟩;have c_t9:=HF.cell 2 rfl;obtain⟨c_res,f_res⟩:=cf HF 3;replace HF:=sT HF 3 1 eB none 0 0 none 0 0 false;go_wp2;refine br (rt83 results71 rfl (HF.blkAt 3 rfl)) ?_;exact PTz.yes (t:=tI) HE may_tI ((HF.tyBare 1 (by omega)).swap.lose)
theorem value_34 (hn:1≤ts.length) (at_:Nat):Calls prog 71 #[ptr b,.agg #[.int .i64 34,.string tx,.int .i64 nm,.slice ka kn kc],.int .i64 at_,.slice va vn vc] w (PTz (bB s (.mk 34 tx nm kids) at_ ts) B b p s L):=by
 have HF:=ah (h.slDup (i+1) hi).swap;obtain⟨_,_,e1,-,-⟩:=h.slForm (i+1) hi;cases e1;clear h hi;obtain⟨g1,o1,cur1,f1,nm_u,a_u,c_u,pa_u,pc_u,hva,-,hle,hmx,hcu,hf⟩:=HF.slTy 1 rfl 0 (by omega);subst hva;replace HF:=hf.perm (List.perm_middle (l₁:=[_,_]));have hn0:0<ts.length:=by omega
 have HV:Hid (arg ts 0=ts[0]'(by omega)):=fC _;have hmu:=hm _ (List.getElem_mem (show 0<ts.length by omega));simp only[Nat.zero_mul,Nat.add_zero] at hcu;clear hf;generalize ts[0]'(by omega)=u at *;go_enter func71,ntmps71;replace HF:=yN HF w.heap.size 34 tx nm ka kn kc;replace HF:=bx HF (w.heap.size+1) tyz 83;replace HF:=yT HF (w.heap.size+1+1) 1 eB none 0 0 none 0 0 false;replace HF:=yT HF (w.heap.size+1+1+1) 2 eB none 0 0 none 0 0 false;have HE:Hid (bB s (.mk 34 tx nm kids) at_ ts=askC s.many 2 at_ (askC (decide (tyk u=1)) 3 at_ (.ok tI))):=by show _=_;rw[← HV.out];rfl
 have c_cs:=HF.csCell;rw[show csC p s=#[p.n0,p.n1,p.n2,p.n3,p.r0,p.r1,p.r2,p.r3,p.r4,.bool s.many,p.bv,.int .i64 s.wo,p.kv,.map (some p.sm),.map (some p.dm)] from rfl] at c_cs;cases hq:s.many
 ·rw[hq] at HE c_cs;clear hq;go_wp2_with fail;clear c_cs;go_at_call 69;refine (aU HF 2 at_).mono ?_;rintro e w1 ⟨rfl,HF⟩;exact⟨rfl,PTz.no HE HF.lose⟩
 rw[hq] at HE c_cs;clear hq;go_wp2_with fail;clear c_cs;go_at_call 69;refine (aL HF 2 at_).mono ?_;rintro e w1 ⟨rfl,HF⟩;obtain⟨e0,e1,e2,e3,e4⟩:=bK (HF.knc 6 rfl) hcu;by_cases h1:tyk u=1
 ·have hk:(tyk u == 1)=true:=by simpa using h1
  rw[decide_eq_true h1] at HE;clear h1;go_wp2_with fail;clear e0 e1 e2 e3 e4;go_at_call 69;refine (aL HF 3 at_).mono ?_;rintro e w2 ⟨rfl,HF⟩;clear hk;have c_t9:=HF.cell 2 rfl;obtain⟨c_res,f_res⟩:=cf HF 3;replace HF:=sT HF 3 1 eB none 0 0 none 0 0 false;go_wp2;refine br (rt83 results71 rfl (HF.blkAt 3 rfl)) ?_;exact PTz.yes (t:=tI) HE may_tI ((HF.tyBare 1 (by omega)).swap.lose)
 have hk:(tyk u == 1)=false:=by simpa using h1
 rw[decide_eq_false h1] at HE;clear h1;go_wp2_with fail;clear e0 e1 e2 e3 e4;go_at_call 69;refine (aU HF 3 at_).mono ?_;rintro e w2 ⟨rfl,HF⟩;clear hk;exact⟨rfl,PTz.no HE HF.lose⟩
end
structure VOk (n:Nd)(ts:List T.Ty):Prop where
 kind:21≤n.kind∧n.kind≤34
 one:n.kind=24∨n.kind=25∨28≤n.kind∧n.kind≤32∨n.kind=34→1≤ts.length
 two:n.kind=32→2≤ts.length
 may:∀t,t∈ts→may t=true
 len:ts.length≤16000
 text:n.text.size≤maxLen
theorem value71 (h:Fr B w (.cs b p s::L)) (i:Nat) {kn : Nat} (hi:L[i]?=some (.sl TyE (.slice va vn vc) 83 5 ts)) (hv:VOk n ts) (at_:Nat):
  Calls prog 71 #[ptr b,.agg #[.int .i64 n.kind,.string n.text,.int .i64 n.num,.slice ka kn kc],.int .i64 at_,.slice va vn vc] w (PTz (bB s n at_ ts) B b p s L):=by
 obtain⟨kd,tx,nm,kids⟩:=n;have hk:(((kd=21∨kd=22∨kd=23∨kd=24)∨(kd=25∨kd=26∨kd=27∨kd=28))∨((kd=29∨kd=30∨kd=31∨kd=32)∨(kd=33∨kd=34))):=by have:=hv.kind;simp only[Nd.kind] at this;omega
 have ht:=hv.text;have h1:=hv.one;have h2:=hv.two;have hl:ts.tail.length≤16000:=by have:=hv.len;simp;omega
 simp only[Nd.kind,Nd.text] at ht h1 h2;rcases hk with ((rfl|rfl|rfl|rfl)|(rfl|rfl|rfl|rfl))|((rfl|rfl|rfl|rfl)|(rfl|rfl))
 ·exact value_21 h i hi hv.may tx nm kids ht at_
 ·exact value_22 h i hi hv.may tx nm kids ht at_
 ·exact value_23 h i hi hv.may tx nm kids ht at_
 ·exact value_24 h i hi hv.may tx nm kids ht (h1 (by omega)) at_
 ·exact value_25 h i hi hv.may tx nm kids ht (h1 (by omega)) hl at_
 ·exact value_26 h i hi hv.may tx nm kids ht at_
 ·exact value_27 h i hi hv.may tx nm kids ht at_
 ·exact value_28 h i hi hv.may tx nm kids ht (h1 (by omega)) at_
 ·exact value_29 h i hi hv.may tx nm kids ht (h1 (by omega)) at_
 ·exact value_30 h i hi hv.may tx nm kids ht (h1 (by omega)) at_
 ·exact value_31 h i hi hv.may tx nm kids ht (h1 (by omega)) at_
 ·exact value_32 h i hi hv.may tx nm kids ht (h2 rfl) at_
 ·exact value_33 h i hi hv.may tx nm kids ht at_
 exact value_34 h i hi hv.may tx nm kids ht (h1 (by omega)) at_
theorem Fr.csKnow (h:Fr B w (.cs b p s::L)) (j:Nat) (hj:j<s.k) (o:Nat) (ho:o=j*5) (h1:o1=o+1) (h2:o2=o+2) (h3:o3=o+3) (h4:o4=o+4):
  ∃g c,p.kv=.slice (some ⟨g,0,none⟩) s.k c∧(∀o,w.frozen? ⟨g,o,none⟩=false)∧(∃cur t,w.heap[g]?=some (.cells cur t (0,0)))∧(∃d0 d1 d2 d3 d4:Value,w.cell? ⟨g,o,none⟩=some d0∧w.cell? ⟨g,o1,none⟩=some d1∧w.cell? ⟨g,o2,none⟩=some d2∧w.cell? ⟨g,o3,none⟩=some d3∧w.cell? ⟨g,o4,none⟩=some d4) ∧
   ∀y0 y1 y2 y3 y4:Value,Fr B (((((w.setCell ⟨g,o,none⟩ y0).setCell ⟨g,o1,none⟩ y1).setCell ⟨g,o2,none⟩ y2).setCell ⟨g,o3,none⟩ y3).setCell ⟨g,o4,none⟩ y4) (.cs b p s::L):=by
 have h5:=h.csOpen;obtain⟨g,c,e⟩:=sl_some h5 1 rfl (by simp;omega);rw[List.length_replicate] at e;have h6:Fr B w (csK b p s++(envR s.n p.em s.env++L)):=h5;have hi:(csK b p s++(envR s.n p.em s.env++L))[1]?=some (.els AnyE (.slice (some ⟨g,0,none⟩) s.k c) 83 5 (List.replicate s.k ())):=by rw[← e];rfl
 obtain⟨hf,d0,d1,d2,d3,d4,c0,c1,c2,c3,c4,-⟩:=h6.at5 1 hi j (by simp;omega) o ho h1 h2 h3 h4;have hblk:∃cur t,w.heap[g]?=some (.cells cur t (0,0)):=by
  obtain⟨H,h8,-⟩:=h6.get hi;obtain⟨css,-,-,ho,-⟩:=h8;rcases ho.2 with⟨h9,-⟩|⟨g',cap,cur,h9,-,h10,-⟩
  ·simp at h9
  simp only[Value.slice.injEq,Option.some.injEq,Addr.mk.injEq] at h9;obtain⟨⟨rfl,-⟩,-⟩:=h9;exact⟨cur,_,h10⟩
 refine⟨g,c,e,hf,hblk,⟨d0,d1,d2,d3,d4,c0,c1,c2,c3,c4⟩,λ y0 y1 y2 y3 y4=>?_⟩;have h7:=(h6.anyEl [y0,y1,y2,y3,y4]).put5 2 hi j (by simp;omega) 0 rfl ho h1 h2 h3 h4;rw[units_set] at h7;have h8:=h7.tail;have h9:Fr B (((((w.setCell ⟨g,o,none⟩ y0).setCell ⟨g,o1,none⟩ y1).setCell ⟨g,o2,none⟩ y2).setCell ⟨g,o3,none⟩ y3).setCell ⟨g,o4,none⟩ y4) (csK b p s++(envR s.n p.em s.env++L)):=by
  have:csK b p s=[.blk b (csC p s) 90,.els AnyE (.slice (some ⟨g,0,none⟩) s.k c) 83 5 (List.replicate s.k ())]++(csK b p s).drop 2:=by rw[← e];rfl
  rw[this];exact h8
 exact h9.csShut
theorem cell5 {g o : Nat} {d : Value} (hw:∃cur t,w.heap[g]?=some (.cells cur t (0,0))) (e4:w.cell? ⟨g,o4,none⟩=some d) (h1:o1=o+1) (h2:o2=o+2) (h3:o3=o+3) (h4:o4=o+4) (y0 y1 y2 y3 y4:Value):
  let W:=(((((w.setCell ⟨g,o,none⟩ y0).setCell ⟨g,o1,none⟩ y1).setCell ⟨g,o2,none⟩ y2).setCell ⟨g,o3,none⟩ y3).setCell ⟨g,o4,none⟩ y4)
  W.cell? ⟨g,o,none⟩=some y0∧W.cell? ⟨g,o1,none⟩=some y1∧W.cell? ⟨g,o2,none⟩=some y2∧W.cell? ⟨g,o3,none⟩=some y3∧W.cell? ⟨g,o4,none⟩=some y4:=by
 subst h1 h2 h3 h4;intro W;obtain⟨cur,t,hw⟩:=hw;rw[aA hw] at e4;have hsz:=(Array.getElem?_eq_some_iff.1 e4).1;have k1:=heap_setCell_same w g o _ t y0 hw;have k2:=heap_setCell_same _ g (o+1) _ t y1 k1;have k3:=heap_setCell_same _ g (o+2) _ t y2 k2;have k4:=heap_setCell_same _ g (o+3) _ t y3 k3;have k5:=heap_setCell_same _ g (o+4) _ t y4 k4;have hW:=aA (W:=W) k5;refine⟨?_,?_,?_,?_,?_⟩<;>(rw[hW];simp [Array.getElem?_setIfInBounds];try omega)
def ExH (s:Cs)(N:Nat):Prop:=∀(B:Bs) (w:World) (b:Nat) (p:CP) (k:Nat) (L:List Rs) (n:Nd) (a:Option Addr) (kn c i:Nat),Fr B w (.cs b p { s with k:=k }::L)→L[i]?=some (.el NdE (ndc n.kind n.text n.num a kn c) n)→Tx n→Ex n→sz n≤N→k+sz n≤16000 →
  Calls prog 133 #[ptr b,.agg #[.int .i64 n.kind,.string n.text,.int .i64 n.num,.slice a kn c]] w (PTy (bJ s N n k) (k+sz n) B b p s L)
theorem called158 {N k : Nat} (hI:ExH s N) (h:Fr B w (.cs b p { s with k:=k }::L)) (i:Nat) {kn : Nat} {kd nm : Int} {tx : ByteArray} {kids : List Nd} (hi:L[i]?=some (.el NdE (ndc kd tx nm ka kn kc) (.mk kd tx nm kids))) (hX:Tx (.mk kd tx nm kids)) (hx:tx.size≤maxLen) (hE:Ex (.mk kd tx nm kids)) (hN:sz (.mk kd tx nm kids)≤N) (hk:k+sz (.mk kd tx nm kids)≤16000):
  Calls prog 158 #[ptr b,.agg #[.int .i64 kd,.string tx,.int .i64 nm,.slice ka kn kc]] w (PTy (cO s (bJ s N) (.mk kd tx nm kids) k) (k+sz (.mk kd tx nm kids)) B b p s L):=by
 have hlk:=λ (B:Bs) (w:World) (L:List Rs) (h:Fr B w (.cs b p { s with k:=k }::L))=>h.lookDe tx hx;have HF:=ah (h.dup (i+1) hi).swap;obtain⟨s1,hs1⟩:∃s1:Cs,s1={ s with k:=k }:=⟨_,rfl⟩
 have hsz0:k<16000:=by have:=fX (.mk kd tx nm kids);omega
 rw[← hs1] at HF;have HI:=ah hI;clear h hi hlk;go_enter func158,ntmps158;replace HF:=yN HF w.heap.size kd tx nm ka kn kc;replace HF:=bx HF (w.heap.size+1) tyz 83;go_upto_region 1 with fail
 go_cut [5] from 9 to 15 (λ q5 wx=>Hid (∃(qm:Nat) (m:T.Ty) (mb:Bool) (nm_m:ByteArray) (a_m:Option Addr) (c_m:Nat) (pa_m:Option Addr) (pc_m:Nat),q5=.pointer (some ⟨qm,0,none⟩)∧(m,mb)=(s1.de tx).getD (tZ,false)∧Fr B wx (.cs b p s1::.blk qm #[.int .i64 (tyk m),.string nm_m,.slice a_m (tnn m) c_m,.slice pa_m (tpn m) pc_m,.bool (tmy m),.bool mb] 99::.el TyE [.int .i64 (tyk m),.string nm_m,.slice a_m (tnn m) c_m,.slice pa_m (tpn m) pc_m,.bool (tmy m)] m::.blk (w.heap.size+1) tyz 83::.blk (w.heap.size) #[.int .i64 kd,.string tx,.int .i64 nm,.slice ka kn kc] 52::.el NdE (ndc kd tx nm ka kn kc) (.mk kd tx nm kids)::L)))
 case first=>
  go_wp2;refine regK [8] HF (λ w h=>⟨h.csCell,(h.cell 2 rfl)⟩) (λ wd1 HF hC=>?_) (C:=λ w'=>(∀o,w'.cell? ⟨b,o,none⟩=(#[p.n0,p.n1,p.n2,p.n3,p.r0,p.r1,p.r2,p.r3,p.r4,.bool s1.many,p.bv,.int .i64 s1.wo,p.kv,.map (some p.sm),.map (some p.dm)]:Array Value)[o]?)∧(∀o,w'.cell? ⟨w.heap.size,o,none⟩=(#[.int .i64 kd,.string tx,.int .i64 nm,.slice ka kn kc]:Array Value)[o]?));refine tq4 0 1 2 3 ?_;refine tq2 4 5 ?_;obtain⟨⟨m,mb⟩,nm_m,a_m,c_m,pa_m,pc_m,hm2,hlook,hf⟩:=HF.lookDe tx hx;simp only at hlook hf;have hdl:=HF.dmLt;replace HF:=hf;have hM:=ah hm2;have HF0:=HF;clear hf hm2;refine rq2 6 7 (λ K hK=>?_) λ K hK=>?_
  ·have hl1:=(hlook _ rfl).2;go_simp;refine uq hK ⟨HF.csCell,(HF.cell 3 rfl)⟩ λ hC=>?_;try simp only[qq]
   clear hl1;refine rq 7 λ K hK=>?_;go_simp;replace HF:=bx HF wd1.heap.size #[.int .i64 0,.string ⟨#[]⟩,.slice none 0 0,.slice none 0 0,.bool false,.bool false] 99;refine uq hK ⟨HF.csCell,(HF.cell 4 rfl)⟩ λ hC=>?_;refine rqb 8 λ K hK=>?_;obtain⟨c_b11,f_b11⟩:=cf HF 1;go_simp;clear c_b11 f_b11;replace HF:=bx HF0 wd1.heap.size #[.int .i64 (tyk m),.string nm_m,.slice a_m (tnn m) c_m,.slice pa_m (tpn m) pc_m,.bool (tmy m),.bool mb] 99;refine ub hK ?_;refine dq ?_;go_wp2;go_meet
   case rel=>exact⟨_,m,mb,nm_m,a_m,c_m,pa_m,pc_m,rfl,hM.out,HF⟩
  go_simp;replace HF:=bx HF wd1.heap.size #[.int .i64 0,.string ⟨#[]⟩,.slice none 0 0,.slice none 0 0,.bool false,.bool false] 99;refine uq hK ⟨HF.csCell,(HF.cell 4 rfl)⟩ λ hC=>?_;refine rq 6 λ K hK=>?_;have hl1:=(hlook (wd1.alloc (.cells #[.int .i64 0,.string ⟨#[]⟩,.slice none 0 0,.slice none 0 0,.bool false,.bool false] 99)) (Below.heap_alloc _ _ _ hdl)).2;go_simp;refine uq hK ⟨HF.csCell,(HF.cell 4 rfl)⟩ λ hC=>?_;try simp only[qq]
  clear hl1;refine rqb 8 λ K hK=>?_;obtain⟨c_b11,f_b11⟩:=cf HF 1;go_simp;clear c_b11 f_b11;replace HF:=bx HF0 wd1.heap.size #[.int .i64 (tyk m),.string nm_m,.slice a_m (tnn m) c_m,.slice pa_m (tpn m) pc_m,.bool (tmy m),.bool mb] 99;refine ub hK ?_;refine dq ?_;go_wp2;go_meet
  case rel=>exact⟨_,m,mb,nm_m,a_m,c_m,pa_m,pc_m,rfl,hM.out,HF⟩
 case rest=>
  clear HF;obtain⟨qm,m,mb,nm_m,a_m,c_m,pa_m,pc_m,rfl,hm2,hF⟩:=hcut.out;clear hcut;have HF:=hF;have HM:=ah hm2;clear hF hm2;have c_n:=HF.cell 4 rfl;go_wp2_with fail;clear c_n;go_at_call 131;refine (local131 HF tx hx).mono ?_;rintro e w21 ⟨t,nm_t,a_t,c_t,pa_t,pc_t,ht,rfl,hf⟩;replace HF:=hf;clear hf ht;obtain⟨hb,hhb⟩:∃hb,(cH s1.env tx).isSome=hb:=⟨_,rfl⟩
  rw[hhb];have HHB:=ah hhb;clear hhb;replace HF:=yT HF w21.heap.size (tyk t) nm_t a_t (tnn t) c_t pa_t (tpn t) pc_t (tmy t);by_cases hk23:kd=23
  ·subst hk23;cases hb
   ·cases mb
    ·have c_n:=HF.cell 6 rfl;have c_bm:=HF.cell 3 rfl;go_wp2_with fail;clear c_n c_bm;go_at_call 133;have HF1:=HF;rw[hs1] at HF1;refine (HI _ _ _ _ _ _ (.mk 23 tx nm kids) _ _ _ 6 HF1 rfl hX hE hN hk).mono ?_;have HC:Hid (cO s (bJ s N) (.mk 23 tx nm kids) k=bJ s N (.mk 23 tx nm kids) k):=by
      show _=_;unfold cO;split
      ·have hmm:=HM.out;rw[hs1] at hmm;show (match s.de tx with|some (t,true)=>CR.ok t|x=>bJ s N (.mk 23 tx nm kids) k)=_;split
       ·rename_i t0 e;rw[show ({ s with k:=k }:Cs).de tx=some (t0,true) from e] at hmm;cases hmm
       rfl
      rfl
     clear HF1;rintro e w22 (⟨c22,p22,h3,rfl,hf⟩|⟨u,v22,nm_u,a_u,c_u,pa_u,pc_u,h3,hmu,rfl,hf⟩)
     ·exact⟨rfl,PTy.no (HC.trans h3) hf.lose⟩
     have H3:=ah (HC.trans h3);replace HF:=hf;clear h3 hf;obtain⟨c_res,f_res⟩:=cf HF 6;replace HF:=sT HF 6 (tyk u) nm_u a_u (tnn u) c_u pa_u (tpn u) pc_u (tmy u);go_wp2;refine br (rt83 results158 rfl (HF.blkAt 6 rfl)) ?_;exact PTy.yes H3 hmu HF.lose
    have hde:s.de tx=some (m,true):=by
     have hmm:=HM.out;rw[hs1] at hmm;cases e2:s.de tx with
     | none=>rw[show ({ s with k:=k }:Cs).de tx=none from e2] at hmm;cases hmm
     | some m0=>rw[show ({ s with k:=k }:Cs).de tx=some m0 from e2] at hmm;exact congrArg some hmm.symm
    have hne:cH s.env tx=none:=by
     have:=HHB.out;rw[hs1] at this;cases e2:cH s.env tx with
     | none=>rfl
     | some t0=>rw[show cH ({ s with k:=k }:Cs).env tx=some t0 from e2] at this;cases this
    have HC:Hid (cO s (bJ s N) (.mk 23 tx nm kids) k=.ok m):=by
     show _=_;unfold cO;rw[if_pos ⟨rfl,hne⟩];show (match s.de tx with|some (t,true)=>CR.ok t|x=>bJ s N (.mk 23 tx nm kids) k)=_;rw[hde]
    have hmm2:may m=true:=by
     have:=HF.csInv.de tx (m,true) (by rw[hs1];exact hde);exact this
    have hkk1:s1.k<16000:=by rw[hs1];exact hsz0
    clear hde hne;have c_n:=HF.cell 6 rfl;have c_bm:=HF.cell 3 rfl;go_wp2_with fail;clear c_n c_bm;go_at_call 48;refine (bA HF hkk1).mono ?_;rintro e w30 ⟨rfl,v30,hf⟩;obtain⟨p2,hp2⟩:∃p2,p2=p.at v30:=⟨_,rfl⟩
    obtain⟨s2,hs2⟩:∃s2:Cs,s2={ s1 with k:=s1.k+1 }:=⟨_,rfl⟩
    rw[← hp2,← hs2] at hf;replace HF:=hf;clear hf;have hk2:s1.k<s2.k:=by rw[hs2];exact Nat.lt_succ_self _
    have HS1:=ah hs1;have HS2:=ah hs2;have HP2:=ah hp2;clear hs1 hs2 hp2;generalize hka:s1.k=ka1 at *;have HKA:=ah hka;clear hka;obtain⟨g1,c1,hkv,-,-,-,-⟩:=HF.csKnow (o1:=ka1*5+1) (o2:=ka1*5+2) (o3:=ka1*5+3) (o4:=ka1*5+4) ka1 hk2 (ka1*5) rfl rfl rfl rfl rfl;have hk2i:(ka1:Int)<(s2.k:Int):=by omega
    have hcsx:∀w' L',Fr B w' (.cs b p2 s2::L')→∀o,w'.cell? ⟨b,o,none⟩=(#[p2.n0,p2.n1,p2.n2,p2.n3,p2.r0,p2.r1,p2.r2,p2.r3,p2.r4,.bool s2.many,p2.bv,.int .i64 s2.wo,(.slice (some ⟨g1,0,none⟩) s2.k c1),.map (some p2.sm),.map (some p2.dm)]:Array Value)[o]?:=λ w' L' h=>by
     have:=h.csCell;rw[show csC p2 s2=#[p2.n0,p2.n1,p2.n2,p2.n3,p2.r0,p2.r1,p2.r2,p2.r3,p2.r4,.bool s2.many,p2.bv,.int .i64 s2.wo,p2.kv,.map (some p2.sm),.map (some p2.dm)] from rfl,hkv] at this;exact this
    go_wp2;refine regK [8] HF (λ w h=>⟨hcsx _ _ h,(h.cell 3 rfl)⟩) (λ wd31 HF hC=>?_) (C:=λ w'=>(∀o,w'.cell? ⟨b,o,none⟩=(#[p2.n0,p2.n1,p2.n2,p2.n3,p2.r0,p2.r1,p2.r2,p2.r3,p2.r4,.bool s2.many,p2.bv,.int .i64 s2.wo,(.slice (some ⟨g1,0,none⟩) s2.k c1),.map (some p2.sm),.map (some p2.dm)]:Array Value)[o]?)∧(∀o,w'.cell? ⟨qm,o,none⟩=(#[.int .i64 (tyk m),.string nm_m,.slice a_m (tnn m) c_m,.slice pa_m (tpn m) pc_m,.bool (tmy m),.bool true]:Array Value)[o]?));refine tq4 0 1 2 3 ?_;refine tq4 4 5 6 7 ?_;refine rqb 8 λ K hK=>?_;obtain⟨g',c',hkv2,f_g,-,⟨d0,d1,d2,d3,d4,e0,e1,e2,e3,e4⟩,hput⟩:=HF.csKnow (o1:=ka1*5+1) (o2:=ka1*5+2) (o3:=ka1*5+3) (o4:=ka1*5+4) ka1 hk2 (ka1*5) rfl rfl rfl rfl rfl;rw[hkv] at hkv2;cases hkv2;replace HF:=hput (.int .i64 (tyk m)) (.string nm_m) (.slice a_m (tnn m) c_m) (.slice pa_m (tpn m) pc_m) (.bool (tmy m));go_simp;clear e0 e1 e2 e3 e4 f_g hput;refine ub hK ?_;refine dq ?_;have c_bm:=HF.cell 3 rfl;obtain⟨c_res,f_res⟩:=cf HF 5;replace HF:=sT HF 5 (tyk m) nm_m a_m (tnn m) c_m pa_m (tpn m) pc_m (tmy m);go_wp2_with fail;refine br (rt83 results158 rfl (HF.blkAt 5 rfl)) ?_;have hF:=HF;rw[HP2.out,HS2.out,HS1.out] at hF;have hk0:kids=[]:=by
     cases hE with
     | leaf _ _ _=>rfl
     | num _ _ h=>omega
     | one _ _ _ h=>omega
    have hk1:ka1+1=k+sz (.mk 23 tx nm kids):=by
     have e1:k=ka1:=by have:=HKA.out;rw[HS1.out] at this;exact this
     rw[hk0];simp only[sz,szs];omega
    rw[← hk1];obtain rfl:k=ka1:=by have:=HKA.out;rw[HS1.out] at this;exact this
    exact PTy.yes HC hmm2 hF.lose
   have c_n:=HF.cell 6 rfl;have c_bm:=HF.cell 3 rfl;go_wp2_with fail;clear c_n c_bm;go_at_call 133;have HF1:=HF;rw[hs1] at HF1;refine (HI _ _ _ _ _ _ (.mk 23 tx nm kids) _ _ _ 6 HF1 rfl hX hE hN hk).mono ?_;have HC:Hid (cO s (bJ s N) (.mk 23 tx nm kids) k=bJ s N (.mk 23 tx nm kids) k):=by
    show _=_;unfold cO;rw[if_neg];rintro⟨-,h⟩;have:=HHB.out;rw[hs1,show cH ({ s with k:=k }:Cs).env tx=none from h] at this;cases this
   clear HF1;rintro e w22 (⟨c22,p22,h3,rfl,hf⟩|⟨u,v22,nm_u,a_u,c_u,pa_u,pc_u,h3,hmu,rfl,hf⟩)
   ·exact⟨rfl,PTy.no (HC.trans h3) hf.lose⟩
   have H3:=ah (HC.trans h3);replace HF:=hf;clear h3 hf;obtain⟨c_res,f_res⟩:=cf HF 6;replace HF:=sT HF 6 (tyk u) nm_u a_u (tnn u) c_u pa_u (tpn u) pc_u (tmy u);go_wp2;refine br (rt83 results158 rfl (HF.blkAt 6 rfl)) ?_;exact PTy.yes H3 hmu HF.lose
  have hkk:(kd != 23)=true:=by simpa using hk23
  have HKK:=ah hk23;clear hk23;have c_n:=HF.cell 6 rfl;have c_bm:=HF.cell 3 rfl;go_wp2_with fail;clear c_n c_bm;go_at_call 133;have HF1:=HF;rw[hs1] at HF1;refine (HI _ _ _ _ _ _ (.mk kd tx nm kids) _ _ _ 6 HF1 rfl hX hE hN hk).mono ?_;have HC:Hid (cO s (bJ s N) (.mk kd tx nm kids) k=bJ s N (.mk kd tx nm kids) k):=by
   show _=_;unfold cO;rw[if_neg (λ h=>HKK.out h.1)]
  clear HF1;rintro e w22 (⟨c22,p22,h3,rfl,hf⟩|⟨u,v22,nm_u,a_u,c_u,pa_u,pc_u,h3,hmu,rfl,hf⟩)
  ·exact⟨rfl,PTy.no (HC.trans h3) hf.lose⟩
  have H3:=ah (HC.trans h3);replace HF:=hf;clear h3 hf;obtain⟨c_res,f_res⟩:=cf HF 6;replace HF:=sT HF 6 (tyk u) nm_u a_u (tnn u) c_u pa_u (tpn u) pc_u (tmy u);go_wp2;refine br (rt83 results158 rfl (HF.blkAt 6 rfl)) ?_;exact PTy.yes H3 hmu HF.lose
theorem ex_facts (h:Ex n):(∀x,x∈n.kids→Ex x)∧∀ts:List T.Ty,ts.length=n.kids.length→(∀t,t∈ts→may t=true)→ts.length≤16000→n.text.size≤maxLen→VOk n ts:=by
 cases h with
 | num k m hk h1 h2=>exact⟨λ x hx=>by simp [Nd.kids] at hx,λ ts h1 h2 h3 h4=>⟨by simp only[Nd.kind];omega,by simp only[Nd.kind];omega,by simp only[Nd.kind];omega,h2,h3,h4⟩⟩
 | leaf k s hk=>exact⟨λ x hx=>by simp [Nd.kids] at hx,λ ts h1 h2 h3 h4=>⟨by simp only[Nd.kind];omega,by simp only[Nd.kind];omega,by simp only[Nd.kind];omega,h2,h3,h4⟩⟩
 | one k s x hk hx=>exact⟨λ y hy=>by obtain rfl:y=x:=(by simpa [Nd.kids] using hy);exact hx,λ ts h1 h2 h3 h4=>⟨by simp only[Nd.kind];omega,λ_=>by rw[h1];exact Nat.le_refl _,by simp only[Nd.kind];omega,h2,h3,h4⟩⟩
 | op m x y h1 h2 hx hy=>exact⟨λ z hz=>by
   have:z=x∨z=y:=by simpa [Nd.kids] using hz
   rcases this with rfl|rfl
   ·exact hx
   exact hy,λ ts h1 h2 h3 h4=>⟨by simp only[Nd.kind];omega,λ_=>by rw[h1];simp [Nd.kids],λ_=>by rw[h1];simp [Nd.kids],h2,h3,h4⟩⟩
 | call x l hx hl=>exact⟨λ z hz=>by
   have:z=x∨z∈l:=by simpa [Nd.kids] using hz
   rcases this with rfl|h
   ·exact hx
   exact hl z h,λ ts h1 h2 h3 h4=>⟨by simp only[Nd.kind];omega,λ_=>by rw[h1];simp [Nd.kids],by simp only[Nd.kind];omega,h2,h3,h4⟩⟩
 | make s l hl=>exact⟨λ z hz=>hl z hz,λ ts h1 h2 h3 h4=>⟨by simp only[Nd.kind];omega,by simp only[Nd.kind];omega,by simp only[Nd.kind];omega,h2,h3,h4⟩⟩
theorem kidsK_cons (s:Cs) (f:Nd→Nat→CR T.Ty) (kd:Int) (acc:List T.Ty) (x:Nd) (l:List Nd) (k:Nat):eS s f kd acc (x::l) k=(if kd=25∧acc.isEmpty=true then cO s f x k else f x k).bind λ t=>eS s f kd (acc++[t]) l (k+sz x):=rfl
theorem expr_all (s:Cs):∀(N:Nat),ExH s N:=by
 intro N;induction N with
 | zero=>
  intro B w b p k L n a kn c i h hi hx hE hN hk;have:=fX n;omega
 | succ N ih=>
  intro B w b p k L n a kn c i h hi hX0 hE0 hN hk;obtain⟨kd,tx,nm,kids⟩:=n;have hsz:sz (.mk kd tx nm kids)=1+szs kids:=rfl;rw[hsz] at hN hk ⊢;simp only[Nd.kind,Nd.text,Nd.num] at hi ⊢;have hi2:=h.dup (i+1) hi;obtain⟨rfl,-⟩:=hi2.kids 0 rfl;obtain⟨hE1,hE2⟩:=ex_facts hE0;have htx:tx.size≤maxLen:=Nat.le_trans hX0.text (by decide:4000≤maxLen);have HF:=ah hi2.swap;have HX:=ah hX0.kids;have HEx:=ah hE1;have HVO:Hid (∀ts:List T.Ty,ts.length=kids.length→(∀t,t∈ts→may t=true)→ts.length≤16000→VOk (.mk kd tx nm kids) ts):=λ ts h1 h2 h3=>hE2 ts h1 h2 h3 htx;have HI:=ah ih;have HE:Hid (bJ s (N+1) (.mk kd tx nm kids) k=(eS s (bJ s N) kd [] kids (k+1)).bind λ ts=>bB s (.mk kd tx nm kids) k ts):=rfl;clear h hi hi2 hX0 hE0 ih hsz hE1 hE2 htx;go_enter func133,ntmps133;replace HF:=yN HF w.heap.size kd tx nm a kids.length c;replace HF:=bx HF (w.heap.size+1) tyz 83;go_wp2_with fail;go_at_call 48;refine (bA HF (by show k<16000;omega)).mono ?_;rintro e w1 ⟨rfl,v1,HF⟩;have c_n:=HF.cell 2 rfl;go_wp2;clear c_n;generalize hqn:w.heap.size=qn at *;obtain⟨qr,hqr⟩:∃qr,qr=qn+1:=⟨_,rfl⟩
  rw[← hqr] at HF ⊢;go_loopw [6,14] (λ kv iv wr=>Hid (∃(j kj:Nat) (acc:List T.Ty) (v:Value),j≤kids.length∧iv=.int .i64 (j:Int)∧eS s (bJ s N) kd [] kids (k+1)=eS s (bJ s N) kd acc (kids.drop j) kj∧kj+szs (kids.drop j)=k+1+szs kids∧acc.length=j∧(∀t,t∈acc→may t=true)∧Fr B wr (.cs b (p.at v) { s with k:=kj }::.els TyE kv 83 5 acc::.blk qr tyz 83::.blk qn #[.int .i64 kd,.string tx,.int .i64 nm,.slice a kids.length c] 52::.el NdE (ndc kd tx nm a kids.length c) (.mk kd tx nm kids)::L))) (λ_ iv _=>kids.length - (intOf iv).toNat)
  case atStart=>exact⟨0,k+1,[],v1,Nat.zero_le _,rfl,rfl,rfl,rfl,λ t ht=>(by cases ht),((HF.noEls TyE 83 5).swap)⟩
  clear HF hqn hqr;obtain⟨j,kj,acc,v,hj,rfl,hW,hkj,hacc,hmay,hf⟩:=hrel.out;clear hrel;obtain⟨av,cv,rfl,-,-⟩:=hf.elsForm 1 rfl;have hal:acc.length≤16000:=by have:=dS kids;omega
  have HW:=ah hW;have HA:=ah hacc;have HMay:=ah hmay;clear hW hacc hmay;by_cases hlt:j<kids.length
  ·obtain⟨g,o,a',n',c',rfl,-,hc1,hc2,e0,e1,e2,e3,hkd⟩:=hf.kidHere 4 rfl j hlt;have HY:Hid (kids.drop j=kids[j]::kids.drop (j+1)):=eF hlt;have hy:kids[j]∈kids:=List.getElem_mem hlt;have hszy:szs (kids.drop j)=sz kids[j]+szs (kids.drop (j+1)):=szs_at hlt;have hx:=HX _ hy;have hey:=HEx _ hy;have hszm:=eH hy;clear hy;generalize kids[j]=y at *;obtain⟨yk,ytx,ynm,yl⟩:=y;simp only[Nd.kind,Nd.text,Nd.num] at e0 e1 e2 e3 hkd;have hyt:ytx.size≤maxLen:=Nat.le_trans hx.text (by decide:4000≤maxLen);have HF:=hkd.swap;have hli:(j:Int)<(kids.length:Int):=by omega
   have HLT:=ah hlt;have hlen:=dS kids;have HJ:Hid (wrap64 ((j:Int)+1)=(j:Int)+1):=by
    show _=_;unfold maxLen at hc2;unfold wrap64;omega
   clear hc1 hc2 hf hkd;replace HF:=yN HF wr.heap.size yk ytx ynm a' n' c';have c_n:=HF.cell 5 rfl;by_cases hc:kd=25∧j=0
   ·obtain⟨hk25,hj0⟩:=hc;subst hk25;have hjb:((j:Int) == 0)=true:=by rw[hj0];rfl
    have HC:Hid (∀l,eS s (bJ s N) 25 acc (.mk yk ytx ynm yl::l) kj=(cO s (bJ s N) (.mk yk ytx ynm yl) kj).bind λ t=>eS s (bJ s N) 25 (acc++[t]) l (kj+sz (.mk yk ytx ynm yl))):=λ l=>by
     rw[kidsK_cons,if_pos ⟨rfl,by rw[List.isEmpty_iff];exact List.eq_nil_of_length_eq_zero (HA.out.trans hj0)⟩]
    clear hj0;go_wp2_with fail;clear c_n;clear e0 e1 e2 e3;go_at_call 158;refine (called158 HI HF 1 rfl hx hyt hey (by omega) (by omega)).mono ?_;rintro e w3 (⟨c3,p3,h3,rfl,hf⟩|⟨t,v3,nm_t,a_t,c_t,pa_t,pc_t,h3,hm,rfl,hf⟩)
    ·exact⟨rfl,PTy.no (by rw[HE.out,HW.out,HY.out,HC.out,h3];rfl) hf.lose⟩
    have H3:=ah h3;have HM_t:=ah hm;replace HF:=hf;clear h3 hf hm;go_wp2_with (at_builtin;refine Fr.elAppL 81 fZ underlying81 rfl (by decide) (by decide) (HF.alloc (q:=w3.heap.size) (by simp) #[.int .i64 (tyk t),.string nm_t,.slice a_t (tnn t) c_t,.slice pa_t (tpn t) pc_t,.bool (tmy t)] 83) 4 rfl (by omega) 1 rfl _ _ rfl rfl (by rfl) (by rfl) rfl rfl ?_;intro g4 cap4 w4 hF hgr)
    replace HF:=hF;clear hF hgr;go_roundw
    case rel=>exact⟨j+1,kj+sz (.mk yk ytx ynm yl),acc++[t],v3,HLT,by go_num,by rw[HW.out,HY.out,HC.out,H3.out];rfl,by omega,by rw[List.length_append,HA.out];rfl,λ u hu=>by rcases List.mem_append.1 hu with h|h;exact HMay u h;rw[List.mem_singleton.1 h];exact HM_t,HF.lose⟩
    case measure=>exact aO HLT
   have hcc:¬ (kd=25∧acc.isEmpty=true):=λ h=>hc ⟨h.1,by have:=HA.out;rw[List.isEmpty_iff] at h;rw[h.2] at this;exact this.symm⟩;have HC:Hid (∀l,eS s (bJ s N) kd acc (.mk yk ytx ynm yl::l) kj=(bJ s N (.mk yk ytx ynm yl) kj).bind λ t=>eS s (bJ s N) kd (acc++[t]) l (kj+sz (.mk yk ytx ynm yl))):=λ l=>by
    rw[kidsK_cons,if_neg hcc]
   clear hcc;by_cases hk25:kd=25
   ·subst hk25;have hjb:((j:Int) == 0)=false:=by simpa using λ e:j=0=>hc ⟨rfl,e⟩
    clear hc;go_wp2_with fail;clear c_n;clear e0 e1 e2 e3;go_at_call 133;refine (HI _ _ _ _ _ _ (.mk yk ytx ynm yl) _ _ _ 1 HF rfl hx hey (by omega) (by omega)).mono ?_;rintro e w3 (⟨c3,p3,h3,rfl,hf⟩|⟨t,v3,nm_t,a_t,c_t,pa_t,pc_t,h3,hm,rfl,hf⟩)
    ·exact⟨rfl,PTy.no (by rw[HE.out,HW.out,HY.out,HC.out,h3];rfl) hf.lose⟩
    have H3:=ah h3;have HM_t:=ah hm;replace HF:=hf;clear h3 hf hm;go_wp2_with (at_builtin;refine Fr.elAppL 81 fZ underlying81 rfl (by decide) (by decide) (HF.alloc (q:=w3.heap.size) (by simp) #[.int .i64 (tyk t),.string nm_t,.slice a_t (tnn t) c_t,.slice pa_t (tpn t) pc_t,.bool (tmy t)] 83) 4 rfl (by omega) 1 rfl _ _ rfl rfl (by rfl) (by rfl) rfl rfl ?_;intro g4 cap4 w4 hF hgr)
    replace HF:=hF;clear hF hgr;go_roundw
    case rel=>exact⟨j+1,kj+sz (.mk yk ytx ynm yl),acc++[t],v3,HLT,by go_num,by rw[HW.out,HY.out,HC.out,H3.out];rfl,by omega,by rw[List.length_append,HA.out];rfl,λ u hu=>by rcases List.mem_append.1 hu with h|h;exact HMay u h;rw[List.mem_singleton.1 h];exact HM_t,HF.lose⟩
    case measure=>exact aO HLT
   have hkb:(kd == 25)=false:=by simpa using hk25
   clear hc hk25;go_wp2_with fail;clear c_n;clear e0 e1 e2 e3;go_at_call 133;refine (HI _ _ _ _ _ _ (.mk yk ytx ynm yl) _ _ _ 1 HF rfl hx hey (by omega) (by omega)).mono ?_;rintro e w3 (⟨c3,p3,h3,rfl,hf⟩|⟨t,v3,nm_t,a_t,c_t,pa_t,pc_t,h3,hm,rfl,hf⟩)
   ·exact⟨rfl,PTy.no (by rw[HE.out,HW.out,HY.out,HC.out,h3];rfl) hf.lose⟩
   have H3:=ah h3;have HM_t:=ah hm;replace HF:=hf;clear h3 hf hm;go_wp2_with (at_builtin;refine Fr.elAppL 81 fZ underlying81 rfl (by decide) (by decide) (HF.alloc (q:=w3.heap.size) (by simp) #[.int .i64 (tyk t),.string nm_t,.slice a_t (tnn t) c_t,.slice pa_t (tpn t) pc_t,.bool (tmy t)] 83) 4 rfl (by omega) 1 rfl _ _ rfl rfl (by rfl) (by rfl) rfl rfl ?_;intro g4 cap4 w4 hF hgr)
   replace HF:=hF;clear hF hgr;go_roundw
   case rel=>exact⟨j+1,kj+sz (.mk yk ytx ynm yl),acc++[t],v3,HLT,by go_num,by rw[HW.out,HY.out,HC.out,H3.out];rfl,by omega,by rw[List.length_append,HA.out];rfl,λ u hu=>by rcases List.mem_append.1 hu with h|h;exact HMay u h;rw[List.mem_singleton.1 h];exact HM_t,HF.lose⟩
   case measure=>exact aO HLT
  have hje:j=kids.length:=by omega
  subst hje;have hli:¬ ((kids.length:Nat):Int)<(kids.length:Int):=by omega
  rw[List.drop_length] at HW hkj;have hkj':kj=k+(1+szs kids):=by simp only[szs] at hkj;omega
  subst hkj';have HW2:Hid (bJ s (N+1) (.mk kd tx nm kids) k=bB s (.mk kd tx nm kids) k acc):=by
   show _=_;rw[HE.out,HW.out];rfl
  have hVO:=HVO acc HA HMay hal;have HVOk:=ah hVO;obtain⟨p1,hp1⟩:∃p1,p1=p.at v:=⟨_,rfl⟩
  obtain⟨s1,hs1⟩:∃s1:Cs,s1={ s with k:=k+(1+szs kids) }:=⟨_,rfl⟩
  rw[← hp1,← hs1] at hf;have HF:=hf.give 1 rfl;have hk1:k<s1.k:=by rw[hs1];show k<k+(1+szs kids);omega
  have hvc:bB s1 (.mk kd tx nm kids) k acc=bB s (.mk kd tx nm kids) k acc:=by rw[hs1];rfl
  have HVC:=ah hvc;have HP1:=ah hp1;have HS1:=ah hs1;clear hf HW hkj hp1 hs1 hvc hVO;obtain⟨g1,c1,hkv,-,-,-,-⟩:=HF.csKnow (o1:=k*5+1) (o2:=k*5+2) (o3:=k*5+3) (o4:=k*5+4) k hk1 (k*5) rfl rfl rfl rfl rfl;have hk1i:(k:Int)<(s1.k:Int):=by omega
  have hcsx:∀w' L',Fr B w' (.cs b p1 s1::L')→∀o,w'.cell? ⟨b,o,none⟩=(#[p1.n0,p1.n1,p1.n2,p1.n3,p1.r0,p1.r1,p1.r2,p1.r3,p1.r4,.bool s1.many,p1.bv,.int .i64 s1.wo,(.slice (some ⟨g1,0,none⟩) s1.k c1),.map (some p1.sm),.map (some p1.dm)]:Array Value)[o]?:=λ w' L' h=>by
   have:=h.csCell;rw[show csC p1 s1=#[p1.n0,p1.n1,p1.n2,p1.n3,p1.r0,p1.r1,p1.r2,p1.r3,p1.r4,.bool s1.many,p1.bv,.int .i64 s1.wo,p1.kv,.map (some p1.sm),.map (some p1.dm)] from rfl,hkv] at this;exact this
  go_wp2;refine regK [11] HF (λ w h=>⟨hcsx _ _ h,(h.cell 3 rfl)⟩) (λ wd3 HF hC=>?_) (C:=λ w'=>(∀o,w'.cell? ⟨b,o,none⟩=(#[p1.n0,p1.n1,p1.n2,p1.n3,p1.r0,p1.r1,p1.r2,p1.r3,p1.r4,.bool s1.many,p1.bv,.int .i64 s1.wo,(.slice (some ⟨g1,0,none⟩) s1.k c1),.map (some p1.sm),.map (some p1.dm)]:Array Value)[o]?)∧(∀o,w'.cell? ⟨qn,o,none⟩=(#[.int .i64 kd,.string tx,.int .i64 nm,.slice a kids.length c]:Array Value)[o]?));refine tq4 0 1 2 3 ?_;refine tq4 4 5 6 7 ?_;refine tq 8 ?_;refine rq 9 λ K hK=>?_;go_simp;refine (value71 HF 0 rfl HVOk k).mono ?_;rintro e w4 (⟨c2,p2,h3,rfl,hf⟩|⟨t,v2,nm_t,a_t,c_t,pa_t,pc_t,h3,hmt,rfl,hf⟩)
  ·exact⟨rfl,PTy.no (HW2.trans (HVC.symm.trans h3)) hf.lose⟩
  have H3:=ah (HW2.trans (HVC.symm.trans h3));replace HF:=hf;clear h3 hf;refine uq hK ⟨hcsx _ _ HF,(HF.cell 4 rfl)⟩ λ hC=>?_;refine tq 10 ?_;refine rqb 11 λ K hK=>?_;obtain⟨g',c',hkv2,f_g,hblk,⟨d0,d1,d2,d3,d4,e0,e1,e2,e3,e4⟩,hput⟩:=HF.csKnow (o1:=k*5+1) (o2:=k*5+2) (o3:=k*5+3) (o4:=k*5+4) k hk1 (k*5) rfl rfl rfl rfl rfl;rw[hkv] at hkv2;cases hkv2;have hc5:=cell5 (o1:=k*5+1) (o2:=k*5+2) (o3:=k*5+3) hblk e4 rfl rfl rfl rfl (.int .i64 (tyk t)) (.string nm_t) (.slice a_t (tnn t) c_t) (.slice pa_t (tpn t) pc_t) (.bool (tmy t));replace HF:=hput (.int .i64 (tyk t)) (.string nm_t) (.slice a_t (tnn t) c_t) (.slice pa_t (tpn t) pc_t) (.bool (tmy t));go_simp;clear e0 e1 e2 e3 e4 f_g hput hblk;refine ub hK ?_;refine dq ?_;obtain⟨q0,q1,q2,q3,q4⟩:=hc5;have c_cs:=hcsx _ _ HF;obtain⟨c_res,f_res⟩:=cf HF 3;replace HF:=sT HF 3 (tyk t) nm_t a_t (tnn t) c_t pa_t (tpn t) pc_t (tmy t);go_wp2;refine br (rt83 results133 rfl (HF.blkAt 3 rfl)) ?_;have hF:=HF;rw[HP1.out,HS1.out] at hF;exact PTy.yes H3 hmt hF.lose
theorem append_keep {e : TypeId} (ty:TypeId) (hinfo:(prog.info? e).map (λ i=>(i.zero,i.size,i.bytes))=some (some zv,1,by')) (ht:prog.underlying t=some (.slice e)) (hz:zv.cells.size=1) (hby:by'≤1000)
  {v:Value} {n:Nat} {xs:List Value} (hown:w.ownsRow 0 e 1 v n xs) (hn:n≤16000) {q c:Nat} {u:Value} {T:TypeId} (hb:w.heap[q]?=some (.cells #[u] T (0,0))) (hu:u.oneCell'=true):
  ∃g cap w',(Builtin.append_ #[t,t] ty #[v,.slice (some ⟨q,0,none⟩) 1 c]).run prog w=.ok (.slice (some ⟨g,0,none⟩) (n+1) cap) w'∧w'.ownsRow 0 e 1 (.slice (some ⟨g,0,none⟩) (n+1) cap) (n+1) (xs++[u]) ∧
   ((v=.slice (some ⟨g,0,none⟩) n cap∧w.grownBy w' (some g))∨(g=w.heap.size∧Below w.heap.size w w')):=by
 obtain⟨i,hi,hz1,hsize,hbytes⟩:=gF hinfo;have hbb:(n+1)*by'≤140737488355328:=Nat.le_trans (Nat.mul_le_mul (show n+1≤32000 by omega) hby) (by decide)
 have hnews:∀j x,[u][j]?=some x→w.cell? ((⟨q,0,none⟩:Addr).add j)=some x:=World.news_of_block hb;have hone:∀x∈[u],x.oneCell'=true:=λ x hx=>by rw[List.mem_singleton.1 hx];exact hu
 obtain⟨g,cap,w',hr,h2,h3,h4,h5⟩:=run_append_lies (P:=prog) w t ty 0 e i zv 1 by' ht hi hz1 hsize hbytes hz (by omega) v n xs hown ⟨q,0,none⟩ 1 c [u] rfl hnews hone (by omega) (by unfold maxLen;omega) hbb (Nat.zero_le _) w.heap.size rfl
 rcases hown.2 with⟨rfl,rfl⟩|⟨g0,cap0,cur,rfl,-,hg,hnc,hcm,hcs,htake⟩
 ·refine⟨g,cap,w',hr,h2,Or.inr ⟨?_,⟨h3.os,h3.tape,h3.output,h3.size,λ k hk=>h3.block k hk (by simp [Value.ownBlock])⟩⟩⟩;rcases h4 with h4|h4
  ·simp [Value.ownBlock] at h4
  exact h4
 by_cases hroom:n+1≤cap0
 ·have hr2:=run_append_room (P:=prog) w t ty e i ht hi g0 n cap0 cur hg ⟨q,0,none⟩ 1 c [u] (by rw[hsize];rfl) hnews hone hroom (by rw[hsize];simp;omega);rw[hr] at hr2;injection hr2 with e1 e2
  injection e1 with e3 e4 e5
  injection e3 with e6
  injection e6 with e7
  subst e7 e5;exact⟨g,cap,w',hr,h2,Or.inl ⟨rfl,h3⟩⟩
 have hb2:Builtin.nextslicecap (n+1) cap0*i.bytes≤281474976710656:=growslice_fits (by omega) (by rw[hbytes];exact hbb);have hr2:=run_append_grow (P:=prog) w t ty e i zv ht hi hz1 ⟨g0,0,none⟩ n cap0 xs (by rw[hsize];exact hown.1) (hown.cells (g:=g0) rfl) ⟨q,0,none⟩ 1 c [u] (by rw[hsize];rfl) hnews (by omega) (by omega) hb2;rw[hr] at hr2;injection hr2 with e1 e2
 injection e1 with e3 e4 e5
 injection e3 with e6
 injection e6 with e7
 refine⟨g,cap,w',hr,h2,Or.inr ⟨e7,?_⟩⟩;rw[e2];exact (Below.refl _ _).drew.alloc (Nat.le_refl _) _
def KeepR (v:Value)(e n:Nat)(xs:List Value)(v':Value)(K:Rs):Prop:=(K=.pure True∧xs.length=n∧∃g cap,v=.slice (some ⟨g,0,none⟩) n cap∧v'=.slice (some ⟨g,0,none⟩) (n+1) cap)∨K=.row v e 1 n xs
theorem perm_set {α:Type}:∀{L:List α} {i:Nat} {x y:α},L[i]?=some y→(x::L).Perm (y::L.set i x)
 | [],i,x,y,h=>by simp at h
 | z::L,0,x,y,h=>by
  obtain rfl:z=y:=by simpa using h
  exact List.Perm.swap _ _ _
 | z::L,i+1,x,y,h=>((List.Perm.swap z x L).trans ((perm_set (x:=x) (show L[i]?=some y by simpa using h)).cons z)).trans (List.Perm.swap _ _ _)
theorem Fr.pushRow {e : TypeId} (hinfo:(prog.info? e).map (λ i=>(i.zero,i.size,i.bytes))=some (some zv,1,by')) (ht:prog.underlying t=some (.slice e)) (hz:zv.cells.size=1) (hby:by'≤1000)
  {q:Nat} {u:Value} {T:TypeId} (h:Fr B w (.blk q #[u] T::L)) (hu:u.oneCell'=true) (i:Nat) {v:Value} {n:Nat} {xs:List Value} (hi:L[i]?=some (.row v e 1 n xs)) (hn:n≤16000)
  {ops:Array Oper} {rest:List Oper} {o:Oper} {a:Act} (pp qq:Operand) (hgd:o.guard=none) (ho:o.op=.call { callee:=.builtin .append,args:=#[pp,qq],argTypes:=#[t,t] }) (hs:a.eval pp=v)
  {c:Nat} (hx':a.eval qq=.slice (some ⟨q,0,none⟩) 1 c) {Q:Exit→Act→World→Prop}
  (k:∀g cap w' K,KeepR v e n xs (.slice (some ⟨g,0,none⟩) (n+1) cap) K→Fr B w' (K::L.set i (.row (.slice (some ⟨g,0,none⟩) (n+1) cap) e 1 (n+1) (xs++[u])))→wpList prog ops Q rest (a.put o.dst (.slice (some ⟨g,0,none⟩) (n+1) cap)) w'):
  wpList prog ops Q (o::rest) a w:=by
 refine wpList_plain hgd λ K0 hK0=>?_;have hown:=h.rowAt (i+1) hi;have hblk:=h.blkAt 0 rfl;obtain⟨g,cap,w',hr,h2,h3⟩:=append_keep (c:=c) o.type hinfo ht hz hby hown hn hblk hu;unfold Oper.wp execOp;simp only[ho,resolve,invoke,builtin,Sem.run_bind,Sem.run_pure,Result.andThen_ok,List.map_toArray,List.map_cons,List.map_nil,hs,hx',hr];refine hK0 _ _ ?_;rcases h3 with⟨rfl,h4⟩|⟨rfl,h4⟩
 ·refine k g cap w' (.pure True) (Or.inl ⟨rfl,by simpa using hown.1,g,cap,rfl,rfl⟩) ?_;refine Fr.sure ?_ ⟨λ_=>True,λ_ _ h _=>h⟩ λ_=>trivial;exact h.tail.app i hi h4 h2 λ x hx=>Or.inl hx
 refine k w.heap.size cap w' (.row v e 1 n xs) (Or.inr rfl) ?_;have h5:w'.ownsRow w.heap.size e 1 (.slice (some ⟨w.heap.size,0,none⟩) (n+1) cap) (n+1) (xs++[u]):=by
  refine⟨h2.1,?_⟩;rcases h2.2 with h6|⟨g',cap',cur,e1,e2,r⟩
  ·exact Or.inl h6
  cases e1;exact Or.inr ⟨_,_,cur,rfl,Nat.le_refl _,r⟩
 exact (h.tail.take h4 h5).perm (perm_set hi)
theorem row_less {e n g cap : Nat} (h:w.ownsRow 0 e 1 (.slice (some ⟨g,0,none⟩) (n+1) cap) (n+1) (xs++[u])) (hl:xs.length=n):w.ownsRow 0 e 1 (.slice (some ⟨g,0,none⟩) n cap) n xs:=by
 refine⟨by simpa using hl,?_⟩;rcases h.2 with⟨h6,-⟩|⟨g',cap',cur,e1,e2,hg,a1,a2,a3,a4⟩
 ·simp at h6
 cases e1;refine Or.inr ⟨_,_,cur,rfl,e2,hg,by omega,a2,a3,?_⟩;have:=congrArg (List.take n) a4;rw[List.take_take,List.take_left' hl] at this;rwa [Nat.mul_one,Nat.min_eq_left (by omega)] at *
theorem Fr.popRow {K : Rs} {e n : Nat} {v v' : Value} (h:Fr B w (K::L)) (hK:KeepR v e n xs v' K) (i:Nat) (hi:L[i]?=some (.row v' e 1 (n+1) (xs++[u]))):Fr B w (L.set i (.row v e 1 n xs)):=by
 rcases hK with⟨-,hl,g,cap,rfl,rfl⟩|rfl
 ·exact h.tail.same i hi (λ H hr=>row_less hr hl) λ q hq=>hq
 exact (h.perm (perm_set hi)).tail
section
inductive Nk:Nd→Prop
 | mk (k:Int) (s:ByteArray) (m:Int) (l:List Nd):s.size≤4000→R64 m→(∀x,x∈l→Nk x)→Nk (.mk k s m l)
theorem Nk.text (h:Nk n):n.text.size≤4000:=by cases h;assumption
theorem Nk.num (h:Nk n):R64 n.num:=by cases h;assumption
theorem Nk.kids (h:Nk n):∀x,x∈n.kids→Nk x:=by cases h;assumption
structure PQ where
 uv:Value
 tv:Value
 ov:Value
 outv:Value
def PQ.at (q:PQ)(v:Value):PQ:={ q with outv:=v }
abbrev pmC (q:PQ)(f:Nat)(p:Pm)(over:Bool):Array Value:=#[.int .i64 0,.int .i32 0,q.outv,.int .i64 p.steps,q.uv,q.tv,q.ov,.int .i64 f,.bool over]
abbrev pmK (b:Nat)(q:PQ)(pg:Pg)(f:Nat)(p:Pm)(over:Bool):List Rs:=[.blk b (pmC q f p over) 42,.els I32E q.outv 21 1 p.out,.els ThE q.tv 67 10 (pg.ts.zip p.now),.sl UiE q.uv 62 8 pg.us]
def Rs.pm (b:Nat)(q:PQ)(pg:Pg)(f:Nat)(p:Pm)(over:Bool):Rs:=.all (pmK b q pg f p over)
structure PgI (pg:Pg):Prop where
 ts:∀t,t∈pg.ts→Nk t.node∧sz t.node≤700
 us:∀u,u∈pg.us→Nk u.node
structure PI (pg:Pg)(f m n0:Nat)(p:Pm):Prop where
 now:p.now.length=pg.ts.length
 steps:p.steps≤f
 f:f≤2000
 out:p.out.length+2*m≤2*p.steps
 from_:n0≤p.steps
theorem PI.less {p : Pm} (h:PI pg f (m+1) n0 p):PI pg f m n0 p:=⟨h.now,h.steps,h.f,by have:=h.out;omega,h.from_⟩
theorem PI.at {n1 : Nat} {p : Pm} (h:PI pg f m n0 p) (k:n1≤p.steps):PI pg f m n1 p:=⟨h.now,h.steps,h.f,h.out,k⟩
theorem Fr.pmOpen {q : PQ} {p : Pm} {over : Bool} (h:Fr B w (.pm b q pg f p over::L)):Fr B w (pmK b q pg f p over++L):=h.opn
theorem Fr.pmShut {q : PQ} {p : Pm} {over : Bool} (h:Fr B w (pmK b q pg f p over++L)):Fr B w (.pm b q pg f p over::L):=h.cls
section
variable (h:Fr B w L) (i:Nat) {q : PQ} {p : Pm} {over : Bool} (hi:L[i]?=some (.pm b q pg f p over))
include h hi
theorem Fr.pmBlk:w.heap[b]?=some (.cells (pmC q f p over) 42 (0,0)):=by
 obtain⟨H,h1,-⟩:=h.get hi;exact h1.1 _ (List.mem_cons_self ..)
theorem Fr.pmCell:∀o,w.cell? ⟨b,o,none⟩=(pmC q f p over)[o]?:=aA (h.pmBlk i hi)
theorem Fr.pmFrz:∀o,w.frozen? ⟨b,o,none⟩=false:=aX (h.pmBlk i hi)
end
theorem Fr.pmStep {q : PQ} {p : Pm} {over : Bool} (h:Fr B w (.pm b q pg f p over::L)):Fr B (w.setCell ⟨b,3,none⟩ (.int .i64 ((p.steps+1:Nat):Int))) (.pm b q pg f { p with steps:=p.steps+1 } over::L):=
 Fr.pmShut (p:={ p with steps:=p.steps+1 }) (h.pmOpen.set 0 rfl 3 (.int .i64 ((p.steps+1:Nat):Int)))
theorem Fr.pmOver {q : PQ} {p : Pm} {over : Bool} (h:Fr B w (.pm b q pg f p over::L)):Fr B (w.setCell ⟨b,8,none⟩ (.bool true)) (.pm b q pg f p true::L):=
 Fr.pmShut (over:=true) (h.pmOpen.set 0 rfl 8 (.bool true))
structure CQ where
 n0:Value
 n1:Value
 n2:Value
 n3:Value
 sg:Value
 nu:Value
 m1:Nat
 m2:Nat
 bv:Value
 lv:Value
 wv:Value
 em:List Nat
 N:Nat
abbrev cmC (bp:Nat)(k:CQ):Array Value:=#[ptr bp,k.n0,k.n1,k.n2,k.n3,k.sg,k.nu,.map (some k.m1),.map (some k.m2),k.bv,k.lv,k.wv]
def bH (N:Nat):List Nat→List NM→List Rs
 | m::ms,f::fs=>.mp zN VNat m N f::bH N ms fs
 | _,_=>[]
abbrev cmK (b bp:Nat)(k:CQ)(c:Cm):List Rs:=
 [.blk b (cmC bp k) 76,.row k.bv 40 1 c.bl.length (k.em.reverse.map λ m=>.map (some m)),.els VaE k.lv 48 4 c.lo,.sl I32E k.wv 21 1 c.be,.sm k.m1 c.u.st,.sm k.m2 c.u.me,.el NdE [k.n0,k.n1,k.n2,k.n3] c.u.node]
def Rs.cm (b bp:Nat)(k:CQ)(c:Cm):Rs:=.all (cmK b bp k c++bH k.N k.em c.bl)
structure CI (k:CQ)(c:Cm)(n:Nat):Prop where
 em:k.em.length=c.bl.length
 N:k.N≤700+n
 lo:c.lo.length≤700+n
 bl:c.bl.length≤n+1
 n:n≤2000
 un:Nk c.u.node
theorem Fr.cmOpen {k : CQ} (h:Fr B w (.cm b bp k c::L)):Fr B w (cmK b bp k c++(bH k.N k.em c.bl++L)):=by
 have:=h.opn;rwa [List.append_assoc] at this
theorem Fr.cmShut {k : CQ} (h:Fr B w (cmK b bp k c++(bH k.N k.em c.bl++L))):Fr B w (.cm b bp k c::L):=by
 rw[← List.append_assoc] at h;exact h.cls
section
variable (h:Fr B w L) (i:Nat) {k : CQ} (hi:L[i]?=some (.cm b bp k c))
include h hi
theorem Fr.cmBlk:w.heap[b]?=some (.cells (cmC bp k) 76 (0,0)):=by
 obtain⟨H,h1,-⟩:=h.get hi;exact h1.1 _ (List.mem_cons_self ..)
theorem Fr.cmCell:∀o,w.cell? ⟨b,o,none⟩=(cmC bp k)[o]?:=aA (h.cmBlk i hi)
theorem Fr.cmFrz:∀o,w.frozen? ⟨b,o,none⟩=false:=aX (h.cmBlk i hi)
end
abbrev up44 (h:Int):Ending:=.panicked [{ v:=.iface 44 (.int .i64 h),recovered:=false }]
abbrev up69 (a b c d:Value):Ending:=.panicked [{ v:=.iface 69 (.agg #[a,b,c,d]),recovered:=false }]
def PMo {α:Type}(q:O α)(ok:α→Pm→Ending→World→Prop)(B:Bs)(bp:Nat)(Q:PQ)(pg:Pg)(f m n0:Nat)(L:List Rs)(e:Ending)(w':World):Prop:=
 match q with
 | .ok x p=>ok x p e w'
 | .ret v p=>∃ov a c pa pc,e=up69 (.int .i64 v.kind) (.int .i64 v.num) (.slice a v.names.length c) (.slice pa v.parts.length pc)∧R64 v.num∧PI pg f m n0 p∧Fr B w' (.pm bp (Q.at ov) pg f p false::.el VaE (vac v.kind v.num a v.names.length c pa v.parts.length pc) v::L)
 | .fin h p=>∃ov,e=up44 h∧PI pg f m n0 p∧Fr B w' (.pm bp (Q.at ov) pg f p true::L)
 | .stuck=>False
abbrev PMe (q:O Va)(B:Bs)(bc bp:Nat)(k:CQ)(c:Cm)(Q:PQ)(pg:Pg)(f m n0:Nat)(L:List Rs):Ending→World→Prop:=
 PMo q (λ v p e w'=>∃ov a d pa pd,e=.returned (.agg #[.int .i64 v.kind,.int .i64 v.num,.slice a v.names.length d,.slice pa v.parts.length pd])∧R64 v.num∧PI pg f m n0 p∧Fr B w' (.cm bc bp k c::.pm bp (Q.at ov) pg f p false::.el VaE (vac v.kind v.num a v.names.length d pa v.parts.length pd) v::L)) B bp Q pg f m n0 L
abbrev PMr (q:O Va)(B:Bs)(bp:Nat)(Q:PQ)(pg:Pg)(f m n0:Nat)(L:List Rs):Ending→World→Prop:=
 PMo q (λ v p e w'=>∃ov a d pa pd,e=.returned (.agg #[.int .i64 v.kind,.int .i64 v.num,.slice a v.names.length d,.slice pa v.parts.length pd])∧R64 v.num∧PI pg f m n0 p∧Fr B w' (.pm bp (Q.at ov) pg f p false::.el VaE (vac v.kind v.num a v.names.length d pa v.parts.length pd) v::L)) B bp Q pg f m n0 L
section
variable {α β : Type} {a : O α} {g : α → Pm → O β} {Q : O β}
theorem b_ok {x : α} {p : Pm} (hQ:Q=a.bind g) (h:a=.ok x p):Q=g x p:=by rw[hQ,h];rfl
theorem dE {p : Pm} (hQ:Q=a.bind g) (h:a=.ret v p):Q=.ret v p:=by rw[hQ,h];rfl
theorem dF {e : Int} {p : Pm} (hQ:Q=a.bind g) (h:a=.fin e p):Q=.fin e p:=by rw[hQ,h];rfl
theorem b_no (hQ:Q=a.bind g) (hn:Q≠.stuck):a≠.stuck:=λ h=>hn (by rw[hQ,h];rfl)
theorem of_ok {x : Option β} {p : Pm} (hQ:Q=O.of x p) (hn:Q≠.stuck):∃y,x=some y∧Q=.ok y p:=by
 cases x with
 | none=>exact absurd hQ hn
 | some y=>exact⟨y,rfl,hQ⟩
end
section
variable {α : Type} {q : O α} {ok : α → Pm → Ending → World → Prop} {Q : PQ} {e : Ending}
theorem PMo.ok' {x : α} {p : Pm} (hq:q=.ok x p) (h:ok x p e w'):PMo q ok B bp Q pg f m n0 L e w':=by rw[hq];exact h
theorem PMo.fin' {h : Int} {p : Pm} (hq:q=.fin h p) (hi:PI pg f m n0 p) (hf:Fr B w' (.pm bp (Q.at ov) pg f p true::L)):PMo q ok B bp Q pg f m n0 L (up44 h) w':=by rw[hq];exact⟨ov,rfl,hi,hf⟩
theorem PMo.ret' {p : Pm} {a : Option Addr} {c : Nat} {pa : Option Addr} {pc : Nat} (hq:q=.ret v p) (hr:R64 v.num) (hi:PI pg f m n0 p) (hf:Fr B w' (.pm bp (Q.at ov) pg f p false::.el VaE (vac v.kind v.num a v.names.length c pa v.parts.length pc) v::L)):
  PMo q ok B bp Q pg f m n0 L (up69 (.int .i64 v.kind) (.int .i64 v.num) (.slice a v.names.length c) (.slice pa v.parts.length pc)) w':=by rw[hq];exact⟨ov,a,c,pa,pc,rfl,hr,hi,hf⟩
end
end
theorem end_any {q : PQ} {p : Pm} (h:Fr B w (.pm bp q pg f p false::L)) (e0:Int):Calls prog 57 #[ptr bp,.int .i64 e0] w λ e w'=>e=up44 e0∧Fr B w' (.pm bp q pg f p true::L):=by
 have HF:=h;clear h;go_enter func57,ntmps57;have c_pm:=HF.pmCell 0 rfl;have f_pm:=HF.pmFrz 0 rfl;replace HF:=ah HF.pmOver;go_wp2;exact⟨rfl,rfl,HF⟩
theorem eV {q : PQ} {p : Pm} (h:Fr B w (.pm bp q pg f p false::L)) (hi:PI pg f m n0 p):Calls prog 41 #[ptr bp] w (PMo (dH f p) (λ_ p' e w'=>e=.returned (.tuple #[])∧PI pg f (m+1) n0 p'∧Fr B w' (.pm bp q pg f p' false::L)) B bp q pg f m n0 L):=by
 have hn:p.steps≤2000:=Nat.le_trans hi.steps hi.f;have hf2:=hi.f;have HI:=ah hi;have HF:=h;clear h hi;by_cases hs:p.steps=f
 ·have hq:((p.steps:Int) == (f:Int))=true:=by simp [hs]
  have HS:Hid (dH f p=.fin 0 p):=if_pos hs;clear hs;go_enter func41,ntmps41;go_wp2;refine regK [] HF (λ w h=>(h.pmCell 0 rfl)) (λ wd1 HF hC=>?_) (C:=λ w'=>(∀o,w'.cell? ⟨bp,o,none⟩=(#[.int .i64 0,.int .i32 0,q.outv,.int .i64 p.steps,q.uv,q.tv,q.ov,.int .i64 f,.bool false]:Array Value)[o]?));refine tq4 0 1 2 3 ?_;refine tq4 4 5 6 7 ?_;refine tq2 8 9 ?_;refine dq ?_;go_wp2_with fail;go_at_call 57;refine (end_any HF 0).mono ?_;rintro e w2 ⟨rfl,hf⟩;exact⟨rfl,PMo.fin' (ov:=q.outv) HS (HI) hf⟩
 have hq:((p.steps:Int) == (f:Int))=false:=by simp;omega
 have HS:Hid (dH f p=.ok () { p with steps:=p.steps+1 }):=if_neg hs;have hlt:p.steps+1≤f:=by have:=HI.steps;omega
 have HP:Hid (PI pg f (m+1) n0 { p with steps:=p.steps+1 }):=⟨HI.now,hlt,HI.f,by have:=HI.out.out;show p.out.length+2*(m+1)≤2*(p.steps+1);omega,by have:=HI.from_;show n0≤p.steps+1;omega⟩
 clear hs hlt;go_enter func41,ntmps41;go_wp2;refine regK [] HF (λ w h=>(h.pmCell 0 rfl)) (λ wd1 HF hC=>?_) (C:=λ w'=>(∀o,w'.cell? ⟨bp,o,none⟩=(#[.int .i64 0,.int .i32 0,q.outv,.int .i64 p.steps,q.uv,q.tv,q.ov,.int .i64 f,.bool false]:Array Value)[o]?));refine tq4 0 1 2 3 ?_;refine tq4 4 5 6 7 ?_;refine tq2 8 9 ?_;refine dq ?_;have c_pm:=HF.pmCell 0 rfl;have f_pm:=HF.pmFrz 0 rfl;replace HF:=ah HF.pmStep;go_wp2;go_end0
 exact PMo.ok' HS ⟨rfl,HP,HF⟩
section
open Go.RowKit Go.Shelf
attribute [local go_sem] Oper.semAt_some
theorem backN_in (n:Nat) (hn:1≤n) (w:World) (ms:List Nat) (a:Option Addr) (c:Nat) (hlen:ms.length≤16000) (hM:Hid (MapsAt w a ms)) (m0:Nat) (hm0:m0≤w.heap.size) (l Bn:Nat) (J Jx:List (Fin ms.length)→World→Prop) (W:World) (hJ:Hid (AbidesFrom W.heap.size J))
  (hY:Hid (∀pre (x:Fin ms.length) W1,J pre W1→pre.length<ms.length→YieldAt Fence.wide (n - 1) prog l #[.int .i64 ((ms.length:Int) - 1 - (x:Nat)),rvm ms x] W1 λ e W'=>(e=.returned (.bool true)∧J (pre++[x]) W'∧KeepB w.heap.size W1 W')∨(e=.returned (.bool false)∧Jx (pre++[x]) W')))
  (hB:Hid (Below w.heap.size w W)) (hbox:∀o,w.cell? ⟨Bn,o,none⟩=(#[Value.slice a ms.length c]:Array Value)[o]?) (hBn:Bn<w.heap.size) (h0:Hid (J [] W)):
  CallsIn Fence.wide n prog 137 #[.func (.yield l) #[] #[],.pointer (some ⟨Bn,0,none⟩)] W λ e W'=>(∃v,e=.returned v)∧((∃ys,ys=List.finRange ms.length∧J ys W')∨(∃pre,SpB ms.length pre∧Jx pre W')):=by
 refine callsIn_of_wp func137 rfl trivial ?_ rfl;simp only[ntmps137,List.size_toArray,List.length_cons,List.length_nil,Nat.reduceAdd,Nat.reduceSub,Array.replicate_succ,Array.replicate_zero,List.push_toArray,List.append_toArray,List.nil_append,List.cons_append];have HBX:Hid (∀W',Below w.heap.size w W'→W'.cell? ⟨Bn,0,none⟩=some (Value.slice a ms.length c)):=λ W' hb=>(hb.cell (p:=⟨Bn,0,none⟩) hBn).trans (hbox 0);have hq:=HBX W hB.out;clear hbox;gi_wp2
 clear hq;gi_loopw [3] (λ i wr=>∃k:Nat,k≤ms.length∧i=.int .i64 ((ms.length:Int) - 1 - k)∧Hid (Below w.heap.size w wr)∧Hid (J (T.upto ms.length k) wr)) (λ i _=>(intOf i+1).toNat)
 case atStart=>exact⟨0,Nat.zero_le _,by simp,hB,h0⟩
 obtain⟨k,hk,rfl,HB,HJ⟩:=hrel;by_cases hlt:k<ms.length
 ·obtain⟨m,hm⟩:∃m,ms.length=m+1+k:=⟨ms.length - 1 - k,by omega⟩
  have hme:(ms.length:Int) - 1 - k=(m:Int):=by omega
  obtain⟨g,o,rfl,hg,e0⟩:=hM.out m (by omega);have e1:=(HB.cell (p:=⟨g,o+m,none⟩) hg).trans e0;have hq:=HBX wr HB;have hyk:=hY.out (T.upto ms.length k) ⟨k,hlt⟩ wr HJ (by rw[T.upto_len hk];exact hlt);dsimp only at hyk;rw[hme] at hyk ⊢;rw[rvm_at hm] at hyk;generalize (ms[m]'(by omega):Nat)=mb at *;obtain⟨fn,tmps,assign,body,hy,hR⟩:=hyk;have HR:=ah hR;have hml:(m:Int)<(ms.length:Int):=by omega
  have HME:=ah hme;have HMM:=ah hm;have hsub:IntKind.i64.wrap ((m:Int) - 1)=(m:Int) - 1:=by rw[IntKind.wrap_i64];omega
  clear hR e0 hg hme hm;gi_wp2
  refine HR.mono ?_;rintro e w3 (⟨rfl,hJ3,hk3⟩|⟨rfl,hJx3⟩)
  ·have HB3:Hid (Below w.heap.size w w3):=HB.trans hk3;have HJ3:=ah hJ3;clear hq hy hJ3 hk3 e1;gi_wp2
   go_roundw
   case rel=>exact⟨k+1,by omega,by have:=HMM.out;go_num,HB3,by show J _ _;rw[T.upto_succ hlt];exact HJ3⟩
   case measure=>(simp [intOf];try omega)
  gi_wp2
  refine br (results_none rfl _ _ _) ?_;exact⟨⟨_,rfl⟩,.inr ⟨_,⟨k,hlt,rfl⟩,hJx3⟩⟩
 obtain rfl:k=ms.length:=by omega
 have hneg:(ms.length:Int) - 1 - ms.length=-1:=by omega
 rw[hneg];gi_wp2
 go_end0
 exact⟨⟨_,rfl⟩,.inl ⟨_,rfl,by rw[← T.upto_all];exact HJ⟩⟩
theorem backN_any (s:Value) (hs:∃a n c,s=.slice a n c) (w:World):
  Calls prog 117 #[s] w λ e w'=>e=.returned (.func (.func 137) #[] #[.pointer (some ⟨w.heap.size,0,none⟩)])∧w'=w.alloc (.cells #[s] 74):=by
 obtain⟨a,n,c,rfl⟩:=hs;go_enter func117,ntmps117;go_wp2;go_ret
 exact⟨rfl,rfl⟩
theorem backN_stops (n:Nat) (hn:1≤n) (w:World) (ms:List Nat) (a:Option Addr) (c:Nat) (hlen:ms.length≤16000) (hM:MapsAt w a ms) (Bn:Nat) (hbox:∀o,w.cell? ⟨Bn,o,none⟩=(#[Value.slice a ms.length c]:Array Value)[o]?) (hBn:Bn<w.heap.size):
  SeqStopsK Fence.wide n prog 137 #[.pointer (some ⟨Bn,0,none⟩)] (λ x:Fin ms.length=>#[.int .i64 ((ms.length:Int) - 1 - (x:Nat)),rvm ms x]) (KeepB w.heap.size) (λ ys=>ys=List.finRange ms.length) (SpB ms.length) ms.length w:=λ l J Jx W' hW hJ _ hY h0=>
 backN_in n hn w ms a c hlen hM 0 (Nat.zero_le _) l Bn J Jx W' hJ hY hW hbox hBn h0
theorem mapsR_at (N:Nat) {em : List Nat}:∀{bl:List NM} {j:Nat} {m:Nat} {f:NM},em[j]?=some m→bl[j]?=some f→(bH N em bl)[j]?=some (.mp zN VNat m N f):=by
 induction em with
 | nil=>intro bl j m f h;simp at h
 | cons a em ih=>
  intro bl j m f h h';cases bl with
  | nil=>simp at h'
  | cons g bl=>
   cases j with
   | zero=>
    simp only[List.getElem?_cons_zero,Option.some.injEq] at h h';subst h h';rfl
   | succ j=>
    simp only[List.getElem?_cons_succ] at h h';exact ih h h'
variable {bc : Nat} {k : CQ}
theorem Fr.lookM (h:Fr B w (.cm bc bp k c::L)) {j : Nat} {f : NM} (hm:k.em[j]?=some m) (hf:c.bl[j]?=some f) (x:ByteArray) (hx:x.size≤maxLen):m<w.heap.size∧∀w':World,w'.heap[m]?=w.heap[m]?→(Instr.lookup 40 (.map (some m)) (.string x) true).run prog w'=.ok (.tuple #[.int .i64 ((f x).getD 0:Nat),.bool (f x).isSome]) w':=by
 have hi:(cmK bc bp k c++(bH k.N k.em c.bl++L))[7+j]?=some (.mp zN VNat m k.N f):=by
  have h0:=mapsR_at k.N hm hf;have hl:=(List.getElem?_eq_some_iff.1 h0).1;rw[List.getElem?_append_right (by simp),List.getElem?_append_left (by simp;omega)];simpa using h0
 obtain⟨H,h2,-⟩:=h.cmOpen.get hi;refine⟨(Rs.mp zN VNat m k.N f).lt H w h2 m rfl,λ w' e=>(np_look (H:=H) ((Rs.mp zN VNat m k.N f).keep H w H w' h2 (Snap.le.refl H) λ q hq=>?_) x hx).1⟩;obtain rfl:q=m:=hq;exact e
theorem Fr.blRow (h:Fr B w (.cm bc bp k c::L)) (hl:k.em.length=c.bl.length):∃a d,k.bv=.slice a k.em.reverse.length d∧MapsAt w a k.em.reverse:=by
 have hr:=h.cmOpen.rowAt 1 rfl;obtain⟨a,d,e,hc⟩:=row_form hr;have hlen:k.em.reverse.length=c.bl.length:=by rw[List.length_reverse,hl]
 refine⟨a,d,by rw[e,hlen],λ i hi=>?_⟩;rw[e] at hr;rcases hr.2 with⟨-,h0⟩|⟨g,cap,cur,e2,-,hb,a1,a2,a3,a4⟩
 ·omega
 cases e2;refine⟨g,0,rfl,bO hb,?_⟩;have h1:cur[i]?=(k.em.reverse.map λ m=>Value.map (some m))[i]?:=by
  rw[← a4,List.getElem?_take_of_lt (by omega),Array.getElem?_toList]
 rw[Nat.zero_add,aA hb,h1,List.getElem?_map,List.getElem?_eq_getElem hi];rfl
theorem findM_none:∀{bl:List NM}{x:ByteArray},(∀(j:Nat) (f:NM),bl[j]?=some f→f x=none)→dK bl x=none
 | [],x,_=>rfl
 | f::bl,x,h=>by
  rw[dK,h 0 f rfl];exact findM_none λ j g hj=>h (j+1) g hj
theorem findM_some:∀{bl:List NM}{x:ByteArray}{k:Nat}{f:NM}{t:Nat},(∀(j:Nat) (g:NM),j<k→bl[j]?=some g→g x=none)→bl[k]?=some f→f x=some t→dK bl x=some t
 | [],x,k,f,t,_,h,_=>by simp at h
 | g::bl,x,0,f,t,_,h,ht=>by
  simp only[List.getElem?_cons_zero,Option.some.injEq] at h;subst h;rw[dK,ht]
 | g::bl,x,k+1,f,t,h0,h,ht=>by
  rw[dK,h0 0 g (by omega) rfl];exact findM_some (λ j g hj e=>h0 (j+1) g (by omega) e) h ht
theorem load3 {q : Nat} {x0 : Value} (h:w.heap[q]?=some (.cells #[x0] 3 (0,0))):(loadVar 3 ⟨q,0,none⟩).run prog w=.ok x0 w:=by
 have hc:=aA h;simp [loadVar,go_sem,hc]
theorem local86 (h:Fr B w (.cm bc bp k c::L)) (hl:k.em.length=c.bl.length) (hn:c.bl.length≤16000) (x:ByteArray) (hx:x.size≤maxLen):Calls prog 86 #[ptr bc,.string x] w λ e w'=>
  e=.returned (.tuple #[.int .i64 ((dK c.bl x).getD 0:Nat),.bool (dK c.bl x).isSome])∧Fr B w' (.cm bc bp k c::L):=by
 obtain⟨ra,rc,hbv,hM⟩:=h.blRow hl;have hlen:k.em.reverse.length=c.bl.length:=by rw[List.length_reverse,hl]
 have hlk:k.em.reverse.length≤16000:=by omega
 have hms:∀(y m:Nat),k.em.reverse.reverse[y]?=some m→k.em[y]?=some m:=λ y m e=>by rwa [List.reverse_reverse] at e
 generalize k.em.reverse=ms at *;have h3:=(((h.alloc (q:=w.heap.size) rfl #[.string x] 9).alloc (q:=w.heap.size+1) (by simp) #[.int .i64 0] 3).alloc (q:=w.heap.size+1+1) (by simp) #[.bool false] 4)
 have c_cm:=h3.cmCell 3 rfl;rw[show cmC bp k=#[ptr bp,k.n0,k.n1,k.n2,k.n3,k.sg,k.nu,.map (some k.m1),.map (some k.m2),k.bv,k.lv,k.wv] from rfl,hbv] at c_cm;have HF4:=ah (h3.alloc (q:=w.heap.size+1+1+1) (by simp) #[.slice ra ms.length rc] 74);have HF:=h;have HX:=ah hx;have HM:=ah hM;have HLEN:=ah hlen;clear h h3 hx hM hlen hbv hl hn;refine (callsIn_wide (n:=5)).1 ?_;refine callsIn_of_wp_marks func86 rfl trivial ?_ rfl;simp only[ntmps86,List.size_toArray,List.length_cons,List.length_nil,Nat.reduceAdd,Nat.reduceSub,Array.replicate_succ,Array.replicate_zero,List.push_toArray,List.append_toArray,List.nil_append,List.cons_append];gi_wp2
 refine⟨trivial,?_⟩;refine (callsIn_wide.2 (backN_any _ ⟨_,_,_,rfl⟩ _)).mono ?_;rintro e w1 ⟨rfl,rfl⟩;clear c_cm;gi_wp2
 have hb0:Below w.heap.size w ((((w.alloc (.cells #[Value.string x] 9)).alloc (.cells #[Value.int .i64 0] 3)).alloc (.cells #[Value.bool false] 4)).alloc (.cells #[Value.slice ra ms.length rc] 74)):=((((Below.refl _ _).alloc (Nat.le_refl _) _).alloc (by simp) _).alloc (by simp;omega) _).alloc (by simp;omega) _;have hsz0:((((w.alloc (.cells #[Value.string x] 9)).alloc (.cells #[Value.int .i64 0] 3)).alloc (.cells #[Value.bool false] 4)).alloc (.cells #[Value.slice ra ms.length rc] 74)).heap.size=w.heap.size+1+1+1+1:=by simp
 generalize ((((w.alloc (.cells #[Value.string x] 9)).alloc (.cells #[Value.int .i64 0] 3)).alloc (.cells #[Value.bool false] 4)).alloc (.cells #[Value.slice ra ms.length rc] 74))=W0 at *;have b3:=HF4.blkAt 3 rfl;have b4:=HF4.blkAt 2 rfl;have b5:=HF4.blkAt 1 rfl;have b6:=HF4.blkAt 0 rfl;have hM0:MapsAt W0 ra ms:=λ i hi=>by
  obtain⟨g,o,e1,e2,e3⟩:=HM i hi;exact⟨g,o,e1,Nat.lt_of_lt_of_le e2 hb0.size,(hb0.cell (p:=⟨g,o+i,none⟩) e2).trans e3⟩
 clear HF4 HM;refine wpIn_rangeFunc_ownH (α:=Fin ms.length) rfl (by omega) (gf:=137) (lb:=#[.pointer (some ⟨w.heap.size+1+1+1,0,none⟩)]) rfl trivial (enters_of func137 (by kernel_rfl) rfl)
  (backN_stops 4 (by omega) W0 ms ra rc hlk hM0 (w.heap.size+1+1+1) (aA b6) (by omega)) (λ h k=>Below.trans h k) (λ W l o o' hl ho _ _=>keepB_put W o o' hl ho) (Below.refl _ _) (λ_=>rfl)
  (λ (pre:List (Fin ms.length)) (W:World)=>(((W.heap[w.heap.size]?=some (.cells #[Value.string x] 9 (0,0))∧W.heap[w.heap.size+1]?=some (.cells #[Value.int .i64 0] 3 (0,0)))∧W.heap[w.heap.size+1+1]?=some (.cells #[Value.bool false] 4 (0,0)))∧Below w.heap.size w W)∧∀z:Fin ms.length,z∈pre→∀f:NM,c.bl[(z:Nat)]?=some f→f x=none)
  (λ (cd:Code) (pre:List (Fin ms.length)) (W:World)=>((∃t:Nat,(cd=.ret∧∃(pre0:List (Fin ms.length)) (y:Fin ms.length) (f:NM),pre=pre0++[y]∧(∀z:Fin ms.length,z∈pre0→∀f:NM,c.bl[(z:Nat)]?=some f→f x=none)∧c.bl[(y:Nat)]?=some f∧f x=some t)∧W.heap[w.heap.size+1]?=some (.cells #[Value.int .i64 (t:Int)] 3 (0,0)))∧W.heap[w.heap.size+1+1]?=some (.cells #[Value.bool true] 4 (0,0)))∧Below w.heap.size w W)
  (OwnFrom.and (OwnFrom.and (OwnFrom.and (OwnFrom.and (Own.from (T.own_block _ _ _) _) (Own.from (T.own_block _ _ _) _)) (Own.from (T.own_block _ _ _) _)) (ownFrom_below (Nat.le_refl _) (by omega))) (ownFrom_pure _ _))
  (λ cd pre X Y row hs hg hr=>by
   obtain⟨⟨⟨t,h1,h2⟩,h3⟩,h4⟩:=hs;exact⟨⟨⟨t,h1,T.own_block (β:=Unit) _ _ _ () X Y row h2 hg (λ r e=>(hr r e).2)⟩,T.own_block (β:=Unit) _ _ _ () X Y row h3 hg (λ r e=>(hr r e).2)⟩,ownFrom_below (β:=Unit) (Nat.le_refl _) (by omega) () X Y row h4 hg hr⟩)
  ⟨⟨⟨⟨b3,b4⟩,b5⟩,hb0⟩,λ z hz=>by cases hz⟩
  (λ (y:Fin ms.length) (a':Act) (W:World)=>a'={ tmps:=#[ptr bc,.string x,undef,.pointer (some ⟨w.heap.size,0,none⟩),.pointer (some ⟨w.heap.size+1,0,none⟩),.pointer (some ⟨w.heap.size+1+1,0,none⟩),undef,rvm ms y,undef,undef,ptr bc,.pointer (some ⟨bc,0,none⟩),.pointer (some ⟨bc,9,none⟩),.slice ra ms.length rc,.func (.func 137) #[] #[.pointer (some ⟨w.heap.size+1+1+1,0,none⟩)],.int .i64 ((ms.length:Int) - 1 - (y:Nat)),rvm ms y,undef,undef,undef,undef,undef,undef,undef,undef],defers:=[] })
  (λ y a'=>ownFrom_pure _ _)
  ?assign ?body ?done ?stop
 case assign=>
  rintro l pre y W K hI hK;have HKK:=ah hK;clear hK;gi_wp2
  exact HKK _ _ (T.keeps_of (Below.refl _ W)) (Below.refl _ W) hI rfl
 case body=>
  rintro l pre y a' W hl ⟨r,hr⟩ ⟨⟨⟨⟨c3,c4⟩,c5⟩,hB2⟩,hpre⟩ rfl hlt;clear b3 b4 b5 b6;obtain⟨m,hm⟩:∃m,ms.reverse[(y:Nat)]?=some m:=⟨_,List.getElem?_eq_getElem (by rw[List.length_reverse];exact y.2)⟩
  obtain⟨f,hf⟩:∃f,c.bl[(y:Nat)]?=some f:=⟨_,List.getElem?_eq_getElem (by rw[← HLEN.out];exact y.2)⟩
  have hrv:rvm ms y=.map (some m):=by unfold rvm;rw[List.getD_eq_getElem?_getD,hm];rfl
  obtain⟨hmlt,hlook⟩:=HF.lookM (hms _ _ hm) hf x HX;have hWs:=Nat.le_of_lt (Nat.lt_of_le_of_lt hl (bO hr));have hlk2:=hlook W (hB2.block m hmlt);have cc3:=T.cells_at c3;have cc4:=T.cells_at c4;have cc5:=T.cells_at c5;have f4:=aX c4;have f5:=aX c5;have HC:=ah (And.intro c3 (And.intro c4 c5));have HB2:=ah hB2;have HPRE:=ah hpre;have HFE:=ah hf;clear c3 c4 c5 hB2 hpre hlook hr hmlt;rw[hrv];cases hq:f x with
  | none=>
   rw[hq] at hlk2;simp only[Option.isSome_none] at hlk2;have HQ:=ah hq;clear hq;gi_wp2
   have hbA:Below W.heap.size W W:=Below.refl _ W;refine⟨T.keeps_of hbA,hbA.mono hWs,⟨⟨⟨⟨HC.1,HC.2.1⟩,HC.2.2⟩,HB2⟩,λ z hz g hg=>?_⟩⟩;rcases List.mem_append.1 hz with hz|hz
   ·exact HPRE z hz g hg
   rw[List.mem_singleton.1 hz,HFE.out] at hg;cases hg;exact HQ
  | some t0=>
   rw[hq] at hlk2;simp only[Option.isSome_some,Option.getD_some] at hlk2;have HQ:=ah hq;clear hq;gi_wp2
   refine⟨((KeepsOthers.setCell _ _ _).from _).trans ((KeepsOthers.setCell _ _ _).from _),⟨⟨⟨t0,⟨rfl,pre,y,f,rfl,HPRE,HFE,HQ⟩,?_⟩,?_⟩,((HB2).setCell (p:=⟨w.heap.size+1,0,none⟩) (by simp) _).setCell (p:=⟨w.heap.size+1+1,0,none⟩) (by simp;omega) _⟩⟩
   ·exact (heap_setCell_other _ _ _ _ (show w.heap.size+1≠w.heap.size+1+1 by omega)).trans (heap_setCell_same _ _ 0 _ _ _ HC.2.1)
   exact heap_setCell_same _ _ 0 _ _ _ ((heap_setCell_other _ _ _ _ (show w.heap.size+1+1≠w.heap.size+1 by omega)).trans HC.2.2)
 case done=>
  rintro D ys W hD rfl ⟨⟨⟨⟨c3,c4⟩,c5⟩,hB2⟩,hpre⟩ hK;have cA4:=aA c4;have fA4:=aX c4;have cA5:=aA c5;have fA5:=aX c5;have HD:=ah (And.intro c4 c5);have HB2:=ah hB2;have HK:=ah hK;have hnone:dK c.bl x=none:=findM_none λ j f hj=>by
   have hl:=(List.getElem?_eq_some_iff.1 hj).1;rw[← HLEN.out] at hl;exact hpre ⟨j,hl⟩ (List.mem_finRange _) f hj
  have HN:=ah hnone;clear c3 c4 c5 hB2 hpre hK b3 b4 b5 b6 hnone;gi_wp2
  have hB3:=(HB2.setCell (p:=⟨w.heap.size+1,0,none⟩) (by simp) (.int .i64 0)).setCell (p:=⟨w.heap.size+1+1,0,none⟩) (by simp;omega) (.bool false);have e4:=(heap_setCell_other _ _ _ (.bool false) (show w.heap.size+1≠(⟨w.heap.size+1+1,0,none⟩:Addr).block from by show w.heap.size+1≠w.heap.size+1+1;omega)).trans (heap_setCell_same _ _ 0 _ _ (.int .i64 0) HD.1);have e5:=heap_setCell_same _ _ 0 _ _ (.bool false) ((heap_setCell_other _ _ _ (.int .i64 0) (show w.heap.size+1+1≠(⟨w.heap.size+1,0,none⟩:Addr).block from by show w.heap.size+1+1≠w.heap.size+1;omega)).trans HD.2);have eK:=(heap_setCell_other _ _ D (.bool false) (show D≠(⟨w.heap.size+1+1,0,none⟩:Addr).block from by show D≠w.heap.size+1+1;omega)).trans ((heap_setCell_other _ _ D (.int .i64 0) (show D≠(⟨w.heap.size+1,0,none⟩:Addr).block from by show D≠w.heap.size+1;omega)).trans HK);refine⟨by simp,.inl ⟨_,_,rfl,run_takeDeferred eK,?_⟩⟩;refine⟨_,aH results86 _ rfl rfl _ (load3 ((World.putObj_heap_other (by omega)).trans e4)) (load4 ((World.putObj_heap_other (by omega)).trans e5)),by rw[HN.out];rfl,?_⟩;exact HF.call (hB3.trans (belowK_b (w:=w) (Nat.le_refl _) _ D _ _ (by omega) eK rfl rfl))
 case stop=>
  rintro D cd pre W hD ⟨k',hkl,hpk⟩ ⟨⟨⟨t,⟨rfl,pre0,y,f,hp0,hnone,hf,hft⟩,h4⟩,h5⟩,hB2⟩ hK;gi_wp2
  refine⟨by simp,.inl ⟨_,_,rfl,run_takeDeferred hK,?_⟩⟩;have hfe:dK c.bl x=some t:=by
   rw[hp0] at hpk;obtain⟨e1,e2⟩:=List.append_inj' hpk rfl;obtain rfl:y=⟨k',hkl⟩:=by simpa using e2
   subst e1;exact findM_some (λ j g hj hg=>hnone ⟨j,by omega⟩ (mem_upto _ hj) g hg) hf hft
  refine⟨_,aH results86 _ rfl rfl _ (load3 ((World.putObj_heap_other (by omega)).trans h4)) (load4 ((World.putObj_heap_other (by omega)).trans h5)),by rw[hfe];rfl,?_⟩;exact HF.call (hB2.trans (belowK_b (w:=w) (Nat.le_refl _) _ D _ _ (by omega) hK rfl rfl))
end
end Go.Proofs.YtdnhbedbpbgeeaaGreatDoor.K
