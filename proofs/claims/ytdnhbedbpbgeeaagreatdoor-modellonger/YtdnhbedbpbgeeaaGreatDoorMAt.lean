/- 19 -/
import Derived.Test.YtdnhbedbpbgeeaaGreatDoorMAs
import Derived.Laws.StructEq
import Derived.Test.YtdnhbedbpbgeeaaGreatDoorRows
import Derived.ProofKit
import Derived.OpenShut
import Derived.SizedLaws
import Derived.Carry
import Derived.Deep.MidRow
import Derived.LaidMore
import Derived.Stop.Joined
import Derived.Stop.LaidErr
import Derived.MakeChecks
set_option maxRecDepth 100000
set_option maxHeartbeats 8000000
set_option linter.all false
namespace Go.Proofs.YtdnhbedbpbgeeaaGreatDoor.K
open Go.RowKit Go.Proofs.Tryz
variable {l : List ByteArray} {ta b : Option Addr} {et e : TypeId} {j : Jn} {tc p bp n mo N0 d N : Nat} {tv uv : Value} {F0 F : List (NM × NM)} {s : ByteArray} {me : NM} {f : Int}
variable {B : Bs} {w w' : World} {L : List Rs}
theorem thSign {P : Prop} {g' : Nat} {k : Int} (h:∃g,(some (⟨g',0,none⟩:Addr))=some ⟨g,0,none⟩∧P∧w.cell? ⟨g,p*10,none⟩=some (.int .i64 k)∧w.cell? ⟨g,p*10+5,none⟩=some (.string s)):w.cell? ⟨g',p*10+5,none⟩=some (.string s):=by
 obtain⟨g,e,-,-,h⟩:=h;cases e;exact h
theorem resolve13 {Ks : List Uk} (h:Fr B w (.bm N Ks F0::.sl UkE uv 62 8 Ks::.blk bp (bpA uv tv mo) 42::.mp zN VNat mo N0 j.op::.els ThE tv 67 10 (j.ts.zip j.now)::L)) (hu:∀u,u∈usK Ks→UqI u) (hl:Ks.length≤4) (hfl:F0.length=Ks.length) (hN:N≤2804) (hts:j.ts.length≤2804) (hnow:j.now.length=j.ts.length) (hob:∀x p,j.op x=some p→p<j.ts.length):Calls prog 13 #[ptr bp] w (PRes Ks F0 j N0 B bp uv tv mo L):=by
 have HU:=ah hu;have HKL:=ah hl;have HOB:=ah hob;have HNW:=ah hnow;obtain⟨ua,ud,rfl,hul,-⟩:=h.slForm 1 rfl;obtain⟨ta,tc,rfl,htl,htm⟩:=h.elsForm 4 rfl;rw[zip_len hnow] at h htl ⊢;have hts:j.ts.length≤2804:=hts;have h1:=(h.alloc (q:=w.heap.size) rfl #[.int .i64 0,.int .i64 0,.int .i64 0] 28).perm (List.perm_middle (l₁:=[_,_,_,_,_])).symm;have c_bp:=h1.cell 2 rfl;go_enter func13,ntmps13;go_wp2;clear c_bp;generalize (w.alloc (.cells #[.int .i64 0,.int .i64 0,.int .i64 0] 28))=wm at h1 ⊢;go_loopw [14] (λ iv wr=>Hid (∃(a N:Nat) (F:List (NM × NM)),a≤Ks.length∧iv=.int .i64 (a:Int)∧N≤2804+701*a∧ResO Ks F0 F a j∧Fr B wr (.bm N Ks F::.sl UkE (.slice ua Ks.length ud) 62 8 Ks::.blk bp (bpA (.slice ua Ks.length ud) (.slice ta j.ts.length tc) mo) 42::.mp zN VNat mo N0 j.op::.els ThE (.slice ta j.ts.length tc) 67 10 (j.ts.zip j.now)::.blk w.heap.size #[.int .i64 0,.int .i64 0,.int .i64 0] 28::L))) (λ iv _=>Ks.length - (intOf iv).toNat)
 case atStart=>exact ah ⟨0,N,_,Nat.zero_le _,rfl,by omega,ResO.start hfl j,h1⟩
 clear h h1 hu hl hob hnow hfl hN;obtain⟨a,N,F,ha,rfl,hN,hG,hf⟩:=hrel.out;clear hrel;obtain⟨wo,rfl⟩:∃wo:World,wo=wr:=⟨_,rfl⟩
 have HF:=hf;clear hf;by_cases hlt:a<Ks.length
 ·obtain⟨uk,huk⟩:∃uk,Ks[a]?=some uk:=⟨_,List.getElem?_eq_getElem hlt⟩
  have HA:=ah huk;have HLT:=ah hlt;have HUI:=ah (HU uk.1 (List.mem_map.2 ⟨uk,List.mem_of_getElem? huk,rfl⟩));have hkk:uk.1.node.kids.length≤700:=by have:=HUI.sz;have:=bU uk.1.node;have:=fA uk.1.node.kids;omega
  have ha4:a<4:=by have:=HKL.out;omega
  have hlb:(a:Int)<(Ks.length:Int):=by omega
  obtain⟨st,me,hGN⟩:=hG.opn huk;have HGN:=ah hGN;obtain⟨g_u,o_u,d_u,a_u,c_u,sa,sc,na,nc,cur_u,f_u,huv,-,-,hu8,hsc,hnc,hf⟩:=HF.ukAt 1 rfl a huk;cases huv;obtain⟨u0,u1,u2,u3,u4,u5,u6,u7⟩:=eight_kn (hf.knc 0 rfl) hu8;replace HF:=hf;clear hf hu8 huk hlt hG hGN;replace HF:=ax HF wo.heap.size #[.int .i64 uk.1.node.kind,.string uk.1.node.text,.int .i64 uk.1.node.num,.slice a_u uk.1.node.kids.length c_u,.slice sa uk.1.signs.length sc,.slice na uk.1.node.kids.length nc,.map (some uk.2.1),.map (some uk.2.2)] 62;have c_t4:=HF.cell 0 rfl;go_wp2;clear c_t4 u0 u1 u2 u3 u4 u5 u6 u7;generalize (wo.alloc (.cells #[.int .i64 uk.1.node.kind,.string uk.1.node.text,.int .i64 uk.1.node.num,.slice a_u uk.1.node.kids.length c_u,.slice sa uk.1.signs.length sc,.slice na uk.1.node.kids.length nc,.map (some uk.2.1),.map (some uk.2.2)] 62))=wm at HF ⊢;have hf:Fr B wm (([.blk wo.heap.size #[.int .i64 uk.1.node.kind,.string uk.1.node.text,.int .i64 uk.1.node.num,.slice a_u uk.1.node.kids.length c_u,.slice sa uk.1.signs.length sc,.slice na uk.1.node.kids.length nc,.map (some uk.2.1),.map (some uk.2.2)] 62,.sl StE (.slice sa uk.1.signs.length sc) 9 1 uk.1.signs,.sl IntE (.slice na uk.1.node.kids.length nc) 3 1 (dM 1 uk.1.node.kids),.el NdE (ndc uk.1.node.kind uk.1.node.text uk.1.node.num a_u uk.1.node.kids.length c_u) uk.1.node]++[.bm N Ks F,.sl UkE (.slice (some ⟨g_u,o_u,none⟩) Ks.length ud) 62 8 Ks,.blk bp (bpA (.slice (some ⟨g_u,o_u,none⟩) Ks.length ud) (.slice ta j.ts.length tc) mo) 42,.mp zN VNat mo N0 j.op,.els ThE (.slice ta j.ts.length tc) 67 10 (j.ts.zip j.now),.blk w.heap.size #[.int .i64 0,.int .i64 0,.int .i64 0] 28])++L):=HF.lose;have hf2:=hf.perm (List.Perm.append_right L (List.perm_append_comm (l₁:=[_,_,_,_]) (l₂:=[_,_,_,_,_,_])));go_loopw [23] (λ iv wr=>Hid (∃(i N:Nat) (F:List (NM × NM)) (me:NM),i≤uk.1.node.kids.length∧iv=.int .i64 (i:Int)∧N≤2804+701*a+i∧ResN Ks F0 F a uk.1 i st me j∧Fr B wr (.bm N Ks F::.sl UkE (.slice (some ⟨g_u,o_u,none⟩) Ks.length ud) 62 8 Ks::.blk bp (bpA (.slice (some ⟨g_u,o_u,none⟩) Ks.length ud) (.slice ta j.ts.length tc) mo) 42::.mp zN VNat mo N0 j.op::.els ThE (.slice ta j.ts.length tc) 67 10 (j.ts.zip j.now)::.blk w.heap.size #[.int .i64 0,.int .i64 0,.int .i64 0] 28::.blk wo.heap.size #[.int .i64 uk.1.node.kind,.string uk.1.node.text,.int .i64 uk.1.node.num,.slice a_u uk.1.node.kids.length c_u,.slice sa uk.1.signs.length sc,.slice na uk.1.node.kids.length nc,.map (some uk.2.1),.map (some uk.2.2)] 62::.sl StE (.slice sa uk.1.signs.length sc) 9 1 uk.1.signs::.sl IntE (.slice na uk.1.node.kids.length nc) 3 1 (dM 1 uk.1.node.kids)::.el NdE (ndc uk.1.node.kind uk.1.node.text uk.1.node.num a_u uk.1.node.kids.length c_u) uk.1.node::L))) (λ iv _=>uk.1.node.kids.length - (intOf iv).toNat)
  case atStart=>exact ah ⟨0,N,F,me,Nat.zero_le _,rfl,by omega,HGN,hf2⟩
  clear HF hf hf2 HGN hN;obtain⟨i,N,F,me,hi,rfl,hN,hG,hf⟩:=hrel.out;clear hrel;have HG:=ah hG;have HF:=hf;clear hf hG;by_cases hlt:i<uk.1.node.kids.length
  ·obtain⟨d,hd⟩:∃d,uk.1.node.kids[i]?=some d:=⟨_,List.getElem?_eq_getElem hlt⟩
   have hdm:=List.mem_of_getElem? hd;obtain⟨sg,hs⟩:∃sg,uk.1.signs[i]?=some sg:=⟨_,List.getElem?_eq_getElem (by rw[HUI.out.sg];exact hlt)⟩
   obtain⟨m,hm⟩:∃m,(dM 1 uk.1.node.kids)[i]?=some m:=⟨_,List.getElem?_eq_getElem (by rw[dG];exact hlt)⟩
   have HD:=ah hd;have HSG:Hid (signOf uk.1 i=sg):=ah (by unfold signOf;rw[List.getD_eq_getElem?_getD,hs];rfl);have HNU:Hid (numAt uk.1 i=(m:Int)):=ah (by unfold numAt;rw[List.getD_eq_getElem?_getD,hm];rfl);have HNK:=ah (HUI.nk.kids d hdm);have hxt:d.text.size≤maxLen:=Nat.le_trans HNK.text (by decide);have HLT:=ah hlt;have hlb2:(i:Int)<(uk.1.node.kids.length:Int):=by omega
   have hlb3:(i:Int)<(uk.1.signs.length:Int):=by rw[HUI.out.sg];omega
   obtain⟨g_d,o_d,a_d,c_d,cur_d,f_d,ha_d,hc1,hc2,hk_d,hf⟩:=HF.kidK 9 rfl i hd;have HK_d:=ah hk_d;obtain⟨g_s,o_s,hsa,-,cur_s,f_s,hc_s,hf⟩:=hf.stAt 9 rfl i hs;have HCS:=ah hc_s;obtain⟨g_m,o_m,hma,cur_m,f_m,hc_m,hf⟩:=hf.inAt 11 rfl i hm;have HCM:=ah hc_m;replace HF:=hf;clear hf hk_d hc1 hc2 hd hdm hs hm hc_s hc_m hlt;subst ha_d hsa hma;obtain⟨e0,e1,e2,e3⟩:=aC (HF.knc 3 rfl) HK_d;replace HF:=aM HF wr.heap.size d a_d c_d;replace HF:=Fr.fr51 HF;have c_t6:=HF.cell 1 rfl;by_cases k4:d.kind=4
   focus (
    have HK45:Hid (d.kind=4∨d.kind=5):=ah (by first|exact .inl k4|exact .inr k4);have qa4:(d.kind=4)=True:=eq_true k4;have qb4:(d.kind != 4)=false:=by rw[k4];decide
    have qc4:(d.kind == 4)=true:=by rw[k4];decide
    have qa5:(d.kind=5)=False:=by rw[k4];exact eq_false (by decide)
    have qb5:(d.kind != 5)=true:=by rw[k4];decide
    have qc5:(d.kind == 5)=false:=by rw[k4];decide
    clear k4;go_wp2;clear qa4 qb4 qc4 qa5 qb5 qc5;clear e0 e1 e2 e3 c_t6)
   rotate_left;by_cases k5:d.kind=5
   focus (
    have HK45:Hid (d.kind=4∨d.kind=5):=ah (by first|exact .inl k5|exact .inr k5);have qa4:(d.kind=4)=False:=by rw[k5];exact eq_false (by decide)
    have qb4:(d.kind != 4)=true:=by rw[k5];decide
    have qc4:(d.kind == 4)=false:=by rw[k5];decide
    have qa5:(d.kind=5)=True:=eq_true k5;have qb5:(d.kind != 5)=false:=by rw[k5];decide
    have qc5:(d.kind == 5)=true:=by rw[k5];decide
    clear k5 k4;go_wp2;clear qa4 qb4 qc4 qa5 qb5 qc5;clear e0 e1 e2 e3 c_t6)
   rotate_left
   ·have HK4:=ah k4;have HK5:=ah k5;have qa4:(d.kind=4)=False:=eq_false k4;have qb4:(d.kind != 4)=true:=by simpa using k4
    have qc4:(d.kind == 4)=false:=by simpa using k4
    have qa5:(d.kind=5)=False:=eq_false k5;have qb5:(d.kind != 5)=true:=by simpa using k5
    have qc5:(d.kind == 5)=false:=by simpa using k5
    clear k4 k5;go_wp2;exact⟨ah ⟨i+1,N,F.set a (st,me),me,HLT,rfl,by omega,HG.step HD (res_other HK4 HK5),by rw[set_same HG.out.at_];exact HF.lose⟩,by simp only[intOf];have:=HLT.out;omega⟩
   all_goals (
    obtain⟨q,hq⟩:∃q,q=j.op d.text:=⟨_,rfl⟩
    have HQ:=ah hq;obtain⟨tw,htw⟩:∃tw,tw=(j.op d.text).isSome:=⟨_,rfl⟩
    have HTW:=ah htw;clear htw hq;refine regK [] HF (λ w h=>aI (h.cell 7 rfl) (aI (h.cell 1 rfl) (h.npTwo 8 rfl d.text hxt HTW))) (λ wd11 HF hC=>?_);refine tq4 0 1 2 3 ?_;refine tq4 4 5 6 7 ?_;refine tq4 8 9 10 11 ?_;refine dq ?_;rcases q with _|p
    ·have HTF:Hid (tw=false):=ah (by rw[HTW.out,← HQ.out];rfl);have htf:=HTF.out;subst htf;have c_t4:=HF.cell 11 rfl;obtain⟨c_r,f_r⟩:=cf HF 10;have c_km:=(HF.knc 2 rfl (o_m+i)).trans HCM;replace HF:=HF.nd3 10 rfl (.int .i64 a) (.int .i64 4) (.int .i64 m);go_wp2;clear c_t4 c_r f_r c_km;refine br (rt28 results13 rfl (HF.blkAt 10 rfl)) ?_;exact Or.inl ⟨a,4,m,HG.no HD (by rw[res_none HK45.out HQ.out.symm,HNU.out]),by decide,rfl,HF.lose⟩
    have HTF:Hid (tw=true):=ah (by rw[HTW.out,← HQ.out];rfl);have htf:=HTF.out;subst htf;have hpl:=HOB _ _ HQ.symm;obtain⟨th,hth⟩:∃th,j.ts[p]?=some th:=⟨_,List.getElem?_eq_getElem hpl⟩
    have HTH:=ah hth;rw[show (j.op d.text).getD 0=p by rw[← HQ.out];rfl];have hpb:(p:Int)<(j.ts.length:Int):=by omega
    clear hth hpl;go_wp2;obtain⟨gt,hta,-⟩:=HF.thAt 9 rfl HNW HTH;subst hta;refine regK [] HF (λ w h=>aI (h.cell 7 rfl) (aI (h.cell 11 rfl) (aI (thSign (h.thAt 9 rfl HNW HTH)) ((h.knc 3 rfl (o_s+i)).trans HCS)))) (λ wd12 HF hC=>?_);refine tq4 0 1 2 3 ?_;refine tq4 4 5 6 7 ?_;refine tq4 8 9 10 11 ?_;refine tq2 12 13 ?_;refine dq ?_;by_cases hss:th.sign=sg
    ·have HSS:=ah hss;have w1:(th.sign.toList == sg.toList)=true:=by rw[str_eq];exact decide_eq_true hss
     rw[w1];clear hss w1;have c_t4:=HF.cell 11 rfl;have c_t6:=HF.cell 1 rfl;obtain⟨w9,hup,hf9⟩:=HF.bmPut2 (a:=a) HA HG.at_ d.text hxt p (by omega);replace HF:=hf9;clear hf9;go_wp2;exact⟨ah ⟨i+1,N+1,F.set a (st,putM me d.text p),putM me d.text p,HLT,rfl,by omega,HG.step HD (res_yes HK45 HQ.symm HTH (by rw[HSG.out];exact HSS)),HF.lose⟩,by simp only[intOf];have:=HLT.out;omega⟩
    have HSS:=ah hss;have w1:(th.sign.toList == sg.toList)=false:=by rw[str_eq];exact decide_eq_false hss
    rw[w1];clear hss w1;have c_t4:=HF.cell 11 rfl;obtain⟨c_r,f_r⟩:=cf HF 10;have c_km:=(HF.knc 2 rfl (o_m+i)).trans HCM;replace HF:=HF.nd3 10 rfl (.int .i64 a) (.int .i64 3) (.int .i64 m);go_wp2;clear c_t4 c_r f_r c_km;refine br (rt28 results13 rfl (HF.blkAt 10 rfl)) ?_;exact Or.inl ⟨a,3,m,HG.no HD (by rw[res_sign HK45.out HQ.out.symm HTH.out (by rw[HSG.out];exact HSS.out),HNU.out]),by decide,rfl,HF.lose⟩)
  have hil:i=uk.1.node.kids.length:=by omega
  subst hil;have hli:¬ (uk.1.node.kids.length:Int)<(uk.1.node.kids.length:Int):=by omega
  go_wp2;exact⟨ah ⟨a+1,N,F,HLT,rfl,by omega,HG.close HA,HF.lose⟩,by simp only[intOf];have:=HLT.out;omega⟩
 have hal:a=Ks.length:=by omega
 subst hal;have hli:¬ (Ks.length:Int)<(Ks.length:Int):=by omega
 obtain⟨c_r,f_r⟩:=cf HF 5;replace HF:=HF.nd3 5 rfl (.int .i64 0) (.int .i64 0) (.int .i64 0);go_wp2;clear c_r f_r;refine br (rt28 results13 rfl (HF.blkAt 5 rfl)) ?_;exact Or.inr ⟨N,F,hG.fin,hG.len,rfl,HF.lose⟩
def MB (n:Nat)(me:NM):Prop:=∀x i,me x=some i→i<n
theorem MB.none (n:Nat):MB n noN:=λ x i h=>by cases h
theorem MB.mono {m : Nat} (h:MB n me) (k:n≤m):MB m me:=λ x i e=>Nat.lt_of_lt_of_le (h x i e) k
theorem MB.put (h:MB n me) (s:ByteArray) (k:p<n):MB n (putM me s p):=λ x i e=>by
 unfold putM at e;split at e
 ·cases e;exact k
 exact h x i e
theorem gatherL_mb {a:Nat}{u:Uq}:∀(l:List Nd) (k:Nat) (m m':Mj),MB m.j.ts.length m.me→gatherL a u k l m=.ok m'→MB m'.j.ts.length m'.me∧m.j.ts.length≤m'.j.ts.length
 | [],k,m,m',h,e=>by cases e;exact⟨h,Nat.le_refl _⟩
 | d::l,k,m,m',h,e=>by
  obtain⟨m1,e1,e2⟩:=JR.bind_ok e;have h1:MB m1.j.ts.length m1.me∧m.j.ts.length≤m1.j.ts.length:=by
   unfold dJ at e1;split at e1
   ·cases e1;exact⟨h,Nat.le_refl _⟩
   split at e1
   ·split at e1
    ·cases e1
    cases e1;have hl:(m.j.ts++[(⟨d,a,signOf u k⟩:Th)]).length=m.j.ts.length+1:=by simp
    refine⟨?_,?_⟩
    ·show MB (m.j.ts++[_]).length (putM m.me d.text m.j.ts.length);rw[hl];exact (h.mono (Nat.le_succ _)).put _ (Nat.lt_succ_self _)
    show m.j.ts.length≤(m.j.ts++[_]).length;rw[hl];exact Nat.le_succ _
   cases e1;exact⟨h,Nat.le_refl _⟩
  obtain⟨q1,q2⟩:=gatherL_mb l (k+1) m1 m' h1.1 e2;exact⟨q1,Nat.le_trans h1.2 q2⟩
theorem gatherQ_mb:∀(us:List Uq)(a:Nat)(acc vs:List Ui)(j j':Jn),(∀v,v∈acc→MB j.ts.length v.me)→bI a acc us j=.ok (vs,j')→∀v,v∈vs→MB j'.ts.length v.me
 | [],a,acc,vs,j,j',h,e=>by cases e;exact h
 | u::us,a,acc,vs,j,j',h,e=>by
  obtain⟨m,e1,e2⟩:=JR.bind_ok e;obtain⟨q1,q2⟩:=gatherL_mb _ 0 _ m (MB.none _) e1;refine gatherQ_mb us (a+1) _ vs m.j j' (λ v hv=>?_) e2;rcases List.mem_append.1 hv with hv|hv
  ·exact (h v hv).mono q2
  obtain rfl:=List.mem_singleton.1 hv;exact q1
theorem resolveL_mb {a n:Nat}{u:Uq}{j:Jn}(ho:∀x p,j.op x=some p→p<n):∀(l:List Nd) (k:Nat) (me me':NM),MB n me→resolveL a u j k l me=.ok me'→MB n me'
 | [],k,me,me',h,e=>by cases e;exact h
 | d::l,k,me,me',h,e=>by
  obtain⟨m1,e1,e2⟩:=JR.bind_ok e;refine resolveL_mb ho l (k+1) m1 me' ?_ e2;unfold bZ at e1;split at e1
  ·split at e1
   ·cases e1
   rename_i p hp
   split at e1
   ·cases e1
   cases e1;exact h.put _ (ho _ _ hp)
  cases e1;exact h
theorem resolveQ_mb {n:Nat}{j:Jn}(ho:∀x p,j.op x=some p→p<n):∀(us:List Uq) (vs:List Ui) (a:Nat) (acc ws:List Ui),(∀v,v∈acc→MB n v.me)→(∀v,v∈vs→MB n v.me)→bF j a acc us vs=.ok ws→∀v,v∈ws→MB n v.me
 | u::us,v::vs,a,acc,ws,h,k,e=>by
  obtain⟨me,e1,e2⟩:=JR.bind_ok e;refine resolveQ_mb ho us vs (a+1) _ ws (λ x hx=>?_) (λ x hx=>k x (List.mem_cons_of_mem _ hx)) e2;rcases List.mem_append.1 hx with hx|hx
  ·exact h x hx
  obtain rfl:=List.mem_singleton.1 hx;exact resolveL_mb ho _ 0 _ me (k v (List.mem_cons_self ..)) e1
 | [],vs,a,acc,ws,h,k,e=>by simp [bF] at e;subst e;exact h
 | u::us,[],a,acc,ws,h,k,e=>by simp [bF] at e;subst e;exact h
theorem gat_facts {us : List Uq} {vs : List Ui} (h:UsI us) (e1:bI 0 [] us j0=.ok (vs,j)):(∀x p,j.op x=some p→p<j.ts.length)∧∀t,t∈j.ts→Nk t.node∧sz t.node≤700:=by
 obtain⟨U,hU1,hU⟩:=us_of us λ u hu=>(h u hu).1;subst hU1;obtain⟨hj,-⟩:=gatherQ_ok hU _ 0 [] vs _ j (by simp) ⟨rfl,λ i t e=>by simp [j0] at e,λ x p e=>by cases e⟩ ⟨rfl,λ a v e=>by simp at e⟩ e1;refine⟨hj.op,λ t ht=>?_⟩;obtain⟨i,hi,rfl⟩:=List.getElem_of_mem ht;obtain⟨-,-,u,S,k,q3,q4,-⟩:=hj.at_ i _ (List.getElem?_eq_getElem hi);have hI:=(h u (List.mem_map.2 ⟨(u,S),List.mem_of_getElem? q3,rfl⟩)).2;have hm:=List.mem_of_getElem? q4;exact⟨hI.nk.kids _ hm,by have:=hI.sz;have:=bU u.node;have:=eH hm;omega⟩
theorem uisB_node:∀{K:List Uk}{F:List (NM × NM)}{v:Ui},v∈uisB K F→∃k,k∈K∧v.node=k.1.node
 | [],_,v,h=>by cases h
 | k::K,[],v,h=>by cases h
 | k::K,f::F,v,h=>by
  rcases List.mem_cons.1 h with rfl|h
  ·exact⟨k,List.mem_cons_self ..,rfl⟩
  obtain⟨k',h1,h2⟩:=uisB_node h;exact⟨k',List.mem_cons_of_mem _ h1,h2⟩
structure RdyI (r:Rdy):Prop where
 ok:RdyOk r
 pg:PgI r.pg
 un:∀u,u∈r.pg.us→UnI u
 now:r.now.length=r.pg.ts.length
theorem rdy_all {K : List Uk} (h:UsI (usK K)) (e1:bI 0 [] (usK K) j0=.ok (uisB K F0,j)) (e2:bF j 0 [] (usK K) (uisB K F0)=.ok (uisB K F)) (e3:dD j=.ok p) (hn:j.now.length=j.ts.length) (hl:j.ts.length≤2804):RdyI ⟨⟨uisB K F,j.ts⟩,j.now,p⟩:=by
 obtain⟨g1,g2⟩:=gat_facts h e1;have hmb:=resolveQ_mb g1 _ _ 0 [] _ (λ v hv=>by cases hv) (gatherQ_mb _ 0 [] _ _ _ (λ v hv=>by cases hv) e1) e2;have hI:∀v,v∈uisB K F→∃u,u∈usK K∧v.node=u.node:=λ v hv=>by
  obtain⟨k,h1,h2⟩:=uisB_node hv;exact⟨k.1,List.mem_map.2 ⟨k,h1,rfl⟩,h2⟩
 refine⟨joined_ok (λ u hu=>(h u hu).1) e1 e2 e3,⟨g2,λ v hv=>?_⟩,λ v hv=>⟨λ d hd=>?_,λ x i e=>?_⟩,hn⟩
 ·obtain⟨u,h1,h2⟩:=hI v hv;rw[h2];exact (h u h1).2.nk
 ·obtain⟨u,h1,h2⟩:=hI v hv;rw[h2] at hd;have:=(h u h1).2.sz;have:=bU u.node;have:=eH hd;have:=bU d;have:=fA d.kids;omega
 have:=hmb v hv x i e;omega
theorem Fr.pmMake {K : List Uk} (h:Fr B w (.bm N K F::.sl UkE uv 62 8 K::.blk bp (bpA uv tv mo) 42::.mp zN VNat mo N0 j.op::.els ThE tv 67 10 (j.ts.zip j.now)::L)) (hl:F.length=K.length):
  Fr B w (.pm bp ⟨uv,tv,.map (some mo),.slice none 0 0⟩ ⟨uisB K F,j.ts⟩ 0 ⟨0,[],j.now⟩ false::.sm mo j.op::L):=by
 have h1:Fr B w (.sl UiE uv 62 8 (uisB K F)::.blk bp (bpA uv tv mo) 42::.sm mo j.op::.els ThE tv 67 10 (j.ts.zip j.now)::L):=(h.bmGive hl.symm).giveMp 2 rfl;have h2:=h1.noEls I32E 21 1;refine Fr.pmShut (q:=⟨uv,tv,.map (some mo),.slice none 0 0⟩) (pg:=⟨uisB K F,j.ts⟩) (f:=0) (p:=⟨0,[],j.now⟩) (over:=false) ?_
 -- out units blk sm things
 exact h2.perm (K:=.blk bp (bpA uv tv mo) 42::.els I32E (.slice none 0 0) 21 1 []::.els ThE tv 67 10 (j.ts.zip j.now)::.sl UiE uv 62 8 (uisB K F)::.sm mo j.op::L) (by
  refine List.Perm.trans (List.perm_middle (l₁:=[_,_])) (.cons _ (.cons _ ?_));exact List.Perm.trans (List.perm_middle (l₁:=[_,_])) (.cons _ (.refl _)))
def PBeg (j:Jn)(B:Bs)(L:List Rs)(e:Ending)(w':World):Prop:=
 (∃u c a:Int,dD j=.no u c a∧c≠0∧e=.returned (.agg #[.int .i64 u,.int .i64 c,.int .i64 a])∧Fr B w' L) ∨
 (∃p,dD j=.ok p∧e=.returned (.agg #[.int .i64 0,.int .i64 0,.int .i64 0])∧Fr B w' L)
theorem begins14 (h:Fr B w (.blk bp (bpA uv tv mo) 42::.mp zN VNat mo N0 j.op::.els ThE tv 67 10 (j.ts.zip j.now)::L)) (hnow:j.now.length=j.ts.length) (hob:∀x p,j.op x=some p→p<j.ts.length):Calls prog 14 #[ptr bp] w (PBeg j B (.blk bp (bpA uv tv mo) 42::.mp zN VNat mo N0 j.op::.els ThE tv 67 10 (j.ts.zip j.now)::L)):=by
 have HNW:=ah hnow;have HOB:=ah hob;obtain⟨ta,tc,rfl,htl,htm⟩:=h.elsForm 2 rfl;rw[zip_len hnow] at h htl ⊢;have H0:=ah h;have HF:=h.alloc (q:=w.heap.size) rfl #[.int .i64 0,.int .i64 0,.int .i64 0] 28;clear h hob hnow;go_enter func14,ntmps14;have c_bp:=HF.cell 1 rfl;cases hop:j.op wMAIN with
 | none=>
  have HOP:=ah hop;have hl:=HF.npTwo 2 rfl (⟨#[109,97,105,110]⟩:ByteArray) (by decide) (tw:=false) (by show false=(j.op wMAIN).isSome;rw[hop];rfl);clear hop;obtain⟨c_r,f_r⟩:=cf HF 0;replace HF:=ax H0 w.heap.size #[.int .i64 0,.int .i64 4,.int .i64 0] 28;go_wp2;clear c_bp c_r f_r;refine br (rt28 results14 rfl (HF.blkAt 0 rfl)) ?_;exact Or.inl ⟨0,4,0,by unfold dD;rw[HOP.out],by decide,rfl,HF.tail⟩
 | some p=>
  have HOP:=ah hop;have hl:=HF.npTwo 2 rfl (⟨#[109,97,105,110]⟩:ByteArray) (by decide) (tw:=true) (by show true=(j.op wMAIN).isSome;rw[hop];rfl);rw[show (j.op (⟨#[109,97,105,110]⟩:ByteArray)).getD 0=p by show (j.op wMAIN).getD 0=p;rw[hop];rfl] at hl;have hpl:=HOB _ _ hop;obtain⟨th,hth⟩:∃th,j.ts[p]?=some th:=⟨_,List.getElem?_eq_getElem hpl⟩
  have HTH:=ah hth;have hpb:(p:Int)<(j.ts.length:Int):=by omega
  obtain⟨gt,rfl,-,ck,cs⟩:=HF.thAt 3 rfl HNW hth;have HB:Hid (dD j=if th.node.kind≠7 then .no 0 4 0 else if th.sign≠wFNINT then .no 0 3 0 else .ok p):=ah (by unfold dD;rw[hop];simp only[hth];rfl);clear hop hth hpl;by_cases k7:th.node.kind=7
  ·have HK:=ah k7;have qa:(th.node.kind=7)=True:=eq_true k7;have qb:(th.node.kind != 7)=false:=by rw[k7];decide
   have qc:(th.node.kind == 7)=true:=by rw[k7];decide
   clear k7;by_cases hs:th.sign=wFNINT
   ·have HSS:=ah hs;have w1:(th.sign.toList == [102,110,40,41,105,110,116])=true:=bytes_same th.sign _ (by rw[hs];rfl);clear hs;obtain⟨c_r,f_r⟩:=cf HF 0;replace HF:=ax H0 w.heap.size #[.int .i64 0,.int .i64 0,.int .i64 0] 28;go_wp2;clear c_bp c_r f_r;refine br (rt28 results14 rfl (HF.blkAt 0 rfl)) ?_;exact Or.inr ⟨p,by rw[HB.out,if_neg (λ h=>h HK.out),if_neg (λ h=>h HSS.out)],rfl,HF.tail⟩
   have HSS:=ah hs;have w1:(th.sign.toList == [102,110,40,41,105,110,116])=false:=bytes_eq th.sign _ (λ e=>hs (ByteArray.ext (Array.toList_inj.1 e)));clear hs;obtain⟨c_r,f_r⟩:=cf HF 0;replace HF:=ax H0 w.heap.size #[.int .i64 0,.int .i64 3,.int .i64 0] 28;go_wp2;clear c_bp c_r f_r;refine br (rt28 results14 rfl (HF.blkAt 0 rfl)) ?_;exact Or.inl ⟨0,3,0,by rw[HB.out,if_neg (λ h=>h HK.out),if_pos HSS.out],by decide,rfl,HF.tail⟩
  have HK:=ah k7;have qa:(th.node.kind=7)=False:=eq_false k7;have qb:(th.node.kind != 7)=true:=by simpa using k7
  have qc:(th.node.kind == 7)=false:=by simpa using k7
  clear k7;obtain⟨c_r,f_r⟩:=cf HF 0;replace HF:=ax H0 w.heap.size #[.int .i64 0,.int .i64 4,.int .i64 0] 28;go_wp2;clear c_bp c_r f_r;refine br (rt28 results14 rfl (HF.blkAt 0 rfl)) ?_;exact Or.inl ⟨0,4,0,by rw[HB.out,if_pos HK.out],by decide,rfl,HF.tail⟩
theorem Fr.stAtE (h:Fr B w L) (i:Nat) {a : Option Addr} {c : Nat} (hi:L[i]?=some (.sl StE (.slice a n c) e 1 l)) (j:Nat) (hj:l[j]?=some s):
  ∃g o,a=some ⟨g,o,none⟩∧s.size≤9223372036854775807∧∃cur f,cur[o+j]?=some (.string s)∧Fr B w (.kn g cur e f::L):=by
 obtain⟨hl,rfl⟩:=List.getElem?_eq_some_iff.1 hj;obtain⟨H,h⟩:=h;obtain⟨a',c',e1,-,-,h4⟩:SlP StE (.slice a n c) e 1 l H:=h.ok _ (List.mem_of_getElem? hi);cases e1;obtain⟨g,o,cur,f,rfl,q2,q3⟩:=h4 (λ e=>by rw[e] at hl;simp at hl);obtain⟨cs,p1,p2,p3,p4⟩:=q3 j hl;have:=p2 0 (by omega);rw[p3] at this;exact⟨g,o,rfl,p4,cur,f,by simpa using this,H,h.free (r:=.kn g cur e f) q2 λ q hq=>hq⟩
theorem read11 (h:Fr B w (.glo::.er::.blk bp (bpA (.slice none 0 0) tv mo) 42::.sl StE (.slice ta l.length tc) et 1 l::L)) (hl:l.length≤4):Calls prog 11 #[ptr bp,.slice ta l.length tc] w (PRead l B bp tv mo L):=by
 have hmm:=@run_makeMap prog;have HL:=ah hl;have h0:=(h.noEls UkE 62 8).bmNone 0;have h0':Fr B w (.bm 0 [] (fN [])::.glo::.er::.els UkE (.slice none 0 0) 62 8 []::.blk bp (bpA (.slice none 0 0) tv mo) 42::.sl StE (.slice ta l.length tc) et 1 l::L):=h0.perm (.cons _ (List.perm_middle (l₁:=[_,_])).symm);have h1:=(h0'.alloc (q:=w.heap.size) rfl #[.int .i64 0,.int .i64 0,.int .i64 0] 28).perm (List.perm_middle (l₁:=[_,_,_,_,_,_])).symm;go_enter func11,ntmps11;go_wp2;generalize (w.alloc (.cells #[.int .i64 0,.int .i64 0,.int .i64 0] 28))=wm at h1 ⊢;go_loopw [5,6,7,8,9,10,13] (λ_ _ _ _ _ _ iv wr=>Hid (∃(k:Nat) (K:List Uk) (uv:Value),k≤l.length∧iv=.int .i64 (k:Int)∧K.length=k∧ReadS l k (K.map Prod.fst)∧UsI (K.map Prod.fst)∧Fr B wr (.bm 0 K (fN K)::.glo::.er::.els UkE uv 62 8 K::.blk bp (bpA uv tv mo) 42::.sl StE (.slice ta l.length tc) et 1 l::.blk w.heap.size #[.int .i64 0,.int .i64 0,.int .i64 0] 28::L))) (λ_ _ _ _ _ _ iv _=>l.length - (intOf iv).toNat)
 case atStart=>exact ah ⟨0,[],_,Nat.zero_le _,rfl,rfl,ReadS.start l,UsI.nil,h1⟩
 clear h h0 h0' h1 hl;obtain⟨k,ks,uv,hk,rfl,hK,hR,hI,hf⟩:=hrel.out;clear hrel;have HR:=ah hR;have HI:=ah hI;have HKL:=ah hK;have HF:=Fr.fr12 hf;clear hf hR hK hI;by_cases hlt:k<l.length
 ·obtain⟨t,ht⟩:∃t,l[k]?=some t:=⟨_,List.getElem?_eq_getElem hlt⟩
  have HT:=ah ht;have HLT:=ah hlt;have hlb:(k:Int)<(l.length:Int):=by omega
  obtain⟨g_t,o_t,hta,hts,cur_t,f_t,hc_t,hf⟩:=HF.stAtE 5 rfl k ht;have HTS:=ah hts;have c_k:=(hf.knc 0 rfl (o_t+k)).trans hc_t;subst hta;clear hf hlt ht hts hc_t;go_wp2_with fail;clear c_k;go_at_call 17;refine (check17 t HTS HF).mono ?_;rintro e w1 (⟨c,p,h3,hc,rfl,hf⟩|⟨n,s,a_n,c_n,h3,hun,rfl,hf⟩)
  ·have H3:=ah h3;have HC:=ah hc;replace HF:=hf;clear hf h3;replace HF:=ax HF w1.heap.size ndz 52;replace HF:=ax HF (w1.heap.size+1) #[.int .i64 c,.int .i64 p] 54;have c_t8:=HF.cell 0 rfl;obtain⟨c_r,f_r⟩:=cf HF 8;replace HF:=HF.nd3 8 rfl (.int .i64 k) (.int .i64 c) (.int .i64 p);go_wp2;clear c_t8 c_r f_r;refine br (rt28 results11 rfl (HF.blkAt 8 rfl)) ?_;exact Or.inl ⟨k,c,p,HR.no HT (checkQ_no H3),HC,rfl,HF.lose⟩
  have H3:=ah h3;have HUN:=ah hun;have HSZ:=ah (parse_a (fO h3).1).2;replace HF:=hf;clear hf h3 hun;replace HF:=aM HF w1.heap.size n a_n c_n;replace HF:=ax HF (w1.heap.size+1) #[.int .i64 0,.int .i64 0] 54;have c_t7:=HF.cell 1 rfl;have c_t8:=HF.cell 0 rfl;go_wp2_with fail;clear c_t7 c_t8;replace HF:=Fr.fr32 HF;go_at_call 18;refine (declared18 H3 HTS HF).mono ?_;rintro e w2 ⟨sv,rfl,hf⟩;obtain⟨sa,sc,rfl,-,-⟩:=hf.elsForm 0 rfl;obtain⟨sk,hsk⟩:∃sk,sk=(signsC n s).length:=⟨_,rfl⟩
  rw[← hsk] at hf ⊢;replace HF:=hf.give 0 rfl;clear hf hsk;replace HF:=ax HF w2.heap.size #[.int .i64 0,.int .i64 0] 54;have c_bp:=HF.cell 9 rfl;have c_t7:=HF.cell 5 rfl;go_wp2;clear c_bp c_t7;refine regK [14,15,16] HF (λ w h=>aI (h.cell 9 rfl) (h.cell 5 rfl)) (λ wd5 HF hC=>?_);refine tq4 0 1 2 3 ?_;refine tq4 4 5 6 7 ?_;refine rdJ (rs:=[8,9,10]) (by kernel_rfl) (by simp) ?_;refine AllJ.cons rfl (λ K hK=>?_) (AllJ.cons rfl (λ K hK=>?_) (AllJ.cons rfl (λ K hK=>?_) AllJ.nil));go_simp;refine (fS HF 6 rfl HSZ).mono ?_;rintro e w8a ⟨nv,rfl,hf⟩;obtain⟨na,nc,rfl,-,-⟩:=hf.elsForm 0 rfl;rw[dG] at hf ⊢;replace HF:=hf.give 0 rfl;clear hf;refine hK.out _ _ (λ_=>⟨(HF.cell 10 rfl),(HF.cell 6 rfl)⟩) ?_;try simp only[qq]
  refine rdJ (rs:=[9,10]) (by kernel_rfl) (by simp) ?_;refine AllJ.cons rfl (λ K hK=>?_) (AllJ.cons rfl (λ K hK=>?_) AllJ.nil);obtain⟨m1,hm⟩:∃m,m=w8a.heap.size:=⟨_,rfl⟩
  replace HF:=HF.mpMade VNat zN 0 (q:=m1) hm.symm;go_simp;rw[← hm];generalize w8a.alloc (.map #[] 0)=w9b at HF ⊢;clear hm;refine hK.out _ _ (λ_=>⟨(HF.cell 11 rfl),(HF.cell 7 rfl)⟩) ?_;try simp only[qq]
  refine rdJ (rs:=[10]) (by kernel_rfl) (by simp) ?_;refine AllJ.cons rfl (λ K hK=>?_) AllJ.nil;obtain⟨m2,hm⟩:∃m,m=w9b.heap.size:=⟨_,rfl⟩
  replace HF:=HF.mpMade VNat zN 0 (q:=m2) hm.symm;go_simp;rw[← hm];generalize w9b.alloc (.map #[] 0)=wz at HF ⊢;clear hm;refine hK.out _ _ (λ_=>⟨(HF.cell 12 rfl),(HF.cell 8 rfl)⟩) ?_;try simp only[qq]
  replace HF:=Fr.p213 HF;rotate_left;obtain⟨m2,hm⟩:∃m,m=w8a.heap.size:=⟨_,rfl⟩
  replace HF:=HF.mpMade VNat zN 0 (q:=m2) hm.symm;go_simp;rw[← hm];generalize w8a.alloc (.map #[] 0)=w10b at HF ⊢;clear hm;refine hK.out _ _ (λ_=>⟨(HF.cell 11 rfl),(HF.cell 7 rfl)⟩) ?_;try simp only[qq]
  refine rdJ (rs:=[9]) (by kernel_rfl) (by simp) ?_;refine AllJ.cons rfl (λ K hK=>?_) AllJ.nil;obtain⟨m1,hm⟩:∃m,m=w10b.heap.size:=⟨_,rfl⟩
  replace HF:=HF.mpMade VNat zN 0 (q:=m1) hm.symm;go_simp;rw[← hm];generalize w10b.alloc (.map #[] 0)=wz at HF ⊢;clear hm;refine hK.out _ _ (λ_=>⟨(HF.cell 12 rfl),(HF.cell 8 rfl)⟩) ?_;try simp only[qq]
  replace HF:=Fr.p123 HF;rotate_left;obtain⟨m1,hm⟩:∃m,m=wd5.heap.size:=⟨_,rfl⟩
  replace HF:=HF.mpMade VNat zN 0 (q:=m1) hm.symm;go_simp;rw[← hm];generalize wd5.alloc (.map #[] 0)=w9a at HF ⊢;clear hm;refine hK.out _ _ (λ_=>⟨(HF.cell 10 rfl),(HF.cell 6 rfl)⟩) ?_;try simp only[qq]
  refine rdJ (rs:=[8,10]) (by kernel_rfl) (by simp) ?_;refine AllJ.cons rfl (λ K hK=>?_) (AllJ.cons rfl (λ K hK=>?_) AllJ.nil);go_simp;refine (fS HF 7 rfl HSZ).mono ?_;rintro e w8b ⟨nv,rfl,hf⟩;obtain⟨na,nc,rfl,-,-⟩:=hf.elsForm 0 rfl;rw[dG] at hf ⊢;replace HF:=hf.give 0 rfl;clear hf;refine hK.out _ _ (λ_=>⟨(HF.cell 11 rfl),(HF.cell 7 rfl)⟩) ?_;try simp only[qq]
  refine rdJ (rs:=[10]) (by kernel_rfl) (by simp) ?_;refine AllJ.cons rfl (λ K hK=>?_) AllJ.nil;obtain⟨m2,hm⟩:∃m,m=w8b.heap.size:=⟨_,rfl⟩
  replace HF:=HF.mpMade VNat zN 0 (q:=m2) hm.symm;go_simp;rw[← hm];generalize w8b.alloc (.map #[] 0)=wz at HF ⊢;clear hm;refine hK.out _ _ (λ_=>⟨(HF.cell 12 rfl),(HF.cell 8 rfl)⟩) ?_;try simp only[qq]
  replace HF:=Fr.p312 HF;rotate_left;obtain⟨m2,hm⟩:∃m,m=w9a.heap.size:=⟨_,rfl⟩
  replace HF:=HF.mpMade VNat zN 0 (q:=m2) hm.symm;go_simp;rw[← hm];generalize w9a.alloc (.map #[] 0)=w10b at HF ⊢;clear hm;refine hK.out _ _ (λ_=>⟨(HF.cell 11 rfl),(HF.cell 7 rfl)⟩) ?_;try simp only[qq]
  refine rdJ (rs:=[8]) (by kernel_rfl) (by simp) ?_;refine AllJ.cons rfl (λ K hK=>?_) AllJ.nil;go_simp;refine (fS HF 8 rfl HSZ).mono ?_;rintro e wz ⟨nv,rfl,hf⟩;obtain⟨na,nc,rfl,-,-⟩:=hf.elsForm 0 rfl;rw[dG] at hf ⊢;replace HF:=hf.give 0 rfl;clear hf;refine hK.out _ _ (λ_=>⟨(HF.cell 12 rfl),(HF.cell 8 rfl)⟩) ?_;try simp only[qq]
  replace HF:=Fr.p321 HF;rotate_left;obtain⟨m2,hm⟩:∃m,m=wd5.heap.size:=⟨_,rfl⟩
  replace HF:=HF.mpMade VNat zN 0 (q:=m2) hm.symm;go_simp;rw[← hm];generalize wd5.alloc (.map #[] 0)=w10a at HF ⊢;clear hm;refine hK.out _ _ (λ_=>⟨(HF.cell 10 rfl),(HF.cell 6 rfl)⟩) ?_;try simp only[qq]
  refine rdJ (rs:=[8,9]) (by kernel_rfl) (by simp) ?_;refine AllJ.cons rfl (λ K hK=>?_) (AllJ.cons rfl (λ K hK=>?_) AllJ.nil);go_simp;refine (fS HF 7 rfl HSZ).mono ?_;rintro e w8b ⟨nv,rfl,hf⟩;obtain⟨na,nc,rfl,-,-⟩:=hf.elsForm 0 rfl;rw[dG] at hf ⊢;replace HF:=hf.give 0 rfl;clear hf;refine hK.out _ _ (λ_=>⟨(HF.cell 11 rfl),(HF.cell 7 rfl)⟩) ?_;try simp only[qq]
  refine rdJ (rs:=[9]) (by kernel_rfl) (by simp) ?_;refine AllJ.cons rfl (λ K hK=>?_) AllJ.nil;obtain⟨m1,hm⟩:∃m,m=w8b.heap.size:=⟨_,rfl⟩
  replace HF:=HF.mpMade VNat zN 0 (q:=m1) hm.symm;go_simp;rw[← hm];generalize w8b.alloc (.map #[] 0)=wz at HF ⊢;clear hm;refine hK.out _ _ (λ_=>⟨(HF.cell 12 rfl),(HF.cell 8 rfl)⟩) ?_;try simp only[qq]
  replace HF:=Fr.p132 HF;rotate_left;obtain⟨m1,hm⟩:∃m,m=w10a.heap.size:=⟨_,rfl⟩
  replace HF:=HF.mpMade VNat zN 0 (q:=m1) hm.symm;go_simp;rw[← hm];generalize w10a.alloc (.map #[] 0)=w9b at HF ⊢;clear hm;refine hK.out _ _ (λ_=>⟨(HF.cell 11 rfl),(HF.cell 7 rfl)⟩) ?_;try simp only[qq]
  refine rdJ (rs:=[8]) (by kernel_rfl) (by simp) ?_;refine AllJ.cons rfl (λ K hK=>?_) AllJ.nil;go_simp;refine (fS HF 8 rfl HSZ).mono ?_;rintro e wz ⟨nv,rfl,hf⟩;obtain⟨na,nc,rfl,-,-⟩:=hf.elsForm 0 rfl;rw[dG] at hf ⊢;replace HF:=hf.give 0 rfl;clear hf;refine hK.out _ _ (λ_=>⟨(HF.cell 12 rfl),(HF.cell 8 rfl)⟩) ?_;try simp only[qq]
  replace HF:=Fr.p231 HF;rotate_left;all_goals (
   refine tq 11 ?_ (hS:=ah ⟨(HF.cell 12 rfl),(HF.cell 8 rfl)⟩);refine rdJ (rs:=[12]) (by kernel_rfl) (by simp) ?_;refine AllJ.cons rfl (λ K hK=>?_) AllJ.nil;replace HF:=HF.ukOf 9 4 2 rfl rfl rfl m1 m2;replace HF:=ax HF wz.heap.size #[.int .i64 n.kind,.string n.text,.int .i64 n.num,.slice a_n n.kids.length c_n,.slice sa sk sc,.slice na n.kids.length nc,.map (some m1),.map (some m2)] 62;go_simp;refine hK.out _ _ (λ_=>⟨(HF.cell 14 rfl),(HF.cell 10 rfl)⟩) ?_;try simp only[qq]
   refine rdJ (rs:=[13]) (by kernel_rfl) (by simp) ?_;refine AllJ.cons rfl (λ K hK=>?_) AllJ.nil;refine fR (by rfl) (Fr.elApp info62 underlying38 rfl (by decide) (by decide) HF 12 rfl (by have:=HKL.out;have:=HL.out;have:=HLT.out;omega) 0 rfl _ _ rfl rfl (by rfl) rfl (by rfl) λ g7 cap7 w7 hF hgr=>?_);clear hgr;replace HF:=hF;clear hF;refine hK.out _ _ (λ_=>⟨(HF.cell 13 rfl),(HF.cell 9 rfl)⟩) ?_;refine tqP 14 ?_;refine tqP 15 ?_;refine rdJ (rs:=[16]) (by kernel_rfl) (by simp) ?_;refine AllJ.cons rfl (λ K hK=>?_) AllJ.nil;obtain⟨c_r,f_r⟩:=cf HF 13;replace HF:=HF.set94 13 rfl (.slice (some ⟨g7,0,none⟩) (ks.length+1) cap7);go_simp;clear c_r f_r;refine hK.out _ _ (λ h=>absurd h (by decide)) ?_;refine dq ?_;have hk5:k≤4:=by have:=HLT.out;have:=HL.out;omega
   go_wp2;have hf:=HF;generalize hU:(⟨n,signsC n s⟩:Uq)=u at hf;have HU:=ah hU;have hf2:Fr B _ (.mp zN VNat m1 0 (λ_=>none)::.mp zN VNat m2 0 (λ_=>none)::.glo::.er::.bm 0 ks (fN ks)::.els UkE (.slice (some ⟨g7,0,none⟩) (ks.length+1) cap7) 62 8 (ks++[(u,m1,m2)])::.blk bp (bpA (.slice (some ⟨g7,0,none⟩) (ks.length+1) cap7) tv mo) 42::.sl StE (.slice (some ⟨g_t,o_t,none⟩) l.length tc) et 1 l::.blk w.heap.size #[.int .i64 0,.int .i64 0,.int .i64 0] 28::L):=hf.lose;have hf3:=(hf2.perm (.cons _ (.cons _ (List.perm_middle (l₁:=[_,_]))))).bmRead u;exact⟨ah ⟨k+1,ks++[(u,m1,m2)],_,HLT,rfl,by rw[List.length_append,HKL.out];rfl,by rw[List.map_append,← HU.out];exact HR.yes HT (checkQ_ok H3),by rw[List.map_append,← HU.out];exact HI.snoc H3 HUN,hf3⟩,by simp only[intOf];have:=HLT.out;omega⟩)
 have hkl:k=l.length:=by omega
 subst hkl;have hli:¬ (l.length:Int)<(l.length:Int):=by omega
 obtain⟨c_r,f_r⟩:=cf HF 6;replace HF:=HF.nd3 6 rfl (.int .i64 0) (.int .i64 0) (.int .i64 0);go_wp2;clear c_r f_r;refine br (rt28 results11 rfl (HF.blkAt 6 rfl)) ?_;have hf:Fr B _ (.glo::.er::.bm 0 ks (fN ks)::.els UkE uv 62 8 ks::.blk bp (bpA uv tv mo) 42::L):=HF.lose;exact Or.inr ⟨uv,ks,HR.fin,HI,HKL,rfl,hf.lose⟩
def PJ (l:List ByteArray)(B:Bs)(L:List Rs)(e:Ending)(w':World):Prop:=
 (∃(u c a:Int) (v:Value),b8 l=.no u c a∧c≠0∧e=.returned (.tuple #[v,.agg #[.int .i64 u,.int .i64 c,.int .i64 a]])∧Fr B w' L) ∨
 (∃(r:Rdy) (bp mo:Nat) (q:PQ) (op:NM),b8 l=.ok r∧RdyI r∧q.ov=.map (some mo)∧op wMAIN=some r.main∧e=.returned (.tuple #[ptr bp,.agg #[.int .i64 0,.int .i64 0,.int .i64 0]])∧Fr B w' (.pm bp q r.pg 0 ⟨0,[],r.now⟩ false::.sm mo op::L))
theorem joined_size (h:l.length<1∨4<l.length):b8 l=.no 0 1 0:=by unfold b8;rw[if_pos h]
section
variable {us : List Uq} {vs ws : List Ui} {u c a : Int} (h : ¬ (l.length < 1 ∨ 4 < l.length))
include h
theorem joined_1 (e:eQ 0 l=.no u c a):b8 l=.no u c a:=by unfold b8;rw[if_neg h,e];rfl
theorem joined_2 (e:eQ 0 l=.ok us) (e2:bI 0 [] us j0=.no u c a):b8 l=.no u c a:=by
 have e2:bI 0 [] us ⟨noN,[],[]⟩=.no u c a:=e2;unfold b8;rw[if_neg h,e];show (bI 0 [] us ⟨noN,[],[]⟩).bind _=_;rw[e2];rfl
theorem joined_3 (e:eQ 0 l=.ok us) (e2:bI 0 [] us j0=.ok (vs,j)) (e3:bF j 0 [] us vs=.no u c a):b8 l=.no u c a:=by
 have e2:bI 0 [] us ⟨noN,[],[]⟩=.ok (vs,j):=e2;unfold b8;rw[if_neg h,e];show (bI 0 [] us ⟨noN,[],[]⟩).bind _=_;rw[e2];show (bF j 0 [] us vs).bind _=_;rw[e3];rfl
theorem joined_4 (e:eQ 0 l=.ok us) (e2:bI 0 [] us j0=.ok (vs,j)) (e3:bF j 0 [] us vs=.ok ws) (e4:dD j=.no u c a):b8 l=.no u c a:=by
 have e2:bI 0 [] us ⟨noN,[],[]⟩=.ok (vs,j):=e2;unfold b8;rw[if_neg h,e];show (bI 0 [] us ⟨noN,[],[]⟩).bind _=_;rw[e2];show (bF j 0 [] us vs).bind _=_;rw[e3];show (dD j).bind _=_;rw[e4];rfl
theorem joined_5 (e:eQ 0 l=.ok us) (e2:bI 0 [] us j0=.ok (vs,j)) (e3:bF j 0 [] us vs=.ok ws) (e4:dD j=.ok p):b8 l=.ok ⟨⟨ws,j.ts⟩,j.now,p⟩:=by
 have e2:bI 0 [] us ⟨noN,[],[]⟩=.ok (vs,j):=e2;unfold b8;rw[if_neg h,e];show (bI 0 [] us ⟨noN,[],[]⟩).bind _=_;rw[e2];show (bF j 0 [] us vs).bind _=_;rw[e3];show (dD j).bind _=_;rw[e4];rfl
end
theorem begins_main (h:dD j=.ok p):j.op wMAIN=some p:=by
 unfold dD at h;split at h
 ·cases h
 rename_i q hq
 split at h
 ·cases h
 split at h
 ·cases h
 cases h;exact hq
theorem joined9 (h:Fr B w (.glo::.er::.sl StE (.slice ta l.length tc) et 1 l::L)):Calls prog 9 #[.slice ta l.length tc] w (PJ l B L):=by
 have H0:=ah h;have HF:=h;clear h;go_enter func9,ntmps9;replace HF:=ax HF w.heap.size #[.int .i64 0,.int .i64 0,.int .i64 0] 28;by_cases h1:l.length<1
 ·obtain⟨c_t3,f_t3⟩:=cf HF 0;have HSZ:Hid (l.length<1∨4<l.length):=ah (.inl h1);have hq:(l.length:Int)<1:=by omega
  clear h1;replace HF:=ax H0 w.heap.size #[.int .i64 0,.int .i64 1,.int .i64 0] 28;go_wp2;clear c_t3 f_t3;refine br (bD results9 _ rfl rfl _ (fY (HF.blkAt 0 rfl))) ?_;exact Or.inl ⟨0,1,0,_,joined_size HSZ,by decide,rfl,HF.lose⟩
 by_cases h4:4<l.length
 ·obtain⟨c_t3,f_t3⟩:=cf HF 0;have HSZ:Hid (l.length<1∨4<l.length):=ah (.inr h4);have hq:¬ (l.length:Int)<1:=by omega
  have hq2:(4:Int)<(l.length:Int):=by omega
  clear h1 h4;replace HF:=ax H0 w.heap.size #[.int .i64 0,.int .i64 1,.int .i64 0] 28;go_wp2;clear c_t3 f_t3;refine br (bD results9 _ rfl rfl _ (fY (HF.blkAt 0 rfl))) ?_;exact Or.inl ⟨0,1,0,_,joined_size HSZ,by decide,rfl,HF.lose⟩
 have HSZ:Hid (¬ (l.length<1∨4<l.length)):=ah (by omega);have hl4:l.length≤4:=by omega
 have HL4:=ah hl4;have hq:¬ (l.length:Int)<1:=by omega
 have hq2:¬ (4:Int)<(l.length:Int):=by omega
 clear h1 h4 hl4;have hmm:=@run_makeMap prog;replace HF:=HF.mpMade VNat zN 0 (q:=w.heap.size+1) (by simp);replace HF:=ax HF (w.heap.size+1+1) #[.int .i64 0,.int .i32 0,.slice none 0 0,.int .i64 0,.slice none 0 0,.slice none 0 0,.map (some (w.heap.size+1)),.int .i64 0,.bool false] 42;go_wp2_with fail;clear hq hq2;replace HF:=HF.perm ((List.Perm.append_right L (List.perm_append_comm (l₁:=[_,_,_]) (l₂:=[_,_,_]))).trans (.cons _ (.cons _ (.swap _ _ _))));go_at_call 11;refine (read11 HF HL4).mono ?_;rintro e w1 (⟨u,c,a,h3,hc,rfl,hf⟩|⟨uv,Ks,h3,hI,hKl,rfl,hf⟩)
 ·have H3:=ah h3;have HC:=ah hc;replace HF:=hf;clear hf h3;replace HF:=ax HF w1.heap.size #[.int .i64 u,.int .i64 c,.int .i64 a] 28;have c_t5:=HF.cell 0 rfl;go_wp2;clear c_t5;refine regK [] HF (λ w h=>(h.cell 0 rfl)) (λ wd1 HF hC=>?_);refine tq3 0 1 2 ?_;refine rq 3 λ K hK=>?_;obtain⟨c_r,f_r⟩:=cf HF 2;replace HF:=HF.nd3 2 rfl (.int .i64 u) (.int .i64 c) (.int .i64 a);go_simp;clear c_r f_r;refine uq hK (HF.cell 0 rfl) λ hC=>?_;refine dq ?_;go_wp2;refine br (bD results9 _ rfl rfl _ (fY (HF.blkAt 2 rfl))) ?_;exact Or.inl ⟨u,c,a,_,joined_1 HSZ H3,HC,rfl,HF.lose⟩
 have H3:=ah h3;have HI:=ah hI;have HKL:=ah hKl;replace HF:=hf;clear hf h3 hI hKl;replace HF:=ax HF w1.heap.size #[.int .i64 0,.int .i64 0,.int .i64 0] 28;have c_t5:=HF.cell 0 rfl;go_wp2_with fail;clear c_t5;replace HF:=(HF.perm (List.Perm.append_right (_::L) (List.perm_append_comm (l₁:=[_]) (l₂:=[_,_,_,_])))).give 1 rfl;go_at_call 12;refine (gather12 HF (λ u hu=>(HI u hu).2) (by rw[HKL.out];exact HL4)).mono ?_;rintro e w2 (⟨u,c,a,h4,hc,rfl,hf⟩|⟨N,F0,j,tv,h4,hN,hfl,hn,hts,rfl,hf⟩)
 ·have H4:=ah h4;have HC:=ah hc;replace HF:=hf;clear hf h4;obtain⟨c_t5,f_t5⟩:=cf HF 0;replace HF:=HF.nd3 0 rfl (.int .i64 u) (.int .i64 c) (.int .i64 a);have c_t5_:=HF.cell 0 rfl;go_wp2;clear c_t5 f_t5 c_t5_;refine regK [] HF (λ w h=>(h.cell 0 rfl)) (λ wd1 HF hC=>?_);refine tq3 0 1 2 ?_;refine rq 3 λ K hK=>?_;obtain⟨c_r,f_r⟩:=cf HF 1;replace HF:=HF.nd3 1 rfl (.int .i64 u) (.int .i64 c) (.int .i64 a);go_simp;clear c_r f_r;refine uq hK (HF.cell 0 rfl) λ hC=>?_;refine dq ?_;go_wp2;refine br (bD results9 _ rfl rfl _ (fY (HF.blkAt 1 rfl))) ?_;exact Or.inl ⟨u,c,a,_,joined_2 HSZ H3 H4,HC,rfl,HF.lose⟩
 have H5:=ah h4;have HN:=ah hn;have HNN:=ah hN;have HFL:=ah hfl;have HTS:=ah hts;replace HF:=hf;clear hf h4 hN hfl hn hts;obtain⟨c_t5,f_t5⟩:=cf HF 5;replace HF:=HF.nd3 5 rfl (.int .i64 0) (.int .i64 0) (.int .i64 0);have c_t5_:=HF.cell 5 rfl;go_wp2_with fail;clear c_t5 f_t5 c_t5_;have hob:=(gat_facts HI H5).1;have HOB:=ah hob;clear hob;go_at_call 13;refine (resolve13 HF (λ u hu=>(HI u hu).2) (by rw[HKL.out];exact HL4) HFL HNN (Nat.le_trans HTS HNN) HN HOB).mono ?_;rintro e w3 (⟨u,c,a,h4,hc,rfl,hf⟩|⟨N2,F,h4,hfl2,rfl,hf⟩)
 ·have H4:=ah h4;have HC:=ah hc;replace HF:=hf;clear hf h4;obtain⟨c_t5,f_t5⟩:=cf HF 0;replace HF:=HF.nd3 0 rfl (.int .i64 u) (.int .i64 c) (.int .i64 a);have c_t5_:=HF.cell 0 rfl;go_wp2;clear c_t5 f_t5 c_t5_;refine regK [] HF (λ w h=>(h.cell 0 rfl)) (λ wd1 HF hC=>?_);refine tq3 0 1 2 ?_;refine rq 3 λ K hK=>?_;obtain⟨c_r,f_r⟩:=cf HF 1;replace HF:=HF.nd3 1 rfl (.int .i64 u) (.int .i64 c) (.int .i64 a);go_simp;clear c_r f_r;refine uq hK (HF.cell 0 rfl) λ hC=>?_;refine dq ?_;go_wp2;refine br (bD results9 _ rfl rfl _ (fY (HF.blkAt 1 rfl))) ?_;exact Or.inl ⟨u,c,a,_,joined_3 HSZ H3 H5 H4,HC,rfl,HF.lose⟩
 have H6:=ah h4;have HFL2:=ah hfl2;replace HF:=hf;clear hf h4 hfl2;obtain⟨c_t5,f_t5⟩:=cf HF 5;replace HF:=HF.nd3 5 rfl (.int .i64 0) (.int .i64 0) (.int .i64 0);have c_t5_:=HF.cell 5 rfl;go_wp2_with fail;clear c_t5 f_t5 c_t5_;replace HF:=HF.perm (List.Perm.append_right (_::_::L) (List.perm_append_comm (l₁:=[_,_]) (l₂:=[_,_,_])));go_at_call 14;refine (begins14 HF HN HOB).mono ?_;rintro e w4 (⟨u,c,a,h4,hc,rfl,hf⟩|⟨p,h4,rfl,hf⟩)
 ·have H4:=ah h4;have HC:=ah hc;replace HF:=hf;clear hf h4;obtain⟨c_t5,f_t5⟩:=cf HF 5;replace HF:=HF.nd3 5 rfl (.int .i64 u) (.int .i64 c) (.int .i64 a);have c_t5_:=HF.cell 5 rfl;go_wp2;clear c_t5 f_t5 c_t5_;refine regK [] HF (λ w h=>(h.cell 5 rfl)) (λ wd1 HF hC=>?_);refine tq3 0 1 2 ?_;refine rq 3 λ K hK=>?_;obtain⟨c_r,f_r⟩:=cf HF 6;replace HF:=HF.nd3 6 rfl (.int .i64 u) (.int .i64 c) (.int .i64 a);go_simp;clear c_r f_r;refine uq hK (HF.cell 5 rfl) λ hC=>?_;refine dq ?_;go_wp2;refine br (bD results9 _ rfl rfl _ (fY (HF.blkAt 6 rfl))) ?_;exact Or.inl ⟨u,c,a,_,joined_4 HSZ H3 H5 H6 H4,HC,rfl,HF.lose⟩
 have H7:=ah h4;replace HF:=hf;clear hf h4;obtain⟨c_t5,f_t5⟩:=cf HF 5;replace HF:=HF.nd3 5 rfl (.int .i64 0) (.int .i64 0) (.int .i64 0);have c_t5_:=HF.cell 5 rfl;go_wp2;clear c_t5 f_t5 c_t5_;refine regK [] HF (λ w h=>(h.cell 5 rfl)) (λ wd1 HF hC=>?_);refine tq3 0 1 2 ?_;refine rq 3 λ K hK=>?_;obtain⟨c_r,f_r⟩:=cf HF 6;replace HF:=HF.nd3 6 rfl (.int .i64 0) (.int .i64 0) (.int .i64 0);go_simp;clear c_r f_r;refine uq hK (HF.cell 5 rfl) λ hC=>?_;refine dq ?_;go_wp2;refine br (bD results9 _ rfl rfl _ (fY (HF.blkAt 6 rfl))) ?_;have hf:=(HF.perm (List.Perm.append_right (_::_::L) (List.perm_append_comm (l₁:=[_,_,_]) (l₂:=[_,_])))).pmMake HFL2;exact Or.inr ⟨_,_,_,_,j.op,joined_5 HSZ H3 H5 H6 H7,rdy_all HI H5 H6 H7 HN (Nat.le_trans HTS HNN),rfl,begins_main H7,rfl,hf.lose⟩
inductive Rn
 | shown (s:Sh)
 | no (u c a:Int)
def runL (l:List ByteArray)(f:Int):Rn:=
 if f<0∨2000<f then .no 0 6 0 else match b8 l with
  | .no u c a=>.no u c a
  | .ok r=>.shown (runQ f.toNat r)
def PRn (l:List ByteArray)(f:Int)(B:Bs)(L:List Rs)(e:Ending)(w':World):Prop:=
 (∃u c a:Int,runL l f=.no u c a∧c≠0∧e=.returned (.tuple #[.agg #[.int .i64 0,.int .i32 0,.slice none 0 0,.int .i64 0],.agg #[.int .i64 u,.int .i64 c,.int .i64 a]])∧Fr B w' L) ∨
 (∃(r:Rdy) (ov:Value),b8 l=.ok r∧RdyI r∧0≤f∧f≤2000∧runL l f=.shown (runQ f.toNat r)∧e=.returned (.tuple #[.agg #[.int .i64 (runQ f.toNat r).end_,.int .i32 (runQ f.toNat r).value,ov,.int .i64 ((runQ f.toNat r).steps:Nat)],.agg #[.int .i64 0,.int .i64 0,.int .i64 0]])∧Fr B w' (.els I32E ov 21 1 (runQ f.toNat r).out::L))
theorem load25 {w : World} {q : Nat} {x0 x1 x2 x3 : Value} (h:w.heap[q]?=some (.cells #[x0,x1,x2,x3] 25 (0,0))):(loadVar 25 ⟨q,0,none⟩).run prog w=.ok (.agg #[x0,x1,x2,x3]) w:=by
 have hc:=aA h;simp [loadVar,go_sem,hc]
theorem Fr.pmFuel {f : Nat} {q : PQ} {pg : Pg} {now : List Va} (h:Fr B w (.pm bp q pg 0 ⟨0,[],now⟩ false::L)):Fr B (w.setCell ⟨bp,7,none⟩ (.int .i64 (f:Int))) (.pm bp q pg f ⟨0,[],now⟩ false::L):=
 Fr.pmShut (f:=f) (h.pmOpen.set97 0 rfl (.int .i64 (f:Int)))
theorem run5 (h:Fr B w (.glo::.er::.sl StE (.slice ta l.length tc) et 1 l::L)):Calls prog 5 #[.slice ta l.length tc,.int .i64 f] w (PRn l f B L):=by
 have H0:=ah h;have HF:=h;clear h;go_enter func5,ntmps5;replace HF:=ax HF w.heap.size #[.int .i64 0,.int .i32 0,.slice none 0 0,.int .i64 0] 25;replace HF:=ax HF (w.heap.size+1) #[.int .i64 0,.int .i64 0,.int .i64 0] 28;by_cases h1:f<0
 ·have c_t4:=HF.cell 1 rfl;have c_t5:=HF.cell 0 rfl;have f_t4:=HF.frz 1 rfl;have f_t5:=HF.frz 0 rfl;have HBD:Hid (f<0∨2000<f):=ah (.inl h1);replace HF:=(H0.alloc (q:=w.heap.size) rfl #[.int .i64 0,.int .i32 0,.slice none 0 0,.int .i64 0] 25).alloc (q:=w.heap.size+1) (by simp) #[.int .i64 0,.int .i64 6,.int .i64 0] 28;go_wp2;clear c_t4 c_t5 f_t4 f_t5;refine br (aH results5 _ rfl rfl _ (load25 (HF.blkAt 1 rfl)) (fY (HF.blkAt 0 rfl))) ?_;exact Or.inl ⟨0,6,0,by unfold runL;rw[if_pos HBD.out],by decide,rfl,HF.lose⟩
 by_cases h2:2000<f
 ·have c_t4:=HF.cell 1 rfl;have c_t5:=HF.cell 0 rfl;have f_t4:=HF.frz 1 rfl;have f_t5:=HF.frz 0 rfl;have HBD:Hid (f<0∨2000<f):=ah (.inr h2);replace HF:=(H0.alloc (q:=w.heap.size) rfl #[.int .i64 0,.int .i32 0,.slice none 0 0,.int .i64 0] 25).alloc (q:=w.heap.size+1) (by simp) #[.int .i64 0,.int .i64 6,.int .i64 0] 28;go_wp2;clear c_t4 c_t5 f_t4 f_t5;refine br (aH results5 _ rfl rfl _ (load25 (HF.blkAt 1 rfl)) (fY (HF.blkAt 0 rfl))) ?_;exact Or.inl ⟨0,6,0,by unfold runL;rw[if_pos HBD.out],by decide,rfl,HF.lose⟩
 have HBD:Hid (¬ (f<0∨2000<f)):=ah (by omega);go_wp2_with fail;clear h1 h2;replace HF:=HF.perm (List.Perm.append_right L (List.perm_append_comm (l₁:=[_,_]) (l₂:=[_,_,_])));go_at_call 9;refine (joined9 HF).mono ?_;rintro e w1 (⟨u,c,a,v,h3,hc,rfl,hf⟩|⟨r,bp,mo,q,op,h3,hI,hov,hop,rfl,hf⟩)
 ·have H3:=ah h3;have HC:=ah hc;replace HF:=hf;clear hf h3;replace HF:=ax HF w1.heap.size #[.int .i64 u,.int .i64 c,.int .i64 a] 28;have c_t7:=HF.cell 0 rfl;go_wp2;clear c_t7;refine regK [] HF (λ w h=>(h.cell 0 rfl)) (λ wd1 HF hC=>?_);refine tq2 0 1 ?_;refine rq 2 λ K hK=>?_;obtain⟨c_r,f_r⟩:=cf HF 2;replace HF:=HF.nd4 2 rfl (.int .i64 0) (.int .i32 0) (.slice none 0 0) (.int .i64 0);go_simp;clear c_r f_r;refine uq hK (HF.cell 0 rfl) λ hC=>?_;refine rq 3 λ K hK=>?_;obtain⟨c_r,f_r⟩:=cf HF 1;replace HF:=HF.nd3 1 rfl (.int .i64 u) (.int .i64 c) (.int .i64 a);go_simp;clear c_r f_r;refine uq hK (HF.cell 0 rfl) λ hC=>?_;refine dq ?_;go_wp2;refine br (aH results5 _ rfl rfl _ (load25 (HF.blkAt 2 rfl)) (fY (HF.blkAt 1 rfl))) ?_;exact Or.inl ⟨u,c,a,by unfold runL;rw[if_neg HBD.out,H3.out],HC,rfl,HF.lose⟩
 have H3:=ah h3;have HI:=ah hI;have HOV:=ah hov;have HOP:=ah hop;obtain⟨k,hk⟩:∃k:Nat,f=(k:Int):=⟨f.toNat,by have:=HBD.out;omega⟩
 subst hk;have hk2:k≤2000:=by have:=HBD.out;omega
 have HK:=ah hk2;replace HF:=hf;clear hf h3 hI hov hop hk2;replace HF:=ax HF w1.heap.size #[.int .i64 0,.int .i64 0,.int .i64 0] 28;have c_t7:=HF.cell 0 rfl;replace HF:=Fr.fr11 HF;have c_pm:=HF.pmCell 0 rfl;have f_pm:=HF.pmFrz 0 rfl;replace HF:=HF.pmFuel (f:=k);go_wp2_with fail;clear c_t7 c_pm f_pm;replace HF:=Fr.p132 HF;obtain⟨g1,g2,g3,g4⟩:=run_good (f:=k) HI.ok HK;go_at_call 10;refine (run10 HI.pg HI.un HF HOV HOP ⟨HI.now,Nat.zero_le _,HK,Nat.zero_le _,Nat.zero_le _⟩ g1 g2).mono ?_;rintro e w2 ⟨ov,over,rfl,hf⟩;replace HF:=hf;clear hf g1 g2 g3 g4;obtain⟨S,hS⟩:∃S,S=runQ k r:=⟨_,rfl⟩
 rw[← hS] at HF;have HS:=ah hS;obtain⟨oa,oc,rfl,-,-⟩:=HF.elsForm 1 rfl;clear hS;go_wp2;refine regK [] HF (λ w h=>aI (h.cell 0 rfl) (h.cell 2 rfl)) (λ wd1 HF hC=>?_);refine tq4 0 1 2 3 ?_;refine tq 4 ?_;refine rq 5 λ K hK=>?_;obtain⟨c_r,f_r⟩:=cf HF 4;replace HF:=HF.nd4 4 rfl (.int .i64 S.end_) (.int .i32 S.value) (.slice oa S.out.length oc) (.int .i64 (S.steps:Nat));go_simp;clear c_r f_r;refine uq hK ⟨(HF.cell 0 rfl),(HF.cell 2 rfl)⟩ λ hC=>?_;refine rq 6 λ K hK=>?_;obtain⟨c_r,f_r⟩:=cf HF 3;replace HF:=HF.nd3 3 rfl (.int .i64 0) (.int .i64 0) (.int .i64 0);go_simp;clear c_r f_r;refine uq hK ⟨(HF.cell 0 rfl),(HF.cell 2 rfl)⟩ λ hC=>?_;refine dq ?_;go_wp2;refine br (aH results5 _ rfl rfl _ (load25 (HF.blkAt 4 rfl)) (fY (HF.blkAt 3 rfl))) ?_;have hf:=HF;rw[HS.out] at hf ⊢;exact Or.inr ⟨r,_,H3,HI,by omega,by have:=HK.out;omega,by unfold runL;rw[if_neg HBD.out,H3.out],rfl,hf.lose⟩
theorem Fr.i32At (h:Fr B w L) (i:Nat) {a : Option Addr} {c : Nat} {l : List Int} (hi:L[i]?=some (.sl I32E (.slice a n c) 21 1 l)) (j:Nat) {s : Int} (hj:l[j]?=some s):
  ∃g o,a=some ⟨g,o,none⟩∧∃cur f,cur[o+j]?=some (.int .i32 s)∧Fr B w (.kn g cur 21 f::L):=by
 obtain⟨hl,rfl⟩:=List.getElem?_eq_some_iff.1 hj;obtain⟨H,h⟩:=h;obtain⟨a',c',e,-,-,h4⟩:SlP I32E (.slice a n c) 21 1 l H:=h.ok _ (List.mem_of_getElem? hi);cases e;obtain⟨g,o,cur,f,rfl,q2,q3⟩:=h4 (λ e=>by rw[e] at hl;simp at hl);obtain⟨cs,p1,p2,p3,-⟩:=q3 j hl;have:=p2 0 (by omega);rw[p3] at this;exact⟨g,o,rfl,cur,f,by simpa using this,H,h.free (r:=.kn g cur 21 f) q2 λ q hq=>hq⟩
theorem words7 {l : List Int} {a : Option Addr} {c : Nat} (h:Fr B w L) (i j:Nat) (hi:L[i]?=some (.sl I32E (.slice a l.length c) 21 1 l)) (hj:L[j]?=some (.sl I32E (.slice b l.length d) 21 1 l)):Calls prog 7 #[.slice a l.length c,.slice b l.length d] w λ e w'=>e=.returned (.bool true)∧Fr B w' L:=by
 obtain⟨_,_,hx,hlc,hcm⟩:=h.slForm i hi;cases hx;obtain⟨_,_,hx,hld,hdm⟩:=h.slForm j hj;cases hx;unfold maxLen at hcm hdm;have HF:=(h.slDup j hj).slDup (i+1) hi;clear h hi hj;go_enter func7,ntmps7;go_wp2;go_loopw [5] (λ iv wr=>Hid (∃k:Nat,k≤l.length∧iv=.int .i64 (k:Int)∧Fr B wr (.sl I32E (.slice a l.length c) 21 1 l::.sl I32E (.slice b l.length d) 21 1 l::L))) (λ iv _=>l.length - (intOf iv).toNat)
 case atStart=>exact ah ⟨0,Nat.zero_le _,rfl,HF⟩
 clear HF;obtain⟨k,hk,rfl,hf⟩:=hrel.out;clear hrel;have HF:=hf;clear hf;by_cases hlt:k<l.length
 ·obtain⟨x,hx⟩:∃x,l[k]?=some x:=⟨_,List.getElem?_eq_getElem hlt⟩
  have HLT:=ah hlt;have hlb:(k:Int)<(l.length:Int):=by omega
  obtain⟨g1,o1,rfl,cur1,f1,h1,hf⟩:=HF.i32At 0 rfl k hx;obtain⟨g2,o2,rfl,cur2,f2,h2,hf⟩:=hf.i32At 2 rfl k hx;have H1:=ah h1;have H2:=ah h2;replace HF:=hf;clear hf h1 h2 hx;go_wp2;refine regK [] HF (λ w h=>aI ((h.knc 1 rfl (o1+k)).trans H1) ((h.knc 0 rfl (o2+k)).trans H2)) (λ wd6 HF hC=>?_);refine tq4 0 1 2 3 ?_;refine tq4 4 5 6 7 ?_;refine tq 8 ?_;refine dq ?_;go_wp2;exact⟨ah ⟨k+1,HLT,rfl,HF.lose⟩,by simp only[intOf];omega⟩
 have hkl:k=l.length:=by omega
 subst hkl;have hli:¬ (l.length:Int)<(l.length:Int):=by omega
 go_wp2;go_ret
 exact⟨rfl,HF.lose⟩
theorem begins6 {l k : List Int} (hp:l <+: k) {a : Option Addr} {c : Nat} (h:Fr B w L) (i j:Nat) (hi:L[i]?=some (.sl I32E (.slice a k.length c) 21 1 k)) (hj:L[j]?=some (.sl I32E (.slice b l.length d) 21 1 l)):Calls prog 6 #[.slice a k.length c,.slice b l.length d] w λ e w'=>e=.returned (.bool true)∧Fr B w' L:=by
 obtain⟨r,rfl⟩:=hp;obtain⟨_,_,hx,hlc,hcm⟩:=h.slForm i hi;cases hx;obtain⟨_,_,hx,hld,hdm⟩:=h.slForm j hj;cases hx;have HF:=((h.slDup j hj).slDup (i+1) hi).slTakeM 0 rfl;have hm:l.length≤(l++r).length:=by rw[List.length_append];omega
 obtain⟨m,hmm⟩:∃m,m=(l++r).length:=⟨_,rfl⟩
 rw[← hmm] at hm hlc ⊢;have hq1:(l.length:Int)≤(m:Int):=by omega
 have hq2:(l.length:Int)≤(c:Int):=by omega
 have hq3:(m:Int) ≥ (l.length:Int):=by omega
 have hq4:l.length≤c:=by omega
 clear h hi hj hmm;go_enter func6,ntmps6;go_wp2_with fail;go_at_call 7;refine (words7 HF 0 2 rfl rfl).mono ?_;rintro e w1 ⟨rfl,HF⟩;go_wp2;go_ret
 exact⟨rfl,HF.lose⟩
theorem fields28 : prog.fieldsOf 28 = #[⟨"Unit", 3, 0, false, "", "", 0⟩, ⟨"Code", 26, 1, false, "", "", 8⟩, ⟨"At", 3, 2, false, "", "", 16⟩] := by kernel_rfl
theorem stood28:prog.stoodInHeld 28=false:=by kernel_rfl
theorem partI {t : TypeId} (ht:t=3∨t=26) (x y z:Value) (w:World):(part t #[x,y,z] 0).run prog w=.ok x w∧(part t #[x,y,z] 1).run prog w=.ok y w∧(part t #[x,y,z] 2).run prog w=.ok z w:=by
 rcases ht with rfl|rfl
 ·simp [part,isAgg,run_underlying underlying3]
 simp [part,isAgg,run_underlying underlying26]
theorem eq28 (u c a u' c' a':Int) (w:World):(Op.equal 28 (.agg #[.int .i64 u,.int .i64 c,.int .i64 a]) (.agg #[.int .i64 u',.int .i64 c',.int .i64 a'])).run prog w=.ok ((u == u') && ((c == c') && (a == a'))) w:=by
 show (Op.equalIn (9997+1+1+1) 28 _ _).run prog w=_;rw[run_equalIn_struct w (9997+1+1) 28 _ _ (by rw[fields28];exact underlying28) stood28,fields28];have p3:=λ x y z=>partI (t:=3) (.inl rfl) x y z w;have p26:=λ x y z=>partI (t:=26) (.inr rfl) x y z w;simp only[Op.eqFields,Sem.run_bind,(p3 _ _ _).1,(p3 _ _ _).2.2,(p26 _ _ _).2.1,Result.andThen_ok,run_equalIn_int w (9997+1) 3 .i64 .i64 _ _ underlying3,run_equalIn_int w (9997+1) 26 .i64 .i64 _ _ underlying26];by_cases h1:u=u'<;>by_cases h2:c=c'<;>by_cases h3:a=a'<;>simp [h1,h2,h3,(p3 _ _ _).1,(p3 _ _ _).2.2,(p26 _ _ _).2.1,run_equalIn_int w (9997+1) 3 .i64 .i64 _ _ underlying3,run_equalIn_int w (9997+1) 26 .i64 .i64 _ _ underlying26]
theorem eql28 (u c a u' c' a':Int):∃b,(∀W:World,(binOp .eql 28 (.agg #[.int .i64 u,.int .i64 c,.int .i64 a]) (.agg #[.int .i64 u',.int .i64 c',.int .i64 a'])).run prog W=.ok (.bool b) W)∧(u=u'→c=c'→a=a'→b=true):=by
 refine⟨(u == u') && ((c == c') && (a == a')),λ W=>?_,λ h1 h2 h3=>by subst h1 h2 h3;simp⟩;simp [binOp,eq28,Sem.run_bind]
theorem Fr.dup3 {x y : Pf} {v : Value} (h:Fr B w (.fact x::.fact y::.sl StE v e 1 l::L)):Fr B w (.fact x::.fact y::.sl StE v e 1 l::.fact x::.fact y::.sl StE v e 1 l::L):=
 h.know (K:=[.fact x,.fact y,.sl StE v e 1 l]) λ H w hr k hk=>by
  rcases List.mem_cons.1 hk with rfl|hk
  ·exact⟨hr _ (List.mem_cons_self ..),λ q hq=>hq⟩
  rcases List.mem_cons.1 hk with rfl|hk
  ·exact⟨hr _ (List.mem_cons_of_mem _ (List.mem_cons_self ..)),λ q hq=>hq⟩
  obtain rfl:=List.mem_singleton.1 hk;exact⟨hr _ (List.mem_cons_of_mem _ (List.mem_cons_of_mem _ (List.mem_cons_self ..))),λ q hq=>hq⟩
theorem runL_no {u c a : Int} (h:runL l f=.no u c a):(f<0∨2000<f)∨b8 l=.no u c a:=by
 unfold runL at h;split at h
 ·rename_i hf;exact .inl hf
 cases e:b8 l with
 | ok r=>rw[e] at h;cases h
 | no u' c' a'=>rw[e] at h;cases h;exact .inr rfl
theorem longer3 {few more : Int} (h:Fr B w (.glo::.er::.sl StE (.slice ta l.length tc) et 1 l::L)):Calls prog 3 #[.slice ta l.length tc,.int .i64 few,.int .i64 more] w λ e w'=>e=.returned (.bool true)∧Fr B w' L:=by
 have HF:=h;clear h;go_enter func3,ntmps3;by_cases hgt:few > more
 ·have hq:few > more:=hgt;go_wp2;go_ret
  exact⟨rfl,HF.lose⟩
 have HLE:=ah (Int.not_lt.1 hgt);have hq:¬ few > more:=hgt;clear hgt;go_wp2_with fail;clear hq;replace HF:=ah HF.dup3;go_at_call 5;refine (run5 HF).mono ?_;rintro e w1 (⟨u,c,a,h3,hc,rfl,hf⟩|⟨r,ov,hj,hI,hf0,hf1,h3,rfl,hf⟩)
 ·have H3:=ah h3;have HC:=ah hc;replace HF:=hf;clear hf h3 hc;replace HF:=ax HF w1.heap.size #[.int .i64 0,.int .i32 0,.slice none 0 0,.int .i64 0] 25;replace HF:=ax HF (w1.heap.size+1) #[.int .i64 u,.int .i64 c,.int .i64 a] 28;go_wp2_with fail;replace HF:=HF.perm (List.Perm.append_right L (List.perm_append_comm (l₁:=[_,_]) (l₂:=[_,_,_])));go_at_call 5;refine (run5 HF).mono ?_;rintro e w2 (⟨u',c',a',h4,hc',rfl,hf⟩|⟨r,ov,hj,hI,hf0,hf1,h4,rfl,hf⟩)
  ·have H4:=ah h4;have HC2:=ah hc';replace HF:=hf;clear hf h4 hc';replace HF:=ax HF w2.heap.size #[.int .i64 0,.int .i32 0,.slice none 0 0,.int .i64 0] 25;replace HF:=ax HF (w2.heap.size+1) #[.int .i64 u',.int .i64 c',.int .i64 a'] 28;have c_t8:=HF.cell 2 rfl;have c_t10:=HF.cell 0 rfl;obtain⟨bb,hbb,hbt⟩:=eql28 u c a u' c' a';have hcn:=HC.out;have hcase:bb=true∨few<0∨2000<more:=by
    rcases runL_no H3 with h|h
    ·have:=HLE.out;omega
    rcases runL_no H4 with h'|h'
    ·have:=HLE.out;omega
    rw[h] at h';cases h';exact .inl (hbt rfl rfl rfl)
   clear hbt;rcases bb with _|_
   ·by_cases hlow:few<0
    ·clear hcase;go_wp2;clear c_t8 c_t10;go_ret
     exact⟨rfl,HF.lose⟩
    have hup:(2000:Int)<more:=by rcases hcase with h|h|h;cases h;exact absurd h hlow;exact h
    clear hcase;go_wp2;clear c_t8 c_t10;go_ret
    exact⟨rfl,HF.lose⟩
   clear hcase;go_wp2;clear c_t8 c_t10;go_ret
   exact⟨rfl,HF.lose⟩
  have hlow:few<0:=by
   rcases runL_no H3 with h|h
   ·have:=HLE.out;omega
   rw[h] at hj;cases hj
  obtain⟨oa,oc,rfl,-,-⟩:=hf.elsForm 0 rfl;replace HF:=hf;clear hf h4 hj hI hf0 hf1;replace HF:=ax HF w2.heap.size #[.int .i64 (runQ more.toNat r).end_,.int .i32 (runQ more.toNat r).value,.slice oa (runQ more.toNat r).out.length oc,.int .i64 ((runQ more.toNat r).steps:Nat)] 25;replace HF:=ax HF (w2.heap.size+1) #[.int .i64 0,.int .i64 0,.int .i64 0] 28;have c_t8:=HF.cell 3 rfl;have c_t10:=HF.cell 0 rfl;obtain⟨bb,hbb,-⟩:=eql28 u c a 0 0 0;have hcn:=HC.out;rcases bb with _|_
  ·go_wp2_with fail;clear c_t8 c_t10;go_ret
   exact⟨rfl,HF.lose⟩
  go_wp2;clear c_t8 c_t10;go_ret
  exact⟨rfl,HF.lose⟩
 have HJ:=ah hj;have HI:=ah hI;have HF0:=ah (And.intro hf0 hf1);obtain⟨S,hS⟩:∃S,S=runQ few.toNat r:=⟨_,rfl⟩
 rw[← hS] at hf ⊢;have HS:=ah hS;obtain⟨oa,oc,rfl,-,-⟩:=hf.elsForm 0 rfl;replace HF:=hf.give 0 rfl;clear hf h3 hj hI hf0 hf1 hS;replace HF:=ax HF w1.heap.size #[.int .i64 S.end_,.int .i32 S.value,.slice oa S.out.length oc,.int .i64 (S.steps:Nat)] 25;replace HF:=ax HF (w1.heap.size+1) #[.int .i64 0,.int .i64 0,.int .i64 0] 28;go_wp2_with fail;replace HF:=HF.perm (List.Perm.append_right L (List.perm_append_comm (l₁:=[_,_,_]) (l₂:=[_,_,_])));go_at_call 5;refine (run5 HF).mono ?_;rintro e w2 (⟨u,c,a,h4,hc,rfl,hf⟩|⟨r',ov,hj,hI,hf0,hf1,h4,rfl,hf⟩)
 ·have hup:(2000:Int)<more:=by
   rcases runL_no h4 with h|h
   ·have:=HLE.out;have:=HF0.out;omega
   rw[HJ.out] at h;cases h
  have hcn:=hc;replace HF:=hf;clear hf h4 hc;replace HF:=ax HF w2.heap.size #[.int .i64 0,.int .i32 0,.slice none 0 0,.int .i64 0] 25;replace HF:=ax HF (w2.heap.size+1) #[.int .i64 u,.int .i64 c,.int .i64 a] 28;have c_t8:=HF.cell 2 rfl;have c_t10:=HF.cell 0 rfl;obtain⟨bb,hbb,-⟩:=eql28 0 0 0 u c a;have hnl:¬ few<0:=by have:=HF0.out;omega
  rcases bb with _|_
  ·go_wp2_with fail;clear c_t8 c_t10;go_ret
   exact⟨rfl,HF.lose⟩
  go_wp2;clear c_t8 c_t10;go_ret
  exact⟨rfl,HF.lose⟩
 obtain rfl:r=r':=by have:=HJ.symm.trans hj;injection this
 obtain⟨V,hV⟩:∃V,V=runQ more.toNat r:=⟨_,rfl⟩
 rw[← hV] at hf ⊢;obtain⟨ob,od,rfl,-,-⟩:=hf.elsForm 0 rfl;have hrt:=run_two (few:=few.toNat) (more:=more.toNat) HI.ok (by have:=HLE.out;omega) (by omega);rw[← HS.out,← hV] at hrt;have HRT:=ah hrt;replace HF:=hf.give 0 rfl;clear hf h4 hj hI hrt hV;replace HF:=ax HF w2.heap.size #[.int .i64 V.end_,.int .i32 V.value,.slice ob V.out.length od,.int .i64 (V.steps:Nat)] 25;replace HF:=ax HF (w2.heap.size+1) #[.int .i64 0,.int .i64 0,.int .i64 0] 28;have c_t7:=HF.cell 4 rfl;have c_t8:=HF.cell 3 rfl;have c_t9:=HF.cell 1 rfl;have c_t10:=HF.cell 0 rfl;by_cases he:S.end_=0
 ·obtain⟨h5,h6,h7⟩:=HRT.1 he;have H7:=ah h7;have hs1:(S.steps:Int)=few:=by have:=HF0.out;omega
  have hs2:(V.steps:Int) ≥ few:=by have:=HF0.out;omega
  have qa:(S.end_=0)=True:=eq_true he;have qb:(S.end_ == 0)=true:=by rw[he];decide
  have qs:((S.steps:Int)=few)=True:=eq_true hs1;have qt:((S.steps:Int) == few)=true:=by rw[hs1];simp
  clear he h5 h6 h7 hs1;go_wp2_with fail;clear qa qb qs qt;clear c_t7 c_t8 c_t9 c_t10;go_at_call 6;refine (begins6 H7 HF 2 5 rfl rfl).mono ?_;rintro e w3 ⟨rfl,HF⟩;go_wp2;go_ret
  exact⟨rfl,HF.lose⟩
 have hx:=HRT.2 he;subst hx;have qa:(S.end_=0)=False:=eq_false he;have qb:(S.end_ == 0)=false:=by simpa using he
 clear he;go_wp2_with fail;clear qa qb;clear c_t7 c_t8 c_t9 c_t10;go_at_call 7;refine (words7 HF 5 2 rfl rfl).mono ?_;rintro e w3 ⟨rfl,HF⟩;go_wp2;go_ret
 exact⟨rfl,HF.lose⟩
end Go.Proofs.YtdnhbedbpbgeeaaGreatDoor.K
namespace Go.Proofs.YtdnhbedbpbgeeaaGreatDoor.R
open Go.RowKit Go.Proofs.Tryz
variable {r : List (String × DataW Unit)} {W w : World} {p : List MemPlace} {sp : Nat→Bool} {H α : Type} {P : Program} {held : Bool} {base n c : Nat} {u v : Value} {enc : TypeId × Value→H}
section
open Go.ChangeShapes Go.WideShapes Go.ChangeAt Go.RowKit Go.Proofs.YtdnhbedbpbgeeaaGreatDoor.K
theorem spot_none {a : Addr} (h:w.cell? a=some u):a.spot=none:=by
 obtain⟨b,o,s⟩:=a;cases s with
 | none=>rfl
 | some s=>
  exfalso
  unfold World.cell? at h;split at h<;>simp at h
theorem blk_of {b o : Nat} (h:w.cell? ⟨b,o,none⟩=some u):∃cur T f,w.heap[b]?=some (.cells cur T f)∧∀k,w.cell? ⟨b,k,none⟩=cur[k]?:=by
 cases e:w.heap[b]? with
 | none=>simp [World.cell?,e] at h
 | some ob=>
  cases ob with
  | cells cur T f=>exact⟨cur,T,f,rfl,aA e⟩
  | _=>simp [World.cell?,e] at h
theorem three {l : List α} (h:l.length=3):∃a b c,l=[a,b,c]:=by
 match l,h with
 | [a,b,c],_=>exact⟨a,b,c,rfl⟩
theorem row_of {fuel : Nat} {t e : TypeId} {cs : List Value} {zs : List (DataW H)}
  (ht:P.underlying t=some (.array n e)) (hce:P.cellsOf e=c) (hct:P.cellsOf t=n*c)
  (h:DataW.trod enc P w base sp held fuel t cs=some (.agg zs,p)) (i:Nat) (hi:i<n) (z:DataW H) (hz:zs[i]?=some z):∃f p',DataW.trod enc P w base sp held f e ((cs.drop (i*c)).take c)=some (z,p'):=by
 cases fuel with
 | zero=>simp [DataW.trod] at h
 | succ fuel=>
  simp only[DataW.trod,ht,hce,hct] at h;split at h
  ·rename_i hl
   obtain⟨xs,hm,hx⟩:=Option.map_eq_some_iff.1 h;have hxs:xs.map (·.1)=zs:=by
    have:=congrArg Prod.fst hx;simpa using this
   obtain⟨b,hb,hf⟩:=Lib.mapM_at hm i i (by simp [hi]);have h2:(xs.map (·.1))[i]?=some b.1:=by simp [hb]
   rw[hxs,hz] at h2;obtain rfl:z=b.1:=by simpa using h2
   exact⟨fuel,b.2,hf⟩
  cases h
theorem g_opers : Tryz.prog.globalNamed "scarfjoint/syntax.operators" = some 3 := by kernel_rfl
theorem t_opers:(Tryz.prog.globals[3]?).map (·.type)=some 253:=by kernel_rfl
theorem c252:Tryz.prog.cellsOf 252=3:=by kernel_rfl
theorem c253:Tryz.prog.cellsOf 253=10*3:=by kernel_rfl
def operD {H:Type}(s:ByteArray × Int × Int):DataW H:=.agg [.lit (.string s.1.data.toList),.lit (.int .i64 s.2.1),.lit (.int .i64 s.2.2)]
theorem d_opers:(Rows.laid_scarfjoint_syntax_operators:DataW Unit)=.agg (bP.map operD):=by kernel_rfl
theorem oper_cells {f : Nat} {cs : List Value} {s : ByteArray × Int × Int} (h:DataW.trod enc Tryz.prog w base sp held f 252 cs=some (operD s,p)):cs=[.string s.1,.int .i64 s.2.1,.int .i64 s.2.2]:=by
 have c9:Tryz.prog.cellsOf 9=1:=by kernel_rfl
 have c3:Tryz.prog.cellsOf 3=1:=by kernel_rfl
 have c2:Tryz.prog.cellsOf 2=1:=by kernel_rfl
 obtain⟨xs,n,hn,hx,hl,hlen,hp⟩:=DataW.trod_struct Tryz.underlying252 h;rw[c252] at hl;obtain⟨k0,k1,k2,rfl⟩:=three hl;obtain⟨y0,y1,y2,rfl⟩:=three (show xs.length=3 from hlen);have hx':=congrArg Prod.fst hx;simp [operD] at hx';have e0:=hp 0 _ rfl;have e1:=hp 1 _ rfl;have e2:=hp 2 _ rfl;simp [c2,c3,c9] at e0 e1 e2;obtain⟨b0,q0,r0,_⟩:=DataW.trod_string Tryz.underlying9 e0;obtain⟨b1,q1,r1,_⟩:=DataW.trod_int Tryz.underlying2 e1;obtain⟨b2,q2,r2,_⟩:=DataW.trod_int Tryz.underlying3 e2;subst r0 r1 r2;simp only[DataW.lit.injEq,Lit.string.injEq,Lit.int.injEq,true_and] at hx';obtain⟨g0,rfl,rfl⟩:=hx';simp only[List.cons.injEq,and_true] at q0 q1 q2;subst q0 q1 q2;have g1:s.1=b0:=ByteArray.ext (Array.toList_inj.1 g0);rw[g1]
section
variable (h : laidMet Tryz.prog (("scarfjoint/syntax.operators", Rows.laid_scarfjoint_syntax_operators) :: r) W)
include h
theorem opers_of (k : Nat) {o : ByteArray × Int × Int} (hk : bP[k]? = some o) : W.cell? ⟨3, k * 3, none⟩ = some (.string o.1) ∧ W.cell? ⟨3, k * 3 + 1, none⟩ = some (.int .i64 o.2.1) ∧ W.cell? ⟨3, k * 3 + 2, none⟩ = some (.int .i64 o.2.2) := by
 obtain⟨ps,⟨g',t',cs,fuel,p,q,hg',ht',hvar,hd,_,_⟩,_⟩:=h;obtain rfl:=Option.some.inj (g_opers.symm.trans hg');obtain rfl:=Option.some.inj (t_opers.symm.trans ht');rw[d_opers] at hd;have hz:(bP.map operD)[k]?=some (operD (H:=Unit) o):=by rw[List.getElem?_map,hk];rfl
 have hl:bP.length=10:=by rfl
 obtain⟨f,p',h2⟩:=row_of Tryz.underlying253 c252 c253 hd k (by have:=(List.getElem?_eq_some_iff.1 hk).1;omega) _ hz;have h3:=oper_cells h2;have hc:∀i v,i<3→(List.take 3 (List.drop (k*3) cs.toList))[i]?=some v→W.cell? ⟨3,k*3+i,none⟩=some v:=λ i v hi hv=>by
  rw[World.var?_cell g_opers hvar (k*3+i),← hv,List.getElem?_take_of_lt hi,List.getElem?_drop,Array.getElem?_toList]
 rw[h3] at hc;exact⟨hc 0 _ (by omega) rfl,hc 1 _ (by omega) rfl,hc 2 _ (by omega) rfl⟩
theorem glo_of: Glo fun q => W.heap[q]? := by
 have hc:=λ k o hk=>opers_of h k (o:=o) hk;obtain⟨cur,T,f,h1,h2⟩:=blk_of (hc 0 _ rfl).1;refine⟨cur,T,f,h1,λ i u hu=>?_⟩;rw[← h2 i];have hi:i<30:=by
  have:=(List.getElem?_eq_some_iff.1 hu).1;have e:opCells.length=30:=by rfl
  omega
 obtain⟨k,j,hk,hj,rfl⟩:∃k j,k<10∧j<3∧i=k*3+j:=⟨i / 3,i % 3,by omega,by omega,by omega⟩
 obtain⟨o,ho⟩:∃o,bP[k]?=some o:=⟨_,List.getElem?_eq_getElem (by show k<10;exact hk)⟩
 obtain⟨a0,a1,a2⟩:=hc k o ho;have e:opCells[k*3+j]?=[Value.string o.1,.int .i64 o.2.1,.int .i64 o.2.2][j]?:=by
  have:k=0∨k=1∨k=2∨k=3∨k=4∨k=5∨k=6∨k=7∨k=8∨k=9:=by omega
  have hj3:j=0∨j=1∨j=2:=by omega
  rcases this with rfl|rfl|rfl|rfl|rfl|rfl|rfl|rfl|rfl|rfl<;>(cases ho;rcases hj3 with rfl|rfl|rfl<;>rfl)
 rw[e] at hu;have hj3:j=0∨j=1∨j=2:=by omega
 rcases hj3 with rfl|rfl|rfl
 ·cases hu;exact a0
 ·cases hu;exact a1
 cases hu;exact a2
end
theorem g_er : Tryz.prog.globalNamed "strconv.ErrRange" = some 2 := by kernel_rfl
theorem t_er:(Tryz.prog.globals[2]?).map (·.type)=some 177:=by kernel_rfl
theorem star : "*" ++ "errors.errorString" = "*errors.errorString" := by decide
theorem row242 (u : TypeId) (h : Tryz.prog.typeName? 3 u = some "*errors.errorString") : u = 242 :=
 typeName_ptr_named (nm := "errors.errorString") (by rw [star]; kernel_rfl) (by kernel_rfl) (by decide) u (by rw [star]; exact h)
theorem c_9:Tryz.prog.cellsOf 9=1:=by kernel_rfl
theorem c_244:Tryz.prog.cellsOf 244=1:=by kernel_rfl
theorem er_of (h : laidMet Tryz.prog (("strconv.ErrRange", Rows.laid_strconv_ErrRange) :: r) W) : ∃ cur T f te pe, W.heap[2]? = some (.cells cur T f) ∧ cur[0]? = some (.iface te pe) := by
 obtain⟨a,s,hv,_⟩:=laid_sentinel h g_er t_er Tryz.underlying177 row242 Tryz.underlying242 Tryz.underlying244 rfl rfl Tryz.underlying9 c_244 c_9;have hc:W.cell? ⟨2,0,none⟩=some (.iface 242 (.pointer (some a))):=by rw[World.var?_cell g_er hv 0];rfl
 obtain⟨cur,T,f,h1,h2⟩:=blk_of hc;exact⟨cur,T,f,_,_,h1,by rw[← h2 0];exact hc⟩
theorem choose_lt (d:α) {p : Nat→α→Prop} (h:∀i,i<n→∃a,p i a):∃f:Nat→α,∀i,i<n→p i (f i):=by
 classical
 refine⟨λ i=>if hi:i<n then Classical.choose (h i hi) else d,λ i hi=>?_⟩;simp only[dif_pos hi];exact Classical.choose_spec (h i hi)
theorem open_strings {d : DataW H} (h:DataW.Trod enc Tryz.prog W 0 sp true 22 v d p) (hs:v.cells.toList=[v]):∃a c et l,v=.slice a l.length c∧SlP StE (.slice a l.length c) et 1 l λ q=>W.heap[q]?:=by
 have hm:maxLen=9223372036854775807:=rfl;obtain⟨fuel,hf⟩:=h;rw[hs] at hf;rcases DataW.trod_slice Tryz.underlying22 hf with⟨h1,_⟩|⟨a,len,cap,elems,rest,n',hn',h1,_,_,hlc,hcm,hel,hE,_,_⟩
 ·simp at h1;exact⟨none,0,9,[],h1,none,0,rfl,Nat.le_refl _,by omega,λ h=>absurd rfl h⟩
 simp at h1;rw[c_9] at hE;have each:∀i,i<len→∃x:ByteArray,x.size≤maxLen∧W.cell? (a.add i)=some (.string x):=λ i hi=>by
  have h2:=hE i hi;rw[List.getElem?_eq_getElem (by omega)] at h2;obtain⟨cs',h3,h4⟩:=Option.bind_eq_some_iff.1 h2;obtain⟨x,rfl,-,hx⟩:=DataW.trod_string Tryz.underlying9 h4;obtain⟨_,-,g3⟩:=World.cells?_some h3;have h0:=g3 0 (by omega);rw[Nat.mul_one] at h0;refine⟨x,hx,?_⟩;have e:(a.add i).add 0=a.add i:=by unfold Addr.add;simp
  rw[e] at h0;exact h0
 obtain⟨f,hf2⟩:=choose_lt (⟨#[]⟩:ByteArray) each;have hL:((List.range len).map f).length=len:=by simp
 by_cases h0:len=0
 ·subst h0;exact⟨some a,cap,9,[],h1,some a,cap,rfl,Nat.zero_le _,hcm,λ h=>absurd rfl h⟩
 have hc0:=(hf2 0 (by omega)).2;have ha0:a.add 0=a:=by unfold Addr.add;simp
 rw[ha0] at hc0;have hsp:=spot_none hc0;obtain⟨b,o,s⟩:=a;simp only at hsp;subst hsp;obtain⟨cur,T,fr,hb,hcc⟩:=blk_of hc0;refine⟨some ⟨b,o,none⟩,cap,T,(List.range len).map f,by rw[hL];exact h1,some ⟨b,o,none⟩,cap,rfl,by rw[hL];exact hlc,hcm,λ_=>⟨b,o,cur,fr,rfl,hb,λ j hj=>?_⟩⟩;have hj':j<len:=by rw[hL] at hj;exact hj
 obtain⟨hx,hcj⟩:=hf2 j hj';refine⟨[.string (f j)],rfl,λ i hi=>?_,?_⟩
 ·obtain rfl:i=0:=by omega
  rw[← hcc,Nat.mul_one,Nat.add_zero];have e:(⟨b,o,none⟩:Addr).add j=⟨b,o+j,none⟩:=by unfold Addr.add;simp
  rw[e] at hcj;exact hcj
 have e:((List.range len).map f)[j]=f j:=by simp
 rw[e];exact⟨rfl,by omega⟩
theorem longer_door {a : Option Addr} {et : TypeId} {l : List ByteArray} {few more : Int} (hg:Glo λ q=>W.heap[q]?) (he:∃cur T f te pe,W.heap[2]?=some (.cells cur T f)∧cur[0]?=some (.iface te pe)) (hs:SlP StE (.slice a l.length c) et 1 l λ q=>W.heap[q]?):
  Calls Tryz.prog 3 #[.slice a l.length c,.int .i64 few,.int .i64 more] W λ e W'=>e=.returned (.bool true)∧Below W.heap.size W W':=by
 have h0:FrH (λ q=>W.heap[q]?) (.of W) W []:=⟨Below.refl _ _,Nat.le_refl _,λ_ _ h=>h,by simp,by simp,by simp⟩
 have h1:=h0.free (r:=.sl StE (.slice a l.length c) et 1 l) hs λ q hq=>hq;have h2:=h1.free (r:=.er) he λ q hq=>hq;have h3:=h2.free (r:=.glo) hg λ q hq=>hq;exact (longer3 (L:=[]) ⟨_,h3⟩).mono λ e W' h=>⟨h.1,h.2.below⟩
theorem post_below2 {f : Func} {s : ChangeSpec} {apart fresh handsOn : Bool} {W' : World} {args : Array Value} {ds gs : List (DataW H)} {before pa pv : List MemPlace}
  (hW:DataW.Whole enc P f.params.toList s.vars apart W args.toList ds gs before)
  (hres:∀(b:Nat) (sp:Nat→Bool) (hd:Bool),DataW.TrodAll enc P W' b sp hd f.resultTypes.toList (v.resultList f.resultTypes.size) (s.fn H (ds++gs)).results [])
  (hargs:DataW.TrodAll enc P W' 0 (λ b=>decide (b<W.heap.size)) true f.params.toList args.toList (s.fn H (ds++gs)).args pa)
  (hvars:DataW.TrodVars enc P W' (λ b=>decide (b<W.heap.size)) s.vars (s.fn H (ds++gs)).vars pv)
  (hps:before=pa++pv) (hb:Below W.heap.size W W'):
  s.post enc P f apart fresh handsOn false W args v W':=by
 refine⟨ds,gs,before,[],pa,pv,hW,hres _ _ _,hargs,hvars,World.keptBut_mono (λ p hp=>⟨hp,?_⟩) (hb.frame (·∈before)),λ h=>by cases h⟩;rw[hps,List.mem_append] at hp;exact Or.inr hp
end
end Go.Proofs.YtdnhbedbpbgeeaaGreatDoor.R
