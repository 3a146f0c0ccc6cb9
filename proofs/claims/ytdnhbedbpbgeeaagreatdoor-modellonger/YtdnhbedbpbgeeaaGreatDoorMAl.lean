/- 11 -/
import Derived.Test.YtdnhbedbpbgeeaaGreatDoorMAk
import Derived.Lib.SliceRun
set_option maxRecDepth 100000
set_option maxHeartbeats 2000000
set_option linter.all false
namespace Go.Proofs.YtdnhbedbpbgeeaaGreatDoor.K
open Go.RowKit Go.Proofs.Tryz
variable {a pa_v a_v : Option Addr} {v u : Va} {α : Type} {e : TypeId} {x : ByteArray} {css : List (List Value)} {c : Cm} {n z bp bc g pc_v o c_v f n1 : Nat} {k : CQ} {acc : List ByteArray} {p : Pm} {pg : Pg} {q : PQ} {H : Snap} {x0 x1 x2 x3 y0 y1 y2 y3 : Value} {l : List α} {E : El α}
variable {B : Bs} {w w' : World} {L : List Rs}
theorem aC {cur : Array Value} (hc:∀o,w.cell? ⟨g,o,none⟩=cur[o]?) (hk:∀i,i<4→cur[o+i]?=[x0,x1,x2,x3][i]?):
  w.cell? ⟨g,o,none⟩=some x0∧w.cell? ⟨g,o+1,none⟩=some x1∧w.cell? ⟨g,o+2,none⟩=some x2∧w.cell? ⟨g,o+3,none⟩=some x3:=
 ⟨(hc _).trans (hk 0 (by omega)),(hc _).trans (hk 1 (by omega)),(hc _).trans (hk 2 (by omega)),(hc _).trans (hk 3 (by omega))⟩
theorem Fr.vaKn (h:Fr B w L) (i:Nat) {c : Nat} {l : List Va} (hi:L[i]?=some (.sl VaE (.slice a n c) 48 4 l)) (j:Nat) (hj:j<l.length):∃g o b d pb pd cur f,a=some ⟨g,o,none⟩∧n=l.length∧n≤c∧c≤maxLen∧R64 l[j].num ∧
  (∀k,k<4→cur[o+j*4+k]?=([.int .i64 l[j].kind,.int .i64 l[j].num,.slice b l[j].names.length d,.slice pb l[j].parts.length pd]:List Value)[k]?)∧Fr B w (.el VaE [.int .i64 l[j].kind,.int .i64 l[j].num,.slice b l[j].names.length d,.slice pb l[j].parts.length pd] l[j]::.kn g cur 48 f::L):=by
 obtain⟨g,o,c',cur,f,cs,e,h2,h3,h4,h5,h6⟩:=h.elem i hi j hj;cases e;obtain⟨b,d,pb,pd,rfl,r1,r2⟩:=h6.vaForm 0 rfl;exact⟨g,o,b,d,pb,pd,cur,f,rfl,rfl,h2,h3,⟨r1,r2⟩,h5,h6⟩
theorem idxN_at:∀{ns:List ByteArray}{x:ByteArray}{i:Nat},idxN ns x=some i→∃hi:i<ns.length,ns[i]=x∧∀j (hj:j<i),ns.getD j ByteArray.empty≠x
 | [],x,i,h=>by cases h
 | y::ns,x,i,h=>by
  unfold idxN at h;by_cases e:y=x
  ·rw[if_pos e] at h;cases h;exact⟨Nat.succ_pos _,e,λ j hj=>absurd hj (Nat.not_lt_zero _)⟩
  rw[if_neg e] at h;cases hf:idxN ns x with
  | none=>rw[hf] at h;cases h
  | some k=>
   rw[hf] at h;have h:some (k+1)=some i:=h;cases h;obtain⟨hi,h1,h2⟩:=idxN_at hf;refine⟨Nat.succ_lt_succ hi,h1,λ j hj=>?_⟩;cases j with
   | zero=>exact e
   | succ j=>exact h2 j (by omega)
theorem index_any (h:Fr B w L) (i:Nat) {c : Nat} {ns : List ByteArray} (hi:L[i]?=some (.sl StE (.slice a n c) 9 1 ns)) (x:ByteArray) {k : Nat} (hx:idxN ns x=some k):Calls prog 93 #[.slice a n c,.string x] w λ e w'=>e=.returned (.int .i64 (k:Int))∧Fr B w' L:=by
 obtain⟨hk,h1,h2⟩:=idxN_at hx;obtain⟨g,o,c',cur,f,cs,e,h3,h4,-⟩:=h.elem i hi k hk;cases e;unfold maxLen at h4;refine (slices_Index_string g o ns.length c ns x w (Nat.le_refl _) (by omega) λ j hj=>?_).mono λ e w' h'=>⟨?_,h'.2 ▸ h⟩
 ·obtain⟨g',o',c',cur',f',cs',e,h5,h6,h7,h8,h9⟩:=h.elem i hi j hj;cases e;obtain⟨H,h10,-⟩:=h9.get (i:=0) rfl;obtain⟨rfl,-⟩:StE.p H cs' ns[j]:=h10;have:=(h9.knc 1 rfl (o+j)).trans (by have:=h8 0 (by omega);simpa using this);simpa [List.getD_eq_getElem?_getD,hj] using this
 rw[h'.1,Lib.idxOfS_hit ns ns.length k x hk (Nat.le_refl _) (by rw[List.getD_eq_getElem?_getD,List.getElem?_eq_getElem hk];exact h1) h2]
theorem fieldM_at (h:fieldM v x=some u):∃j,idxN v.names x=some j∧∃hj:j<v.parts.length,u=v.parts[j]:=by
 unfold fieldM at h;cases e:idxN v.names x with
 | none=>rw[e] at h;cases h
 | some j=>
  rw[e] at h;have h:v.parts[j]?=some u:=h;obtain⟨hj,h⟩:=List.getElem?_eq_some_iff.1 h;exact⟨j,rfl,hj,h.symm⟩
theorem part_any (h:Fr B w L) (i:Nat) (hi:L[i]?=some (.el VaE [.int .i64 v.kind,.int .i64 v.num,.slice a_v v.names.length c_v,.slice pa_v v.parts.length pc_v] v)) (x:ByteArray) (hv:fieldM v x=some u):Calls prog 88 #[.agg #[.int .i64 v.kind,.int .i64 v.num,.slice a_v v.names.length c_v,.slice pa_v v.parts.length pc_v],.string x] w (PVa B u L):=by
 obtain⟨j,hj,hjl,rfl⟩:=fieldM_at hv;obtain⟨gu,ou,a_u,c_u,pa_u,pc_u,cur,f,rfl,-,hc1,hc2,hr,hk,hf⟩:=((h.dup i hi).vaParts 0 rfl).vaKn 1 rfl j hjl;generalize v.parts[j]=u at *;have hjb:(j:Int)<(v.parts.length:Int):=by omega
 have HJ:=ah hj;have HR:=ah hr;have HK:=ah hk;have HF:=hf;clear h hi hv hjl hj hc1 hc2 hr hk hf;go_enter func88,ntmps88;replace HF:=aV HF w.heap.size v.kind v.num a_v v.names.length c_v (some ⟨gu,ou,none⟩) v.parts.length pc_v;replace HF:=ax HF (w.heap.size+1) vz 48;go_wp2;refine regK [] HF (λ w h=>aI (h.cell 1 rfl) (aC (h.knc 3 rfl) HK)) (λ wd1 HF hC=>?_);refine tq4 0 1 2 3 ?_;refine tq 4 ?_;refine rq 5 λ K hK=>?_;go_simp;refine (index_any HF 4 rfl x HJ).mono ?_;rintro e w2 ⟨rfl,HF⟩;refine uq hK ⟨(HF.cell 1 rfl),(aC (HF.knc 3 rfl) HK)⟩ λ hC=>?_;refine tq2 6 7 ?_;refine rq 8 λ K hK=>?_;obtain⟨c_r,f_r⟩:=cf HF 0;replace HF:=sV HF 0 u.kind u.num a_u u.names.length c_u pa_u u.parts.length pc_u;go_simp;clear c_r f_r;refine uq hK ⟨(HF.cell 1 rfl),(aC (HF.knc 3 rfl) HK)⟩ λ hC=>?_;refine dq ?_;go_wp2;refine br (rt48 results88 rfl (HF.blkAt 0 rfl)) ?_;exact PVa.got HR HF.lose
theorem operV_any (h:Fr B w L) {y : Va} {a_y pa_y : Option Addr} {c_y pc_y : Nat} (op:Int) (hr:R64 v.num) (hr2:R64 y.num) {ok : Bool} (hu:f7 op v y=(u,ok)):Calls prog 91 #[.int .i64 op,.agg #[.int .i64 v.kind,.int .i64 v.num,.slice a_v v.names.length c_v,.slice pa_v v.parts.length pc_v],.agg #[.int .i64 y.kind,.int .i64 y.num,.slice a_y y.names.length c_y,.slice pa_y y.parts.length pc_y]] w λ e w'=>∃a c pa pc,e=.returned (.tuple #[.agg #[.int .i64 u.kind,.int .i64 u.num,.slice a u.names.length c,.slice pa u.parts.length pc],.bool ok])∧R64 u.num∧Fr B w' (.el VaE (vac u.kind u.num a u.names.length c pa u.parts.length pc) u::L):=by
 have HF:=h;clear h;by_cases hk:v.kind=1
 ·have hq:(v.kind == 1)=true:=by simpa using hk
  have e0:f7 op v y=(vI (opN op (wrap32 v.num) (wrap32 y.num)),opB op (wrap32 y.num)):=by unfold f7;rw[if_pos hk]
  rw[e0] at hu;obtain⟨rfl,rfl⟩:=Prod.mk.inj hu;have hv:=aZ v.num;have hy:=aZ y.num;have ho:=opN_range op (wrap32 v.num) (wrap32 y.num) hv;clear hk e0 hu;go_enter func91,ntmps91;replace HF:=aV HF w.heap.size v.kind v.num a_v v.names.length c_v pa_v v.parts.length pc_v;replace HF:=aV HF (w.heap.size+1) y.kind y.num a_y y.names.length c_y pa_y y.parts.length pc_y;replace HF:=ax HF (w.heap.size+1+1) vz 48;have c_t4:=HF.cell 2 rfl;have c_t5:=HF.cell 1 rfl;go_wp2_with fail;clear c_t4 c_t5;go_at_call 118;refine (wop_any op (wrap32 v.num) (wrap32 y.num) _ hv.1 hv.2 hy.1 hy.2).mono ?_;rintro e w1 ⟨rfl,rfl⟩;go_wp2_with fail;go_at_call 40;refine (cC HF (opN op (wrap32 v.num) (wrap32 y.num)) ho.1 ho.2).mono ?_;rintro e w2 ⟨a_u,c_u,pa_u,pc_u,rfl,r_u,HF⟩;obtain⟨c_r,f_r⟩:=cf HF 1;replace HF:=sV HF 1 (vI (opN op (wrap32 v.num) (wrap32 y.num))).kind (vI (opN op (wrap32 v.num) (wrap32 y.num))).num a_u (vI (opN op (wrap32 v.num) (wrap32 y.num))).names.length c_u pa_u (vI (opN op (wrap32 v.num) (wrap32 y.num))).parts.length pc_u;go_wp2;clear c_r f_r;refine br (rt48b results91 rfl rfl (HF.blkAt 1 rfl)) ?_;exact⟨a_u,c_u,pa_u,pc_u,rfl,r_u,HF.lose⟩
 have hq:(v.kind == 1)=false:=by simpa using hk
 have hw:=wdN_range op v.num y.num;have HRV:=ah hr;have HRY:=ah hr2;by_cases h12:op=12∨op=10
 ·have e0:f7 op v y=(vI (wrap32 (wdN op v.num y.num)),wdB op):=by unfold f7;rw[if_neg hk,if_pos h12]
  rw[e0] at hu;obtain⟨rfl,rfl⟩:=Prod.mk.inj hu;have ho:=aZ (wdN op v.num y.num);clear hk e0 hu;rcases (id h12:op=12∨op=10) with h|h
  ·subst h;clear h12;go_enter func91,ntmps91;replace HF:=aV HF w.heap.size v.kind v.num a_v v.names.length c_v pa_v v.parts.length pc_v;replace HF:=aV HF (w.heap.size+1) y.kind y.num a_y y.names.length c_y pa_y y.parts.length pc_y;replace HF:=ax HF (w.heap.size+1+1) vz 48;have c_t4:=HF.cell 2 rfl;have c_t5:=HF.cell 1 rfl;go_wp2_with fail;clear c_t4 c_t5;go_at_call 119;refine (wwide_any 12 v.num y.num _ HRV.1 HRV.2 HRY.1 HRY.2).mono ?_;rintro e w1 ⟨rfl,rfl⟩;go_wp2_with fail;go_at_call 40;refine (cC HF (wrap32 (wdN 12 v.num y.num)) ho.1 ho.2).mono ?_;rintro e w2 ⟨a_u,c_u,pa_u,pc_u,rfl,r_u,HF⟩;obtain⟨c_r,f_r⟩:=cf HF 1;replace HF:=sV HF 1 (vI (wrap32 (wdN 12 v.num y.num))).kind (vI (wrap32 (wdN 12 v.num y.num))).num a_u (vI (wrap32 (wdN 12 v.num y.num))).names.length c_u pa_u (vI (wrap32 (wdN 12 v.num y.num))).parts.length pc_u;go_wp2;clear c_r f_r;refine br (rt48b results91 rfl rfl (HF.blkAt 1 rfl)) ?_;exact⟨a_u,c_u,pa_u,pc_u,rfl,r_u,HF.lose⟩
  subst h;clear h12;go_enter func91,ntmps91;replace HF:=aV HF w.heap.size v.kind v.num a_v v.names.length c_v pa_v v.parts.length pc_v;replace HF:=aV HF (w.heap.size+1) y.kind y.num a_y y.names.length c_y pa_y y.parts.length pc_y;replace HF:=ax HF (w.heap.size+1+1) vz 48;have c_t4:=HF.cell 2 rfl;have c_t5:=HF.cell 1 rfl;go_wp2_with fail;clear c_t4 c_t5;go_at_call 119;refine (wwide_any 10 v.num y.num _ HRV.1 HRV.2 HRY.1 HRY.2).mono ?_;rintro e w1 ⟨rfl,rfl⟩;go_wp2_with fail;go_at_call 40;refine (cC HF (wrap32 (wdN 10 v.num y.num)) ho.1 ho.2).mono ?_;rintro e w2 ⟨a_u,c_u,pa_u,pc_u,rfl,r_u,HF⟩;obtain⟨c_r,f_r⟩:=cf HF 1;replace HF:=sV HF 1 (vI (wrap32 (wdN 10 v.num y.num))).kind (vI (wrap32 (wdN 10 v.num y.num))).num a_u (vI (wrap32 (wdN 10 v.num y.num))).names.length c_u pa_u (vI (wrap32 (wdN 10 v.num y.num))).parts.length pc_u;go_wp2;clear c_r f_r;refine br (rt48b results91 rfl rfl (HF.blkAt 1 rfl)) ?_;exact⟨a_u,c_u,pa_u,pc_u,rfl,r_u,HF.lose⟩
 have e0:f7 op v y=(vL (wdN op v.num y.num),wdB op):=by unfold f7;rw[if_neg hk,if_neg h12]
 rw[e0] at hu;obtain⟨rfl,rfl⟩:=Prod.mk.inj hu;have q12:(op == 12)=false:=by simp;omega
 have q10:(op == 10)=false:=by simp;omega
 clear hk e0 hu h12;go_enter func91,ntmps91;replace HF:=aV HF w.heap.size v.kind v.num a_v v.names.length c_v pa_v v.parts.length pc_v;replace HF:=aV HF (w.heap.size+1) y.kind y.num a_y y.names.length c_y pa_y y.parts.length pc_y;replace HF:=ax HF (w.heap.size+1+1) vz 48;have c_t4:=HF.cell 2 rfl;have c_t5:=HF.cell 1 rfl;go_wp2_with fail;clear c_t4 c_t5;go_at_call 119;refine (wwide_any op v.num y.num _ HRV.1 HRV.2 HRY.1 HRY.2).mono ?_;rintro e w1 ⟨rfl,rfl⟩;go_wp2_with fail;go_at_call 39;refine (long_any HF (wdN op v.num y.num) hw).mono ?_;rintro e w2 ⟨a_u,c_u,pa_u,pc_u,rfl,r_u,HF⟩;obtain⟨c_r,f_r⟩:=cf HF 1;replace HF:=sV HF 1 (vL (wdN op v.num y.num)).kind (vL (wdN op v.num y.num)).num a_u (vL (wdN op v.num y.num)).names.length c_u pa_u (vL (wdN op v.num y.num)).parts.length pc_u;go_wp2;clear c_r f_r;refine br (rt48b results91 rfl rfl (HF.blkAt 1 rfl)) ?_;exact⟨a_u,c_u,pa_u,pc_u,rfl,r_u,HF.lose⟩
abbrev set4' (cs:List Value)(d:Nat)(y0 y1 y2 y3:Value):List Value:=(((cs.set d y0).set (d+1) y1).set (d+2) y2).set (d+3) y3
theorem Fr.putD {β : Type} {F : El β} {y : β} (h:Fr B w L) (i:Nat) {c : Nat} (hi:L[i]?=some (.els E (.slice (some ⟨g,0,none⟩) n c) e z l)) (j:Nat) (hj:j<l.length) (d:Nat) (hd:d+4≤z) {x : α} (m:Nat) (hm:L[m]?=some (.el F [y0,y1,y2,y3] y))
  (hx:∀H cs,cs.length=z→E.p H cs l[j]→F.p H [y0,y1,y2,y3] y→E.p H (set4' cs d y0 y1 y2 y3) x) {o o1 o2 o3:Nat} (ho:o=j*z+d) (h1:o1=o+1) (h2:o2=o+2) (h3:o3=o+3):
  Fr B ((((w.setCell ⟨g,o,none⟩ y0).setCell ⟨g,o1,none⟩ y1).setCell ⟨g,o2,none⟩ y2).setCell ⟨g,o3,none⟩ y3) (L.set i (.els E (.slice (some ⟨g,0,none⟩) n c) e z (l.set j x))):=by
 subst h1 h2 h3 ho;obtain⟨H,h⟩:=h;have hmm:=List.mem_of_getElem? hi;have hy:F.p H [y0,y1,y2,y3] y:=h.ok _ (List.mem_of_getElem? hm);obtain⟨g',css,e1,hn,k1,k2,k4,k5⟩:=fD (h.ok _ hmm) (λ e=>by rw[e] at hj;simp at hj);cases e1;obtain⟨W5,hW⟩:∃W5,W5=((((w.setCell ⟨g,j*z+d,none⟩ y0).setCell ⟨g,j*z+d+1,none⟩ y1).setCell ⟨g,j*z+d+2,none⟩ y2).setCell ⟨g,j*z+d+3,none⟩ y3):=⟨_,rfl⟩
 have hother:∀q,q≠g→W5.heap[q]?=w.heap[q]?:=λ q hq=>by
  rw[hW,heap_setCell_other _ _ _ _ hq,heap_setCell_other _ _ _ _ hq,heap_setCell_other _ _ _ _ hq,heap_setCell_other _ _ _ _ hq]
 have hg:=(h.lo _ hmm g rfl).1;have hj':j<css.length:=by omega
 have hlen:=k2 _ (List.getElem_mem hj');have s5:W5.ownsRow 0 e z (.slice (some ⟨g,0,none⟩) n c) n (css.set j (set4' css[j] d y0 y1 y2 y3)).flatten∧(W5.os=w.os∧W5.tape=w.tape∧W5.output=w.output∧w.heap.size≤W5.heap.size):=by
  obtain⟨s0,t0⟩:=gD k4 k2 j hj' d (by omega) y0;have l0:(css[j].set d y0).length=z:=by rw[List.length_set];exact hlen
  obtain⟨s1,t1⟩:=gD s0 (gC k2 j _ l0) j (by simpa using hj') (d+1) (by omega) y1;simp only[List.getElem_set_self,List.set_set] at s1;have l1:((css[j].set d y0).set (d+1) y1).length=z:=by rw[List.length_set];exact l0
  obtain⟨s2,t2⟩:=gD s1 (gC k2 j _ l1) j (by simpa using hj') (d+2) (by omega) y2;simp only[List.getElem_set_self,List.set_set] at s2;have l2:(((css[j].set d y0).set (d+1) y1).set (d+2) y2).length=z:=by rw[List.length_set];exact l1
  obtain⟨s3,t3⟩:=gD s2 (gC k2 j _ l2) j (by simpa using hj') (d+3) (by omega) y3;simp only[List.getElem_set_self,List.set_set] at s3;rw[hW];simp only[Nat.add_assoc] at s1 s2 s3 t1 t2 t3 ⊢;exact⟨s3,t3.os.trans (t2.os.trans (t1.os.trans t0.os)),t3.tape.trans (t2.tape.trans (t1.tape.trans t0.tape)),t3.output.trans (t2.output.trans (t1.output.trans t0.output)),Nat.le_trans t0.size (Nat.le_trans t1.size (Nat.le_trans t2.size t3.size))⟩
 obtain⟨s5,f1,f2,f3,f4⟩:=s5;rw[← hW];clear hW;refine⟨H,h.turn i hi ⟨f1.trans h.below.os,f2.trans h.below.tape,f3.trans h.below.output,Nat.le_trans h.below.size f4,λ k hk=>(hother k (by omega)).trans (h.below.block k hk)⟩ f4 (λ q hq hne=>hother q λ e=>hne (by rw[e];rfl)) ?_ λ q hq=>Or.inl hq⟩;have hl5:(set4' css[j] d y0 y1 y2 y3).length=z:=by simp only[List.length_set];exact hlen
 refine⟨css.set j (set4' css[j] d y0 y1 y2 y3),by simpa using k1,gC k2 j _ hl5,?_,λ k hk hk'=>?_⟩
 ·rw[List.length_set,← hn];exact s5
 by_cases e:j=k
 ·subst e;simp only[List.getElem_set_self];exact hx H css[j] hlen (k5 j hj hj') hy
 rw[List.getElem_set_ne e,List.getElem_set_ne e];exact k5 k (by simpa using hk) (by simpa using hk')
variable {ov : Bool}
theorem sm_look {mb : Nat} {m : NM} (h:SmP mb m H) (hs':∀q o,H q=some o→w.heap[q]?=some o) (s:ByteArray) (hs:s.size≤maxLen):
  (Instr.lookup 40 (.map (some mb)) (.string s) true).run prog w=.ok (.tuple #[.int .i64 ((m s).getD 0:Nat),.bool (m s).isSome]) w∧(Instr.lookup 40 (.map (some mb)) (.string s) false).run prog w=.ok (.int .i64 ((m s).getD 0:Nat)) w:=by
 obtain⟨w0,N,h1,h2⟩:=h;have hlt:=(Rs.mp zN VNat mb N m).lt H w0 h1 mb rfl;refine np_look (H:=H) ((Rs.mp zN VNat mb N m).keep H w0 H w h1 (Snap.le.refl H) λ q hq=>?_) s hs;obtain rfl:q=mb:=hq;rw[Array.getElem?_eq_getElem hlt] at h2 ⊢;exact hs' _ _ h2.symm
section
variable (h:Fr B w L) (i:Nat) (hi:L[i]?=some (.cm bc bp k c))
include h hi
theorem Fr.cmSt (s:ByteArray) (hs:s.size≤maxLen):(Instr.lookup 40 (.map (some k.m1)) (.string s) false).run prog w=.ok (.int .i64 ((c.u.st s).getD 0:Nat)) w:=by
 obtain⟨H,h1,h2⟩:=h.get hi;exact (sm_look (h1.1 (.sm k.m1 c.u.st) (List.mem_append_left _ (by simp))) h2 s hs).2
theorem Fr.cmMe (s:ByteArray) (hs:s.size≤maxLen):(Instr.lookup 40 (.map (some k.m2)) (.string s) false).run prog w=.ok (.int .i64 ((c.u.me s).getD 0:Nat)) w:=by
 obtain⟨H,h1,h2⟩:=h.get hi;exact (sm_look (h1.1 (.sm k.m2 c.u.me) (List.mem_append_left _ (by simp))) h2 s hs).2
theorem Fr.cmEls:∃a d,k.lv=.slice a c.lo.length d∧c.lo.length≤d∧d≤maxLen:=by
 obtain⟨H,h1,h2⟩:=h.get hi;exact els_form (h1.1 (.els VaE k.lv 48 4 c.lo) (List.mem_append_left _ (by simp)))
theorem Fr.cmBe:∃a d,k.wv=.slice a c.be.length d∧c.be.length≤d∧d≤maxLen∧Fr B w (.sl I32E k.wv 21 1 c.be::L):=by
 obtain⟨H,h1,h2⟩:=h.get hi;have h3:=h1.1 (.sl I32E k.wv 21 1 c.be) (List.mem_append_left _ (by simp));obtain⟨a,d,e1,e2,e3,-⟩:SlP I32E k.wv 21 1 c.be H:=h3;refine⟨a,d,e1,e2,e3,h.know (K:=[_]) λ H' w' hr x hx=>?_⟩;obtain rfl:=List.mem_singleton.1 hx;exact⟨(hr _ (List.mem_of_getElem? hi)).1 (.sl I32E k.wv 21 1 c.be) (List.mem_append_left _ (by simp)),λ q hq=>hq⟩
theorem Fr.cmNd:Fr B w (.el NdE [k.n0,k.n1,k.n2,k.n3] c.u.node::L):=
 h.know (K:=[_]) λ H' w' hr x hx=>by
  obtain rfl:=List.mem_singleton.1 hx;exact⟨(hr _ (List.mem_of_getElem? hi)).1 (.el NdE [k.n0,k.n1,k.n2,k.n3] c.u.node) (List.mem_append_left _ (by simp)),λ q hq=>hq⟩
end
inductive VarAt (k:CQ) (q:PQ) (c:Cm) (x:ByteArray):Nat→Nat→Prop
 | lo (i lg lc:Nat):dK c.bl x=some i→i<c.lo.length→k.lv=.slice (some ⟨lg,0,none⟩) c.lo.length lc→VarAt k q c x lg (i*4)
 | gl (i tg tn tc:Nat):dK c.bl x=none→c.u.me x=some i→q.tv=.slice (some ⟨tg,0,none⟩) tn tc→VarAt k q c x tg (i*10+6)
theorem Fr.knFour {cs : List Value} (h:Fr B w (.el VaE cs v::L)):∃a d pa pd,cs=[.int .i64 v.kind,.int .i64 v.num,.slice a v.names.length d,.slice pa v.parts.length pd]∧R64 v.num:=by
 obtain⟨a,d,pa,pd,e,r1,r2⟩:=h.vaForm 0 rfl;exact⟨a,d,pa,pd,e,r1,r2⟩
theorem Fr.varCells (h:Fr B w L) (i j:Nat) (hi:L[i]?=some (.cm bc bp k c)) (hj:L[j]?=some (.pm bp q pg f p ov)) (ha:VarAt k q c x g o) (hv:varM c x p=some v) (hn:p.now.length=pg.ts.length):
  ∃a d pa pd,R64 v.num∧(∀o,w.frozen? ⟨g,o,none⟩=false)∧(w.cell? ⟨g,o,none⟩=some (.int .i64 v.kind)∧w.cell? ⟨g,o+1,none⟩=some (.int .i64 v.num)∧w.cell? ⟨g,o+2,none⟩=some (.slice a v.names.length d)∧w.cell? ⟨g,o+3,none⟩=some (.slice pa v.parts.length pd)) ∧
   Fr B w (.el VaE [.int .i64 v.kind,.int .i64 v.num,.slice a v.names.length d,.slice pa v.parts.length pd] v::L):=by
 unfold varM at hv;cases ha with
 | lo m lg lc h1 h2 h3=>
  rw[h1] at hv;have hv:c.lo[m]?=some v:=hv;obtain⟨hm,rfl⟩:=List.getElem?_eq_some_iff.1 hv;have h4:Fr B w (.els VaE (.slice (some ⟨g,0,none⟩) c.lo.length lc) 48 4 c.lo::.cm bc bp k c::L)∨True:=.inr trivial;obtain⟨H,hF⟩:=h;have hels:=(hF.ok _ (List.mem_of_getElem? hi)).1 (.els VaE k.lv 48 4 c.lo) (List.mem_append_left _ (by simp));rw[h3] at hels;obtain⟨g',css,e1,hn',k1,k2,k4,k5⟩:=fD hels (λ e=>by rw[e] at hm;simp at hm);cases e1;have hm':m<css.length:=by omega
  have hE:=k5 m hm hm';have hl:=k2 _ (List.getElem_mem hm');have hF2:Fr B w (.el VaE css[m] c.lo[m]::L):=⟨H,hF.free (r:=.el VaE css[m] c.lo[m]) hE λ q hq=>hq⟩
  obtain⟨a,d,pa,pd,e,hr⟩:=hF2.knFour;have hc:∀j,j<4→w.cell? ⟨g,m*4+j,none⟩=css[m][j]?:=λ j hj=>by
   rw[k4.cellAt _ (by calc m*4+j<m*4+4:=by omega
    _=(m+1)*4:=(Nat.succ_mul m 4).symm
    _≤c.lo.length*4:=Nat.mul_le_mul_right 4 hm),fQ k2 m hm' j hj]
  rw[e] at hc hF2;exact⟨a,d,pa,pd,hr,λ o=>k4.frozenAt o,⟨hc 0 (by omega),hc 1 (by omega),hc 2 (by omega),hc 3 (by omega)⟩,hF2⟩
 | gl m tg tn tc h1 h2 h3=>
  rw[h1] at hv;dsimp only at hv;rw[h2] at hv;have hv:p.now[m]?=some v:=hv;obtain⟨hm,rfl⟩:=List.getElem?_eq_some_iff.1 hv;obtain⟨H,hF⟩:=h;have hels:=(hF.ok _ (List.mem_of_getElem? hj)).1 (.els ThE q.tv 67 10 (pg.ts.zip p.now)) (by simp);rw[h3] at hels;have hz:m<(pg.ts.zip p.now).length:=by rw[List.length_zip];omega
  obtain⟨g',css,e1,hn',k1,k2,k4,k5⟩:=fD hels (λ e=>by rw[e] at hz;simp at hz);cases e1;have hm':m<css.length:=by omega
  have hE:=k5 m hz hm';rw[List.getElem_zip] at hE;obtain⟨x0,x1,x2,x3,y0,y1,y2,y3,e4,-,e5⟩:ThE.p H css[m] (pg.ts[m],p.now[m]):=hE;have hF2:Fr B w (.el VaE [y0,y1,y2,y3] p.now[m]::L):=⟨H,hF.free (r:=.el VaE [y0,y1,y2,y3] p.now[m]) e5 λ q hq=>hq⟩
  obtain⟨a,d,pa,pd,e,hr⟩:=hF2.knFour;have hc:∀j,j<10→w.cell? ⟨g,m*10+j,none⟩=css[m][j]?:=λ j hj=>by
   rw[k4.cellAt _ (by calc m*10+j<m*10+10:=by omega
    _=(m+1)*10:=(Nat.succ_mul m 10).symm
    _≤(pg.ts.zip p.now).length*10:=Nat.mul_le_mul_right 10 hz
    _=tn*10:=by rw[hn']),fQ k2 m hm' j hj]
  rw[e4] at hc;cases e;exact⟨a,d,pa,pd,hr,λ o=>k4.frozenAt o,⟨hc 6 (by omega),hc 7 (by omega),hc 8 (by omega),hc 9 (by omega)⟩,hF2⟩
theorem zip_set {α β:Type}:∀(a:List α) (b:List β) (i:Nat) (v:β) (h:i<a.length),a.zip (b.set i v)=(a.zip b).set i (a[i],v)
 | [],b,i,v,h=>absurd h (Nat.not_lt_zero _)
 | x::a,[],i,v,h=>by simp
 | x::a,y::b,0,v,h=>rfl
 | x::a,y::b,i+1,v,h=>by
  show (x,y)::a.zip (b.set i v)=(x,y)::(a.zip b).set i (a[i]'(Nat.lt_of_succ_lt_succ h),v);rw[zip_set a b i v (Nat.lt_of_succ_lt_succ h)]
theorem Fr.varPut (h:Fr B w (.cm bc bp k c::.pm bp q pg f p ov::L)) (ha:VarAt k q c x g o) (hn:p.now.length=pg.ts.length) (hq:dA c x v p≠.stuck) (m:Nat) (hm:L[m]?=some (.el VaE [y0,y1,y2,y3] v)):
  ∃c' p',dA c x v p=.ok c' p'∧c'.bl=c.bl∧c'.u=c.u∧c'.be=c.be∧c'.lo.length=c.lo.length∧p'.steps=p.steps∧p'.out=p.out∧p'.now.length=p.now.length ∧
   Fr B ((((w.setCell ⟨g,o,none⟩ y0).setCell ⟨g,o+1,none⟩ y1).setCell ⟨g,o+2,none⟩ y2).setCell ⟨g,o+3,none⟩ y3) (.cm bc bp k c'::.pm bp q pg f p' ov::L):=by
 unfold dA at hq ⊢;cases ha with
 | lo i lg lc h1 h2 h3=>
  rw[h1];dsimp only;rw[if_pos h2];refine⟨_,_,rfl,rfl,rfl,rfl,by simp,rfl,rfl,rfl,?_⟩;have h4:=h.cmOpen;have hi:(cmK bc bp k c++(bH k.N k.em c.bl++.pm bp q pg f p ov::L))[2]?=some (.els VaE (.slice (some ⟨g,0,none⟩) c.lo.length lc) 48 4 c.lo):=by rw[← h3];rfl
  have hl:(cmK bc bp k c++(bH k.N k.em c.bl++.pm bp q pg f p ov::L))[7+((bH k.N k.em c.bl).length+1)+m]?=some (.el VaE [y0,y1,y2,y3] v):=by
   rw[List.getElem?_append_right (by simp;omega),List.getElem?_append_right (by simp;omega)];rw[show 7+((bH k.N k.em c.bl).length+1)+m - (cmK bc bp k c).length - (bH k.N k.em c.bl).length=m+1 by simp;omega];exact hm
  have h5:=h4.putD (F:=VaE) 2 hi i h2 0 (by omega) (x:=v) _ hl (λ H cs e1 _ e3=>by
   match cs,e1 with
   | [d0,d1,d2,d3],_=>exact e3) (o:=i*4) rfl rfl rfl rfl
  exact Fr.cmShut (c:={ c with lo:=c.lo.set i v }) (by
   have e:(cmK bc bp k { c with lo:=c.lo.set i v }++(bH k.N k.em c.bl++.pm bp q pg f p ov::L))=(cmK bc bp k c++(bH k.N k.em c.bl++.pm bp q pg f p ov::L)).set 2 (.els VaE (.slice (some ⟨g,0,none⟩) c.lo.length lc) 48 4 (c.lo.set i v)):=by rw[← h3];rfl
   rw[e];exact h5)
 | gl i tg tn tc h1 h2 h3=>
  rw[h1,h2] at hq ⊢;dsimp only at hq ⊢;by_cases hlt:i<p.now.length
  ·rw[if_pos hlt];refine⟨_,_,rfl,rfl,rfl,rfl,rfl,rfl,rfl,by simp,?_⟩;have h4:=h.swap.pmOpen;have hi:(pmK bp q pg f p ov++(.cm bc bp k c::L))[2]?=some (.els ThE (.slice (some ⟨g,0,none⟩) tn tc) 67 10 (pg.ts.zip p.now)):=by rw[← h3];rfl
   have hz:i<(pg.ts.zip p.now).length:=by rw[List.length_zip];omega
   have h5:=h4.putD (F:=VaE) 2 hi i hz 6 (by omega) (x:=(pg.ts[i]'(by omega),v)) (m+5) (by exact hm) (λ H cs e1 e2 e3=>by
    rw[List.getElem_zip] at e2;obtain⟨x0,x1,x2,x3,z0,z1,z2,z3,e4,e5,e6⟩:=e2;exact⟨x0,x1,x2,x3,y0,y1,y2,y3,by rw[e4];rfl,e5,e3⟩) (o:=i*10+6) rfl rfl rfl rfl
   refine Fr.swap (Fr.pmShut (p:={ p with now:=p.now.set i v }) ?_);have e:pmK bp q pg f { p with now:=p.now.set i v } ov++(.cm bc bp k c::L)=(pmK bp q pg f p ov++(.cm bc bp k c::L)).set 2 (.els ThE (.slice (some ⟨g,0,none⟩) tn tc) 67 10 ((pg.ts.zip p.now).set i (pg.ts[i]'(by omega),v))):=by
    rw[← h3,← zip_set pg.ts p.now i v (by omega)];rfl
   rw[e];exact h5
  rw[if_neg hlt] at hq;exact absurd rfl hq
theorem Fr.cmLv (h:Fr B w L) (i:Nat) (hi:L[i]?=some (.cm bc bp k c)) (hne:c.lo≠[]):∃lg d,k.lv=.slice (some ⟨lg,0,none⟩) c.lo.length d∧c.lo.length≤d∧d≤maxLen:=by
 obtain⟨a,d,e,h1,h2⟩:=h.cmEls i hi;obtain⟨H,h3,-⟩:=h.get hi;have hels:=h3.1 (.els VaE k.lv 48 4 c.lo) (List.mem_append_left _ (by simp));rw[e] at hels;obtain⟨g',css,e1,-⟩:=fD hels hne;subst e1;exact⟨g',d,e,h1,h2⟩
theorem Fr.pmTv {ov : Bool} (h:Fr B w L) (i:Nat) (hi:L[i]?=some (.pm bp q pg f p ov)) (hn:p.now.length=pg.ts.length) (hne:0<pg.ts.length):∃tg d,q.tv=.slice (some ⟨tg,0,none⟩) pg.ts.length d∧pg.ts.length≤d∧d≤maxLen:=by
 obtain⟨H,h3,-⟩:=h.get hi;have hels:=h3.1 (.els ThE q.tv 67 10 (pg.ts.zip p.now)) (by simp);have hl:(pg.ts.zip p.now).length=pg.ts.length:=by rw[List.length_zip];omega
 obtain⟨a,d,e,h1,h2⟩:=els_form hels;rw[e] at hels;obtain⟨g',css,e1,-⟩:=fD hels (λ h=>by rw[h] at hl;simp at hl;omega);subst e1;rw[hl] at e h1;exact⟨g',d,e,h1,h2⟩
theorem variable_any (h:Fr B w (.cm bc bp k c::.pm bp q pg f p false::L)) (hc:CI k c n) (hn:p.now.length=pg.ts.length) (x:ByteArray) (hx:x.size≤4000) (hv:varM c x p=some v):Calls prog 61 #[ptr bc,.string x] w λ e w'=>∃g o,e=.returned (.pointer (some ⟨g,o,none⟩))∧VarAt k q c x g o∧Fr B w' (.cm bc bp k c::.pm bp q pg f p false::L):=by
 have hvv:=hv;unfold varM at hv;have hbl:c.bl.length≤16000:=by have:=hc.bl;have:=hc.n;omega
 have hxm:x.size≤maxLen:=Nat.le_trans hx (by decide:4000≤maxLen);have HEM:=ah hc.em;have HF:=h;clear h hc hx;cases hq:dK c.bl x
 ·rw[hq] at hv;dsimp only at hv;obtain⟨i,hi,hv⟩:∃i,c.u.me x=some i∧p.now[i]?=some v:=by
   cases hm:c.u.me x with
   | none=>rw[hm] at hv;cases hv
   | some i=>rw[hm] at hv;exact⟨i,rfl,hv⟩
  have hlt:=(List.getElem?_eq_some_iff.1 hv).1;obtain⟨tg,td,htv,hd1,hd2⟩:=HF.pmTv 1 rfl hn (by omega);have hib:(i:Int)<(pg.ts.length:Int):=by omega
  have HQ:=ah hq;have HI:=ah hi;have HTV:=ah htv;clear hq hi hv hvv hlt hn hd1 hd2;go_enter func61,ntmps61;go_wp2_with fail;go_at_call 86;refine (local86 HF HEM hbl x hxm).mono ?_;rintro e w1 ⟨rfl,HF⟩;simp only[HQ.out,Option.getD_none,Option.isSome_none];have hbl2:=ah hbl;clear hbl htv;go_wp2;refine regK [] HF (λ w h=>⟨(h.cmCell 0 rfl),(HTV.out ▸ h.pmCell 1 rfl)⟩) (λ wd2 HF hC=>?_) (C:=λ w'=>(∀o,w'.cell? ⟨bc,o,none⟩=(#[ptr bp,k.n0,k.n1,k.n2,k.n3,k.sg,k.nu,.map (some k.m1),.map (some k.m2),k.bv,k.lv,k.wv]:Array Value)[o]?)∧(∀o,w'.cell? ⟨bp,o,none⟩=(#[.int .i64 0,.int .i32 0,q.outv,.int .i64 p.steps,q.uv,(.slice (some ⟨tg,0,none⟩) pg.ts.length td),q.ov,.int .i64 f,.bool false]:Array Value)[o]?));refine tq4 0 1 2 3 ?_;refine tq4 4 5 6 7 ?_;refine tq4 8 9 10 11 ?_;refine tq 12 ?_;refine rq 13 λ K hK=>?_;have hlk:=HF.cmMe 0 rfl x hxm;rw[HI.out] at hlk;simp only[Option.getD_some] at hlk;go_simp;clear hlk;refine uq hK ⟨(HF.cmCell 0 rfl),(HTV.out ▸ HF.pmCell 1 rfl)⟩ λ hC=>?_;refine tq3 14 15 16 ?_;refine dq ?_;go_wp2;go_ret
  exact⟨_,_,rfl,.gl i tg _ _ HQ HI HTV,HF⟩
 rename_i i
 rw[hq] at hv;have hv:c.lo[i]?=some v:=hv;have hlt:=(List.getElem?_eq_some_iff.1 hv).1;obtain⟨lg,ld,hlv,hd1,hd2⟩:=HF.cmLv 0 rfl (λ e=>by rw[e] at hlt;simp at hlt);have hib:(i:Int)<(c.lo.length:Int):=by omega
 have HQ:=ah hq;have HLT:=ah hlt;have HLV:=ah hlv;clear hq hv hvv hlt hn hd1 hd2 hlv;go_enter func61,ntmps61;go_wp2_with fail;go_at_call 86;refine (local86 HF HEM hbl x hxm).mono ?_;rintro e w1 ⟨rfl,HF⟩;simp only[HQ.out,Option.getD_some,Option.isSome_some];have c_cm:∀o,w1.cell? ⟨bc,o,none⟩=(#[ptr bp,k.n0,k.n1,k.n2,k.n3,k.sg,k.nu,.map (some k.m1),.map (some k.m2),k.bv,(.slice (some ⟨lg,0,none⟩) c.lo.length ld),k.wv]:Array Value)[o]?:=HLV.out ▸ HF.cmCell 0 rfl;go_wp2;go_ret
 exact⟨_,_,rfl,.lo i lg ld HQ HLT HLV,HF⟩
theorem extra_any (h:Fr B w (.cm bc bp k c::L)) (m:Int):Calls prog 92 #[ptr bc,.int .i64 m] w (PVa B (fM c.be m) (.cm bc bp k c::L)):=by
 obtain⟨wa,wd,hwv,hw1,hw2,h1⟩:=h.cmBe 0 rfl;have HWV:=ah hwv;have HF:=ah h1.swap;clear h h1 hwv;by_cases h0:m<0
 ·have e0:fM c.be m=vI 0:=if_pos (by omega);rw[e0];clear e0;go_enter func92,ntmps92;replace HF:=ax HF w.heap.size vz 48;have c_cm:∀o,(w.alloc (.cells vz 48)).cell? ⟨bc,o,none⟩=(#[ptr bp,k.n0,k.n1,k.n2,k.n3,k.sg,k.nu,.map (some k.m1),.map (some k.m2),k.bv,k.lv,(.slice wa c.be.length wd)]:Array Value)[o]?:=HWV.out ▸ HF.cmCell 1 rfl;go_wp2_with fail;clear c_cm;go_at_call 40;refine (cC HF 0 (by omega) (by omega)).mono ?_;rintro e w1 ⟨a_v,c_v,pa_v,pc_v,rfl,r_v,HF⟩;obtain⟨c_r,f_r⟩:=cf HF 1;replace HF:=sV HF 1 (vI 0).kind (vI 0).num a_v (vI 0).names.length c_v pa_v (vI 0).parts.length pc_v;go_wp2;clear c_r f_r;refine br (rt48 results92 rfl (HF.blkAt 1 rfl)) ?_;exact PVa.got (v:=(vI 0)) r_v (HF.lose)
 by_cases hlt:(c.be.length:Int)≤m
 ·have hge:(c.be.length:Int)≤m:=hlt;have e0:fM c.be m=vI 0:=if_pos (by omega);rw[e0];clear e0;go_enter func92,ntmps92;replace HF:=ax HF w.heap.size vz 48;have c_cm:∀o,(w.alloc (.cells vz 48)).cell? ⟨bc,o,none⟩=(#[ptr bp,k.n0,k.n1,k.n2,k.n3,k.sg,k.nu,.map (some k.m1),.map (some k.m2),k.bv,k.lv,(.slice wa c.be.length wd)]:Array Value)[o]?:=HWV.out ▸ HF.cmCell 1 rfl;go_wp2_with fail;clear c_cm;go_at_call 40;refine (cC HF 0 (by omega) (by omega)).mono ?_;rintro e w1 ⟨a_v,c_v,pa_v,pc_v,rfl,r_v,HF⟩;obtain⟨c_r,f_r⟩:=cf HF 1;replace HF:=sV HF 1 (vI 0).kind (vI 0).num a_v (vI 0).names.length c_v pa_v (vI 0).parts.length pc_v;go_wp2;clear c_r f_r;refine br (rt48 results92 rfl (HF.blkAt 1 rfl)) ?_;exact PVa.got (v:=(vI 0)) r_v (HF.lose)
 obtain⟨j,rfl⟩:∃j:Nat,m=j:=⟨m.toNat,by omega⟩
 have hj:j<c.be.length:=by omega
 have e0:fM c.be (j:Int)=vI c.be[j]:=by
  unfold fM;rw[if_neg (by omega),Int.toNat_natCast,List.getD_eq_getElem?_getD,List.getElem?_eq_getElem hj];rfl
 rw[e0];clear e0;obtain⟨g,og,c',cur,f',cs,e,h2,h3,h4,h5,h6⟩:=HF.elem 1 (by rw[HWV.out];rfl) j hj;cases e;obtain⟨H,h7,-⟩:=h6.get (i:=0) rfl;obtain⟨rfl,hr0,hr1⟩:I32E.p H cs c.be[j]:=h7;have hk:=h5 0 (by omega);replace HF:=ah h6.tail;clear h6 h2 h3 h4 h5;generalize c.be[j]=y at *;have hji:(j:Int)<(c.be.length:Int):=by omega
 have HK:=ah hk;clear hk;go_enter func92,ntmps92;replace HF:=ax HF w.heap.size vz 48;have c_cm:∀o,(w.alloc (.cells vz 48)).cell? ⟨bc,o,none⟩=(#[ptr bp,k.n0,k.n1,k.n2,k.n3,k.sg,k.nu,.map (some k.m1),.map (some k.m2),k.bv,k.lv,(.slice (some ⟨g,og,none⟩) c.be.length wd)]:Array Value)[o]?:=HWV.out ▸ HF.cmCell 2 rfl;have c_kn:=(HF.knc 1 rfl (og+j)).trans (by simpa using HK.out);go_wp2_with fail;clear c_cm c_kn;go_at_call 40;refine (cC HF y hr0 hr1).mono ?_;rintro e w1 ⟨a_v,c_v,pa_v,pc_v,rfl,r_v,HF⟩;obtain⟨c_r,f_r⟩:=cf HF 1;replace HF:=sV HF 1 (vI y).kind (vI y).num a_v (vI y).names.length c_v pa_v (vI y).parts.length pc_v;go_wp2;clear c_r f_r;refine br (rt48 results92 rfl (HF.blkAt 1 rfl)) ?_;exact PVa.got (v:=(vI y)) r_v (HF.lose)
theorem flat_at' {z:Nat}:∀{css:List (List Value)} (hz:∀c,c∈css→c.length=z) (hz0:0<z) (m:Nat) (u:Value),css.flatten[m]?=some u→∃j i,m=j*z+i∧i<z∧∃hj:j<css.length,css[j][i]?=some u
 | [],_,_,m,u,h=>by simp at h
 | c::css,hz,hz0,m,u,h=>by
  have h0:=hz c (List.mem_cons_self ..);rw[List.flatten_cons] at h;by_cases hm:m<c.length
  ·rw[List.getElem?_append_left hm] at h;exact⟨0,m,by omega,by omega,by simp,h⟩
  rw[List.getElem?_append_right (by omega)] at h;obtain⟨j,i,e,hi,hj,hu⟩:=flat_at' (λ x hx=>hz x (List.mem_cons_of_mem _ hx)) hz0 _ u h;exact⟨j+1,i,by rw[Nat.succ_mul];omega,hi,by simpa using hj,hu⟩
theorem sl_css {c : Nat} (h:SlP E (.slice a n c) e z l H) (hz0:0<z) (hne:l≠[]):
  ∃(g o:Nat) (cur:Array Value) (f:Nat × Nat) (css:List (List Value)),a=some ⟨g,o,none⟩∧n=l.length∧H g=some (.cells cur e f)∧css.length=l.length∧(∀x,x∈css→x.length=z)∧(∀j u,css.flatten[j]?=some u→cur[o+j]?=some u)∧∀j (hj:j<l.length) (hj':j<css.length),E.p H css[j] l[j]:=by
 obtain⟨a',c',e1,h2,h3,h4⟩:=h;cases e1;obtain⟨g,o,cur,f,rfl,q2,q3⟩:=h4 hne;refine⟨g,o,cur,f,List.ofFn λ j:Fin l.length=>(q3 j j.2).choose,rfl,rfl,q2,by simp,λ x hx=>?_,λ m u hu=>?_,λ j hj hj'=>?_⟩
 ·obtain⟨j,rfl⟩:=List.mem_ofFn.1 hx;exact (q3 j j.2).choose_spec.1
 ·obtain⟨j,i,rfl,hi,hj,hu⟩:=flat_at' (z:=z) (λ x hx=>by obtain⟨j,rfl⟩:=List.mem_ofFn.1 hx;exact (q3 j j.2).choose_spec.1) hz0 m u hu;rw[List.getElem_ofFn] at hu;have:=(q3 j (by simpa using hj)).choose_spec.2.1 i hi;rw[← Nat.add_assoc,this];exact hu
 rw[List.getElem_ofFn];exact (q3 j hj).choose_spec.2.2
theorem Fr.takeEls (h:Fr B w L) (hb:Below w.heap.size w w') {v : Value} (h1:css.length=l.length) (hz:∀x,x∈css→x.length=z) (hv:w'.ownsRow w.heap.size e z v l.length css.flatten) (hE:∀H:Snap,FrH H B w L→∀j (hj:j<l.length) (hj':j<css.length),E.p H css[j] l[j]):Fr B w' (.els E v e z l::L):=by
 obtain⟨H,h⟩:=h;refine⟨H,h.new hb (r:=.els E v e z l) ⟨css,h1,hz,⟨hv.1,?_⟩,hE H h⟩ λ q hq=>(World.ownsRow.lt hv q hq).1⟩;rcases hv.2 with h2|⟨g,cap,cur,hv,hg,r⟩
 ·exact Or.inl h2
 exact Or.inr ⟨g,cap,cur,hv,Nat.zero_le _,r⟩
theorem va_one (H:Snap) (c:List Value) (x:Va) (h:VaE.p H c x):c.all (λ u=>u.oneCell')=true:=by
 obtain⟨a,c,pa,pc,rfl,_⟩:=VaH.parts (show VaH H _ _ from h);rfl
theorem info48:(prog.info? 48).map (λ i=>(i.zero,i.size,i.bytes))=some (some (.agg #[.int .i64 0,.int .i64 0,.slice none 0 0,.slice none 0 0]),4,64):=by kernel_rfl
def CloneH (F:FuncId)(e:TypeId)(size:Nat):Prop:=∀(b off n c:Nat) (news:List Value) (w:World),news.length=n*size→n≤16000→(∀j u,news[j]?=some u→w.cell? ⟨b,off+j,none⟩=some u)→(∀u∈news,u.oneCell'=true) →
 Calls prog F #[.slice (some ⟨b,off,none⟩) n c] w λ e' w'=>∃v',e'=.returned v'∧w'.ownsRow w.heap.size e size v' n news∧Below w.heap.size w w'
theorem clone23:CloneH 23 48 4:=by
 intro b off n c news w hl hn hc h1;obtain⟨i0,hi,hz0,hz1,hz2⟩:=gF info48;have q22:∀(w:World) (a:Option Addr) (n c n' c':Nat),(binOp .eql 46 (.slice a n c) (.slice none n' c')).run prog w=.ok (.bool a.isNone) w:=λ w a n c n' c'=>Lib.run_eql_slice_nil w _ _ a n c n' c' underlying46;have A:=ah hc;have hbig:n*64≤140737488355328:=by omega
 have hm:n≤maxLen:=by unfold maxLen;omega
 clear hc;go_enter func23,ntmps23;go_wp2_with (at_builtin;refine wpList_append_own _ rfl _ _ 46 rfl w.heap.size 48 i0 _ 4 64 underlying46 hi hz0 hz1 hz2 rfl (by decide) _ _ _ rfl (World.ownsRow_made w #[] 0 (Nat.le_refl _) (Nat.zero_le _) (by simp)) ⟨b,off,none⟩ n c news rfl ?qc1 ?qc2 ?qc3 ?qc4 ?qc5 ?qc6 ?_)
 case qc1=>exact hl
 case qc2=>
  intro j u hj;rw[Addr.add_lit];exact Lib.cell?_alloc_some _ (A.out j u hj)
 case qc3=>exact h1
 case qc4=>rw[Nat.zero_add];exact hm
 case qc5=>rw[Nat.zero_add];exact hbig
 case qc6=>simp
 intro v' w1 hown hgrow hnil;go_wp2;go_ret
 refine⟨v',rfl,by simpa using hown,?_⟩;exact ((Below.refl _ w).alloc (Nat.le_refl _) _).grown hgrow (by simp) (by intro k hk;simp [Value.ownBlock] at hk;omega)
theorem clone80:CloneH 80 83 5:=by
 intro b off n c news w hl hn hc h1;obtain⟨i0,hi,hz0,hz1,hz2⟩:=gF fZ;have q22:∀(w:World) (a:Option Addr) (n c n' c':Nat),(binOp .eql 81 (.slice a n c) (.slice none n' c')).run prog w=.ok (.bool a.isNone) w:=λ w a n c n' c'=>Lib.run_eql_slice_nil w _ _ a n c n' c' underlying81;have A:=ah hc;have hbig:n*80≤140737488355328:=by omega
 have hm:n≤maxLen:=by unfold maxLen;omega
 clear hc;go_enter func80,ntmps80;go_wp2_with (at_builtin;refine wpList_append_own _ rfl _ _ 81 rfl w.heap.size 83 i0 _ 5 80 underlying81 hi hz0 hz1 hz2 rfl (by decide) _ _ _ rfl (World.ownsRow_made w #[] 0 (Nat.le_refl _) (Nat.zero_le _) (by simp)) ⟨b,off,none⟩ n c news rfl ?qc1 ?qc2 ?qc3 ?qc4 ?qc5 ?qc6 ?_)
 case qc1=>exact hl
 case qc2=>
  intro j u hj;rw[Addr.add_lit];exact Lib.cell?_alloc_some _ (A.out j u hj)
 case qc3=>exact h1
 case qc4=>rw[Nat.zero_add];exact hm
 case qc5=>rw[Nat.zero_add];exact hbig
 case qc6=>simp
 intro v' w1 hown hgrow hnil;go_wp2;go_ret
 refine⟨v',rfl,by simpa using hown,?_⟩;exact ((Below.refl _ w).alloc (Nat.le_refl _) _).grown hgrow (by simp) (by intro k hk;simp [Value.ownBlock] at hk;omega)
theorem clone79:CloneH 79 9 1:=by
 intro b off n c news w hl hn hc h1;obtain⟨i0,hi,hz0,hz1,hz2⟩:=gF T.info9;have q22:∀(w:World) (a:Option Addr) (n c n' c':Nat),(binOp .eql 22 (.slice a n c) (.slice none n' c')).run prog w=.ok (.bool a.isNone) w:=λ w a n c n' c'=>Lib.run_eql_slice_nil w _ _ a n c n' c' underlying22;have A:=ah hc;have hbig:n*16≤140737488355328:=by omega
 have hm:n≤maxLen:=by unfold maxLen;omega
 clear hc;go_enter func79,ntmps79;go_wp2_with (at_builtin;refine wpList_append_own _ rfl _ _ 22 rfl w.heap.size 9 i0 _ 1 16 underlying22 hi hz0 hz1 hz2 rfl (by decide) _ _ _ rfl (World.ownsRow_made w #[] 0 (Nat.le_refl _) (Nat.zero_le _) (by simp)) ⟨b,off,none⟩ n c news rfl ?qc1 ?qc2 ?qc3 ?qc4 ?qc5 ?qc6 ?_)
 case qc1=>exact hl
 case qc2=>
  intro j u hj;rw[Addr.add_lit];exact Lib.cell?_alloc_some _ (A.out j u hj)
 case qc3=>exact h1
 case qc4=>rw[Nat.zero_add];exact hm
 case qc5=>rw[Nat.zero_add];exact hbig
 case qc6=>simp
 intro v' w1 hown hgrow hnil;go_wp2;go_ret
 refine⟨v',rfl,by simpa using hown,?_⟩;exact ((Below.refl _ w).alloc (Nat.le_refl _) _).grown hgrow (by simp) (by intro k hk;simp [Value.ownBlock] at hk;omega)
theorem clone_els {F : FuncId} (hC:CloneH F e z) (hz0:0<z) (hone:∀H c x,E.p H c x→c.all (λ u=>u.oneCell')=true) (h:Fr B w L) (i:Nat) {c : Nat} (hi:L[i]?=some (.sl E (.slice a n c) e z l)) (hne:l≠[]) (hn:l.length≤16000):
  Calls prog F #[.slice a n c] w λ e' w'=>∃v',e'=.returned v'∧Fr B w' (.els E v' e z l::L):=by
 have hF:=h;obtain⟨H,h⟩:=h;obtain⟨g,o,cur,f,css,rfl,rfl,h1,h2,h3,h4,h5⟩:=sl_css (h.ok _ (List.mem_of_getElem? hi)) hz0 hne;have hlen:css.flatten.length=l.length*z:=by rw[flat_len h3,h2]
 refine (hC g o l.length c css.flatten w hlen hn (λ j u hu=>(aA (h.snap _ _ h1) _).trans (h4 j u hu)) λ u hu=>?_).mono ?_
 ·obtain⟨x,hx,hu⟩:=List.mem_flatten.1 hu;obtain⟨j,hj,rfl⟩:=List.getElem_of_mem hx;exact List.all_eq_true.1 (hone H _ _ (h5 j (by omega) hj)) u hu
 rintro e' w' ⟨v',rfl,hv,hb⟩;refine⟨v',rfl,?_⟩;refine⟨H,h.new hb (r:=.els E v' e z l) ⟨css,h2,h3,⟨hv.1,?_⟩,h5⟩ λ q hq=>(World.ownsRow.lt hv q hq).1⟩;rcases hv.2 with h2|⟨g,cap,cur,hv,hg,r⟩
 ·exact Or.inl h2
 exact Or.inr ⟨g,cap,cur,hv,Nat.zero_le _,r⟩
theorem Fr.dupSl (h:Fr B w L) (i:Nat) {v : Value} (hi:L[i]?=some (.sl E v e z l)):Fr B w (.sl E v e z l::L):=
 h.know (K:=[_]) λ H w hr k hk=>by
  obtain rfl:=List.mem_singleton.1 hk;exact⟨hr _ (List.mem_of_getElem? hi),λ q hq=>hq⟩
theorem Fr.slInit (h:Fr B w L) (i:Nat) {c : Nat} {l : List ByteArray} (hn:n=l.length) (hi:L[i]?=some (.sl StE (.slice a (n+1) c) 9 1 (l++[x]))):
  ∃g o cur f,a=some ⟨g,o,none⟩∧n+1≤c∧c≤maxLen∧cur[o+n]?=some (.string x)∧Fr B w (.sl StE (.slice a n c) 9 1 l::.kn g cur 9 f::L):=by
 subst hn;obtain⟨g,o,c',cur,f,cs,e,h2,h3,h4,h5,h6⟩:=h.elem i hi l.length (by simp);rw[show (l++[x]).length=l.length+1 by simp] at e;cases e;obtain⟨H,h7,-⟩:=h6.get (i:=0) rfl;rw[List.getElem_append_right (Nat.le_refl _)] at h7;simp only[Nat.sub_self,List.getElem_cons_zero] at h7;obtain⟨rfl,-⟩:StE.p H cs x:=h7;refine⟨g,o,cur,f,rfl,by simpa using h2,h3,by simpa using h5 0 (by omega),?_⟩;refine h6.tail.know (K:=[_]) λ H' w' hr k hk=>?_;obtain rfl:=List.mem_singleton.1 hk;obtain⟨a',c',e1,e2,e3,e4⟩:SlP StE (.slice (some ⟨g,o,none⟩) (l++[x]).length c) 9 1 (l++[x]) H':=by
  have e9:(l++[x]).length=l.length+1:=by simp
  rw[e9];exact hr _ (List.mem_cons_of_mem _ (List.mem_of_getElem? hi))
 cases e1;refine⟨⟨_,c,rfl,by simp at e2;omega,e3,λ hne=>?_⟩,λ q hq=>hq⟩;obtain⟨g',o',cur',f',q1,q2,q3⟩:=e4 (by simp);refine⟨g',o',cur',f',q1,q2,λ j hj=>?_⟩;obtain⟨cs,r1,r2,r3⟩:=q3 j (by simp;omega);rw[List.getElem_append_left hj] at r3;exact⟨cs,r1,r2,r3⟩
def AllE {α:Type}(E:El α)(css:List (List Value))(l:List α):Rs:=.fact ⟨λ H=>css.length=l.length∧∀j (hj:j<l.length) (hj':j<css.length),E.p H css[j] l[j],λ H H' h hl=>⟨h.1,λ j hj hj'=>E.up H H' _ _ (h.2 j hj hj') hl⟩⟩
theorem Fr.elsRow (h:Fr B w L) (i:Nat) {c : Nat} (hi:L[i]?=some (.els E (.slice (some ⟨g,0,none⟩) n c) e z l)) (hne:l≠[]):
  ∃css:List (List Value),n=l.length∧css.length=l.length∧(∀x,x∈css→x.length=z)∧Fr B w (AllE E css l::L.set i (.row (.slice (some ⟨g,0,none⟩) n c) e z n css.flatten)):=by
 obtain⟨H,h⟩:=h;obtain⟨g',css,e1,hn,k1,k2,k4,k5⟩:=fD (h.ok _ (List.mem_of_getElem? hi)) hne;cases e1;refine⟨css,hn,k1,k2,H,?_⟩;have h2:FrH H B w (L.set i (.row (.slice (some ⟨g,0,none⟩) n c) e z n css.flatten)):=h.turn i hi h.below (Nat.le_refl _) (λ_ _ _=>rfl) k4 λ q hq=>Or.inl hq;exact h2.free (r:=AllE E css l) ⟨k1,k5⟩ λ q hq=>hq
theorem Fr.rowEls (h:Fr B w L) (i:Nat) {v : Value} (hi:L[i]?=some (.row v e z n css.flatten)) (hn:n=l.length) (hz:∀x,x∈css→x.length=z) (j:Nat) (hj:L[j]?=some (AllE E css l)):Fr B w (L.set i (.els E v e z l)):=by
 subst hn;obtain⟨H,h⟩:=h;obtain⟨h1,h2⟩:=h.ok _ (List.mem_of_getElem? hj);exact⟨H,h.turn i hi h.below (Nat.le_refl _) (λ_ _ _=>rfl) (r':=.els E v e z l) ⟨css,h1,hz,h.ok _ (List.mem_of_getElem? hi),h2⟩ λ q hq=>Or.inl hq⟩
theorem four_row {c : Nat} {xs : List Value} (h:w.ownsRow 0 e z (.slice (some ⟨g,0,none⟩) n c) n xs) (hb:o+4≤n*z) (hk:∀i,i<4→xs[o+i]?=[x0,x1,x2,x3][i]?):
  w.cell? ⟨g,o,none⟩=some x0∧w.cell? ⟨g,o+1,none⟩=some x1∧w.cell? ⟨g,o+2,none⟩=some x2∧w.cell? ⟨g,o+3,none⟩=some x3:=
 ⟨(h.cellAt _ (by omega)).trans (hk 0 (by omega)),(h.cellAt _ (by omega)).trans (hk 1 (by omega)),(h.cellAt _ (by omega)).trans (hk 2 (by omega)),(h.cellAt _ (by omega)).trans (hk 3 (by omega))⟩
theorem withM_cons {l : List ByteArray} {r : Va} (h:withM (x::l) v u=some r):∃(j:Nat) (hj:j<v.parts.length) (r':Va),idxN v.names x=some j∧withM l v.parts[j] u=some r'∧r=.mk v.kind v.num v.names (v.parts.set j r'):=by
 unfold withM at h;cases e:idxN v.names x with
 | none=>rw[e] at h;cases h
 | some j=>
  rw[e] at h;have h:((v.parts[j]?).bind λ q=>(withM l q u).map λ r=>Va.mk v.kind v.num v.names (v.parts.set j r))=some r:=h;cases e2:v.parts[j]? with
  | none=>rw[e2] at h;cases h
  | some q=>
   rw[e2] at h;obtain⟨hj,rfl⟩:=List.getElem?_eq_some_iff.1 e2;have h:(withM l v.parts[j] u).map (λ r=>Va.mk v.kind v.num v.names (v.parts.set j r))=some r:=h;cases e3:withM l v.parts[j] u with
   | none=>rw[e3] at h;cases h
   | some r'=>rw[e3] at h;cases h;exact⟨j,hj,r',rfl,e3,rfl⟩
theorem Fr.elQ (h:Fr B w (AllE E css l::L)) (j:Nat) (hj:j<l.length) (hj':j<css.length):Fr B w (.el E css[j] l[j]::AllE E css l::L):=
 h.know (K:=[_]) λ H w hr k hk=>by
  obtain rfl:=List.mem_singleton.1 hk;exact⟨(hr _ (List.mem_cons_self ..)).2 j hj hj',λ q hq=>hq⟩
theorem with_any:∀(l:List ByteArray){B:Bs}{w:World}{L:List Rs}{v:Va}{a_v pa_v:Option Addr}{c_v pc_v:Nat}{u:Va}{a_u pa_u:Option Addr}{c_u pc_u:Nat}{r:Va}(i j m:Nat){sa:Option Addr}{sc:Nat}(h:Fr B w L)(hi:L[i]?=some (.el VaE [.int .i64 v.kind,.int .i64 v.num,.slice a_v v.names.length c_v,.slice pa_v v.parts.length pc_v] v))(hj:L[j]?=some (.sl StE (.slice sa l.length sc) 9 1 l.reverse))(hm:L[m]?=some (.el VaE [.int .i64 u.kind,.int .i64 u.num,.slice a_u u.names.length c_u,.slice pa_u u.parts.length pc_u] u))(hl:l.length≤16000)(hr:R64 v.num)(hr2:R64 u.num)(hw:withM l v u=some r),
  Calls prog 62 #[.agg #[.int .i64 v.kind,.int .i64 v.num,.slice a_v v.names.length c_v,.slice pa_v v.parts.length pc_v],.slice sa l.length sc,.agg #[.int .i64 u.kind,.int .i64 u.num,.slice a_u u.names.length c_u,.slice pa_u u.parts.length pc_u]] w (PVa B r L):=by
 intro l;induction l with
 | nil=>
  intro B w L v a_v pa_v c_v pc_v u a_u pa_u c_u pc_u r i j m sa sc h hi hj hm hl hr hr2 hw;have hw:u=r:=by cases hw;rfl
  subst hw;have HF:=h.dup m hm;have HR:=ah hr2;clear h hi hj hm hr hr2 hl;simp only[List.length_nil];go_enter func62,ntmps62;replace HF:=aV HF w.heap.size v.kind v.num a_v v.names.length c_v pa_v v.parts.length pc_v;replace HF:=aV HF (w.heap.size+1) u.kind u.num a_u u.names.length c_u pa_u u.parts.length pc_u;replace HF:=aV HF (w.heap.size+1+1) u.kind u.num a_u u.names.length c_u pa_u u.parts.length pc_u;have c_t5:=HF.cell 1 rfl;go_wp2;clear c_t5;refine br (rt48 results62 rfl (HF.blkAt 0 rfl)) ?_;exact PVa.got HR HF.lose
 | cons x l ih=>
  intro B w L v a_v pa_v c_v pc_v u a_u pa_u c_u pc_u r i j m sa sc h hi hj hm hl hr hr2 hw;obtain⟨jx,hjx,r',hidx,hw',rfl⟩:=withM_cons hw;rw[List.length_cons] at hj hl ⊢;rw[List.reverse_cons] at hj;have h1:=(((h.dup m hm).dup (i+1) hi).vaParts 0 rfl).dupSl (j+4) hj;obtain⟨gp,op,curp,fp,rfl,hc1,hc2,hkp,h2⟩:=h1.slInit 0 (by simp) rfl;have hlen:=h.vaLen i hi;have hne:v.parts≠[]:=λ e=>by rw[e] at hjx;simp at hjx
  have hli:¬ (l.length:Int)<0:=by omega
  have hl0:(l.length:Int)<(l.length:Int)+1:=by omega
  have hl1:l.length≤sc:=by omega
  have HW:=ah hw;have HW':=ah hw';have HIDX:=ah hidx;have HR:=ah hr;have HR2:=ah hr2;have HKP:=ah hkp;have HJX:=ah hjx;have HF:=h2;clear h h1 h2 hi hj hm hidx hw hw' hr hr2 hkp;go_enter func62,ntmps62;replace HF:=aV HF w.heap.size v.kind v.num a_v v.names.length c_v pa_v v.parts.length pc_v;replace HF:=aV HF (w.heap.size+1) u.kind u.num a_u u.names.length c_u pa_u u.parts.length pc_u;replace HF:=ax HF (w.heap.size+1+1) vz 48;go_wp2;refine regK [] HF (λ w h=>aI (h.cell 2 rfl) ((h.knc 4 rfl _).trans HKP)) (λ wd1 HF hC=>?_);refine tq4 0 1 2 3 ?_;refine tq2 4 5 ?_;refine rq 6 λ K hK=>?_;go_simp;refine (index_any HF 6 rfl x HIDX).mono ?_;rintro e w2 ⟨rfl,HF⟩;refine uq hK ⟨(HF.cell 2 rfl),((HF.knc 4 rfl _).trans HKP)⟩ λ hC=>?_;refine tq 7 ?_;refine dq ?_;have c_t3:=HF.cell 2 rfl;go_wp2_with fail;clear c_t3;go_at_call 23;refine (clone_els clone23 (by decide) va_one HF 7 rfl hne hlen).mono ?_;rintro e w3 ⟨v',rfl,HF⟩;obtain⟨gc,cc,rfl⟩:=sl_some HF 0 rfl hne;obtain⟨css,-,hcl,hcz,hf⟩:=HF.elsRow 0 rfl hne;have hfq:=hf.elQ jx HJX (by rw[hcl];exact HJX);obtain⟨a_q,c_q,pa_q,pc_q,hcq,hrq⟩:=hfq.knFour;rw[hcq] at hfq;have HKQ:Hid (∀k,k<4→css.flatten[jx*4+k]?=([.int .i64 v.parts[jx].kind,.int .i64 v.parts[jx].num,.slice a_q v.parts[jx].names.length c_q,.slice pa_q v.parts[jx].parts.length pc_q]:List Value)[k]?):=λ k hk=>(fQ hcz jx (by rw[hcl];exact HJX) k hk).trans (congrArg (λ l:List Value=>l[k]?) hcq);have HCZ:=ah hcz;have HRQ:=ah hrq;have HLEN:=ah hlen;have HBB:Hid (jx*4+4≤v.parts.length*4):=by
   show _≤_;omega
  have HF:=hfq;clear hf hfq hcl hcz hcq hrq;have hjb:(jx:Int)<(v.parts.length:Int):=by omega
  generalize hq0:v.parts[jx]=q at *;have HQ0:=ah hq0;clear hq0;obtain⟨c_t3,f_t3⟩:=cf HF 5;replace HF:=HF.set 5 rfl 3 (.slice (some ⟨gc,0,none⟩) v.parts.length cc);go_wp2_with fail;clear c_t3 f_t3;go_wp2;refine regK [14] HF (λ w h=>aI (h.cell 5 rfl) (aI (h.cell 4 rfl) (four_row (h.rowAt 2 rfl) HBB HKQ))) (λ wd2 HF hC=>?_);refine tq4 0 1 2 3 ?_;refine tq4 4 5 6 7 ?_;refine tq4 8 9 10 11 ?_;refine rq 12 λ K hK=>?_;go_simp;refine (ih 0 6 12 HF rfl rfl rfl (by omega) HRQ HR2 HW').mono ?_;rintro e w5 ⟨a_y,c_y,pa_y,pc_y,rfl,r_y,hf⟩;have HF:=hf;clear hf;refine uq hK ⟨(HF.cell 6 rfl),(HF.cell 5 rfl),(four_row (HF.rowAt 3 rfl) HBB HKQ)⟩ λ hC=>?_;refine tq 13 ?_;refine rqb 14 λ K hK=>?_;have hf1:=HF.rowEls 3 rfl rfl HCZ 2 rfl;obtain⟨g9,e9,-,hfz,d9,hd9,hc9,-⟩:=hf1.elsGet 3 rfl jx HJX;cases e9;have e0:=hc9 0 (by omega);have e1:=hc9 1 (by omega);have e2:=hc9 2 (by omega);have e3:=hc9 3 (by omega);obtain⟨z0,z1,z2,z3,rfl⟩:∃z0 z1 z2 z3,d9=[z0,z1,z2,z3]:=by
   match d9,hd9 with
   | [z0,z1,z2,z3],_=>exact⟨z0,z1,z2,z3,rfl⟩
  simp only[Nat.add_zero,List.getElem?_cons_zero,List.getElem?_cons_succ] at e0 e1 e2 e3;have hf2:=hf1.putD (F:=VaE) 3 rfl jx HJX 0 (by omega) (x:=r') 0 rfl (λ H cs e1 _ e3=>by
   match cs,e1 with
   | [d0,d1,d2,d3],_=>exact e3) (o:=jx*4) rfl rfl rfl rfl
  clear hc9 hd9 hf1;go_simp;clear e0 e1 e2 e3 hfz;have HF:=hf2;clear hf2;refine ub hK ?_;refine dq ?_;have c_t3:=HF.cell 6 rfl;obtain⟨c_r,f_r⟩:=cf HF 4;replace HF:=sV HF 4 v.kind v.num a_v v.names.length c_v (some ⟨gc,0,none⟩) v.parts.length cc;go_wp2;clear c_t3 c_r f_r;refine br (rt48 results62 rfl (HF.blkAt 4 rfl)) ?_;have hfg:=HF.give 3 rfl;have hls:(v.parts.set jx r').length=v.parts.length:=List.length_set ..;rw[← hls] at hfg ⊢;exact PVa.got (v:=.mk v.kind v.num v.names (v.parts.set jx r')) HR ((hfg.vaOf 10 3 rfl rfl v.kind v.num HR.1 HR.2 (by rw[hls];exact HLEN)).lose)
structure SetTo (c c':Cm)(p p':Pm):Prop where
 bl:c'.bl=c.bl
 u:c'.u=c.u
 be:c'.be=c.be
 lo:c'.lo.length=c.lo.length
 steps:p'.steps=p.steps
 out:p'.out=p.out
 now:p'.now.length=p.now.length
theorem perm_out {K : List α} {x : α} {i : Nat} (h:K[i]?=some x):K.Perm (x::(K.take i++K.drop (i+1))):=by
 obtain⟨hi,rfl⟩:=List.getElem?_eq_some_iff.1 h;have e:K.take i++K[i]::K.drop (i+1)=K:=by rw[← eF hi,List.take_append_drop]
 exact ((List.Perm.of_eq e.symm).trans List.perm_middle)
theorem els_hole {cc : Nat} {T : TypeId} {X : List Rs} (h:Fr B w (.els E (.slice (some ⟨g,0,none⟩) n cc) T z l::(L++X))) (j:Nat) (hj:j<l.length) (d:Nat) (hd:d+4≤z)
  (hE:∀H cs,cs.length=z→E.p H cs l[j]→∃y0 y1 y2 y3,(∀i,i<4→cs[d+i]?=[y0,y1,y2,y3][i]?)∧VaH H [y0,y1,y2,y3] v):
  ∃(xs:List Value) (X':List Rs) (a:Option Addr) (b:Nat) (pa:Option Addr) (pb:Nat),R64 v.num∧j*z+d+4≤n*z∧(∀i,i<4→xs[j*z+d+i]?=([.int .i64 v.kind,.int .i64 v.num,.slice a v.names.length b,.slice pa v.parts.length pb]:List Value)[i]?) ∧
   Fr B w (.el VaE [.int .i64 v.kind,.int .i64 v.num,.slice a v.names.length b,.slice pa v.parts.length pb] v::.row (.slice (some ⟨g,0,none⟩) n cc) T z n xs::(L++X')) ∧
   ∀w' r,Fr B w' (r::.row (.slice (some ⟨g,0,none⟩) n cc) T z n xs::(L++X'))→Fr B w' (r::.els E (.slice (some ⟨g,0,none⟩) n cc) T z l::(L++X)):=by
 have hne:l≠[]:=λ e=>by rw[e] at hj;simp at hj
 obtain⟨css,hn,k1,k2,h1⟩:=h.elsRow 0 rfl hne;have hj':j<css.length:=by omega
 have h2:=h1.elQ j hj hj';have hl:=k2 _ (List.getElem_mem hj');obtain⟨H,hH⟩:=h2;obtain⟨y0,y1,y2,y3,q1,q2⟩:=hE H css[j] hl (hH.ok _ (List.mem_cons_self ..));have h3:Fr B w (.el VaE [y0,y1,y2,y3] v::.el E css[j] l[j]::AllE E css l::(.els E (.slice (some ⟨g,0,none⟩) n cc) T z l::(L++X)).set 0 (.row (.slice (some ⟨g,0,none⟩) n cc) T z n css.flatten)):=⟨H,hH.free (r:=.el VaE [y0,y1,y2,y3] v) q2 λ q hq=>hq⟩
 obtain⟨a,b,pa,pb,e,hr⟩:=h3.knFour;rw[e] at h3 q1;refine⟨css.flatten,AllE E css l::X,a,b,pa,pb,hr,?_,λ i hi=>?_,?_,λ w' r h'=>?_⟩
 ·rw[hn];calc j*z+d+4≤j*z+z:=by omega
   _=(j+1)*z:=(Nat.succ_mul j z).symm
   _≤l.length*z:=Nat.mul_le_mul_right z hj
 ·rw[Nat.add_assoc,fQ k2 j hj' (d+i) (by omega)];exact q1 i hi
 ·have h4:Fr B w (.el VaE [.int .i64 v.kind,.int .i64 v.num,.slice a v.names.length b,.slice pa v.parts.length pb] v::AllE E css l::.row (.slice (some ⟨g,0,none⟩) n cc) T z n css.flatten::(L++X)):=h3.lose;refine h4.perm (List.Perm.cons _ ((List.Perm.swap _ _ _).trans (List.Perm.cons _ ?_)));exact (List.perm_middle).symm
 have h4:Fr B w' (r::AllE E css l::.row (.slice (some ⟨g,0,none⟩) n cc) T z n css.flatten::(L++X)):=h'.perm (List.Perm.cons _ ((List.Perm.cons _ List.perm_middle).trans (List.Perm.swap _ _ _)));have h5:=h4.rowEls 2 rfl hn k2 1 rfl;exact h5.sub (List.Sublist.cons_cons _ (List.sublist_cons_self _ _))
theorem Fr.varHole (h:Fr B w (.cm bc bp k c::.pm bp q pg f p ov::L)) (ha:VarAt k q c x g o) (hv:varM c x p=some v) (hn:p.now.length=pg.ts.length):
  ∃(T:TypeId) (n cc z:Nat) (xs:List Value) (X:List Rs) (a:Option Addr) (d:Nat) (pa:Option Addr) (pd:Nat),R64 v.num∧o+4≤n*z∧(∀i,i<4→xs[o+i]?=([.int .i64 v.kind,.int .i64 v.num,.slice a v.names.length d,.slice pa v.parts.length pd]:List Value)[i]?) ∧
   Fr B w (.el VaE [.int .i64 v.kind,.int .i64 v.num,.slice a v.names.length d,.slice pa v.parts.length pd] v::.row (.slice (some ⟨g,0,none⟩) n cc) T z n xs::(L++X)) ∧
   ∀(w':World) (y0 y1 y2 y3:Value) (r:Va),dA c x r p≠.stuck→Fr B w' (.el VaE [y0,y1,y2,y3] r::.row (.slice (some ⟨g,0,none⟩) n cc) T z n xs::(L++X)) →
    ∃c' p',dA c x r p=.ok c' p'∧SetTo c c' p p'∧Fr B ((((w'.setCell ⟨g,o,none⟩ y0).setCell ⟨g,o+1,none⟩ y1).setCell ⟨g,o+2,none⟩ y2).setCell ⟨g,o+3,none⟩ y3) (.cm bc bp k c'::.pm bp q pg f p' ov::.el VaE [y0,y1,y2,y3] r::L):=by
 have ha':=ha;have back:∀(w':World) (y0 y1 y2 y3:Value) (r:Va),dA c x r p≠.stuck→Fr B w' (.cm bc bp k c::.pm bp q pg f p ov::.el VaE [y0,y1,y2,y3] r::L) →
   ∃c' p',dA c x r p=.ok c' p'∧SetTo c c' p p'∧Fr B ((((w'.setCell ⟨g,o,none⟩ y0).setCell ⟨g,o+1,none⟩ y1).setCell ⟨g,o+2,none⟩ y2).setCell ⟨g,o+3,none⟩ y3) (.cm bc bp k c'::.pm bp q pg f p' ov::.el VaE [y0,y1,y2,y3] r::L):=λ w' y0 y1 y2 y3 r hq hf=>by
  obtain⟨c',p',e0,e1,e2,e3,e4,e5,e6,e7,e8⟩:=hf.varPut ha' hn hq 0 rfl;exact⟨c',p',e0,⟨e1,e2,e3,e4,e5,e6,e7⟩,e8⟩
 unfold varM at hv;cases ha with
 | lo m lg lc h1 h2 h3=>
  rw[h1] at hv;have hv:c.lo[m]?=some v:=hv;obtain⟨hm,rfl⟩:=List.getElem?_eq_some_iff.1 hv;obtain⟨X0,hX0⟩:∃X0,X0=[Rs.blk bc (cmC bp k) 76,.row k.bv 40 1 c.bl.length (k.em.reverse.map λ m=>.map (some m)),.sl I32E k.wv 21 1 c.be,.sm k.m1 c.u.st,.sm k.m2 c.u.me,.el NdE [k.n0,k.n1,k.n2,k.n3] c.u.node]++bH k.N k.em c.bl++[Rs.pm bp q pg f p ov]:=⟨_,rfl⟩
  have hperm:(cmK bc bp k c++(bH k.N k.em c.bl++.pm bp q pg f p ov::L)).Perm (.els VaE (.slice (some ⟨g,0,none⟩) c.lo.length lc) 48 4 c.lo::(L++X0)):=by
   refine (perm_out (i:=2) (by rw[← h3];rfl)).trans (List.Perm.cons _ ?_);rw[hX0];refine List.Perm.trans (List.Perm.of_eq (l₂:=([Rs.blk bc (cmC bp k) 76,.row k.bv 40 1 c.bl.length (k.em.reverse.map λ m=>.map (some m)),.sl I32E k.wv 21 1 c.be,.sm k.m1 c.u.st,.sm k.m2 c.u.me,.el NdE [k.n0,k.n1,k.n2,k.n3] c.u.node]++bH k.N k.em c.bl++[Rs.pm bp q pg f p ov])++L) ?_) List.perm_append_comm;simp
  obtain⟨xs,X',a,b,pa,pb,r1,r2,r3,r4,r5⟩:=els_hole (v:=c.lo[m]) (h.cmOpen.perm hperm) m hm 0 (by omega) λ H cs e1 e2=>by
   match cs,e1 with
   | [d0,d1,d2,d3],_=>exact⟨d0,d1,d2,d3,λ i hi=>by rw[Nat.zero_add],e2⟩
  refine⟨48,c.lo.length,lc,4,xs,X',a,b,pa,pb,r1,r2,r3,r4,λ w' y0 y1 y2 y3 r hq hf=>?_⟩;have h5:=r5 w' _ hf;have h6:Fr B w' (.el VaE [y0,y1,y2,y3] r::(cmK bc bp k c++(bH k.N k.em c.bl++.pm bp q pg f p ov::L))):=h5.perm (List.Perm.cons _ hperm.symm);have h7:Fr B w' (cmK bc bp k c++(bH k.N k.em c.bl++.pm bp q pg f p ov::.el VaE [y0,y1,y2,y3] r::L)):=h6.perm (by
   rw[← List.append_assoc,← List.append_assoc];refine (List.perm_middle.symm.trans ?_);exact List.Perm.append_left _ (List.Perm.swap _ _ _))
  exact back w' y0 y1 y2 y3 r hq h7.cmShut
 | gl m tg tn tc h1 h2 h3=>
  rw[h1] at hv;dsimp only at hv;rw[h2] at hv;have hv:p.now[m]?=some v:=hv;obtain⟨hm,rfl⟩:=List.getElem?_eq_some_iff.1 hv;have hz:m<(pg.ts.zip p.now).length:=by rw[List.length_zip];omega
  obtain⟨X0,hX0⟩:∃X0,X0=[Rs.blk bp (pmC q f p ov) 42,.els I32E q.outv 21 1 p.out,.sl UiE q.uv 62 8 pg.us,.cm bc bp k c]:=⟨_,rfl⟩
  have hperm:(pmK bp q pg f p ov++(.cm bc bp k c::L)).Perm (.els ThE (.slice (some ⟨g,0,none⟩) tn tc) 67 10 (pg.ts.zip p.now)::(L++X0)):=by
   refine (perm_out (i:=2) (by rw[← h3];rfl)).trans (List.Perm.cons _ ?_);rw[hX0];exact List.Perm.trans (List.Perm.of_eq (l₂:=[Rs.blk bp (pmC q f p ov) 42,.els I32E q.outv 21 1 p.out,.sl UiE q.uv 62 8 pg.us,.cm bc bp k c]++L) rfl) List.perm_append_comm
  obtain⟨xs,X',a,b,pa,pb,r1,r2,r3,r4,r5⟩:=els_hole (v:=p.now[m]) (h.swap.pmOpen.perm hperm) m hz 6 (by omega) λ H cs e1 e2=>by
   rw[List.getElem_zip] at e2;obtain⟨x0,x1,x2,x3,z0,z1,z2,z3,e4,e5,e6⟩:=e2;refine⟨z0,z1,z2,z3,λ i hi=>?_,e6⟩;rw[e4];match i,hi with
   | 0,_=>rfl
   | 1,_=>rfl
   | 2,_=>rfl
   | 3,_=>rfl
  refine⟨67,tn,tc,10,xs,X',a,b,pa,pb,r1,r2,r3,r4,λ w' y0 y1 y2 y3 r hq hf=>?_⟩;have h5:=r5 w' _ hf;have h6:Fr B w' (.el VaE [y0,y1,y2,y3] r::(pmK bp q pg f p ov++(.cm bc bp k c::L))):=h5.perm (List.Perm.cons _ hperm.symm);have h7:Fr B w' (pmK bp q pg f p ov++(.cm bc bp k c::.el VaE [y0,y1,y2,y3] r::L)):=h6.perm (List.perm_middle.symm.trans (List.Perm.append_left _ (List.Perm.swap _ _ _)));exact back w' y0 y1 y2 y3 r hq h7.pmShut.swap
theorem Fr.kidK (h:Fr B w L) (i:Nat) {x y : Nd} {c : Nat} (hi:L[i]?=some (.el NdE (ndc x.kind x.text x.num a x.kids.length c) x)) (j:Nat) (hj:x.kids[j]?=some y):
  ∃g o a' c' cur f,a=some ⟨g,o,none⟩∧x.kids.length≤c∧c≤maxLen∧(∀k,k<4→cur[o+j*4+k]?=([.int .i64 y.kind,.string y.text,.int .i64 y.num,.slice a' y.kids.length c']:List Value)[k]?)∧Fr B w (.el NdE (ndc y.kind y.text y.num a' y.kids.length c') y::.kn g cur 52 f::L):=by
 obtain⟨hjl,rfl⟩:=List.getElem?_eq_some_iff.1 hj;cases x with
 | mk k s m l=>
  obtain⟨hn,h1⟩:=h.kids i hi;obtain⟨g,o,c',cur,f,cs,e,h2,h3,h4,h5,h6⟩:=h1.elem 0 rfl j hjl;obtain⟨a',c'',e2⟩:=h6.ndForm 0 rfl;subst e2;cases e;exact⟨g,o,a',c'',cur,f,rfl,h2,h3,h5,h6.lose⟩
theorem Fr.move3 {a b c d : Rs} (h:Fr B w (d::a::b::c::L)):Fr B w (a::b::c::d::L):=h.perm ((List.Perm.swap _ _ _).trans (List.Perm.cons _ ((List.Perm.swap _ _ _).trans (List.Perm.cons _ (List.Perm.swap _ _ _)))))
theorem pathM_dot {n : Nd} (h:n.kind=24):eX n acc=match n.kids with|[]=>none|x::_=>eX x (n.text::acc):=by
 cases n with
 | mk k s m l=>
  have h:k=24:=h;subst h;cases l with
  | nil=>rfl
  | cons x l=>
   rw[show eX (.mk 24 s m (x::l)) acc=if (24:Int)=24 then eX x (s::acc) else some (s,acc) by rw[eX],if_pos rfl];rfl
theorem pathM_end {n : Nd} (h:n.kind≠24):eX n acc=some (n.text,acc):=by
 cases n with
 | mk k s m l=>
  have h':k≠24:=h;cases l with
  | nil=>rw[eX];exact if_neg h'
  | cons x l=>rw[eX];exact if_neg h'
theorem setM_parts {n : Nd} (h:setM c n v p≠.stuck):∃x l q r,eX n []=some (x,l)∧varM c x p=some q∧withM l q v=some r∧dA c x r p≠.stuck∧setM c n v p=dA c x r p:=by
 unfold setM at h ⊢;cases e:eX n [] with
 | none=>rw[e] at h;exact absurd rfl h
 | some xl=>
  obtain⟨x,l⟩:=xl;rw[e] at h;dsimp only at h ⊢;cases e2:varM c x p with
  | none=>rw[e2] at h;exact absurd rfl h
  | some q=>
   rw[e2] at h;dsimp only at h ⊢;cases e3:withM l q v with
   | none=>rw[e3] at h;exact absurd rfl h
   | some r=>rw[e3] at h;exact⟨x,l,q,r,rfl,e2,e3,h,by rfl⟩
theorem set_any {m n0 : Nat} {n : Nd} {a_n : Option Addr} {c_n : Nat} (h:Fr B w (.cm bc bp k c::.pm bp q pg f p false::L)) (hc:CI k c n1) (hp:PI pg f m n0 p) (i j:Nat) (hi:L[i]?=some (.el NdE (ndc n.kind n.text n.num a_n n.kids.length c_n) n)) (hn:Nk n) (hs:sz n≤700) (hj:L[j]?=some (.el VaE [.int .i64 v.kind,.int .i64 v.num,.slice a_v v.names.length c_v,.slice pa_v v.parts.length pc_v] v)) (hr:R64 v.num) (hne:setM c n v p≠.stuck):Calls prog 43 #[ptr bc,.agg #[.int .i64 n.kind,.string n.text,.int .i64 n.num,.slice a_n n.kids.length c_n],.agg #[.int .i64 v.kind,.int .i64 v.num,.slice a_v v.names.length c_v,.slice pa_v v.parts.length pc_v]] w λ e w'=>∃c' p',setM c n v p=.ok c' p'∧CI k c' n1∧PI pg f m n0 p'∧e=.returned (.tuple #[])∧Fr B w' (.cm bc bp k c'::.pm bp q pg f p' false::L):=by
 obtain⟨x0,l0,q0,r0,hp1,hp2,hp3,hp4,hp5⟩:=setM_parts hne;have h0:=(((h.dup (j+2) hj).dup (i+3) hi).noEls StE 9 1)
 have HF:=h0;go_enter func43,ntmps43;replace HF:=aM HF w.heap.size n a_n c_n;replace HF:=aV HF (w.heap.size+1) v.kind v.num a_v v.names.length c_v pa_v v.parts.length pc_v;have HM:Hid (∃(y:Nd) (acc:List ByteArray) (a_y:Option Addr) (c_y:Nat),eX n []=eX y acc∧Nk y∧acc.length+sz y≤700∧Fr B ((w.alloc (.cells #[.int .i64 n.kind,.string n.text,.int .i64 n.num,.slice a_n n.kids.length c_n] 52)).alloc (.cells #[.int .i64 v.kind,.int .i64 v.num,.slice a_v v.names.length c_v,.slice pa_v v.parts.length pc_v] 48)) (.blk (w.heap.size+1) #[.int .i64 v.kind,.int .i64 v.num,.slice a_v v.names.length c_v,.slice pa_v v.parts.length pc_v] 48::.blk w.heap.size #[.int .i64 y.kind,.string y.text,.int .i64 y.num,.slice a_y y.kids.length c_y] 52::.els StE (Value.slice none 0 0) 9 1 acc.reverse::.el NdE (ndc y.kind y.text y.num a_y y.kids.length c_y) y::.el VaE [.int .i64 v.kind,.int .i64 v.num,.slice a_v v.names.length c_v,.slice pa_v v.parts.length pc_v] v::.cm bc bp k c::.pm bp q pg f p false::L)):=ah ⟨n,[],a_n,c_n,rfl,hn,by simpa using hs,HF⟩;have HP1:=ah hp1;have HP2:=ah hp2;have HP3:=ah hp3;have HP4:=ah hp4;have HP5:=ah hp5;have HC:=ah hc;have HPI:=ah hp;have HR:=ah hr;clear h h0 hp hp1 hp2 hp3 hp4 hp5 hne hc hi hj hn hs hr HF;go_wp2;go_loopw [6] (λ pv wr=>Hid (∃(y:Nd) (acc:List ByteArray) (a_y:Option Addr) (c_y:Nat),eX n []=eX y acc∧Nk y∧acc.length+sz y≤700∧Fr B wr (.blk (w.heap.size+1) #[.int .i64 v.kind,.int .i64 v.num,.slice a_v v.names.length c_v,.slice pa_v v.parts.length pc_v] 48::.blk w.heap.size #[.int .i64 y.kind,.string y.text,.int .i64 y.num,.slice a_y y.kids.length c_y] 52::.els StE pv 9 1 acc.reverse::.el NdE (ndc y.kind y.text y.num a_y y.kids.length c_y) y::.el VaE [.int .i64 v.kind,.int .i64 v.num,.slice a_v v.names.length c_v,.slice pa_v v.parts.length pc_v] v::.cm bc bp k c::.pm bp q pg f p false::L))) (λ pv _=>701 - lenV pv)
 case atStart=>exact HM
 clear HM;obtain⟨y,acc,a_y,c_y,hpy,hny,hsy,hf⟩:=hrel.out;clear hrel;have hsp:=fX y;obtain⟨na,nc,rfl,-,-⟩:=hf.elsForm 2 rfl;have hal:acc.reverse.length≤16000:=by rw[List.length_reverse];omega
 have HF:=hf;have HPY:=ah hpy;have HNY:=ah hny;have HSY:=ah hsy;clear hf hpy hny hsy;by_cases hk:y.kind=24
 ·have hq:(y.kind == 24)=true:=by simpa using hk
  have hkid:∃u,y.kids[0]?=some u∧eX y acc=eX u (y.text::acc)∧sz u<sz y∧u∈y.kids:=by
   have e1:=pathM_dot (acc:=acc) hk;cases e:y.kids with
   | nil=>rw[e] at e1;rw[HPY.out,e1] at HP1;cases HP1
   | cons u l=>exact⟨u,rfl,by rw[e1,e],by have:=bU y;rw[e] at this;simp only[szs] at this;omega,List.mem_cons_self ..⟩
  obtain⟨u,hku,hpu,hsu,hmu⟩:=hkid;have HPU:=ah hpu;have hnu:=HNY.kids u hmu;have HNU:=ah hnu;have htx:y.text.size≤maxLen:=Nat.le_trans HNY.text (by decide:4000≤maxLen);clear hk hpu hnu hmu;obtain⟨g_u,o_u,a_u,c_u,cur_u,f_u,ha_u,hc1,hc2,hk_u,hf⟩:=HF.kidK 3 rfl 0 hku;have HK_u:=ah hk_u;have hb_u:0<y.kids.length:=(List.getElem?_eq_some_iff.1 hku).1;have hbi_u:((0:Nat):Int)<(y.kids.length:Int):=by omega
  replace HF:=hf;clear hf hk_u hc1;replace HF:=HF.strEl y.text htx;subst ha_u;have c_t4:=HF.cell 4 rfl;go_wp2_with (at_builtin;first|(refine Fr.elAppL 22 T.info9 underlying22 rfl (by decide) (by decide) (HF.alloc (q:=wr.heap.size) (by simp) #[.string y.text] 9) 5 rfl (by omega) 0 rfl _ _ rfl rfl (by rfl) (by rfl) rfl rfl ?_;intro g3 cap3 w3 hF hgr;(try simp only[List.length_append,List.length_singleton,List.length_reverse] at hF);replace HF:=ah hF;clear hF hgr;have c_t4:=HF.cell 4 rfl;have f_t4:=HF.frz 4 rfl;obtain⟨e0,e1,e2,e3⟩:=aC (HF.knc 2 rfl) HK_u;(simp only[Nat.zero_mul,Nat.add_zero] at e0 e1 e2 e3);replace HF:=ah (HF.nd4 4 rfl (.int .i64 u.kind) (.string u.text) (.int .i64 u.num) (.slice a_u u.kids.length c_u))))
  go_roundw
  case rel=>exact ah ⟨u,y.text::acc,a_u,c_u,HPY.trans HPU,HNU,by have:=HSY.out;simp only[List.length_cons];omega,by rw[List.reverse_cons];exact Fr.move3 HF.lose⟩
  case measure=>(simp only[lenV,List.length_reverse];have:=HSY.out;omega)
 have hq:(y.kind == 24)=false:=by simpa using hk
 have hpe:=HPY.trans (pathM_end hk);rw[HP1.out] at hpe;obtain⟨rfl,rfl⟩:=Prod.mk.inj (Option.some.inj hpe);have HTX:=ah HNY.text;have HAL:Hid (l0.length≤16000):=by
  have:=HSY.out;show _≤_;omega
 clear hk hpe hal;rw[List.length_reverse] at *;have HF2:Fr B wr (.cm bc bp k c::.pm bp q pg f p false::.blk (w.heap.size+1) #[.int .i64 v.kind,.int .i64 v.num,.slice a_v v.names.length c_v,.slice pa_v v.parts.length pc_v] 48::.blk w.heap.size #[.int .i64 y.kind,.string y.text,.int .i64 y.num,.slice a_y y.kids.length c_y] 52::.els StE (.slice na l0.length nc) 9 1 l0.reverse::.el NdE (ndc y.kind y.text y.num a_y y.kids.length c_y) y::.el VaE [.int .i64 v.kind,.int .i64 v.num,.slice a_v v.names.length c_v,.slice pa_v v.parts.length pc_v] v::L):=HF.perm (List.Perm.trans (perm_out (i:=6) rfl) (List.Perm.trans (List.Perm.cons _ (perm_out (i:=5) rfl)) (List.Perm.swap _ _ _)));have HF:=HF2.give 4 rfl;clear HF2;have c_t4:=HF.cell 3 rfl;go_wp2_with fail;clear c_t4;go_at_call 61;refine (variable_any HF HC HPI.now y.text HTX HP2).mono ?_;rintro e w3 ⟨gv,ovv,rfl,hva,hf⟩;obtain⟨T,nT,cT,zT,xs,X,a_u,c_u,pa_u,pc_u,hru,hob,hxs,hfu,hback⟩:=Fr.varHole (L:=_::_) hf hva HP2 HPI.now;have HF:=hfu;have HXS:=ah hxs;have HOB:=ah hob;have HBACK:=ah hback;have HRU:=ah hru;clear hf hva hfu hxs hob hback hru;go_wp2_with fail;go_wp2;refine regK [8] HF (λ w h=>aI (h.cell 2 rfl) (four_row (h.rowAt 1 rfl) HOB HXS)) (λ wd4 HF hC=>?_);refine tq4 0 1 2 3 ?_;refine tq2 4 5 ?_;refine rq 6 λ K hK=>?_;go_simp;refine (with_any l0 0 4 6 HF rfl rfl rfl HAL HRU HR HP3).mono ?_;rintro e w8 ⟨a_z,c_z,pa_z,pc_z,rfl,r_z,hf⟩;have HF:=hf;clear hf;refine uq hK ⟨(HF.cell 3 rfl),(four_row (HF.rowAt 2 rfl) HOB HXS)⟩ λ hC=>?_;refine tq 7 ?_;refine rqb 8 λ K hK=>?_;obtain⟨q0e,q1e,q2e,q3e⟩:=four_row (HF.rowAt 2 rfl) HOB HXS;have hfz:=(HF.rowAt 2 rfl).frozenAt;obtain⟨c',p',he,hset,hf⟩:=HBACK _ _ _ _ _ _ HP4 HF.tail2.lose;have HE:=ah he;have HSET:=ah hset;clear he hset;go_simp;clear q0e q1e q2e q3e hfz;have HF:=hf;clear hf;refine ub hK ?_;refine dq ?_;go_wp2;go_end0
 exact⟨c',p',HP5.trans HE,⟨by rw[HSET.out.bl];exact HC.em,HC.N,by rw[HSET.out.lo];exact HC.lo,by rw[HSET.out.bl];exact HC.bl,HC.n,by rw[HSET.out.u];exact HC.un⟩,⟨by rw[HSET.out.now];exact HPI.now,by rw[HSET.out.steps];exact HPI.steps,HPI.f,by rw[HSET.out.steps,HSET.out.out];exact HPI.out.out,by rw[HSET.out.steps];exact HPI.from_⟩,rfl,HF.lose⟩
theorem Fr.cmUn (h:Fr B w L) (i:Nat) (hi:L[i]?=some (.cm bc bp k c)):∃a d,k.n0=.int .i64 c.u.node.kind∧k.n1=.string c.u.node.text∧k.n2=.int .i64 c.u.node.num∧k.n3=.slice a c.u.node.kids.length d∧Fr B w (.el NdE (ndc c.u.node.kind c.u.node.text c.u.node.num a c.u.node.kids.length d) c.u.node::L):=by
 have h1:=h.cmNd i hi;obtain⟨a,d,e⟩:=h1.ndForm 0 rfl;rw[e] at h1;injection e with e0 e
 injection e with e1 e
 injection e with e2 e
 injection e with e3 e
 exact⟨a,d,e0,e1,e2,e3,h1⟩
theorem made_any (h:Fr B w (.cm bc bp k c::L)) (hc:CI k c n1) (hdk:∀d,d∈c.u.node.kids→d.kids.length≤16000) (x:ByteArray) (hx:x.size≤4000) {vs : List Va} {pa : Option Addr} {pc : Nat} (i:Nat) (hi:L[i]?=some (.sl VaE (.slice pa vs.length pc) 48 4 vs)) (hvl:vs.length≤16000) (hv:madeM c.u x vs=some v):Calls prog 87 #[ptr bc,.string x,.slice pa vs.length pc] w (PVa B v (.cm bc bp k c::L)):=by
 obtain⟨jd,hjd,d,hd,rfl⟩:∃i,c.u.st x=some i∧∃d,c.u.node.kids[i]?=some d∧v=.mk 3 0 (d.kids.map Nd.text) vs:=by
  unfold madeM at hv;cases e:c.u.st x with
  | none=>rw[e] at hv;cases hv
  | some i=>
   rw[e] at hv;have hv:(c.u.node.kids[i]?).map (λ d=>Va.mk 3 0 (d.kids.map Nd.text) vs)=some v:=hv;cases e2:c.u.node.kids[i]? with
   | none=>rw[e2] at hv;cases hv
   | some d=>rw[e2] at hv;cases hv;exact⟨i,rfl,d,e2,rfl⟩
 have hnd:Nk d:=hc.un.kids d (List.mem_of_getElem? hd);have hxm:x.size≤maxLen:=Nat.le_trans hx (by decide:4000≤maxLen);obtain⟨ua,ud,h0n,h1n,h2n,h3n,hf0⟩:=h.cmUn 0 rfl;obtain⟨gu,ou,a_d,c_d,cur_d,f_d,rfl,hc1,hc2,hkd,hf1⟩:=hf0.kidK 0 rfl jd hd;have HN3:=ah h3n;have HKD:=ah hkd;have HND:=ah hnd;have HJD:=ah hjd;have hjl:=(List.getElem?_eq_some_iff.1 hd).1;have hjb:(jd:Int)<(c.u.node.kids.length:Int):=by omega
 obtain⟨gd2,od2,hda,hdl⟩:∃g o,(d.kids=[]∨a_d=some ⟨g,o,none⟩)∧True:=by
  by_cases e:d.kids=[]
  ·exact⟨0,0,Or.inl e,trivial⟩
  obtain⟨y,l,e2⟩:=List.exists_cons_of_ne_nil e;obtain⟨g,o,_,_,_,_,e3,_⟩:=hf1.kidK 0 rfl 0 (y:=y) (by rw[e2];rfl);exact⟨g,o,Or.inr e3,trivial⟩
 have HF:=hf1.noEls StE 9 1;have hdn:d.kids.length≤16000:=hdk d (List.mem_of_getElem? hd);have HV:=ah hvl;have hi':L[i]?=some (.sl VaE (.slice pa vs.length pc) 48 4 vs):=hi;clear h hf0 hf1 hc hv h3n hkd hnd hjd hd hjl hc1 hc2 h0n h1n h2n hda hdl hx hvl;go_enter func87,ntmps87;replace HF:=ax HF w.heap.size vz 48;replace HF:=ax HF (w.heap.size+1) #[.int .i64 3,.int .i64 0,(.slice none 0 0),.slice pa vs.length pc] 48;go_wp2_with fail;go_wp2;refine regK [] HF (λ w h=>⟨(HN3.out ▸ h.cmCell 6 rfl),((h.knc 4 rfl _).trans (HKD 3 (by omega)))⟩) (λ wd1 HF hC=>?_) (C:=λ w'=>(∀o,w'.cell? ⟨bc,o,none⟩=(#[ptr bp,k.n0,k.n1,k.n2,(.slice (some ⟨gu,ou,none⟩) c.u.node.kids.length ud),k.sg,k.nu,.map (some k.m1),.map (some k.m2),k.bv,k.lv,k.wv]:Array Value)[o]?)∧(w'.cell? ⟨gu,ou+jd*4+3,none⟩=some (.slice a_d d.kids.length c_d)));refine tq4 0 1 2 3 ?_;refine tq4 4 5 6 7 ?_;refine tq4 8 9 10 11 ?_;refine tq 17 ?_;refine rq 12 λ K hK=>?_;have hlk:=HF.cmSt 6 rfl x hxm;rw[HJD.out] at hlk;simp only[Option.getD_some] at hlk;go_simp;clear hlk;refine uq hK ⟨(HN3.out ▸ HF.cmCell 6 rfl),((HF.knc 4 rfl _).trans (HKD 3 (by omega)))⟩ λ hC=>?_;refine tq4 13 14 15 16 ?_;refine dq ?_;go_wp2;go_loopw [9,29] (λ_ iv wr=>Hid (∃(j:Nat) (nsv:Value),j≤d.kids.length∧iv=.int .i64 (j:Int)∧Fr B wr (.blk (w.heap.size+1) #[.int .i64 3,.int .i64 0,nsv,.slice pa vs.length pc] 48::.blk w.heap.size vz 48::.els StE nsv 9 1 ((d.kids.take j).map Nd.text)::.el NdE (ndc d.kind d.text d.num a_d d.kids.length c_d) d::.cm bc bp k c::L))) (λ_ iv _=>d.kids.length - (intOf iv).toNat)
 case atStart=>exact ah ⟨0,_,Nat.zero_le _,rfl,HF.lose⟩
 clear HF;obtain⟨j,nsv,hj,rfl,hf⟩:=hrel.out;clear hrel;obtain⟨na,nc,rfl,-,-⟩:=hf.elsForm 2 rfl;have hal:((d.kids.take j).map Nd.text).length≤16000:=by rw[List.length_map,List.length_take];omega
 have HF:=hf;clear hf;by_cases hlt:j<d.kids.length
 ·obtain⟨y,hy⟩:∃y,d.kids[j]?=some y:=⟨_,List.getElem?_eq_getElem hlt⟩
  have hyt:y.text.size≤maxLen:=Nat.le_trans (HND.kids y (List.mem_of_getElem? hy)).text (by decide:4000≤maxLen);have HTK:Hid ((d.kids.take (j+1)).map Nd.text=(d.kids.take j).map Nd.text++[y.text]):=by
   show _=_;rw[List.take_add_one,hy,List.map_append];rfl
  obtain⟨g_y,o_y,a_y,c_y,cur_y,f_y,ha_y,hc1,hc2,hk_y,hf⟩:=HF.kidK 3 rfl j hy;have HK_y:=ah hk_y;have hb_y:j<d.kids.length:=(List.getElem?_eq_some_iff.1 hy).1;have hbi_y:((j:Nat):Int)<(d.kids.length:Int):=by omega
  replace HF:=hf;clear hf hk_y hc1;subst ha_y;generalize (d.kids.take j).map Nd.text=NS at *;replace HF:=HF.strEl y.text hyt;have HLT:=ah hlt;clear hlt hy hyt;obtain⟨e0,e1,e2,e3⟩:=aC (HF.knc 2 rfl) HK_y;replace HF:=aM HF wr.heap.size y a_y c_y;have c_v:=HF.cell 4 rfl;have c_y9:=HF.cell 0 rfl;have f_v:=HF.frz 4 rfl;go_wp2_with (at_builtin;first|(refine Fr.elAppL 22 T.info9 underlying22 rfl (by decide) (by decide) (HF.alloc (q:=wr.heap.size+1) (by simp) #[.string y.text] 9) 6 rfl hal 1 rfl _ _ rfl rfl (by rfl) (by rfl) rfl rfl ?_;intro g6 cap6 w6 hF hgr;(try simp only[List.length_append,List.length_singleton,List.length_reverse] at hF);replace HF:=ah hF;clear hF hgr;have c_v:=HF.cell 4 rfl;have f_v:=HF.frz 4 rfl;replace HF:=ah (HF.set 4 rfl 2 (.slice (some ⟨g6,0,none⟩) (NS.length+1) cap6))))
  go_roundw
  case rel=>exact ah ⟨j+1,_,HLT,rfl,by rw[HTK.out];exact HF.lose⟩
  case measure=>simp only[intOf];omega
 have hjn:j=d.kids.length:=by omega
 have hE:Hid ((d.kids.take j).map Nd.text=d.kids.map Nd.text):=by
  show _=_;rw[hjn,List.take_length]
 generalize (d.kids.take j).map Nd.text=NS at *;subst hjn;have hli:¬ (d.kids.length:Int)<(d.kids.length:Int):=by omega
 have c_v:=HF.cell 0 rfl;obtain⟨c_r,f_r⟩:=cf HF 1;replace HF:=sV HF 1 3 0 na NS.length nc pa vs.length pc;go_wp2;clear c_v c_r f_r;refine br (rt48 results87 rfl (HF.blkAt 1 rfl)) ?_;have hfg:=HF.give 2 rfl;rw[hE.out] at hfg ⊢;exact PVa.got (v:=.mk 3 0 (d.kids.map Nd.text) vs) zero_R64 ((hfg.vaOf 2 (i+5) rfl hi' 3 0 (by decide) (by decide) HV).lose)
end Go.Proofs.YtdnhbedbpbgeeaaGreatDoor.K
