/- 2 -/
import Derived.Test.YtdnhbedbpbgeeaaGreatDoorMAb
import Derived.Shelf.Strings.Builder1
import Derived.Shelf.Strings.Builder2
import Derived.Shelf.Strings.OnBuilder
import Derived.Shelf.Small.Wraps
import Derived.Shelf.Strings.BuilderF
import Derived.Shelf.Strings.BuilderK
import Derived.Shelf.Strconv.Itoa0
import Derived.Shelf.Strconv.Itoa1
import Derived.Shelf.LaysM
import Derived.Shelf.Strconv.Itoa2
import Derived.Shelf.Strconv.Itoa3
import Derived.Shelf.Strconv.ParseIntEmpty
import Derived.Shelf.Strconv.Clone
import Derived.Shelf.Strconv.SyntaxError
import Derived.Shelf.LaysC
import Derived.Shelf.Strconv.ToError
import Derived.Shelf.Strconv.Lower
import Derived.Shelf.Strconv.ParseUint10
import Derived.Shelf.Strconv.ParseUint10Empty
import Derived.Shelf.Strconv.ParseUint10Any
import Derived.Shelf.Strconv.ParseInt10
import Derived.Shelf.Strconv.RangeError
import Derived.Shelf.Strconv.ToErrorRange
import Derived.Shelf.Strconv.ParseUintEmpty
import Derived.Shelf.Strconv.ParseUint10b64
import Derived.Shelf.Strconv.ParseUint10b32
import Derived.Shelf.Strconv.ParseUint10b16
import Derived.Shelf.Strconv.ParseUint10b8
import Derived.Shelf.Strconv.ParseUint10At
import Derived.Shelf.Strconv.ParseInt10At64
import Derived.Shelf.Strconv.ParseInt10At32
import Derived.Shelf.Strconv.ParseInt10At16
import Derived.Shelf.Strconv.ParseInt10At8
import Derived.Shelf.Strconv.ParseInt10All
import Derived.Shelf.Strconv.ParseIntPublic10
import Derived.Shelf.Strings.Search1
import Derived.Shelf.Strings.Search2
import Derived.Shelf.Strings.Search3
import Derived.Shelf.Strings.Shaped
import Derived.Shelf.Strings.Prefix
import Derived.Shelf.Slices.Turned
import Derived.Ground.Names2Prog
import Derived.Shelf.Slices.Clone
import Derived.Ground.SlgnProg
import Derived.Shelf.SlicesE.Clone
import Derived.Test.YtdnhbedbpbgeeaaGreatDoorProg
import Derived.Deep.RegionWith
import Derived.Deep.DeepCutAuto
import Derived.Deep.LoopGhost
set_option maxRecDepth 100000
set_option maxHeartbeats 8000000
set_option linter.all false
namespace Go.Proofs.YtdnhbedbpbgeeaaGreatDoor.K
open Go.RowKit Go.Proofs.Tryz
variable {E : List Tok→Q Nd} {N : Nat}
variable {B : Bs} {w w' : World} {L : List Rs} {b : Nat} {ts : List Tok} {t : Tok}
def leftOf (w:World)(b:Nat):Nat:=match w.cell? ⟨b,0,none⟩ with|some (.slice _ n _)=>n|_=>0
theorem Fr.left (h:Fr B w (.ps b ts::L)):leftOf w b=ts.length:=by
 obtain⟨a,c,m,h1,-⟩:=h.psAt;have:=aA h1 0;unfold leftOf;rw[this];rfl
def rowF (E:List Tok→Q Nd)(firm:Int)(ts:List Tok):Q Nd:=(E ts).bind λ n r=>rowQ E firm (r.length+1) n r
theorem row_208 (hE:Meth 208 Ex E N) (h:Fr B w (.ps b ts::L)) (hN:ts.length<N) (firm:Int):Calls prog 201 #[ptr b,.func (.func 208) #[ptr b] #[],.int .i64 firm] w (PN Ex (rowF E firm ts) ts.length B b L):=by
 have hal0:=h.tokAll.1;have HF:=ah h;have HE:=ah hE;clear h hE;go_enter func201,ntmps201;replace HF:=ah (HF.box (q:=w.heap.size) rfl ndz 52);go_wp2_with fail;go_at_call 208;refine (HE _ _ _ _ _ (by omega) HF).mono ?_;rintro e w1 (⟨r1,h3,rfl,hf⟩|⟨x,r1,a_x,n_x,c_x,h3,hl1,hS,rfl,hf⟩)
 ·exact⟨rfl,PN.no (by simp +decide only [rowF,Q.bind,h3,↓reduceIte,reduceCtorEq]) hf.lose⟩
 have H1:=ah h3;have HS_x:=ah hS;replace HF:=ah hf;clear h3 hf hS;replace HF:=ah (HF.box (q:=w1.heap.size) rfl #[.int .i64 x.kind,.string x.text,.int .i64 x.num,.slice a_x n_x c_x] 52);go_wp2;generalize w1.heap.size=q7 at *;generalize w1.alloc (.cells #[.int .i64 x.kind,.string x.text,.int .i64 x.num,.slice a_x n_x c_x] 52)=ws at *;go_loopw [12] (λ_ wr=>Hid (∃m n r a kn c,r.length<m∧r.length<ts.length∧rowF E firm ts=rowQ E firm m n r∧Ex n∧Fr B wr (.ps b r::.blk q7 #[.int .i64 n.kind,.string n.text,.int .i64 n.num,.slice a kn c] 52::.el NdE (ndc n.kind n.text n.num a kn c) n::.blk w.heap.size ndz 52::L))) (λ_ wr=>leftOf wr b)
 case atStart=>exact⟨_,x,r1,a_x,n_x,c_x,Nat.lt_succ_self _,by omega,by simp +decide only [rowF,Q.bind,H1.out,↓reduceIte,reduceCtorEq],HS_x,HF⟩
 clear HF;obtain⟨m,n,r,a_n,n_n,c_n,hm,hlr,heq,hS,hf⟩:=hrel.out;clear hrel;obtain⟨m,rfl⟩:∃k,m=k+1:=⟨m - 1,by omega⟩
 have hleft:=ah hf.left;have HEq:=ah heq;have HSn:=ah hS;have HF:=ah hf;clear heq hS hf;go_wp2_with fail;go_at_call 195;refine (operator_any HF firm).mono ?_;rintro e w3 (⟨op,hop,hlt,ho0,ho1,rfl,hf⟩|⟨hop,rfl,hf⟩)
 ·have HOp:=ah hop;replace HF:=ah hf;clear hop hf;go_wp2;refine regK [5] HF (λ w h=>(h.cell 1 rfl)) (λ wd4 HF hC=>?_);refine tq3 0 1 2 ?_;refine rq 3 λ K hK=>?_;go_simp;refine (HE _ _ _ _ _ (by omega) HF).mono ?_;rintro e w5 (⟨r5,h3,rfl,hf⟩|⟨y,r5,a_y,n_y,c_y,h3,hl5,hS,rfl,hf⟩)
  ·exact⟨rfl,PN.no (by simp +decide only [Q.bind,HEq.out,rowQ,HOp.out,h3,↓reduceIte,reduceCtorEq]) hf.lose⟩
  have H5:=ah h3;have HS_y:=ah hS;replace HF:=ah hf;clear h3 hf hS;refine uq hK (HF.cell 2 rfl) λ hC=>?_;refine rq 4 λ K hK=>?_;go_simp;refine (operation_any HF 3 1 rfl rfl op).mono ?_;rintro e w6 ⟨g,rfl,hf⟩;replace HF:=ah hf.swap;clear hf;refine uq hK (HF.cell 3 rfl) λ hC=>?_;refine rqb 5 λ K hK=>?_;have c_cur:=HF.cell 3 rfl;have f_cur:=HF.frz 3 rfl;replace HF:=ah (HF.nd4 3 rfl (.int .i64 32) (.string eB) (.int .i64 op) (.slice (some ⟨g,0,none⟩) 2 2));go_simp;refine ub hK ?_;refine dq ?_;go_wp2;go_roundw
  case rel=>exact⟨m,.mk 32 eB op [n,y],r5,some ⟨g,0,none⟩,2,2,by omega,by omega,by simp +decide only [Q.bind,HEq.out,rowQ,HOp.out,H5.out,↓reduceIte,reduceCtorEq],.op op n y ho0 ho1 HSn HS_y,(HF.perm (List.Perm.cons _ (List.Perm.trans (List.Perm.cons _ (List.Perm.swap _ _ _)) (List.Perm.swap _ _ _)))).lose⟩
  case measure=>rw[hleft.out,HF.out.left];omega
 have HOp:=ah hop;replace HF:=ah hf;clear hop hf;have c_cur:=HF.cell 1 rfl;have c_res:=HF.cell 3 rfl;have f_res:=HF.frz 3 rfl;replace HF:=ah (HF.nd4 3 rfl (.int .i64 n.kind) (.string n.text) (.int .i64 n.num) (.slice a_n n_n c_n));go_wp2;refine br (rt52 results201 rfl (HF.blkAt 3 rfl)) ?_;exact PN.yes (r:=r) (by simp +decide only [Q.bind,HEq.out,rowQ,HOp.out,↓reduceIte,reduceCtorEq]) (by omega) HSn HF.lose
theorem row_202 (hE:Meth 202 Ex E N) (h:Fr B w (.ps b ts::L)) (hN:ts.length<N) (firm:Int):Calls prog 201 #[ptr b,.func (.func 202) #[ptr b] #[],.int .i64 firm] w (PN Ex (rowF E firm ts) ts.length B b L):=by
 have hal0:=h.tokAll.1;have HF:=ah h;have HE:=ah hE;clear h hE;go_enter func201,ntmps201;replace HF:=ah (HF.box (q:=w.heap.size) rfl ndz 52);go_wp2_with fail;go_at_call 202;refine (HE _ _ _ _ _ (by omega) HF).mono ?_;rintro e w1 (⟨r1,h3,rfl,hf⟩|⟨x,r1,a_x,n_x,c_x,h3,hl1,hS,rfl,hf⟩)
 ·exact⟨rfl,PN.no (by simp +decide only [rowF,Q.bind,h3,↓reduceIte,reduceCtorEq]) hf.lose⟩
 have H1:=ah h3;have HS_x:=ah hS;replace HF:=ah hf;clear h3 hf hS;replace HF:=ah (HF.box (q:=w1.heap.size) rfl #[.int .i64 x.kind,.string x.text,.int .i64 x.num,.slice a_x n_x c_x] 52);go_wp2;generalize w1.heap.size=q7 at *;generalize w1.alloc (.cells #[.int .i64 x.kind,.string x.text,.int .i64 x.num,.slice a_x n_x c_x] 52)=ws at *;go_loopw [12] (λ_ wr=>Hid (∃m n r a kn c,r.length<m∧r.length<ts.length∧rowF E firm ts=rowQ E firm m n r∧Ex n∧Fr B wr (.ps b r::.blk q7 #[.int .i64 n.kind,.string n.text,.int .i64 n.num,.slice a kn c] 52::.el NdE (ndc n.kind n.text n.num a kn c) n::.blk w.heap.size ndz 52::L))) (λ_ wr=>leftOf wr b)
 case atStart=>exact⟨_,x,r1,a_x,n_x,c_x,Nat.lt_succ_self _,by omega,by simp +decide only [rowF,Q.bind,H1.out,↓reduceIte,reduceCtorEq],HS_x,HF⟩
 clear HF;obtain⟨m,n,r,a_n,n_n,c_n,hm,hlr,heq,hS,hf⟩:=hrel.out;clear hrel;obtain⟨m,rfl⟩:∃k,m=k+1:=⟨m - 1,by omega⟩
 have hleft:=ah hf.left;have HEq:=ah heq;have HSn:=ah hS;have HF:=ah hf;clear heq hS hf;go_wp2_with fail;go_at_call 195;refine (operator_any HF firm).mono ?_;rintro e w3 (⟨op,hop,hlt,ho0,ho1,rfl,hf⟩|⟨hop,rfl,hf⟩)
 ·have HOp:=ah hop;replace HF:=ah hf;clear hop hf;go_wp2;refine regK [5] HF (λ w h=>(h.cell 1 rfl)) (λ wd4 HF hC=>?_);refine tq3 0 1 2 ?_;refine rq 3 λ K hK=>?_;go_simp;refine (HE _ _ _ _ _ (by omega) HF).mono ?_;rintro e w5 (⟨r5,h3,rfl,hf⟩|⟨y,r5,a_y,n_y,c_y,h3,hl5,hS,rfl,hf⟩)
  ·exact⟨rfl,PN.no (by simp +decide only [Q.bind,HEq.out,rowQ,HOp.out,h3,↓reduceIte,reduceCtorEq]) hf.lose⟩
  have H5:=ah h3;have HS_y:=ah hS;replace HF:=ah hf;clear h3 hf hS;refine uq hK (HF.cell 2 rfl) λ hC=>?_;refine rq 4 λ K hK=>?_;go_simp;refine (operation_any HF 3 1 rfl rfl op).mono ?_;rintro e w6 ⟨g,rfl,hf⟩;replace HF:=ah hf.swap;clear hf;refine uq hK (HF.cell 3 rfl) λ hC=>?_;refine rqb 5 λ K hK=>?_;have c_cur:=HF.cell 3 rfl;have f_cur:=HF.frz 3 rfl;replace HF:=ah (HF.nd4 3 rfl (.int .i64 32) (.string eB) (.int .i64 op) (.slice (some ⟨g,0,none⟩) 2 2));go_simp;refine ub hK ?_;refine dq ?_;go_wp2;go_roundw
  case rel=>exact⟨m,.mk 32 eB op [n,y],r5,some ⟨g,0,none⟩,2,2,by omega,by omega,by simp +decide only [Q.bind,HEq.out,rowQ,HOp.out,H5.out,↓reduceIte,reduceCtorEq],.op op n y ho0 ho1 HSn HS_y,(HF.perm (List.Perm.cons _ (List.Perm.trans (List.Perm.cons _ (List.Perm.swap _ _ _)) (List.Perm.swap _ _ _)))).lose⟩
  case measure=>rw[hleft.out,HF.out.left];omega
 have HOp:=ah hop;replace HF:=ah hf;clear hop hf;have c_cur:=HF.cell 1 rfl;have c_res:=HF.cell 3 rfl;have f_res:=HF.frz 3 rfl;replace HF:=ah (HF.nd4 3 rfl (.int .i64 n.kind) (.string n.text) (.int .i64 n.num) (.slice a_n n_n c_n));go_wp2;refine br (rt52 results201 rfl (HF.blkAt 3 rfl)) ?_;exact PN.yes (r:=r) (by simp +decide only [Q.bind,HEq.out,rowQ,HOp.out,↓reduceIte,reduceCtorEq]) (by omega) HSn HF.lose
theorem product_any (hE:Meth 208 Ex E N) (h:Fr B w (.ps b ts::L)) (hN:ts.length<N):Calls prog 202 #[ptr b] w (PN Ex (rowF E 2 ts) ts.length B b L):=by
 have HF:=ah h;have HE:=ah hE;clear h hE;go_enter func202,ntmps202;replace HF:=ah (HF.box (q:=w.heap.size) rfl ndz 52);go_wp2_with fail;go_at_call 201;refine (row_208 HE HF (by omega) 2).mono ?_;rintro e w1 (⟨r,h3,rfl,hf⟩|⟨x,r,a_x,n_x,c_x,h3,hl,hS,rfl,hf⟩)
 ·exact⟨rfl,PN.no h3 hf.lose⟩
 replace HF:=ah hf;have H3:=ah h3;have HS:=ah hS;clear hf h3 hS;have c0:=HF.cell 2 rfl;have f0:=HF.frz 2 rfl;replace HF:=ah (HF.nd4 2 rfl (.int .i64 x.kind) (.string x.text) (.int .i64 x.num) (.slice a_x n_x c_x));go_wp2;refine br (rt52 results202 rfl (HF.blkAt 2 rfl)) ?_;exact PN.yes H3 hl HS HF.lose
theorem sum_any (hE:Meth 202 Ex E N) (h:Fr B w (.ps b ts::L)) (hN:ts.length<N):Calls prog 194 #[ptr b] w (PN Ex (rowF E 1 ts) ts.length B b L):=by
 have HF:=ah h;have HE:=ah hE;clear h hE;go_enter func194,ntmps194;replace HF:=ah (HF.box (q:=w.heap.size) rfl ndz 52);go_wp2_with fail;go_at_call 201;refine (row_202 HE HF (by omega) 1).mono ?_;rintro e w1 (⟨r,h3,rfl,hf⟩|⟨x,r,a_x,n_x,c_x,h3,hl,hS,rfl,hf⟩)
 ·exact⟨rfl,PN.no h3 hf.lose⟩
 replace HF:=ah hf;have H3:=ah h3;have HS:=ah hS;clear hf h3 hS;have c0:=HF.cell 2 rfl;have f0:=HF.frz 2 rfl;replace HF:=ah (HF.nd4 2 rfl (.int .i64 x.kind) (.string x.text) (.int .i64 x.num) (.slice a_x n_x c_x));go_wp2;refine br (rt52 results194 rfl (HF.blkAt 2 rfl)) ?_;exact PN.yes H3 hl HS HF.lose
theorem expr_step (hE:Meth 208 Ex E N) (h:Fr B w (.ps b ts::L)) (hN:ts.length<N):Calls prog 189 #[ptr b] w (PN Ex (exprS E ts) ts.length B b L):=by
 have hal0:=h.tokAll.1;have HF:=ah h;have HE:Hid (Meth 194 Ex (sumQ E) N):=λ B w b ts L hl h=>sum_any (λ B w b ts L hl h=>product_any hE h hl) h hl;clear h hE;go_enter func189,ntmps189;replace HF:=ah (HF.box (q:=w.heap.size) rfl ndz 52);go_wp2_with fail;go_at_call 194;refine (HE _ _ _ _ _ (by omega) HF).mono ?_;rintro e w1 (⟨r1,h3,rfl,hf⟩|⟨x,r1,a_x,n_x,c_x,h3,hl1,hS,rfl,hf⟩)
 ·exact⟨rfl,PN.no (by simp +decide only [exprS,Q.bind,h3,↓reduceIte,reduceCtorEq]) hf.lose⟩
 have H1:=ah h3;have HS_x:=ah hS;replace HF:=ah hf;clear h3 hf hS;replace HF:=ah (HF.box (q:=w1.heap.size) rfl #[.int .i64 x.kind,.string x.text,.int .i64 x.num,.slice a_x n_x c_x] 52);go_wp2_with fail;go_at_call 195;refine (operator_any HF 0).mono ?_;rintro e w2 (⟨op,hop,hlt,ho0,ho1,rfl,hf⟩|⟨hop,rfl,hf⟩)
 ·have HOp:=ah hop;replace HF:=ah hf;clear hop hf;go_wp2;refine regK [5] HF (λ w h=>(h.cell 1 rfl)) (λ wd3 HF hC=>?_);refine tq3 0 1 2 ?_;refine rq 3 λ K hK=>?_;go_simp;refine (HE _ _ _ _ _ (by omega) HF).mono ?_;rintro e w4 (⟨r4,h3,rfl,hf⟩|⟨y,r4,a_y,n_y,c_y,h3,hl4,hS,rfl,hf⟩)
  ·exact⟨rfl,PN.no (by simp +decide only [exprS,Q.bind,H1.out,HOp.out,h3,↓reduceIte,reduceCtorEq]) hf.lose⟩
  have H4:=ah h3;have HS_y:=ah hS;replace HF:=ah hf;clear h3 hf hS;refine uq hK (HF.cell 2 rfl) λ hC=>?_;refine rq 4 λ K hK=>?_;go_simp;refine (operation_any HF 3 1 rfl rfl op).mono ?_;rintro e w5 ⟨g,rfl,hf⟩;replace HF:=ah hf.swap;clear hf;refine uq hK (HF.cell 3 rfl) λ hC=>?_;refine rqb 5 λ K hK=>?_;have c_cur:=HF.cell 3 rfl;have f_cur:=HF.frz 3 rfl;replace HF:=ah (HF.nd4 3 rfl (.int .i64 32) (.string eB) (.int .i64 op) (.slice (some ⟨g,0,none⟩) 2 2));go_simp;refine ub hK ?_;refine dq ?_;clear c_cur f_cur;have c_cur:=HF.cell 3 rfl;have c_res:=HF.cell 5 rfl;have f_res:=HF.frz 5 rfl;replace HF:=ah (HF.nd4 5 rfl (.int .i64 32) (.string eB) (.int .i64 op) (.slice (some ⟨g,0,none⟩) 2 2));go_wp2;refine br (rt52 results189 rfl (HF.blkAt 5 rfl)) ?_;exact PN.yes (n:=.mk 32 eB op [x,y]) (r:=r4) (by simp +decide only [exprS,Q.bind,H1.out,HOp.out,H4.out,↓reduceIte,reduceCtorEq]) (by omega) (.op op x y ho0 ho1 HS_x HS_y) HF.lose
 have HOp:=ah hop;replace HF:=ah hf;clear hop hf;have c_cur:=HF.cell 1 rfl;have c_res:=HF.cell 3 rfl;have f_res:=HF.frz 3 rfl;replace HF:=ah (HF.nd4 3 rfl (.int .i64 x.kind) (.string x.text) (.int .i64 x.num) (.slice a_x n_x c_x));go_wp2;refine br (rt52 results189 rfl (HF.blkAt 3 rfl)) ?_;exact PN.yes (r:=r1) (by simp +decide only [exprS,Q.bind,H1.out,HOp.out,↓reduceIte,reduceCtorEq]) (by omega) HS_x HF.lose
end Go.Proofs.YtdnhbedbpbgeeaaGreatDoor.K
namespace Go.Proofs
section
open Go.Shelf
def Tryz.lays156_ren:Go.Shelf.Ren:=⟨fun|156=>85|165=>114|166=>115|169=>116|240=>135|241=>136|276=>159|277=>160|n=>n,fun|31=>22|9=>9|3=>3|4=>4|0=>0|20=>20|72=>175|76=>178|70=>172|37=>173|75=>177|127=>200|164=>217|5=>5|80=>180|n=>n,fun|n=>n⟩
theorem Tryz.lays156:Go.Proofs.Lays.n156 Tryz.prog Tryz.lays156_ren:={
 mixed:=by kernel_rfl
 f156:=Tryz.func85.trans (congrArg some (by kernel_rfl))
 f165:=Tryz.func114.trans (congrArg some (by kernel_rfl))
 f166:=Tryz.func115.trans (congrArg some (by kernel_rfl))
 f169:=Tryz.func116.trans (congrArg some (by kernel_rfl))
 f240:=Tryz.func135.trans (congrArg some (by kernel_rfl))
 f241:=Tryz.func136.trans (congrArg some (by kernel_rfl))
 f276:=Tryz.func159.trans (congrArg some (by kernel_rfl))
 f277:=Tryz.func160.trans (congrArg some (by kernel_rfl))
 t0:=Tryz.underlying0
 a0:=Tryz.isAgg0
 z0:=Tryz.sizeOf0
 v0:=Tryz.zeroValue0
 t3:=Tryz.underlying3
 a3:=Tryz.isAgg3
 z3:=Tryz.sizeOf3
 v3:=Tryz.zeroValue3
 t4:=Tryz.underlying4
 a4:=Tryz.isAgg4
 z4:=Tryz.sizeOf4
 v4:=Tryz.zeroValue4
 t9:=Tryz.underlying9
 a9:=Tryz.isAgg9
 z9:=Tryz.sizeOf9
 v9:=Tryz.zeroValue9
 t20:=Tryz.underlying20
 a20:=Tryz.isAgg20
 z20:=Tryz.sizeOf20
 v20:=Tryz.zeroValue20
 t31:=Tryz.underlying22
 a31:=Tryz.isAgg22
 z31:=Tryz.sizeOf22
 v31:=Tryz.zeroValue22
 t37:=Tryz.underlying173
 a37:=Tryz.isAgg173
 z37:=Tryz.sizeOf173
 v37:=Tryz.zeroValue173
 t70:=Tryz.underlying172
 a70:=Tryz.isAgg172
 z70:=Tryz.sizeOf172
 v70:=Tryz.zeroValue172
 t72:=Tryz.underlying175
 a72:=Tryz.isAgg175
 z72:=Tryz.sizeOf175
 v72:=Tryz.zeroValue175
 t75:=Tryz.underlying177
 a75:=Tryz.isAgg177
 z75:=Tryz.sizeOf177
 v75:=Tryz.zeroValue177
 t76:=Tryz.underlying178
 a76:=Tryz.isAgg178
 z76:=Tryz.sizeOf178
 v76:=Tryz.zeroValue178
 t127:=Tryz.underlying200
 a127:=Tryz.isAgg200
 z127:=Tryz.sizeOf200
 v127:=Tryz.zeroValue200
 t164:=Tryz.underlying217
 a164:=Tryz.isAgg217
 z164:=Tryz.sizeOf217
 v164:=Tryz.zeroValue217 }
theorem Tryz.Builder_Extra_156:Builder.Extra Tryz.prog Tryz.lays156_ren:={
 sizeBuilder:=by kernel_rfl
 liesBuilder:=by kernel_rfl
 t5:=Tryz.underlying5
 a5:=Tryz.isAgg5
 z5:=Tryz.sizeOf5
 v5:=Tryz.zeroValue5
 infoByte:=by kernel_rfl
 cellsByte:=by kernel_rfl
 sizeByte:=by kernel_rfl
 neB5:=by decide }
open Go.RowKit in
theorem Tryz.strings_Join_none (a:Option Addr) (c:Nat) (sep:ByteArray) (w:World):
  Calls Tryz.prog 85 #[.slice a 0 c,.string sep] w λ e w'=>e=.returned (.string ⟨#[]⟩)∧w'=w:=Any.strings_Join_none Tryz.lays156 Tryz.Builder_Extra_156 a c sep w
open Go.RowKit in
theorem Tryz.strings_Join (bk o c:Nat) (xs:List ByteArray) (sep:ByteArray) (w:World) (hcells:∀(j:Nat) x,xs[j]?=some x→w.cell? ⟨bk,o+j,none⟩=some (.string x)) (hbk:bk<w.heap.size) (hN:xs.length≤140737488355328) (hcap:xs.length≤c) (hlen:(Lib.join (xs.map (·.data.toList)) sep.data.toList).length≤140737488355328):
  Calls Tryz.prog 85 #[.slice (some ⟨bk,o,none⟩) xs.length c,.string sep] w λ e w'=>e=.returned (.string ⟨(Lib.join (xs.map (·.data.toList)) sep.data.toList).toArray⟩)∧Below w.heap.size w w':=Any.strings_Join Tryz.lays156 Tryz.Builder_Extra_156 bk o c xs sep w hcells hbk hN hcap hlen
def Tryz.lays104_ren:Go.Shelf.Ren:=⟨fun|104=>122|211=>144|207=>163|n=>n,fun|9=>9|4=>4|24=>190|3=>3|n=>n,fun|n=>n⟩
theorem Tryz.lays104:Go.Proofs.Lays.n104 Tryz.prog Tryz.lays104_ren:={
 mixed:=by kernel_rfl
 f104:=Tryz.func122.trans (congrArg some (by kernel_rfl))
 f207:=Tryz.func163.trans (congrArg some (by kernel_rfl))
 f211:=Tryz.func144.trans (congrArg some (by kernel_rfl))
 t3:=Tryz.underlying3
 a3:=Tryz.isAgg3
 z3:=Tryz.sizeOf3
 v3:=Tryz.zeroValue3
 t4:=Tryz.underlying4
 a4:=Tryz.isAgg4
 z4:=Tryz.sizeOf4
 v4:=Tryz.zeroValue4
 t9:=Tryz.underlying9
 a9:=Tryz.isAgg9
 z9:=Tryz.sizeOf9
 v9:=Tryz.zeroValue9
 t24:=Tryz.underlying190
 a24:=Tryz.isAgg190
 z24:=Tryz.sizeOf190
 v24:=Tryz.zeroValue190 }
open Go.RowKit in
theorem Tryz.strings_CutSuffix (s p:ByteArray) (w:World) (hs:s.size≤9223372036854775807):
  Calls Tryz.prog 122 #[.string s,.string p] w λ e w'=>e=.returned (.tuple #[.string ⟨(Lib.trimSuffix s.data.toList p.data.toList).toArray⟩,.bool (Lib.hasSuffix s.data.toList p.data.toList)])∧w'=w:=Any.strings_CutSuffix Tryz.lays104 s p w hs
def Tryz.laysM316_ren:Go.Shelf.Ren:=⟨fun|316=>162|n=>n,fun|9=>9|3=>3|4=>4|37=>173|0=>0|127=>200|5=>5|n=>n,fun|n=>n⟩
theorem Tryz.laysM316:Go.Proofs.LaysM.n316 Tryz.prog Tryz.laysM316_ren:={
 mixed:=by kernel_rfl
 f316:=Tryz.func162.trans (congrArg some (by kernel_rfl))
 t0:=Tryz.underlying0
 a0:=Tryz.isAgg0
 z0:=Tryz.sizeOf0
 v0:=Tryz.zeroValue0
 t3:=Tryz.underlying3
 a3:=Tryz.isAgg3
 z3:=Tryz.sizeOf3
 v3:=Tryz.zeroValue3
 t4:=Tryz.underlying4
 a4:=Tryz.isAgg4
 z4:=Tryz.sizeOf4
 v4:=Tryz.zeroValue4
 t9:=Tryz.underlying9
 a9:=Tryz.isAgg9
 z9:=Tryz.sizeOf9
 v9:=Tryz.zeroValue9
 t37:=Tryz.underlying173
 a37:=Tryz.isAgg173
 z37:=Tryz.sizeOf173
 v37:=Tryz.zeroValue173
 t127:=Tryz.underlying200
 a127:=Tryz.isAgg200
 z127:=Tryz.sizeOf200
 v127:=Tryz.zeroValue200
 t5:=Tryz.underlying5
 a5:=Tryz.isAgg5
 z5:=Tryz.sizeOf5
 v5:=Tryz.zeroValue5
 i0:=by kernel_rfl
 i3:=by kernel_rfl
 i4:=by kernel_rfl
 i5:=by kernel_rfl
 i9:=by kernel_rfl
 i37:=by kernel_rfl
 i127:=by kernel_rfl }
open Go.RowKit in
theorem Tryz.stringslite_Clone (s:ByteArray) (w:World) (hlim:s.size≤281474976710656):
  Calls Tryz.prog 162 #[.string s] w λ e w'=>e=.returned (.string s)∧Below w.heap.size w w':=Any.stringslite_Clone Tryz.laysM316 s w hlim
def Tryz.laysC174_ren:Go.Shelf.Ren:=⟨fun|174=>124|247=>145|245=>146|287=>164|279=>165|280=>166|281=>167|282=>168|321=>178|322=>179|316=>162|171=>181|205=>180|243=>191|246=>200|283=>204|284=>205|285=>206|286=>207|129=>210|317=>209|318=>211|319=>212|320=>213|337=>215|338=>216|n=>n,fun|9=>9|3=>3|2=>2|75=>177|85=>192|4=>4|167=>221|5=>5|53=>202|175=>222|46=>104|168=>224|37=>173|0=>0|210=>233|21=>21|127=>200|145=>244|143=>242|171=>255|173=>258|212=>261|51=>203|20=>20|213=>262|232=>265|233=>266|80=>180|n=>n,fun|15=>1|16=>2|17=>4|18=>5|19=>6|n=>n⟩
theorem Tryz.laysC174:Go.Proofs.LaysC.n174 Tryz.prog Tryz.laysC174_ren:={
 mixed:=by kernel_rfl
 f129:=Tryz.func210.trans (congrArg some (by kernel_rfl))
 f171:=Tryz.func181.trans (congrArg some (by kernel_rfl))
 f174:=Tryz.func124.trans (congrArg some (by kernel_rfl))
 f205:=Tryz.func180.trans (congrArg some (by kernel_rfl))
 f243:=Tryz.func191.trans (congrArg some (by kernel_rfl))
 f245:=Tryz.func146.trans (congrArg some (by kernel_rfl))
 f246:=Tryz.func200.trans (congrArg some (by kernel_rfl))
 f247:=Tryz.func145.trans (congrArg some (by kernel_rfl))
 f279:=Tryz.func165.trans (congrArg some (by kernel_rfl))
 f280:=Tryz.func166.trans (congrArg some (by kernel_rfl))
 f281:=Tryz.func167.trans (congrArg some (by kernel_rfl))
 f282:=Tryz.func168.trans (congrArg some (by kernel_rfl))
 f283:=Tryz.func204.trans (congrArg some (by kernel_rfl))
 f284:=Tryz.func205.trans (congrArg some (by kernel_rfl))
 f285:=Tryz.func206.trans (congrArg some (by kernel_rfl))
 f286:=Tryz.func207.trans (congrArg some (by kernel_rfl))
 f287:=Tryz.func164.trans (congrArg some (by kernel_rfl))
 f316:=Tryz.func162.trans (congrArg some (by kernel_rfl))
 f317:=Tryz.func209.trans (congrArg some (by kernel_rfl))
 f318:=Tryz.func211.trans (congrArg some (by kernel_rfl))
 f319:=Tryz.func212.trans (congrArg some (by kernel_rfl))
 f320:=Tryz.func213.trans (congrArg some (by kernel_rfl))
 f321:=Tryz.func178.trans (congrArg some (by kernel_rfl))
 f322:=Tryz.func179.trans (congrArg some (by kernel_rfl))
 f337:=Tryz.func215.trans (congrArg some (by kernel_rfl))
 f338:=Tryz.func216.trans (congrArg some (by kernel_rfl))
 t0:=Tryz.underlying0
 a0:=Tryz.isAgg0
 z0:=Tryz.sizeOf0
 v0:=Tryz.zeroValue0
 t2:=Tryz.underlying2
 a2:=Tryz.isAgg2
 z2:=Tryz.sizeOf2
 v2:=Tryz.zeroValue2
 t3:=Tryz.underlying3
 a3:=Tryz.isAgg3
 z3:=Tryz.sizeOf3
 v3:=Tryz.zeroValue3
 t4:=Tryz.underlying4
 a4:=Tryz.isAgg4
 z4:=Tryz.sizeOf4
 v4:=Tryz.zeroValue4
 t5:=Tryz.underlying5
 a5:=Tryz.isAgg5
 z5:=Tryz.sizeOf5
 v5:=Tryz.zeroValue5
 t9:=Tryz.underlying9
 a9:=Tryz.isAgg9
 z9:=Tryz.sizeOf9
 v9:=Tryz.zeroValue9
 t20:=Tryz.underlying20
 a20:=Tryz.isAgg20
 z20:=Tryz.sizeOf20
 v20:=Tryz.zeroValue20
 t21:=Tryz.underlying21
 a21:=Tryz.isAgg21
 z21:=Tryz.sizeOf21
 v21:=Tryz.zeroValue21
 t37:=Tryz.underlying173
 a37:=Tryz.isAgg173
 z37:=Tryz.sizeOf173
 v37:=Tryz.zeroValue173
 t46:=Tryz.underlying104
 a46:=Tryz.isAgg104
 z46:=Tryz.sizeOf104
 v46:=Tryz.zeroValue104
 t51:=Tryz.underlying203
 a51:=Tryz.isAgg203
 z51:=Tryz.sizeOf203
 v51:=Tryz.zeroValue203
 t53:=Tryz.underlying202
 a53:=Tryz.isAgg202
 z53:=Tryz.sizeOf202
 v53:=Tryz.zeroValue202
 t75:=Tryz.underlying177
 a75:=Tryz.isAgg177
 z75:=Tryz.sizeOf177
 v75:=Tryz.zeroValue177
 t85:=Tryz.underlying192
 a85:=Tryz.isAgg192
 z85:=Tryz.sizeOf192
 v85:=Tryz.zeroValue192
 t127:=Tryz.underlying200
 a127:=Tryz.isAgg200
 z127:=Tryz.sizeOf200
 v127:=Tryz.zeroValue200
 t143:=Tryz.underlying242
 a143:=Tryz.isAgg242
 z143:=Tryz.sizeOf242
 v143:=Tryz.zeroValue242
 t145:=Tryz.underlying244
 a145:=Tryz.isAgg244
 z145:=Tryz.sizeOf244
 v145:=Tryz.zeroValue244
 t167:=Tryz.underlying221
 a167:=Tryz.isAgg221
 z167:=Tryz.sizeOf221
 v167:=Tryz.zeroValue221
 t168:=Tryz.underlying224
 a168:=Tryz.isAgg224
 z168:=Tryz.sizeOf224
 v168:=Tryz.zeroValue224
 t171:=Tryz.underlying255
 a171:=Tryz.isAgg255
 z171:=Tryz.sizeOf255
 v171:=Tryz.zeroValue255
 t173:=Tryz.underlying258
 a173:=Tryz.isAgg258
 z173:=Tryz.sizeOf258
 v173:=Tryz.zeroValue258
 t175:=Tryz.underlying222
 a175:=Tryz.isAgg222
 z175:=Tryz.sizeOf222
 v175:=Tryz.zeroValue222
 t210:=Tryz.underlying233
 a210:=Tryz.isAgg233
 z210:=Tryz.sizeOf233
 v210:=Tryz.zeroValue233
 t212:=Tryz.underlying261
 a212:=Tryz.isAgg261
 z212:=Tryz.sizeOf261
 v212:=Tryz.zeroValue261
 t213:=Tryz.underlying262
 a213:=Tryz.isAgg262
 z213:=Tryz.sizeOf262
 t232:=Tryz.underlying265
 a232:=Tryz.isAgg265
 z232:=Tryz.sizeOf265
 v232:=Tryz.zeroValue265
 t233:=Tryz.underlying266
 a233:=Tryz.isAgg266
 z233:=Tryz.sizeOf266
 v233:=Tryz.zeroValue266
 g15:=by kernel_rfl
 g16:=by kernel_rfl
 g17:=by kernel_rfl
 g18:=by kernel_rfl
 g19:=by kernel_rfl
 t80:=Tryz.underlying180
 a80:=Tryz.isAgg180
 z80:=Tryz.sizeOf180
 v80:=Tryz.zeroValue180
 i0:=by kernel_rfl
 i2:=by kernel_rfl
 i3:=by kernel_rfl
 i4:=by kernel_rfl
 i5:=by kernel_rfl
 i9:=by kernel_rfl
 i20:=by kernel_rfl
 i21:=by kernel_rfl
 i37:=by kernel_rfl
 i46:=by kernel_rfl
 i51:=by kernel_rfl
 i53:=by kernel_rfl
 i75:=by kernel_rfl
 i80:=by kernel_rfl
 i85:=by kernel_rfl
 i127:=by kernel_rfl
 i143:=by kernel_rfl
 i145:=by kernel_rfl
 i167:=by kernel_rfl
 i168:=by kernel_rfl
 i171:=by kernel_rfl
 i173:=by kernel_rfl
 i175:=by kernel_rfl
 i210:=by kernel_rfl
 i212:=by kernel_rfl
 i232:=by kernel_rfl
 i233:=by kernel_rfl
 m15:=by kernel_rfl
 m16:=by kernel_rfl
 m17:=by kernel_rfl
 m18:=by kernel_rfl
 m19:=by kernel_rfl
 c0:=by kernel_rfl
 c2:=by kernel_rfl
 c3:=by kernel_rfl
 c4:=by kernel_rfl
 c5:=by kernel_rfl
 c9:=by kernel_rfl
 c20:=by kernel_rfl
 c21:=by kernel_rfl
 c37:=by kernel_rfl
 c46:=by kernel_rfl
 c51:=by kernel_rfl
 c53:=by kernel_rfl
 c75:=by kernel_rfl
 c80:=by kernel_rfl
 c85:=by kernel_rfl
 c127:=by kernel_rfl
 c143:=by kernel_rfl
 c145:=by kernel_rfl
 c167:=by kernel_rfl
 c168:=by kernel_rfl
 c171:=by kernel_rfl
 c173:=by kernel_rfl
 c175:=by kernel_rfl
 c210:=by kernel_rfl
 c212:=by kernel_rfl
 c213:=by kernel_rfl
 c232:=by kernel_rfl
 c233:=by kernel_rfl }
open Go.RowKit in
theorem Tryz.strconv_ParseInt_10_at64_ok (s:ByteArray) (hmax:s.size≤9223372036854775806) (v:Int) (h:Lib.parseIntB 64 s.data.toList=.ok v) (w:World):
  Calls Tryz.prog 124 #[.string s,.int .i64 10,.int .i64 64] w λ e w'=>e=.returned (.tuple #[.int .i64 v,.nilIface])∧(w'=w∨∃t,w'=Lib.bytesWorld w 5 t):=Any.strconv_ParseInt_10_at64_ok Tryz.laysC174 s hmax v h w
open Go.RowKit in
theorem Tryz.strconv_ParseInt_10_at64_range (s:ByteArray) (hlim:s.size≤281474976710656) (h:Lib.parseIntB 64 s.data.toList=.range) (ev:Value) (w:World) (hv:w.cell? ⟨2,0,none⟩=some ev) (hev:ev=.nilIface∨∃te pe,ev=.iface te pe):
  Calls Tryz.prog 124 #[.string s,.int .i64 10,.int .i64 64] w λ e w'=>∃N,e=.returned (.tuple #[.int .i64 (Lib.intSat 64 s.data.toList),.iface 224 (.pointer (some ⟨N,0,none⟩))])∧w.heap.size≤N∧w'.heap[N]?=some (.cells #[.string ⟨#[80,97,114,115,101,73,110,116]⟩,.string s,ev] 233 (0,0))∧Below w.heap.size w w':=Any.strconv_ParseInt_10_at64_range Tryz.laysC174 s hlim h ev w hv hev
open Go.RowKit in
theorem Tryz.strconv_ParseInt_10_at32_ok (s:ByteArray) (hmax:s.size≤9223372036854775806) (v:Int) (h:Lib.parseIntB 32 s.data.toList=.ok v) (w:World):
  Calls Tryz.prog 124 #[.string s,.int .i64 10,.int .i64 32] w λ e w'=>e=.returned (.tuple #[.int .i64 v,.nilIface])∧(w'=w∨∃t,w'=Lib.bytesWorld w 5 t):=Any.strconv_ParseInt_10_at32_ok Tryz.laysC174 s hmax v h w
open Go.RowKit in
theorem Tryz.strconv_ParseInt_10_at32_range (s:ByteArray) (hlim:s.size≤281474976710656) (h:Lib.parseIntB 32 s.data.toList=.range) (ev:Value) (w:World) (hv:w.cell? ⟨2,0,none⟩=some ev) (hev:ev=.nilIface∨∃te pe,ev=.iface te pe):
  Calls Tryz.prog 124 #[.string s,.int .i64 10,.int .i64 32] w λ e w'=>∃N,e=.returned (.tuple #[.int .i64 (Lib.intSat 32 s.data.toList),.iface 224 (.pointer (some ⟨N,0,none⟩))])∧w.heap.size≤N∧w'.heap[N]?=some (.cells #[.string ⟨#[80,97,114,115,101,73,110,116]⟩,.string s,ev] 233 (0,0))∧Below w.heap.size w w':=Any.strconv_ParseInt_10_at32_range Tryz.laysC174 s hlim h ev w hv hev
def Tryz.lays144_ren:Go.Shelf.Ren:=⟨fun|144=>126|143=>148|219=>169|217=>182|225=>183|224=>184|267=>185|266=>192|314=>193|n=>n,fun|9=>9|4=>4|3=>3|5=>5|46=>104|146=>245|51=>203|n=>n,fun|1=>0|n=>n⟩
theorem Tryz.lays144:Go.Proofs.Lays.n144 Tryz.prog Tryz.lays144_ren:={
 mixed:=by kernel_rfl
 f143:=Tryz.func148.trans (congrArg some (by kernel_rfl))
 f144:=Tryz.func126.trans (congrArg some (by kernel_rfl))
 f217:=Tryz.func182.trans (congrArg some (by kernel_rfl))
 f219:=Tryz.func169.trans (congrArg some (by kernel_rfl))
 f224:=Tryz.func184.trans (congrArg some (by kernel_rfl))
 f225:=Tryz.func183.trans (congrArg some (by kernel_rfl))
 f266:=Tryz.func192.trans (congrArg some (by kernel_rfl))
 f267:=Tryz.func185.trans (congrArg some (by kernel_rfl))
 f314:=Tryz.func193.trans (congrArg some (by kernel_rfl))
 t3:=Tryz.underlying3
 a3:=Tryz.isAgg3
 z3:=Tryz.sizeOf3
 v3:=Tryz.zeroValue3
 t4:=Tryz.underlying4
 a4:=Tryz.isAgg4
 z4:=Tryz.sizeOf4
 v4:=Tryz.zeroValue4
 t5:=Tryz.underlying5
 a5:=Tryz.isAgg5
 z5:=Tryz.sizeOf5
 v5:=Tryz.zeroValue5
 t9:=Tryz.underlying9
 a9:=Tryz.isAgg9
 z9:=Tryz.sizeOf9
 v9:=Tryz.zeroValue9
 t46:=Tryz.underlying104
 a46:=Tryz.isAgg104
 z46:=Tryz.sizeOf104
 v46:=Tryz.zeroValue104
 t51:=Tryz.underlying203
 a51:=Tryz.isAgg203
 z51:=Tryz.sizeOf203
 v51:=Tryz.zeroValue203
 t146:=Tryz.underlying245
 a146:=Tryz.isAgg245
 z146:=Tryz.sizeOf245
 v146:=Tryz.zeroValue245
 g1:=by kernel_rfl }
open Go.RowKit Go.Lib in
theorem Tryz.strings_Contains_one (s:ByteArray) (c:UInt8) (w:World):
  Calls Tryz.prog 126 #[.string s,.string ⟨#[c]⟩] w λ e w'=>e=.returned (.bool (decide (0≤Lib.indexByte s.data.toList c)))∧w'=w:=Any.strings_Contains_one Tryz.lays144 s c w
def Tryz.lays99_ren:Go.Shelf.Ren:=⟨fun|99=>125|206=>147|n=>n,fun|9=>9|4=>4|3=>3|n=>n,fun|n=>n⟩
theorem Tryz.lays99:Go.Proofs.Lays.n99 Tryz.prog Tryz.lays99_ren:={
 mixed:=by kernel_rfl
 f99:=Tryz.func125.trans (congrArg some (by kernel_rfl))
 f206:=Tryz.func147.trans (congrArg some (by kernel_rfl))
 t3:=Tryz.underlying3
 a3:=Tryz.isAgg3
 z3:=Tryz.sizeOf3
 v3:=Tryz.zeroValue3
 t4:=Tryz.underlying4
 a4:=Tryz.isAgg4
 z4:=Tryz.sizeOf4
 v4:=Tryz.zeroValue4
 t9:=Tryz.underlying9
 a9:=Tryz.isAgg9
 z9:=Tryz.sizeOf9
 v9:=Tryz.zeroValue9 }
open Go.RowKit Go.Lib in
theorem Tryz.strings_HasPrefix (s p:ByteArray) (w:World):
  Calls Tryz.prog 125 #[.string s,.string p] w λ e w'=>e=.returned (.bool (Lib.hasPrefix s.data.toList p.data.toList))∧w'=w:=Any.strings_HasPrefix Tryz.lays99 s p w
def Tryz.lays109_ren:Go.Shelf.Ren:=⟨fun|109=>93|n=>n,fun|31=>22|9=>9|3=>3|0=>0|4=>4|n=>n,fun|n=>n⟩
theorem Tryz.lays109:Go.Proofs.Lays.n109 Tryz.prog Tryz.lays109_ren:={
 mixed:=by kernel_rfl
 f109:=Tryz.func93.trans (congrArg some (by kernel_rfl))
 t0:=Tryz.underlying0
 a0:=Tryz.isAgg0
 z0:=Tryz.sizeOf0
 v0:=Tryz.zeroValue0
 t3:=Tryz.underlying3
 a3:=Tryz.isAgg3
 z3:=Tryz.sizeOf3
 v3:=Tryz.zeroValue3
 t4:=Tryz.underlying4
 a4:=Tryz.isAgg4
 z4:=Tryz.sizeOf4
 v4:=Tryz.zeroValue4
 t9:=Tryz.underlying9
 a9:=Tryz.isAgg9
 z9:=Tryz.sizeOf9
 v9:=Tryz.zeroValue9
 t31:=Tryz.underlying22
 a31:=Tryz.isAgg22
 z31:=Tryz.sizeOf22
 v31:=Tryz.zeroValue22 }
open Go.Lib in
theorem Tryz.slices_Index_string (b off n c:Nat) (zs:List ByteArray) (x:ByteArray) (w:World) (hz:n≤zs.length) (hbig:n≤9223372036854775807) (hc:∀j,j<zs.length→w.cell? ⟨b,off+j,none⟩=some (.string (zs.getD j ByteArray.empty))):
  Calls Tryz.prog 93 #[.slice (some ⟨b,off,none⟩) n c,.string x] w λ e w'=>e=.returned (.int .i64 (Lib.idxOfS (zs.take n) x))∧w'=w:=Any.slices_Index_string Tryz.lays109 b off n c zs x w hz hbig hc
open Go.Lib in
theorem Tryz.slices_Index_string_empty (a:Option Addr) (c:Nat) (x:ByteArray) (w:World):
  Calls Tryz.prog 93 #[.slice a 0 c,.string x] w λ e w'=>e=.returned (.int .i64 (Lib.idxOfS [] x))∧w'=w:=Any.slices_Index_string_empty Tryz.lays109 a c x w
def Tryz.lays110_ren:Go.Shelf.Ren:=⟨fun|110=>103|109=>93|n=>n,fun|31=>22|9=>9|4=>4|3=>3|0=>0|n=>n,fun|n=>n⟩
theorem Tryz.lays110:Go.Proofs.Lays.n110 Tryz.prog Tryz.lays110_ren:={
 mixed:=by kernel_rfl
 f109:=Tryz.func93.trans (congrArg some (by kernel_rfl))
 f110:=Tryz.func103.trans (congrArg some (by kernel_rfl))
 t0:=Tryz.underlying0
 a0:=Tryz.isAgg0
 z0:=Tryz.sizeOf0
 v0:=Tryz.zeroValue0
 t3:=Tryz.underlying3
 a3:=Tryz.isAgg3
 z3:=Tryz.sizeOf3
 v3:=Tryz.zeroValue3
 t4:=Tryz.underlying4
 a4:=Tryz.isAgg4
 z4:=Tryz.sizeOf4
 v4:=Tryz.zeroValue4
 t9:=Tryz.underlying9
 a9:=Tryz.isAgg9
 z9:=Tryz.sizeOf9
 v9:=Tryz.zeroValue9
 t31:=Tryz.underlying22
 a31:=Tryz.isAgg22
 z31:=Tryz.sizeOf22
 v31:=Tryz.zeroValue22 }
open Go.Lib in
theorem Tryz.slices_Contains_string (b off n c:Nat) (zs:List ByteArray) (x:ByteArray) (w:World) (hz:n≤zs.length) (hbig:n≤9223372036854775807) (hc:∀j,j<zs.length→w.cell? ⟨b,off+j,none⟩=some (.string (zs.getD j ByteArray.empty))):
  Calls Tryz.prog 103 #[.slice (some ⟨b,off,none⟩) n c,.string x] w λ e w'=>e=.returned (.bool (Lib.containsS (zs.take n) x))∧w'=w:=Any.slices_Contains_string Tryz.lays110 b off n c zs x w hz hbig hc
open Go.Lib in
theorem Tryz.slices_Contains_string_empty (a:Option Addr) (c:Nat) (x:ByteArray) (w:World):
  Calls Tryz.prog 103 #[.slice a 0 c,.string x] w λ e w'=>e=.returned (.bool false)∧w'=w:=Any.slices_Contains_string_empty Tryz.lays110 a c x w
end
end Go.Proofs
namespace Go.Proofs.YtdnhbedbpbgeeaaGreatDoor.K
open Go.RowKit Go.Proofs.Tryz
variable {a_x a : Option Addr} {s : ByteArray} {N n_x c_x z q c : Nat} {x n : Nd} {l : List Nd} {e : TypeId} {P : Program} {α : Type} {k : Int}
variable {B : Bs} {w w' : World} {L : List Rs} {b : Nat} {ts : List Tok} {t : Tok}
theorem parse_any (s:ByteArray) (hs:s.size≤4000) (v:Int) (h:Lib.parseIntB 64 s.data.toList=.ok v) (w:World):Calls prog 124 #[.string s,.int .i64 10,.int .i64 64] w λ e w'=>e=.returned (.tuple #[.int .i64 v,.nilIface])∧Below w.heap.size w w':=by
 refine (strconv_ParseInt_10_at64_ok s (by omega) v h w).mono ?_;rintro e w' ⟨rfl,rfl|⟨t,rfl⟩⟩
 ·exact⟨rfl,Below.refl _ _⟩
 exact⟨rfl,Lib.bytesWorld_below w 5 t⟩
def NumS (n:Nd):Prop:=∃k v,n=.mk k eB v []∧(k=21∨k=22)∧0≤v∧v≤9223372036854775807
theorem number_any (h:Fr B w (.ps b ts::L)):Calls prog 175 #[ptr b] w (PN NumS (eE ts) ts.length B b L):=by
 have hA:=h.tokAll;have HF:=ah (h.box (q:=w.heap.size) rfl ndz 52);clear h;cases ts with
 | nil=>
  have HU:=ah (giveUp_any HF);obtain⟨a,c,m,h1,h2,h3,h4⟩:=HF.psAt;have hc:=aA h1;clear h1 h4;go_enter func175,ntmps175;go_wp2_with fail;go_at_call 171;refine HU.mono ?_;rintro e w1 ⟨rfl,rfl⟩;exact⟨rfl,PN.no rfl HF.lose⟩
 | cons t ts=>
  have hok:=hA.2 t (List.mem_cons_self ..);obtain⟨a,c,m,h1,h2,h3,h4⟩:=HF.psAt;have hc:=aA h1;have HG:=ah (HF.box (q:=w.heap.size+1) (by simp) #[.int .i64 21,.string eB,.int .i64 0,.slice none 0 0] 52);obtain⟨a',c',m',h1',h2',h3',h4'⟩:=HG.psAt;have hc':=aA h1';obtain⟨g,o,rfl,K⟩:=h4' (by simp);obtain⟨k0,-,-⟩:=K 0 (by simp);simp only[Nat.zero_mul,Nat.add_zero,List.getElem_cons_zero] at k0;have hl:((t::ts).length:Int)≠0:=by rw[List.length_cons];omega
  have hl0:(0:Int)<((t::ts).length:Int):=by rw[List.length_cons];omega
  have HN:=ah hok.num;have HLn:Hid (ts.length<(t::ts).length):=by show _<_;simp
  have hsh:=hok.short;clear h1 h1' h4 h4' K hA hok;by_cases h3:t.kind=3
  ·obtain⟨hp,hv0,hv1⟩:=HN (Or.inr h3);have HQ:Hid (eE (t::ts)=.ok (.mk 22 eB (numV t) []) ts):=by show _=_;simp [eE,h3]
   have HP:=ah hp;have HV:=ah (And.intro hv0 hv1);rw[h3] at k0;have HB:=ah (HF.box (q:=w.heap.size+1) (by simp) #[.int .i64 22,.string eB,.int .i64 0,.slice none 0 0] 52);clear hp hv0 hv1 h3 HN HF HG;generalize hnv:numV t=nv at *;generalize (t::ts).length=nn at *;go_enter func175,ntmps175;go_wp2_with fail;go_at_call 149;refine (dL HB).mono ?_;rintro e w1 ⟨rfl,rfl⟩;go_wp2_with fail;go_at_call 124;refine (parse_any t.text hsh nv HP _).mono ?_;rintro e w2 ⟨rfl,hb⟩;have HC:=ah (HB.call hb);clear hb HB;have c3:=HC.cell 1 rfl;have f3:=HC.frz 1 rfl;replace HC:=ah (HC.set 1 rfl 2 (.int .i64 nv));go_wp2_with fail;go_at_call 150;refine (pass_any HC).mono ?_;rintro e w3 ⟨rfl,hf⟩;have HD:=ah hf;clear hf HC c3 f3;have c3:=HD.cell 1 rfl;have c2:=HD.cell 2 rfl;have f2:=HD.frz 2 rfl;replace HD:=ah (HD.nd4 2 rfl (.int .i64 22) (.string eB) (.int .i64 nv) (.slice none 0 0));go_wp2;refine br (rt52 results175 rfl (HD.blkAt 2 rfl)) ?_;exact PN.yes (n:=.mk 22 eB nv []) HQ HLn ⟨22,nv,rfl,Or.inr rfl,HV.1,HV.2⟩ (HD.ndBare 22 eB nv).swap.lose
  by_cases h2:t.kind=2
  ·obtain⟨hp,hv0,hv1⟩:=HN (Or.inl h2);have HQ:Hid (eE (t::ts)=.ok (.mk 21 eB (numV t) []) ts):=by show _=_;simp [eE,h2]
   have HP:=ah hp;have HV:=ah (And.intro hv0 hv1);rw[h2] at k0;clear hp hv0 hv1 h3 h2 HN HF;generalize hnv:numV t=nv at *;generalize (t::ts).length=nn at *;go_enter func175,ntmps175;go_wp2_with fail;go_at_call 149;refine (dL HG).mono ?_;rintro e w1 ⟨rfl,rfl⟩;go_wp2_with fail;go_at_call 124;refine (parse_any t.text hsh nv HP _).mono ?_;rintro e w2 ⟨rfl,hb⟩;have HC:=ah (HG.call hb);clear hb HG;have c3:=HC.cell 1 rfl;have f3:=HC.frz 1 rfl;replace HC:=ah (HC.set 1 rfl 2 (.int .i64 nv));go_wp2_with fail;go_at_call 150;refine (pass_any HC).mono ?_;rintro e w3 ⟨rfl,hf⟩;have HD:=ah hf;clear hf HC c3 f3;have c3:=HD.cell 1 rfl;have c2:=HD.cell 2 rfl;have f2:=HD.frz 2 rfl;replace HD:=ah (HD.nd4 2 rfl (.int .i64 21) (.string eB) (.int .i64 nv) (.slice none 0 0));go_wp2;refine br (rt52 results175 rfl (HD.blkAt 2 rfl)) ?_;exact PN.yes (n:=.mk 21 eB nv []) HQ HLn ⟨21,nv,rfl,Or.inl rfl,HV.1,HV.2⟩ (HD.ndBare 21 eB nv).swap.lose
  have HQ:Hid (eE (t::ts)=.no (t::ts)):=by show _=_;simp [eE,h2,h3]
  have HU:=ah (giveUp_any HG);have d3:(t.kind == 3)=false:=by simpa using h3
  have d2:(t.kind == 2)=false:=by simpa using h2
  clear HF HN h2 h3 hsh HLn;generalize t.kind=kd at *;generalize hnn:(t::ts).length=nn at *;clear hnn;go_enter func175,ntmps175;go_wp2_with fail;go_at_call 171;refine HU.mono ?_;rintro e w1 ⟨rfl,rfl⟩;exact⟨rfl,PN.no HQ HG.lose⟩
theorem els_cat {E : El α} {H : Snap} {w' : World} {v' : Value} {l k : List α} {css dss : List (List Value)} (h1:css.length=l.length) (hz:∀c,c∈css→c.length=z) (h3:∀j (h:j<l.length) (h':j<css.length),E.p H css[j] l[j]) (g1:dss.length=k.length) (gz:∀c,c∈dss→c.length=z) (g3:∀j (h:j<k.length) (h':j<dss.length),E.p H dss[j] k[j]) (ho:w'.ownsRow 0 e z v' (l.length+k.length) (css.flatten++dss.flatten)):(Rs.els E v' e z (l++k)).ok H w':=by
 refine⟨css++dss,by simp [h1,g1],λ c hc'=>?_,?_,λ j hj hj'=>?_⟩
 ·rcases List.mem_append.1 hc' with h|h
  ·exact hz c h
  exact gz c h
 ·rw[List.flatten_append,show (l++k).length=l.length+k.length by simp];exact ho
 by_cases q:j<l.length
 ·have q':j<css.length:=by omega
  rw[List.getElem_append_left q];simp only[List.getElem_append_left q'];exact h3 j q q'
 have hj2:j - l.length<k.length:=by simp at hj;omega
 have hj3:j - l.length<dss.length:=by omega
 have e1:(l++k)[j]=k[j - l.length]:=List.getElem_append_right (by omega);have e2:(css++dss)[j]=dss[j - l.length]:=by rw[List.getElem_append_right (by omega)];simp only[h1]
 rw[e1,e2];exact g3 _ hj2 hj3
theorem row_form {base : Nat} {v : Value} {n : Nat} {xs : List Value} (h:w.ownsRow base e z v n xs):∃a c,v=.slice a n c∧n≤c:=by
 rcases h.2 with⟨rfl,rfl⟩|⟨g,cap,cur,rfl,_,_,hn,_⟩
 ·exact⟨_,_,rfl,Nat.le_refl _⟩
 exact⟨_,_,rfl,hn⟩
theorem Fr.elRows {E : El α} {zv : Value} {by' : Nat} {t : TypeId}
  (hinfo:(P.info? e).map (λ i=>(i.zero,i.size,i.bytes))=some (some zv,z,by')) (ht:P.underlying t=some (.slice e)) (hz:zv.cells.size=z) (hz0:0<z) (hby:by'≤1000)
  (hone:∀H c x,E.p H c x→c.all (λ u=>u.oneCell')=true)
  (h:Fr B w L) (i j:Nat) {v u:Value} {l k:List α} (hi:L[i]?=some (.els E v e z l)) (hj:L[j]?=some (.els E u e z k)) (hn:l.length≤16000) (hm:k.length≤16000)
  {o:Oper} {a:Act} (p q:Operand) (ho:o.op=.call { callee:=.builtin .append,args:=#[p,q],argTypes:=#[t,t] }) (hs:a.eval p=v) (hx:a.eval q=u) {K:Act→World→Prop} {Q:Exit→Act→World→Prop}
  (kk:∀ad cap w',Fr B w' (L.set i (.els E (.slice ad (l.length+k.length) cap) e z (l++k)))→K (a.put o.dst (.slice ad (l.length+k.length) cap)) w'):
  Oper.wp P o a w K Q:=by
 obtain⟨i0,hi0,hz0',hz1,hz2⟩:=gF hinfo;have hb:(l.length+k.length)*by'≤140737488355328:=Nat.le_trans (Nat.mul_le_mul (show l.length+k.length≤32000 by omega) hby) (by decide)
 obtain⟨H,hF⟩:=h;have hmi:=List.mem_of_getElem? hi;obtain⟨css,c1,c2,c3,c4⟩:=hF.ok _ hmi;obtain⟨dss,d1,d2,d3,d4⟩:=hF.ok _ (List.mem_of_getElem? hj);have hlo:=hF.lo _ hmi;by_cases hk:k=[]
 ·subst hk;obtain⟨av,cv,rfl,hle⟩:=row_form c3;obtain⟨au,cu,rfl,-⟩:=row_form d3;have hsrc:Src P i0.size t (.slice au 0 cu) 0 [] w:=by
   cases au with
   | none=>exact Src.ofNil w ht cu
   | some a0=>exact Src.ofSlice w ht a0 0 cu [] (by simp) (λ j u hu=>by simp at hu) (by simp)
  have hr:=run_append_nothing (P:=P) w t t o.type e i0 ht hi0 av l.length cv hle (.slice au 0 cu) hsrc;unfold Oper.wp execOp;simp only[ho,resolve,invoke,builtin,Sem.run_bind,Sem.run_pure,Result.andThen_ok,List.map_toArray,List.map_cons,List.map_nil,hs,hx,List.length_nil,hr];have hset:L.set i (.els E (.slice av (l.length+([]:List α).length) cv) e z (l++[]))=L:=by
   simp only[List.length_nil,Nat.add_zero,List.append_nil];obtain⟨hlt,he⟩:=List.getElem?_eq_some_iff.1 hi;rw[← he];simp
  have:=kk av cv w (by rw[hset];exact⟨H,hF⟩);exact this
 have hkl:0<k.length:=List.length_pos_iff.2 hk;rcases d3.2 with⟨-,h0⟩|⟨g,cap,cu,rfl,-,hg,a1,a2,a3,a4⟩
 ·omega
 have hnews:∀j u,dss.flatten[j]?=some u→w.cell? ((⟨g,0,none⟩:Addr).add j)=some u:=λ j u hu=>by
  refine World.news_of_block hg j u ?_;rw[← a4] at hu;rw[List.getElem?_take] at hu;split at hu
  ·exact hu
  cases hu
 have hall:∀u∈dss.flatten,u.oneCell'=true:=λ u hu=>by
  obtain⟨c,hc,hu⟩:=List.mem_flatten.1 hu;obtain⟨m,hm,rfl⟩:=List.getElem_of_mem hc;exact List.all_eq_true.1 (hone _ _ _ (d4 m (by omega) hm)) u hu
 refine wp_append_lies w p q t ho 0 e i0 zv z by' ht hi0 hz0' hz1 hz2 hz hz0 v l.length css.flatten hs c3 ⟨g,0,none⟩ k.length cap dss.flatten hx d3.1 hnews hall hkl (by unfold maxLen;omega) hb (Nat.zero_le _) w.heap.size rfl ?_
 intro g2 cap2 w' h2 h3 h4 h5;refine kk _ cap2 w' ⟨H,hF.turn i hi ⟨h3.os.trans hF.below.os,h3.tape.trans hF.below.tape,h3.output.trans hF.below.output,Nat.le_trans hF.below.size h3.size,λ x hx'=>?_⟩ h3.size (λ q hq hne=>h3.block q hq λ e=>hne e.symm) (els_cat c1 c2 c4 d1 d2 d4 h2) λ q hq=>?_⟩
 ·refine (h3.block x (Nat.lt_of_lt_of_le hx' hF.le) λ e=>?_).trans (hF.below.block x hx');have:=(hlo x e.symm).1;omega
 have e:g2=q:=Option.some.inj hq;subst e;rcases h4 with e|e
 ·exact Or.inl e
 exact Or.inr (Nat.le_of_eq e.symm)
theorem nd_one (H:Snap) (c:List Value) (x:Nd) (h:NdE.p H c x):c.all (λ u=>u.oneCell')=true:=by
 obtain⟨a,k,rfl⟩:=NdH.form (show NdH H c x from h);rfl
theorem fR {ops : Array Oper} {o : Oper} {a : Act} {K : Act→World→Prop} {Q : Exit→Act→World→Prop} {E : Prop} (hw:Region.wanted o (yielded ops a.tmps)=true) (h:Oper.wp P o a w K Q):if Region.wanted o (yielded ops a.tmps)=true then Oper.wp P o a w K Q else E:=by
 rw[if_pos hw];exact h
def behindF (E:List Tok→Q Nd)(n:Nd)(ts:List Tok):Q Nd:=dB E (ts.length+1) n ts
theorem behind_any {E : List Tok→Q Nd} (hE:Meth 189 Ex E N) (h:Fr B w (.ps b ts::L)) (hN:ts.length≤N) (i:Nat) (hi:L[i]?=some (.el NdE (ndc x.kind x.text x.num a_x n_x c_x) x)) (hx:Ex x):Calls prog 197 #[ptr b,.agg #[.int .i64 x.kind,.string x.text,.int .i64 x.num,.slice a_x n_x c_x]] w (PN Ex (behindF E x ts) (ts.length+1) B b L):=by
 have hal0:=h.tokAll.1;have hi2:∀r s,(Rs.ps b ts::r::s::L)[i+3]?=some (.el NdE (ndc x.kind x.text x.num a_x n_x c_x) x):=λ_ _=>hi;have HF:=ah h;have HE:=ah hE;have HX:=ah hx;clear h hE hx;go_enter func197,ntmps197;replace HF:=ah (HF.box (q:=w.heap.size) rfl #[.int .i64 x.kind,.string x.text,.int .i64 x.num,.slice a_x n_x c_x] 52);replace HF:=ah (HF.box (q:=w.heap.size+1) (by simp) ndz 52);go_wp2;replace HF:=ah (HF.dup (i+3) (hi2 _ _));generalize hqr:w.heap.size+1=qr at *;generalize hqc:w.heap.size=qc at *;generalize ((w.alloc (.cells #[.int .i64 x.kind,.string x.text,.int .i64 x.num,.slice a_x n_x c_x] 52)).alloc (.cells ndz 52))=ws at *;go_loopw [5] (λ_ wr=>Hid (∃m n r a kn c,r.length<m∧r.length≤ts.length∧behindF E x ts=dB E m n r∧Ex n∧Fr B wr (.ps b r::.blk qc #[.int .i64 n.kind,.string n.text,.int .i64 n.num,.slice a kn c] 52::.el NdE (ndc n.kind n.text n.num a kn c) n::.blk qr ndz 52::L))) (λ_ wr=>leftOf wr b)
 case atStart=>exact⟨_,x,ts,a_x,n_x,c_x,Nat.lt_succ_self _,Nat.le_refl _,rfl,HX,(HF.perm (List.Perm.trans (List.Perm.swap _ _ _) (List.Perm.cons _ (List.Perm.trans (List.Perm.cons _ (List.Perm.swap _ _ _)) (List.Perm.swap _ _ _))))).lose⟩
 clear HF hi2;obtain⟨m,n,r,a_n,n_n,c_n,hm,hlr,heq,hS,hf⟩:=hrel.out;clear hrel;obtain⟨m,rfl⟩:∃k,m=k+1:=⟨m - 1,by omega⟩
 have hleft:=ah hf.left;have HEq:=ah heq;have HSn:=ah hS;have HF:=ah hf;clear heq hS hf;go_wp2_with fail;go_at_call 127;refine (aW HF wDOT (by decide)).mono ?_;rintro e w1 ⟨rfl,hf⟩;by_cases hq:tx r=wDOT
 ·rw[if_pos hq] at hf;rw[decide_eq_true hq];have HQ1:=ah hq;have hlt1:=aF hq;replace HF:=ah hf;clear hq hf;go_wp2;refine regK [5] HF (λ w h=>(h.cell 1 rfl)) (λ wd2 HF hC=>?_);refine tq2 0 2 ?_;refine rq2 1 3 (λ K hK=>?_) λ K hK=>?_;go_simp;refine (eZ HF).mono ?_;rintro e w3 (⟨hq,rfl,hf⟩|⟨hq,rfl,hf⟩)
  ·exact⟨rfl,PN.no (by simp +decide only [Q.bind,bC,HEq.out,dB,if_pos HQ1.out,hq,↓reduceIte,reduceCtorEq]) hf.lose⟩
  have HQ3:=ah hq;have hlt3:=nm_lt hq;replace HF:=ah hf;clear hq hf;refine uq hK (HF.cell 1 rfl) λ hC=>?_;refine rq 3 λ K hK=>?_;go_simp;replace HF:=ah (HF.box (q:=w3.heap.size) rfl #[.int .i64 n.kind,.string n.text,.int .i64 n.num,.slice a_n n_n c_n] 52);refine uq hK (HF.cell 2 rfl) λ hC=>?_;try simp only[qq]
  generalize w3.heap.size=qs at *;rotate_left;go_simp;replace HF:=ah (HF.box (q:=wd2.heap.size) rfl #[.int .i64 n.kind,.string n.text,.int .i64 n.num,.slice a_n n_n c_n] 52);refine uq hK (HF.cell 2 rfl) λ hC=>?_;try simp only[qq]
  generalize wd2.heap.size=qs at *;refine rq 1 λ K hK=>?_;go_simp;refine (eZ HF).mono ?_;rintro e w3 (⟨hq,rfl,hf⟩|⟨hq,rfl,hf⟩)
  ·exact⟨rfl,PN.no (by simp +decide only [Q.bind,bC,HEq.out,dB,if_pos HQ1.out,hq,↓reduceIte,reduceCtorEq]) hf.lose⟩
  have HQ3:=ah hq;have hlt3:=nm_lt hq;replace HF:=ah hf;clear hq hf;refine uq hK (HF.cell 2 rfl) λ hC=>?_;try simp only[qq]
  all_goals
   refine tq 4 ?_;refine rqb 5 λ K hK=>?_;have c_cur:=HF.cell 2 rfl;have f_cur:=HF.frz 2 rfl;replace HF:=ah (HF.nd4 2 rfl (.int .i64 24) (.string (tx r.tail)) (.int .i64 0) (.slice (some ⟨qs,0,none⟩) 1 1));go_simp;refine ub hK ?_;refine dq ?_;go_wp2;go_roundw
   replace HF:=ah (((HF.lay1 1 rfl 3 rfl rfl).give 1 rfl).ndOf 1 rfl 24 (tx r.tail) 0)
   case rel=>exact⟨m,.mk 24 (tx r.tail) 0 [n],r.tail.tail,some ⟨qs,0,none⟩,1,1,by omega,by omega,by simp +decide only [Q.bind,bC,HEq.out,dB,if_pos HQ1.out,HQ3.out,↓reduceIte,reduceCtorEq],.one 24 _ n (by simp) HSn,(HF.perm (List.Perm.trans (List.Perm.swap _ _ _) (List.Perm.cons _ (List.Perm.trans (List.Perm.cons _ (List.Perm.swap _ _ _)) (List.Perm.swap _ _ _))))).lose⟩
   case measure=>rw[hleft.out,HF.out.left];omega
 rw[if_neg hq] at hf;rw[decide_eq_false hq];have HQ1:=ah hq;replace HF:=ah hf;clear hq hf;go_wp2_with fail;go_at_call 127;refine (aW HF wLP (by decide)).mono ?_;rintro e w2 ⟨rfl,hf⟩;by_cases hq:tx r=wLP
 ·rw[if_pos hq] at hf;rw[decide_eq_true hq];have HQ2:=ah hq;have hlt2:=aF hq;replace HF:=ah hf;clear hq hf;go_wp2;refine regK [8] HF (λ w h=>(h.cell 1 rfl)) (λ wd3 HF hC=>?_);refine tq4 0 2 3 4 ?_;refine rq2 1 5 (λ K hK=>?_) λ K hK=>?_;go_simp;replace HF:=ah (HF.box (q:=wd3.heap.size) rfl #[.int .i64 n.kind,.string n.text,.int .i64 n.num,.slice a_n n_n c_n] 52);refine uq hK (HF.cell 2 rfl) λ hC=>?_;try simp only[qq]
  generalize wd3.heap.size=qs at *;refine rq 5 λ K hK=>?_;go_simp;refine (parts_any HE wRP (by decide) HF (by omega)).mono ?_;rintro e w4 (⟨r4,h3,rfl,hf⟩|⟨l,r4,v,h3,hl4,hm4,hS,rfl,hf⟩)
  ·exact⟨rfl,PN.no (by simp +decide only [Q.bind,bC,HEq.out,dB,if_neg HQ1.out,if_pos HQ2.out,h3,↓reduceIte,reduceCtorEq]) hf.lose⟩
  have H4:=ah h3;have HSl:=ah hS;replace HF:=ah hf;clear h3 hf hS;refine uq hK (HF.cell 3 rfl) λ hC=>?_;try simp only[qq]
  replace HF:=ah (HF.lay1 2 rfl 4 rfl rfl);rotate_left;go_simp;refine (parts_any HE wRP (by decide) HF (by omega)).mono ?_;rintro e w4 (⟨r4,h3,rfl,hf⟩|⟨l,r4,v,h3,hl4,hm4,hS,rfl,hf⟩)
  ·exact⟨rfl,PN.no (by simp +decide only [Q.bind,bC,HEq.out,dB,if_neg HQ1.out,if_pos HQ2.out,h3,↓reduceIte,reduceCtorEq]) hf.lose⟩
  have H4:=ah h3;have HSl:=ah hS;replace HF:=ah hf;clear h3 hf hS;refine uq hK (HF.cell 2 rfl) λ hC=>?_;refine rq 1 λ K hK=>?_;go_simp;replace HF:=ah (HF.box (q:=w4.heap.size) rfl #[.int .i64 n.kind,.string n.text,.int .i64 n.num,.slice a_n n_n c_n] 52);refine uq hK (HF.cell 3 rfl) λ hC=>?_;try simp only[qq]
  generalize w4.heap.size=qs at *;replace HF:=ah ((HF.lay1 1 rfl 4 rfl rfl).perm (List.Perm.cons _ (List.Perm.swap _ _ _)));all_goals
   refine rq 6 λ K hK=>?_;refine fR (by rfl) (Fr.elRows fB underlying50 rfl (by decide) (by decide) nd_one HF 2 1 rfl rfl (by simp) (by omega) _ _ rfl rfl rfl λ ad cap w5 hF=>?_);replace HF:=ah (hF.give 2 rfl);clear hF;simp only[List.length_cons,List.length_nil,List.cons_append,List.nil_append,Nat.zero_add] at HF;refine uq hK (HF.cell 3 rfl) λ hC=>?_;refine tq 7 ?_;refine rqb 8 λ K hK=>?_;have c_cur:=HF.cell 3 rfl;have f_cur:=HF.frz 3 rfl;replace HF:=ah (HF.nd4 3 rfl (.int .i64 25) (.string eB) (.int .i64 0) (.slice ad (1+l.length) cap));go_simp;refine ub hK ?_;refine dq ?_;go_wp2;go_roundw
   replace HF:=ah (HF.ndOf 2 rfl 25 eB 0)
   case rel=>exact⟨m,.mk 25 eB 0 (n::l),r4,ad,_,cap,by omega,by omega,by simp +decide only [Q.bind,bC,HEq.out,dB,if_neg HQ1.out,if_pos HQ2.out,H4.out,↓reduceIte,reduceCtorEq],.call n l HSn HSl,(HF.perm (List.Perm.trans (List.Perm.swap _ _ _) (List.Perm.cons _ (List.Perm.trans (List.Perm.cons _ (List.Perm.trans (List.Perm.cons _ (List.Perm.swap _ _ _)) (List.Perm.swap _ _ _))) (List.Perm.swap _ _ _))))).lose⟩
   case measure=>rw[hleft.out,HF.out.left];omega
 rw[if_neg hq] at hf;rw[decide_eq_false hq];have HQ2:=ah hq;replace HF:=ah hf;clear hq hf;have c_cur:=HF.cell 1 rfl;have c_res:=HF.cell 3 rfl;have f_res:=HF.frz 3 rfl;replace HF:=ah (HF.nd4 3 rfl (.int .i64 n.kind) (.string n.text) (.int .i64 n.num) (.slice a_n n_n c_n));go_wp2;refine br (rt52 results197 rfl (HF.blkAt 3 rfl)) ?_;exact PN.yes (r:=r) (by simp +decide only [Q.bind,bC,HEq.out,dB,if_neg HQ1.out,if_neg HQ2.out,↓reduceIte,reduceCtorEq]) (by omega) HSn HF.lose
theorem tst {x : ByteArray} {l : List UInt8} (h:s=x) (hx:x.data.toList=l):(s.toList == l)=true:=bytes_same _ _ (by rw[h];exact hx)
theorem tsf {x : ByteArray} {l : List UInt8} (h:¬ s=x) (hx:x.data.toList=l):(s.toList == l)=false:=bytes_eq _ _ λ e=>h (ByteArray.ext (Array.toList_inj.1 (e.trans hx.symm)))
theorem inside1 {E : List Tok→Q Nd} {x : ByteArray} (hE:Meth 189 Ex E N) (h:Fr B w (.ps b ts::.blk q #[.string x] 9::L)) (hN:ts.length≤N) (hq:tx ts=x) (hx:x.size≠0):Calls prog 187 #[ptr b,.slice (some ⟨q,0,none⟩) 1 1] w (PN Ex (cN E ts.tail) ts.length B b L):=by
 refine (inside_any hE h hN [x] (by simpa using hx) (some ⟨q,0,none⟩) 1 (λ_=>⟨q,0,_,rfl,rfl,rfl⟩) (by simp)).mono ?_;rw[show (asks [x] ts).bind (λ_ r=>cN E r)=cN E ts.tail by simp [asks,hq,Q.bind]];rintro e w1 (⟨r,h1,rfl,hf⟩|⟨n,r,a,kn,c,h1,hl,hS,rfl,hf⟩)
 ·exact PN.no h1 hf.lose
 exact PN.yes h1 hl hS hf.lose
theorem inside0 {E : List Tok→Q Nd} (hE:Meth 189 Ex E N) (h:Fr B w (.ps b ts::L)) (hN:ts.length≤N):Calls prog 187 #[ptr b,.slice none 0 0] w (PN Ex (cN E ts) ts.length B b L):=by
 exact inside_any hE h hN [] (by simp) none 0 (λ h=>absurd rfl h) (by simp)
theorem fL (h:Fr B w L) (i j:Nat) (hi:L[i]?=some (.blk q #[.int .i64 x.kind,.string x.text,.int .i64 x.num,.slice a_x n_x c_x] 52)) (hj:L[j]?=some (.el NdE (ndc x.kind x.text x.num a_x n_x c_x) x)) (k:Int):Calls prog 186 #[.int .i64 k,.slice (some ⟨q,0,none⟩) 1 1] w λ e w'=>e=.returned (.agg #[.int .i64 k,.string eB,.int .i64 0,.slice (some ⟨q,0,none⟩) 1 1])∧Fr B w' (.el NdE (ndc k eB 0 (some ⟨q,0,none⟩) 1 1) (.mk k eB 0 [x])::L.set i (.sl NdE (.slice (some ⟨q,0,none⟩) 1 1) 52 4 [x])):=by
 have hl:=(List.getElem?_eq_some_iff.1 hi).1;have h2:=(h.lay1 i hi j hj rfl).give i (List.getElem?_set_self hl);rw[List.set_set] at h2;refine (node_any (h2.ndOf i (List.getElem?_set_self hl) k eB 0) k _ _ _).mono ?_;rintro e w1 ⟨rfl,hf⟩;exact⟨rfl,hf⟩
theorem first_any {E : List Tok→Q Nd} (hE:Meth 189 Ex E N) (h:Fr B w (.ps b ts::L)) (hN:ts.length≤N):Calls prog 214 #[ptr b] w (PN Ex (dP E ts) ts.length B b L):=by
 have hal0:=h.tokAll.1;have HF:=ah h;have HE:=ah hE;clear h hE;go_enter func214,ntmps214;replace HF:=ah (HF.box (q:=w.heap.size) rfl ndz 52);go_upto_region 1 with fail
 obtain⟨pa,pc,mb,hx⟩:=HF.psOpen;have hsz:=tx_size HF.tokAll;have HX:=ah hx.drew;have HY:=ah (hx.xbox (q:=w.heap.size+1) (by simp) #[.int .i64 0,.int .i64 0] 127).drew;have HTa:=ah (dL HX.out.psShut);have HTb:=ah (dL HY.out.psShut);have xa:=HX.xc;have xb:=HY.xc;have la:=HX.xl (tx ts) hsz;have lb:=HY.xl (tx ts) hsz;obtain⟨T,hT⟩:∃T,T=dV (tx ts):=⟨_,rfl⟩
 obtain⟨k0,k1,ok⟩:=T;rw[← hT] at la lb;have HTw:=ah hT.symm;clear hT;simp only at la lb;replace HF:=ah (hx.xbox (q:=w.heap.size+1) (by simp) #[.int .i64 k0,.int .i64 k1] 127).psShut.drew;clear hx;go_cut [3,4] from 6 to 15 (λ p q wx=>∃qt,p=.pointer (some ⟨qt,0,none⟩)∧q=.bool ok∧Hid (Fr B wx (.ps b ts::.blk qt #[.int .i64 k0,.int .i64 k1] 127::.blk w.heap.size ndz 52::L)))
 case first=>
  go_region_with (first|(go_at_call 149;refine HTa.mono ?_;rintro e w1 ⟨rfl,rfl⟩)|(go_at_call 149;refine HTb.mono ?_;rintro e w1 ⟨rfl,rfl⟩))
  all_goals
   go_wp2;go_meet
   case rel=>exact⟨_,rfl,rfl,HF⟩
 case rest=>
  clear HX HY HTa HTb xa xb la lb HF;obtain⟨qt,rfl,rfl,HF⟩:=hcut;cases ok with
  | true=>
   have hlt:=two_lt HTw;have HKd:Hid ((tx ts).size≠0∧(k1=30∨k1=31)):=by
    rcases two_kind HTw with⟨h,-,h1⟩|⟨h,-,h1⟩
    ·exact⟨by rw[h];decide,Or.inl h1⟩
    exact⟨by rw[h];decide,Or.inr h1⟩
   go_wp2;refine regK [] HF (λ w h=>(h.cell 1 rfl)) (λ wd2 HF hC=>?_);refine tq4 0 1 2 3 ?_;refine rq 4 λ K hK=>?_;go_simp;refine (dL HF).mono ?_;rintro e w3 ⟨rfl,rfl⟩;refine uq hK (HF.cell 1 rfl) λ hC=>?_;refine rq 5 λ K hK=>?_;go_simp;replace HF:=ah (HF.box (q:=w3.heap.size) rfl #[.string (tx ts)] 9);refine uq hK (HF.cell 2 rfl) λ hC=>?_;refine rq 6 λ K hK=>?_;go_simp;refine (inside1 HE HF (by omega) rfl HKd.1).mono ?_;rintro e w4 (⟨r4,h3,rfl,hf⟩|⟨x,r4,a_x,n_x,c_x,h3,hl4,hS,rfl,hf⟩)
   ·exact⟨rfl,PN.no (by simp +decide only [dP,Q.bind,bC,HTw.out,h3,↓reduceIte,reduceCtorEq]) hf.lose⟩
   have H4:=ah h3;have HS_x:=ah hS;replace HF:=ah hf;clear h3 hf hS;refine uq hK (HF.cell 2 rfl) λ hC=>?_;refine rq 7 λ K hK=>?_;go_simp;replace HF:=ah (HF.box (q:=w4.heap.size) rfl #[.int .i64 x.kind,.string x.text,.int .i64 x.num,.slice a_x n_x c_x] 52);refine uq hK (HF.cell 3 rfl) λ hC=>?_;refine rq 8 λ K hK=>?_;go_simp;refine (fL HF 1 2 rfl rfl k1).mono ?_;rintro e w5 ⟨rfl,hf⟩;replace HF:=ah hf.swap;clear hf;refine uq hK (HF.cell 4 rfl) λ hC=>?_;refine rq 9 λ K hK=>?_;have c_res:=HF.cell 5 rfl;have f_res:=HF.frz 5 rfl;replace HF:=ah (HF.nd4 5 rfl (.int .i64 k1) (.string eB) (.int .i64 0) (.slice (some ⟨w4.heap.size,0,none⟩) 1 1));go_simp;refine uq hK (HF.cell 4 rfl) λ hC=>?_;refine dq ?_;go_wp2;refine br (rt52 results214 rfl (HF.blkAt 5 rfl)) ?_;exact PN.yes (n:=.mk k1 eB 0 [x]) (r:=r4) (by simp +decide only [dP,Q.bind,bC,HTw.out,H4.out,↓reduceIte,reduceCtorEq]) (by omega) (.one k1 eB x (by rcases HKd.2 with h|h<;>simp [h]) HS_x) HF.lose
  | false=>
   go_wp2_with fail;go_at_call 149;refine (dL HF).mono ?_;rintro e w2 ⟨rfl,rfl⟩;by_cases hq:tx ts=wLP
   ·have hb3:=tst hq (l:=[40]) rfl;have HQ3:=ah hq;have hlt3:=aF hq;clear hq;go_wp2_with fail;go_at_call 187;refine (inside0 HE HF (by omega)).mono ?_;rintro e w4 (⟨r4,h3,rfl,hf⟩|⟨x,r4,a_x,n_x,c_x,h3,hl4,hS,rfl,hf⟩)
    ·exact⟨rfl,PN.no (by simp +decide only [dP,Q.bind,bC,HTw.out,if_pos HQ3.out,h3,↓reduceIte,reduceCtorEq]) hf.lose⟩
    have H4:=ah h3;have HS_x:=ah hS;replace HF:=ah hf;clear h3 hf hS;have c_res:=HF.cell 3 rfl;have f_res:=HF.frz 3 rfl;replace HF:=ah (HF.nd4 3 rfl (.int .i64 x.kind) (.string x.text) (.int .i64 x.num) (.slice a_x n_x c_x));go_wp2;refine br (rt52 results214 rfl (HF.blkAt 3 rfl)) ?_;exact PN.yes (r:=r4) (by simp +decide only [dP,Q.bind,bC,HTw.out,if_pos HQ3.out,H4.out,↓reduceIte,reduceCtorEq]) (by omega) HS_x HF.lose
   have hb3:=tsf hq (l:=[40]) rfl;have HQ3:=ah hq;clear hq;by_cases hq:tx ts=wAMP
   ·have hb4:=tst hq (l:=[38]) rfl;have HQ4:=ah hq;have hlt4:=aF hq;clear hq;go_wp2_with fail;go_at_call 150;refine (pass_lt HF hlt4).mono ?_;rintro e w5 ⟨rfl,HF⟩;replace HF:=ah HF;go_wp2_with fail;go_at_call 151;refine (eZ HF).mono ?_;rintro e w6 (⟨hq,rfl,hf⟩|⟨hq,rfl,hf⟩)
    ·exact⟨rfl,PN.no (by simp +decide only [dP,Q.bind,bC,HTw.out,if_neg HQ3.out,if_pos HQ4.out,hq,↓reduceIte,reduceCtorEq]) hf.lose⟩
    have HQ6:=ah hq;have hlt6:=nm_lt hq;replace HF:=ah hf;clear hq hf;have c_res:=HF.cell 2 rfl;have f_res:=HF.frz 2 rfl;replace HF:=ah (HF.nd4 2 rfl (.int .i64 26) (.string (tx ts.tail)) (.int .i64 0) (.slice none 0 0));go_wp2;refine br (rt52 results214 rfl (HF.blkAt 2 rfl)) ?_;exact PN.yes (n:=.mk 26 (tx ts.tail) 0 []) (r:=ts.tail.tail) (by simp +decide only [dP,Q.bind,bC,HTw.out,if_neg HQ3.out,if_pos HQ4.out,HQ6.out,↓reduceIte,reduceCtorEq]) (by omega) (.leaf 26 _ (by simp)) (HF.ndBare 26 (tx ts.tail) 0).swap.lose
   have hb4:=tsf hq (l:=[38]) rfl;have HQ4:=ah hq;clear hq;by_cases hq:tx ts=wCOUNT
   ·have hb5:=tst hq (l:=[99,111,117,110,116]) rfl;have HQ5:=ah hq;have hlt5:=aF hq;clear hq;go_wp2_with fail;go_at_call 150;refine (pass_lt HF hlt5).mono ?_;rintro e w6 ⟨rfl,HF⟩;replace HF:=ah HF;have c_res:=HF.cell 2 rfl;have f_res:=HF.frz 2 rfl;replace HF:=ah (HF.nd4 2 rfl (.int .i64 33) (.string eB) (.int .i64 0) (.slice none 0 0));go_wp2;refine br (rt52 results214 rfl (HF.blkAt 2 rfl)) ?_;exact PN.yes (n:=.mk 33 eB 0 []) (r:=ts.tail) (by simp +decide only [dP,Q.bind,bC,HTw.out,if_neg HQ3.out,if_neg HQ4.out,if_pos HQ5.out,↓reduceIte,reduceCtorEq]) (by omega) (.leaf 33 _ (by simp)) (HF.ndBare 33 eB 0).swap.lose
   have hb5:=tsf hq (l:=[99,111,117,110,116]) rfl;have HQ5:=ah hq;clear hq;by_cases hq:tx ts=wEXTRA
   ·have hb6:=tst hq (l:=[101,120,116,114,97]) rfl;have HQ6:=ah hq;have hlt6:=aF hq;clear hq;go_wp2_with fail;go_at_call 187;refine (inside1 HE (HF.box (q:=w2.heap.size) rfl _ 9) (by omega) HQ6 (by decide)).mono ?_;rintro e w7 (⟨r7,h3,rfl,hf⟩|⟨x,r7,a_x,n_x,c_x,h3,hl7,hS,rfl,hf⟩)
    ·exact⟨rfl,PN.no (by simp +decide only [dP,Q.bind,bC,HTw.out,if_neg HQ3.out,if_neg HQ4.out,if_neg HQ5.out,if_pos HQ6.out,h3,↓reduceIte,reduceCtorEq]) hf.lose⟩
    have H7:=ah h3;have HS_x:=ah hS;replace HF:=ah hf;clear h3 hf hS;replace HF:=ah (HF.box (q:=w7.heap.size) rfl #[.int .i64 x.kind,.string x.text,.int .i64 x.num,.slice a_x n_x c_x] 52);go_wp2_with fail;go_at_call 186;refine (fL HF 1 2 rfl rfl 34).mono ?_;rintro e w8 ⟨rfl,hf⟩;replace HF:=ah hf.swap;clear hf;have c_res:=HF.cell 5 rfl;have f_res:=HF.frz 5 rfl;replace HF:=ah (HF.nd4 5 rfl (.int .i64 34) (.string eB) (.int .i64 0) (.slice (some ⟨w7.heap.size,0,none⟩) 1 1));go_wp2;refine br (rt52 results214 rfl (HF.blkAt 5 rfl)) ?_;exact PN.yes (n:=.mk 34 eB 0 [x]) (r:=r7) (by simp +decide only [dP,Q.bind,bC,HTw.out,if_neg HQ3.out,if_neg HQ4.out,if_neg HQ5.out,if_pos HQ6.out,H7.out,↓reduceIte,reduceCtorEq]) (by omega) (.one 34 eB x (by simp) HS_x) HF.lose
   have hb6:=tsf hq (l:=[101,120,116,114,97]) rfl;have HQ6:=ah hq;clear hq;go_wp2_with fail;go_at_call 170;refine (isName_any HF 0 (by omega)).mono ?_;rintro e w7 ⟨rfl,rfl⟩;cases hn:nmAt ts 0 with
   | false=>
    have HN:=ah hn;clear hn;go_wp2_with fail;go_at_call 175;refine (number_any HF).mono ?_;rintro e w8 (⟨r8,h3,rfl,hf⟩|⟨x,r8,a_x,n_x,c_x,h3,hl8,hS,rfl,hf⟩)
    ·exact⟨rfl,PN.no (by simp +decide only [dP,Q.bind,bC,HTw.out,if_neg HQ3.out,if_neg HQ4.out,if_neg HQ5.out,if_neg HQ6.out,HN.out,h3,↓reduceIte,reduceCtorEq]) hf.lose⟩
    have H8:=ah h3;have HS_x:=ah hS;replace HF:=ah hf;clear h3 hf hS;have c_res:=HF.cell 3 rfl;have f_res:=HF.frz 3 rfl;replace HF:=ah (HF.nd4 3 rfl (.int .i64 x.kind) (.string x.text) (.int .i64 x.num) (.slice a_x n_x c_x));go_wp2;refine br (rt52 results214 rfl (HF.blkAt 3 rfl)) ?_;exact PN.yes (r:=r8) (by simp +decide only [dP,Q.bind,bC,HTw.out,if_neg HQ3.out,if_neg HQ4.out,if_neg HQ5.out,if_neg HQ6.out,HN.out,H8.out,↓reduceIte,reduceCtorEq]) (by omega) (by obtain⟨k,v,e,h1,h2,h3⟩:=HS_x;rw[e];exact .num k v h1 h2 h3) HF.lose
   | true=>
    have HN:=ah hn;clear hn;go_wp2_with fail;go_at_call 151;refine (eZ HF).mono ?_;rintro e w8 (⟨hq,rfl,hf⟩|⟨hq,rfl,hf⟩)
    ·exact absurd (hq.symm.trans HN) Bool.false_ne_true
    have HQ8:=ah hq;have hlt8:=nm_lt hq;replace HF:=ah hf;clear hq hf;replace HF:=ah (HF.box (q:=w8.heap.size) rfl #[.int .i64 23,.string (tx ts),.int .i64 0,.slice none 0 0] 52);go_wp2_with fail;go_at_call 127;refine (aW HF wLB (by decide)).mono ?_;rintro e w9 ⟨rfl,hf⟩;by_cases hq:tx ts.tail=wLB
    ·rw[if_pos hq] at hf;rw[decide_eq_true hq];have HQ9:=ah hq;have hlt9:=aF hq;replace HF:=ah hf;clear hq hf;have c_nm:=HF.cell 1 rfl;have f_nm:=HF.frz 1 rfl;replace HF:=ah (HF.set 1 rfl 0 (.int .i64 27));go_wp2_with fail;clear c_nm f_nm;go_at_call 203;refine (parts_any HE wRB (by decide) HF (by omega)).mono ?_;rintro e w10 (⟨r10,h3,rfl,hf⟩|⟨l,r10,v,h3,hl10,hm10,hS,rfl,hf⟩)
     ·exact⟨rfl,PN.no (by simp +decide only [dP,Q.bind,bC,HTw.out,if_neg HQ3.out,if_neg HQ4.out,if_neg HQ5.out,if_neg HQ6.out,HN.out,Bool.true_eq_false,HQ8.out,if_pos HQ9.out,h3,↓reduceIte,reduceCtorEq]) hf.lose⟩
     have H10:=ah h3;have HSl:=ah hS;obtain⟨av,cv,rfl,-,-⟩:=hf.elsForm 1 rfl;replace HF:=ah (hf.give 1 rfl);clear h3 hf hS;have c_nm:=HF.cell 2 rfl;have f_nm:=HF.frz 2 rfl;replace HF:=ah (HF.set 2 rfl 3 (.slice av l.length cv));have c_nm_:=HF.cell 2 rfl;have c_res:=HF.cell 4 rfl;have f_res:=HF.frz 4 rfl;replace HF:=ah (HF.nd4 4 rfl (.int .i64 27) (.string (tx ts)) (.int .i64 0) (.slice av l.length cv));go_wp2;refine br (rt52 results214 rfl (HF.blkAt 4 rfl)) ?_;exact PN.yes (n:=.mk 27 (tx ts) 0 l) (r:=r10) (by simp +decide only [dP,Q.bind,bC,HTw.out,if_neg HQ3.out,if_neg HQ4.out,if_neg HQ5.out,if_neg HQ6.out,HN.out,Bool.true_eq_false,HQ8.out,if_pos HQ9.out,H10.out,↓reduceIte,reduceCtorEq]) (by omega) (.make _ l HSl) (HF.ndOf 1 rfl 27 (tx ts) 0).swap.lose
    rw[if_neg hq] at hf;rw[decide_eq_false hq];have HQ9:=ah hq;replace HF:=ah hf;clear hq hf;have c_nm:=HF.cell 1 rfl;have c_res:=HF.cell 3 rfl;have f_res:=HF.frz 3 rfl;replace HF:=ah (HF.nd4 3 rfl (.int .i64 23) (.string (tx ts)) (.int .i64 0) (.slice none 0 0));go_wp2;refine br (rt52 results214 rfl (HF.blkAt 3 rfl)) ?_;exact PN.yes (n:=.mk 23 (tx ts) 0 []) (r:=ts.tail) (by simp +decide only [dP,Q.bind,bC,HTw.out,if_neg HQ3.out,if_neg HQ4.out,if_neg HQ5.out,if_neg HQ6.out,HN.out,Bool.true_eq_false,HQ8.out,if_neg HQ9.out,↓reduceIte,reduceCtorEq]) (by omega) (.leaf 23 _ (by simp)) (HF.ndBare 23 (tx ts) 0).swap.lose
theorem dC (E:List Tok→Q Nd) (n:Nd) (ts:List Tok):dB E (ts.length+1) n ts=behindF E n ts:=rfl
theorem unary_step {E U : List Tok→Q Nd} (hE:Meth 189 Ex E N) (hU:Meth 208 Ex U N) (h:Fr B w (.ps b ts::L)) (hN:ts.length≤N):Calls prog 208 #[ptr b] w (PN Ex (unaryS E U ts) ts.length B b L):=by
 have hal0:=h.tokAll.1;have HF:=ah h;have HE:=ah hE;have HU:=ah hU;clear h hE hU;go_enter func208,ntmps208;replace HF:=ah (HF.box (q:=w.heap.size) rfl ndz 52);go_wp2_with fail;go_at_call 127;refine (aW HF wMINUS (by decide)).mono ?_;rintro e w1 ⟨rfl,hf⟩;by_cases hq:tx ts=wMINUS
 ·rw[if_pos hq] at hf;rw[decide_eq_true hq];have HQ1:=ah hq;have hlt1:=aF hq;replace HF:=ah hf;clear hq hf;go_wp2_with fail;go_at_call 208;refine (HU _ _ _ _ _ (by omega) HF).mono ?_;rintro e w2 (⟨r2,h3,rfl,hf⟩|⟨x,r2,a_x,n_x,c_x,h3,hl2,hS,rfl,hf⟩)
  ·exact⟨rfl,PN.no (by simp +decide only [unaryS,Q.bind,if_pos HQ1.out,h3,↓reduceIte,reduceCtorEq]) hf.lose⟩
  have H2:=ah h3;have HS_x:=ah hS;replace HF:=ah hf;clear h3 hf hS;replace HF:=ah (HF.box (q:=w2.heap.size) rfl #[.int .i64 x.kind,.string x.text,.int .i64 x.num,.slice a_x n_x c_x] 52);go_wp2_with fail;go_at_call 186;refine (fL HF 1 2 rfl rfl 28).mono ?_;rintro e w3 ⟨rfl,hf⟩;replace HF:=ah hf.swap;clear hf;have c_res:=HF.cell 4 rfl;have f_res:=HF.frz 4 rfl;replace HF:=ah (HF.nd4 4 rfl (.int .i64 28) (.string eB) (.int .i64 0) (.slice (some ⟨w2.heap.size,0,none⟩) 1 1));go_wp2;refine br (rt52 results208 rfl (HF.blkAt 4 rfl)) ?_;exact PN.yes (n:=.mk 28 eB 0 [x]) (r:=r2) (by simp +decide only [unaryS,Q.bind,if_pos HQ1.out,H2.out,↓reduceIte,reduceCtorEq]) (by omega) (.one 28 eB x (by simp) HS_x) HF.lose
 rw[if_neg hq] at hf;rw[decide_eq_false hq];have HQ1:=ah hq;replace HF:=ah hf;clear hq hf;go_wp2_with fail;go_at_call 127;refine (aW HF wNOT (by decide)).mono ?_;rintro e w2 ⟨rfl,hf⟩;by_cases hq:tx ts=wNOT
 ·rw[if_pos hq] at hf;rw[decide_eq_true hq];have HQ2:=ah hq;have hlt2:=aF hq;replace HF:=ah hf;clear hq hf;go_wp2_with fail;go_at_call 208;refine (HU _ _ _ _ _ (by omega) HF).mono ?_;rintro e w3 (⟨r3,h3,rfl,hf⟩|⟨x,r3,a_x,n_x,c_x,h3,hl3,hS,rfl,hf⟩)
  ·exact⟨rfl,PN.no (by simp +decide only [unaryS,Q.bind,if_neg HQ1.out,if_pos HQ2.out,h3,↓reduceIte,reduceCtorEq]) hf.lose⟩
  have H3:=ah h3;have HS_x:=ah hS;replace HF:=ah hf;clear h3 hf hS;replace HF:=ah (HF.box (q:=w3.heap.size) rfl #[.int .i64 x.kind,.string x.text,.int .i64 x.num,.slice a_x n_x c_x] 52);go_wp2_with fail;go_at_call 186;refine (fL HF 1 2 rfl rfl 29).mono ?_;rintro e w4 ⟨rfl,hf⟩;replace HF:=ah hf.swap;clear hf;have c_res:=HF.cell 4 rfl;have f_res:=HF.frz 4 rfl;replace HF:=ah (HF.nd4 4 rfl (.int .i64 29) (.string eB) (.int .i64 0) (.slice (some ⟨w3.heap.size,0,none⟩) 1 1));go_wp2;refine br (rt52 results208 rfl (HF.blkAt 4 rfl)) ?_;exact PN.yes (n:=.mk 29 eB 0 [x]) (r:=r3) (by simp +decide only [unaryS,Q.bind,if_neg HQ1.out,if_pos HQ2.out,H3.out,↓reduceIte,reduceCtorEq]) (by omega) (.one 29 eB x (by simp) HS_x) HF.lose
 rw[if_neg hq] at hf;rw[decide_eq_false hq];have HQ2:=ah hq;replace HF:=ah hf;clear hq hf;go_wp2_with fail;go_at_call 214;refine (first_any HE HF (by omega)).mono ?_;rintro e w3 (⟨r3,h3,rfl,hf⟩|⟨x,r3,a_x,n_x,c_x,h3,hl3,hS,rfl,hf⟩)
 ·exact⟨rfl,PN.no (by simp +decide only [unaryS,Q.bind,if_neg HQ1.out,if_neg HQ2.out,h3,↓reduceIte,reduceCtorEq]) hf.lose⟩
 have H3:=ah h3;have HS_x:=ah hS;replace HF:=ah hf;clear h3 hf hS;go_wp2_with fail;go_at_call 197;refine (behind_any HE HF (by omega) 0 rfl HS_x).mono ?_;rintro e w4 (⟨r4,h3,rfl,hf⟩|⟨y,r4,a_y,n_y,c_y,h3,hl4,hS,rfl,hf⟩)
 ·exact⟨rfl,PN.no (by simp +decide only [unaryS,Q.bind,dC,if_neg HQ1.out,if_neg HQ2.out,H3.out,h3,↓reduceIte,reduceCtorEq]) hf.lose⟩
 have H4:=ah h3;have HS_y:=ah hS;replace HF:=ah hf;clear h3 hf hS;have c_res:=HF.cell 3 rfl;have f_res:=HF.frz 3 rfl;replace HF:=ah (HF.nd4 3 rfl (.int .i64 y.kind) (.string y.text) (.int .i64 y.num) (.slice a_y n_y c_y));go_wp2;refine br (rt52 results208 rfl (HF.blkAt 3 rfl)) ?_;exact PN.yes (r:=r4) (by simp +decide only [unaryS,Q.bind,dC,if_neg HQ1.out,if_neg HQ2.out,H3.out,H4.out,↓reduceIte,reduceCtorEq]) (by omega) HS_y HF.lose
theorem un_meth:∀k,Meth 208 Ex (unaryK k) k
 | 0=>λ_ _ _ _ _ hl _=>absurd hl (Nat.not_lt_zero _)
 | k+1=>λ B w b ts L hl h=>unary_step (E:=exprS (unaryK k)) (λ B w b ts L hl h=>expr_step (un_meth k) h hl) (un_meth k) h (by omega)
theorem eU (N:Nat):Meth 189 Ex exprQ N:=λ B w b ts L hl h=>expr_step (un_meth 4001) h (by have:=h.tokAll.1;omega)
theorem Fr.kidAt (h:Fr B w L) (i:Nat) {n : Nat} (hi:L[i]?=some (.sl NdE (.slice a n c) 52 4 l)) (j:Nat) (hj:j<l.length):∃g o cur f a' n' c',a=some ⟨g,o,none⟩∧n=l.length∧n≤c∧c≤maxLen∧(∀k,k<4→cur[o+j*4+k]?=(ndc l[j].kind l[j].text l[j].num a' n' c')[k]?)∧Fr B w (.el NdE (ndc l[j].kind l[j].text l[j].num a' n' c') l[j]::.kn g cur 52 f::L):=by
 obtain⟨g,o,c',cur,f,cs,h1,h2,h3,h4,h5,h6⟩:=h.elem i hi j hj;cases h1;obtain⟨a',c'',rfl⟩:=h6.ndForm 0 rfl;exact⟨g,o,cur,f,a',_,c'',rfl,rfl,h2,h3,h5,h6⟩
theorem Fr.kidHere (h:Fr B w L) (i:Nat) {m : Int} {n : Nat} (hi:L[i]?=some (.el NdE (ndc k s m a n c) (.mk k s m l))) (j:Nat) (hj:j<l.length):∃g o a' n' c',a=some ⟨g,o,none⟩∧n=l.length∧n≤c∧c≤maxLen∧w.cell? ⟨g,o+j*4,none⟩=some (.int .i64 l[j].kind)∧w.cell? ⟨g,o+j*4+1,none⟩=some (.string l[j].text)∧w.cell? ⟨g,o+j*4+2,none⟩=some (.int .i64 l[j].num)∧w.cell? ⟨g,o+j*4+3,none⟩=some (.slice a' n' c')∧Fr B w (.el NdE (ndc l[j].kind l[j].text l[j].num a' n' c') l[j]::L):=by
 obtain⟨hn,h1⟩:=h.kids i hi;obtain⟨g,o,cur,f,a',n',c',e1,e2,e3,e4,e5,h2⟩:=h1.kidAt 0 rfl j hj;have hc:=h2.knc 1 rfl;exact⟨g,o,a',n',c',e1,e2,e3,e4,(hc _).trans (e5 0 (by omega)),(hc _).trans (e5 1 (by omega)),(hc _).trans (e5 2 (by omega)),(hc _).trans (e5 3 (by omega)),h2.lose⟩
def chain:Nd→Nat
 | .mk _ _ _ (x::_)=>chain x+1
 | _=>0
theorem Ex.dot (h:Ex n) (hk:n.kind=24):∃s x,n=.mk 24 s 0 [x]∧Ex x:=by
 cases h with
 | num k m h=>simp [Nd.kind] at hk;omega
 | leaf k s h=>simp [Nd.kind] at hk;omega
 | one k s x h hx=>simp only[Nd.kind] at hk;subst hk;exact⟨s,x,rfl,hx⟩
 | op m x y=>simp [Nd.kind] at hk
 | call x l=>simp [Nd.kind] at hk
 | make s l=>simp [Nd.kind] at hk
theorem Ex.called (h:Ex n) (hk:n.kind=25):∃x l,n=.mk 25 eB 0 (x::l)∧Ex x∧∀y,y∈l→Ex y:=by
 cases h with
 | num k m h=>simp [Nd.kind] at hk;omega
 | leaf k s h=>simp [Nd.kind] at hk;omega
 | one k s x h hx=>simp only[Nd.kind] at hk;omega
 | op m x y=>simp [Nd.kind] at hk
 | call x l hx hl=>exact⟨x,l,rfl,hx,hl⟩
 | make s l=>simp [Nd.kind] at hk
theorem place_no (h:Ex n) (hk:n.kind≠24):fK n=decide (n.kind=23):=by
 obtain⟨k,s,m,l⟩:=n;simp only[Nd.kind] at hk ⊢;unfold fK;split
 ·rename_i e;cases e;exact absurd rfl hk
 rename_i e;cases e;rfl
theorem isPlace_any (h:Fr B w L) (i:Nat) (hi:L[i]?=some (.el NdE (ndc x.kind x.text x.num a_x n_x c_x) x)) (hx:Ex x):Calls prog 199 #[.agg #[.int .i64 x.kind,.string x.text,.int .i64 x.num,.slice a_x n_x c_x]] w λ e w'=>e=.returned (.bool (fK x))∧Fr B w' L:=by
 have HM:Hid (∃n a kn c,fK x=fK n∧Ex n∧chain n=chain x∧Fr B (w.alloc (.cells #[.int .i64 x.kind,.string x.text,.int .i64 x.num,.slice a_x n_x c_x] 52)) (.el NdE (ndc n.kind n.text n.num a kn c) n::.blk w.heap.size #[.int .i64 n.kind,.string n.text,.int .i64 n.num,.slice a kn c] 52::L)):=⟨x,a_x,n_x,c_x,rfl,hx,rfl,(h.alloc rfl _ 52).dup (i+1) hi⟩
 clear h hi hx;go_enter func199,ntmps199;go_wp2_with fail;generalize hq:w.heap.size=q at *;generalize w.alloc (.cells #[.int .i64 x.kind,.string x.text,.int .i64 x.num,.slice a_x n_x c_x] 52)=ws at *;clear hq;go_loopg [4] (chain x) (λ k _ wr=>Hid (∃n a kn c,fK x=fK n∧Ex n∧chain n=k∧Fr B wr (.el NdE (ndc n.kind n.text n.num a kn c) n::.blk q #[.int .i64 n.kind,.string n.text,.int .i64 n.num,.slice a kn c] 52::L)))
 case atStart=>exact HM
 clear HM;obtain⟨n,a,kn,c,heq,hE,hc,hf⟩:=hrel.out;clear hrel;by_cases hk:n.kind=24
 ·obtain⟨s,y,rfl,hy⟩:=hE.dot hk;simp only[Nd.kind,Nd.text,Nd.num] at *;obtain⟨g,o,a',n',c',rfl,rfl,h2,h3,k0,k1,k2,k3,hf2⟩:=hf.kidHere 0 rfl 0 (by simp);simp only[List.getElem_cons_zero,Nat.zero_mul,Nat.add_zero,List.length_cons,List.length_nil,Nat.zero_add] at *;have HEq:=ah heq;have HY:=ah hy;have HC:=ah hc;have HF:=ah hf2;unfold maxLen at h3;clear heq hE hc hf hf2 hy hk;have d0:=HF.cell 2 rfl;have f0:=HF.frz 2 rfl;replace HF:=ah (HF.nd4 2 rfl (.int .i64 y.kind) (.string y.text) (.int .i64 y.num) (.slice a' n' c'));go_wp2;go_roundg (chain y)
  case rel=>exact⟨y,a',n',c',by rw[HEq.out];rfl,HY,rfl,HF.lose⟩
  case measure=>have:=HC.out;simp [chain] at this;omega
 have hk':(n.kind == 24)=false:=by simpa using hk
 have HEq:=ah (heq.trans (place_no hE hk));have d0:=hf.cell 1 rfl;have HF:=ah hf;clear heq hE hc hf hk;go_wp2;go_ret
 exact⟨by rw[HEq.out];rfl,HF.lose⟩
theorem called_no (hk:n.kind≠24) (hk2:n.kind≠25):dU n=decide (n.kind=23):=by
 obtain⟨k,s,m,l⟩:=n;simp only[Nd.kind] at hk hk2 ⊢;unfold dU;split
 ·rename_i e;cases e;exact absurd rfl hk
 ·rename_i e;cases e;exact absurd rfl hk2
 rename_i e;cases e;rfl
theorem Ex.firstKid (h:Ex n) (hk:n.kind=24∨n.kind=25):∃k s x l,n=.mk k s 0 (x::l)∧(k=24∨k=25)∧Ex x:=by
 rcases hk with hk|hk
 ·obtain⟨s,x,rfl,hx⟩:=h.dot hk;exact⟨24,s,x,[],rfl,Or.inl rfl,hx⟩
 obtain⟨x,l,rfl,hx,-⟩:=h.called hk;exact⟨25,eB,x,l,rfl,Or.inr rfl,hx⟩
theorem called_kid (hk:k=24∨k=25):dU (.mk k s 0 (x::l))=dU x:=by
 rcases hk with rfl|rfl<;>simp [dU]
theorem isCall_any (h:Fr B w L) (i:Nat) (hi:L[i]?=some (.el NdE (ndc x.kind x.text x.num a_x n_x c_x) x)) (hx:Ex x):Calls prog 198 #[.agg #[.int .i64 x.kind,.string x.text,.int .i64 x.num,.slice a_x n_x c_x]] w λ e w'=>e=.returned (.bool (callB x))∧Fr B w' L:=by
 have HM:Hid (∃n a kn c,dU x=dU n∧Ex n∧chain n=chain x∧Fr B (w.alloc (.cells #[.int .i64 x.kind,.string x.text,.int .i64 x.num,.slice a_x n_x c_x] 52)) (.el NdE (ndc n.kind n.text n.num a kn c) n::.blk w.heap.size #[.int .i64 n.kind,.string n.text,.int .i64 n.num,.slice a kn c] 52::L)):=⟨x,a_x,n_x,c_x,rfl,hx,rfl,(h.alloc rfl _ 52).dup (i+1) hi⟩
 have d0:=(h.alloc (q:=w.heap.size) rfl #[.int .i64 x.kind,.string x.text,.int .i64 x.num,.slice a_x n_x c_x] 52).cell 0 rfl;have HF0:=ah (h.alloc (q:=w.heap.size) rfl #[.int .i64 x.kind,.string x.text,.int .i64 x.num,.slice a_x n_x c_x] 52);clear h hi hx;by_cases hk5:x.kind=25
 ·have hb:(x.kind != 25)=false:=by simp [hk5]
  have HB:Hid (callB x=dU x):=by show _=_;simp [callB,hk5]
  clear hk5 HF0;go_enter func198,ntmps198;go_wp2_with fail;clear d0 hb;generalize hq:w.heap.size=q at *;generalize w.alloc (.cells #[.int .i64 x.kind,.string x.text,.int .i64 x.num,.slice a_x n_x c_x] 52)=ws at *;clear hq;go_loopg [7] (chain x) (λ k _ wr=>Hid (∃n a kn c,dU x=dU n∧Ex n∧chain n=k∧Fr B wr (.el NdE (ndc n.kind n.text n.num a kn c) n::.blk q #[.int .i64 n.kind,.string n.text,.int .i64 n.num,.slice a kn c] 52::L)))
  case atStart=>exact HM
  clear HM;obtain⟨n,a,kn,c,heq,hE,hc,hf⟩:=hrel.out;clear hrel;by_cases hk:n.kind=24∨n.kind=25
  ·obtain⟨kd,s,y,l,rfl,hkd,hy⟩:=hE.firstKid hk;rw[called_kid hkd] at heq;simp only[Nd.kind,Nd.text,Nd.num] at *;obtain⟨g,o,a',n',c',rfl,rfl,h2,h3,k0,k1,k2,k3,hf2⟩:=hf.kidHere 0 rfl 0 (by simp);simp only[List.getElem_cons_zero,Nat.zero_mul,Nat.add_zero] at *;have HEq:=ah heq;have HY:=ah hy;have HC:=ah hc;have HF:=ah hf2;unfold maxLen at h3;have hl0:(0:Int)<((y::l).length:Int):=by rw[List.length_cons];omega
   clear heq hE hc hf hf2 hy hk;generalize (y::l).length=nn at *;have d0:=HF.cell 2 rfl;have f0:=HF.frz 2 rfl;replace HF:=ah (HF.nd4 2 rfl (.int .i64 y.kind) (.string y.text) (.int .i64 y.num) (.slice a' n' c'));rcases hkd with rfl|rfl;all_goals
    go_wp2;go_roundg (chain y)
    case rel=>exact⟨y,a',n',c',HEq,HY,rfl,HF.lose⟩
    case measure=>have:=HC.out;simp [chain] at this;omega
  have hk4:(n.kind == 24)=false:=by simp;exact λ e=>hk (Or.inl e)
  have hk5:(n.kind == 25)=false:=by simp;exact λ e=>hk (Or.inr e)
  have HEq:=ah (heq.trans (called_no (λ e=>hk (Or.inl e)) (λ e=>hk (Or.inr e))));have d0:=hf.cell 1 rfl;have HF:=ah hf;clear heq hE hc hf hk;go_wp2;go_ret
  exact⟨by rw[HB.out,HEq.out];rfl,HF.lose⟩
 have hb:(x.kind != 25)=true:=by simp [hk5]
 have HB:Hid (callB x=false):=by show _=_;simp [callB,hk5]
 clear hk5 HM;go_enter func198,ntmps198;go_wp2;go_ret
 exact⟨by rw[HB.out];rfl,HF0.lose⟩
theorem setOrDo_any (h:Fr B w (.ps b ts::L)):Calls prog 190 #[ptr b] w (PN St (eD ts) ts.length B b L):=by
 have hal0:=h.tokAll.1;have HF:=ah h;clear h;go_enter func190,ntmps190;replace HF:=ah (HF.box (q:=w.heap.size) rfl ndz 52);go_wp2_with fail;go_at_call 151;refine (eZ HF).mono ?_;rintro e w1 (⟨hq,rfl,hf⟩|⟨hq,rfl,hf⟩)
 ·exact⟨rfl,PN.no (by simp +decide only [eD,Q.bind,bC,eat,dC,hq,↓reduceIte,reduceCtorEq]) hf.lose⟩
 have HQ1:=ah hq;have hlt1:=nm_lt hq;replace HF:=ah hf;clear hq hf;replace HF:=ah (HF.ndBare 23 (tx ts) 0).swap;go_wp2_with fail;go_at_call 197;refine (behind_any (x:=.mk 23 (tx ts) 0 []) (eU 4001) HF (by omega) 0 rfl (.leaf 23 _ (by simp))).mono ?_;rintro e w2 (⟨r2,h3,rfl,hf⟩|⟨x,r2,a_x,n_x,c_x,h3,hl2,hS,rfl,hf⟩)
 ·exact⟨rfl,PN.no (by simp +decide only [eD,Q.bind,bC,eat,dC,HQ1.out,h3,↓reduceIte,reduceCtorEq]) hf.lose⟩
 have H2:=ah h3;have HS_x:=ah hS;replace HF:=ah hf;clear h3 hf hS;replace HF:=ah (HF.box (q:=w2.heap.size) rfl #[.int .i64 x.kind,.string x.text,.int .i64 x.num,.slice a_x n_x c_x] 52);have c_cur:=HF.cell 1 rfl;go_wp2_with fail;clear c_cur;go_at_call 198;refine (isCall_any HF 2 rfl HS_x).mono ?_;rintro e w3 ⟨rfl,HF⟩;replace HF:=ah HF;cases hc:callB x with
 | true=>
  have HC:=ah hc;clear hc;have c_cur:=HF.cell 1 rfl;replace HF:=ah (HF.box (q:=w3.heap.size) rfl #[.int .i64 x.kind,.string x.text,.int .i64 x.num,.slice a_x n_x c_x] 52);go_wp2_with fail;clear c_cur;go_at_call 186;refine (fL HF 1 3 rfl rfl 20).mono ?_;rintro e w4 ⟨rfl,hf⟩;replace HF:=ah hf.swap;clear hf;have c_res:=HF.cell 6 rfl;have f_res:=HF.frz 6 rfl;replace HF:=ah (HF.nd4 6 rfl (.int .i64 20) (.string eB) (.int .i64 0) (.slice (some ⟨w3.heap.size,0,none⟩) 1 1));go_wp2;refine br (rt52 results190 rfl (HF.blkAt 6 rfl)) ?_;exact PN.yes (n:=.mk 20 eB 0 [x]) (r:=r2) (by simp +decide only [eD,Q.bind,bC,eat,dC,HQ1.out,H2.out,HC.out,↓reduceIte,reduceCtorEq]) (by omega) (.one 20 x (by simp) HS_x) HF.lose
 | false=>
  have HC:=ah hc;clear hc;have c_cur:=HF.cell 1 rfl;go_wp2_with fail;clear c_cur;go_at_call 199;refine (isPlace_any HF 2 rfl HS_x).mono ?_;rintro e w4 ⟨rfl,HF⟩;replace HF:=ah HF;cases hp:fK x with
  | false=>
   have HP:=ah hp;clear hp;go_wp2_with fail;go_at_call 171;refine (giveUp_any HF).mono ?_;rintro e w5 ⟨rfl,rfl⟩;exact⟨rfl,PN.no (by simp +decide only [eD,Q.bind,bC,eat,dC,HQ1.out,H2.out,HC.out,HP.out,↓reduceIte,reduceCtorEq]) HF.lose⟩
  | true=>
   have HP:=ah hp;clear hp;go_wp2_with fail;go_at_call 152;refine (ask1 (x:=wEQ) (HF.box (q:=w4.heap.size) rfl _ 9)).mono ?_;rintro e w5 (⟨hq,rfl,hf⟩|⟨hq,rfl,hf⟩)
   ·exact⟨rfl,PN.no (by simp +decide only [eD,Q.bind,bC,eat,dC,HQ1.out,H2.out,HC.out,HP.out,Bool.true_eq_false,if_neg hq,↓reduceIte,reduceCtorEq]) hf.lose⟩
   have HQ5:=ah hq;have hlt5:=aF hq;replace HF:=ah hf;clear hq hf;go_wp2;refine regK [] HF (λ w h=>(h.cell 1 rfl)) (λ wd6 HF hC=>?_);refine tq2 0 1 ?_;refine rq 2 λ K hK=>?_;go_simp;refine (eU 4001 _ _ _ _ _ (by omega) HF).mono ?_;rintro e w7 (⟨r7,h3,rfl,hf⟩|⟨y,r7,a_y,n_y,c_y,h3,hl7,hS,rfl,hf⟩)
   ·exact⟨rfl,PN.no (by simp +decide only [eD,Q.bind,bC,eat,dC,HQ1.out,H2.out,HC.out,HP.out,Bool.true_eq_false,if_pos HQ5.out,h3,↓reduceIte,reduceCtorEq]) hf.lose⟩
   have H7:=ah h3;have HS_y:=ah hS;replace HF:=ah hf;clear h3 hf hS;refine uq hK (HF.cell 2 rfl) λ hC=>?_;refine rq 3 λ K hK=>?_;go_simp;replace HF:=ah (HF.box (q:=w7.heap.size) rfl #[.int .i64 x.kind,.string x.text,.int .i64 x.num,.slice a_x n_x c_x,.int .i64 y.kind,.string y.text,.int .i64 y.num,.slice a_y n_y c_y] 52);refine uq hK (HF.cell 3 rfl) λ hC=>?_;refine rq 4 λ K hK=>?_;go_simp;replace HF:=ah (((HF.lay2 1 rfl 4 2 rfl rfl two_cells rfl rfl).give 1 rfl).ndOf 1 rfl 15 eB 0).swap;refine (node_any HF _ _ _ _).mono ?_;rintro e w8 ⟨rfl,HF⟩;replace HF:=ah HF;refine uq hK (HF.cell 4 rfl) λ hC=>?_;refine rq 5 λ K hK=>?_;have c_res:=HF.cell 7 rfl;have f_res:=HF.frz 7 rfl;replace HF:=ah (HF.nd4 7 rfl (.int .i64 15) (.string eB) (.int .i64 0) (.slice (some ⟨w7.heap.size,0,none⟩) 2 2));go_simp;refine uq hK (HF.cell 4 rfl) λ hC=>?_;refine dq ?_;go_wp2;refine br (rt52 results190 rfl (HF.blkAt 7 rfl)) ?_;exact PN.yes (n:=.mk 15 eB 0 [x,y]) (r:=r7) (by simp +decide only [eD,Q.bind,bC,eat,dC,HQ1.out,H2.out,HC.out,HP.out,Bool.true_eq_false,if_pos HQ5.out,H7.out,↓reduceIte,reduceCtorEq]) (by omega) (.set x y HS_x (by have:=HP.out;exact this) HS_y) HF.lose
end Go.Proofs.YtdnhbedbpbgeeaaGreatDoor.K
