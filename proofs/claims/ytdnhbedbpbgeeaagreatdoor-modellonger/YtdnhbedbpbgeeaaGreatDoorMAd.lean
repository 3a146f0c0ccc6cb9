/- 3 -/
import Derived.Test.YtdnhbedbpbgeeaaGreatDoorMAc
import Derived.Maps.Own
import Derived.Maps.Views
import Derived.StringKeys
import Derived.Defers
import Derived.Recover
import Derived.Test.YtdnhbedbpbgeeaaGreatDoorProg
import Derived.WalkKit
import Derived.WalkSpells
import Derived.Outline
import Derived.LoopTactic
import Derived.Laws.Cover1
import Derived.BigQuiet
set_option maxRecDepth 100000
set_option maxHeartbeats 8000000
set_option linter.all false
namespace Go.Proofs.YtdnhbedbpbgeeaaGreatDoor.K
open Go.RowKit Go.Proofs.Tryz
variable {a : Option Addr} {v x0 x1 v2 : Value} {mb q c N j n : Nat} {w : World} {α : Type} {P : Program} {q2 : Addr}
variable {B : Bs} {w' : World} {L : List Rs} {b : Nat} {ts : List Tok} {t : Tok}
theorem stat_step {K : List Tok→Q Nd} (hB:Meth 156 Bl K N) (h:Fr B w (.ps b ts::L)) (hN:ts.length≤N):Calls prog 176 #[ptr b] w (PN St (b9 K ts) ts.length B b L):=by
 have hal0:=h.tokAll.1;have HF:=ah h;have HB:=ah hB;clear h hB;go_enter func176,ntmps176;replace HF:=ah (HF.box (q:=w.heap.size) rfl ndz 52);go_wp2_with fail;go_at_call 149;refine (dL HF).mono ?_;rintro e w1 ⟨rfl,rfl⟩;by_cases hq:tx ts=wIF
 ·have hb2:=tst hq (l:=[105,102]) rfl;have HQ2:=ah hq;have hlt2:=aF hq;clear hq;go_wp2_with fail;go_at_call 187;refine (inside1 (eU 4001) (HF.box (q:=w.heap.size+1) (by simp) _ 9) (by omega) HQ2 (by decide)).mono ?_;rintro e w3 (⟨r3,h3,rfl,hf⟩|⟨x,r3,a_x,n_x,c_x,h3,hl3,hS,rfl,hf⟩)
  ·exact⟨rfl,PN.no (by simp +decide only [b9,Q.bind,eat,if_pos HQ2.out,h3,↓reduceIte,reduceCtorEq]) hf.lose⟩
  have H3:=ah h3;have HS_x:=ah hS;replace HF:=ah hf;clear h3 hf hS;go_wp2_with fail;go_at_call 156;refine (HB _ _ _ _ _ (by omega) HF).mono ?_;rintro e w4 (⟨r4,h3,rfl,hf⟩|⟨y,r4,a_y,n_y,c_y,h3,hl4,hS,rfl,hf⟩)
  ·exact⟨rfl,PN.no (by simp +decide only [b9,Q.bind,eat,if_pos HQ2.out,H3.out,h3,↓reduceIte,reduceCtorEq]) hf.lose⟩
  have H4:=ah h3;have HS_y:=ah hS;replace HF:=ah hf;clear h3 hf hS;replace HF:=ah (HF.box (q:=w4.heap.size) rfl #[.int .i64 x.kind,.string x.text,.int .i64 x.num,.slice a_x n_x c_x,.int .i64 y.kind,.string y.text,.int .i64 y.num,.slice a_y n_y c_y] 52);go_wp2_with fail;replace HF:=ah (HF.lay2 1 rfl 3 2 rfl rfl two_cells rfl rfl);go_at_call 186;refine (node_any HF 16 _ _ _).mono ?_;rintro e w5 ⟨rfl,HF⟩;replace HF:=ah HF;replace HF:=ah (HF.box (q:=w5.heap.size) rfl #[.int .i64 16,.string eB,.int .i64 0,.slice (some ⟨w4.heap.size,0,none⟩) 2 2] 52);go_wp2_with fail;go_at_call 127;refine (aW HF wELSE (by decide)).mono ?_;rintro e w6 ⟨rfl,hf⟩;by_cases hq:tx r4=wELSE
  ·rw[if_pos hq] at hf;rw[decide_eq_true hq];have HQ6:=ah hq;have hlt6:=aF hq;replace HF:=ah hf;clear hq hf;go_wp2;refine regK [7] HF (λ w h=>(h.cell 1 rfl)) (λ wd7 HF hC=>?_);refine tq3 0 1 2 ?_;refine rq 3 λ K hK=>?_;go_simp;refine (HB _ _ _ _ _ (by omega) HF).mono ?_;rintro e w8 (⟨r8,h3,rfl,hf⟩|⟨v,r8,a_v,n_v,c_v,h3,hl8,hS,rfl,hf⟩)
   ·exact⟨rfl,PN.no (by simp +decide only [b9,Q.bind,eat,if_pos HQ2.out,H3.out,H4.out,if_pos HQ6.out,h3,↓reduceIte,reduceCtorEq]) hf.lose⟩
   have H8:=ah h3;have HS_v:=ah hS;replace HF:=ah hf;clear h3 hf hS;refine uq hK (HF.cell 2 rfl) λ hC=>?_;refine rq 4 λ K hK=>?_;go_simp;replace HF:=ah (HF.box (q:=w8.heap.size) rfl #[.int .i64 v.kind,.string v.text,.int .i64 v.num,.slice a_v n_v c_v] 52);refine uq hK (HF.cell 3 rfl) λ hC=>?_;refine rq 5 λ K hK=>?_;refine fR (by rfl) (Fr.elApp fB underlying50 rfl (by decide) (by decide) (HF.perm (List.Perm.swap _ _ _)) 3 rfl (by simp) 1 rfl _ _ rfl rfl (by rfl) (by rfl) rfl λ g9 cap9 w9 hF _=>?_);replace HF:=ah hF;clear hF;refine uq hK (HF.cell 2 rfl) λ hC=>?_;refine tq 6 ?_;refine rqb 7 λ K hK=>?_;have c_cur:=HF.cell 2 rfl;have f_cur:=HF.frz 2 rfl;replace HF:=ah (HF.set 2 rfl 3 (.slice (some ⟨g9,0,none⟩) (2+1) cap9));go_simp;refine ub hK ?_;refine dq ?_;clear c_cur f_cur;replace HF:=ah (HF.give 3 rfl);have c_cur:=HF.cell 2 rfl;have c_res:=HF.cell 6 rfl;have f_res:=HF.frz 6 rfl;replace HF:=ah (HF.nd4 6 rfl (.int .i64 16) (.string eB) (.int .i64 0) (.slice (some ⟨g9,0,none⟩) (2+1) cap9));go_wp2;refine br (rt52 results176 rfl (HF.blkAt 6 rfl)) ?_;exact PN.yes (n:=.mk 16 eB 0 [x,y,v]) (r:=r8) (by simp +decide only [b9,Q.bind,eat,if_pos HQ2.out,H3.out,H4.out,if_pos HQ6.out,H8.out,↓reduceIte,reduceCtorEq]) (by omega) (by obtain⟨l,e1,hl⟩:=HS_y;obtain⟨m,e2,hm⟩:=HS_v;rw[e1,e2];exact .if2 x l m HS_x hl hm) (HF.ndOf 3 rfl 16 eB 0).swap.lose
  rw[if_neg hq] at hf;rw[decide_eq_false hq];have HQ6:=ah hq;replace HF:=ah hf;clear hq hf;replace HF:=ah (HF.give 2 rfl);have c_cur:=HF.cell 1 rfl;have c_res:=HF.cell 5 rfl;have f_res:=HF.frz 5 rfl;replace HF:=ah (HF.nd4 5 rfl (.int .i64 16) (.string eB) (.int .i64 0) (.slice (some ⟨w4.heap.size,0,none⟩) 2 2));go_wp2;refine br (rt52 results176 rfl (HF.blkAt 5 rfl)) ?_;exact PN.yes (n:=.mk 16 eB 0 [x,y]) (r:=r4) (by simp +decide only [b9,Q.bind,eat,if_pos HQ2.out,H3.out,H4.out,if_neg HQ6.out,↓reduceIte,reduceCtorEq]) (by omega) (by obtain⟨l,e1,hl⟩:=HS_y;rw[e1];exact .if1 x l HS_x hl) (HF.ndOf 2 rfl 16 eB 0).swap.lose
 have hb2:=tsf hq (l:=[105,102]) rfl;have HQ2:=ah hq;clear hq;by_cases hq:tx ts=wWHILE
 ·have hb3:=tst hq (l:=[119,104,105,108,101]) rfl;have HQ3:=ah hq;have hlt3:=aF hq;clear hq;go_wp2_with fail;go_at_call 187;refine (inside1 (eU 4001) (HF.box (q:=w.heap.size+1) (by simp) _ 9) (by omega) HQ3 (by decide)).mono ?_;rintro e w4 (⟨r4,h3,rfl,hf⟩|⟨x,r4,a_x,n_x,c_x,h3,hl4,hS,rfl,hf⟩)
  ·exact⟨rfl,PN.no (by simp +decide only [b9,Q.bind,eat,if_neg HQ2.out,if_pos HQ3.out,h3,↓reduceIte,reduceCtorEq]) hf.lose⟩
  have H4:=ah h3;have HS_x:=ah hS;replace HF:=ah hf;clear h3 hf hS;go_wp2_with fail;go_at_call 156;refine (HB _ _ _ _ _ (by omega) HF).mono ?_;rintro e w5 (⟨r5,h3,rfl,hf⟩|⟨y,r5,a_y,n_y,c_y,h3,hl5,hS,rfl,hf⟩)
  ·exact⟨rfl,PN.no (by simp +decide only [b9,Q.bind,eat,if_neg HQ2.out,if_pos HQ3.out,H4.out,h3,↓reduceIte,reduceCtorEq]) hf.lose⟩
  have H5:=ah h3;have HS_y:=ah hS;replace HF:=ah hf;clear h3 hf hS;replace HF:=ah (HF.box (q:=w5.heap.size) rfl #[.int .i64 x.kind,.string x.text,.int .i64 x.num,.slice a_x n_x c_x,.int .i64 y.kind,.string y.text,.int .i64 y.num,.slice a_y n_y c_y] 52);go_wp2_with fail;replace HF:=ah (HF.lay2 1 rfl 3 2 rfl rfl two_cells rfl rfl);go_at_call 186;refine (node_any HF 17 _ _ _).mono ?_;rintro e w6 ⟨rfl,HF⟩;replace HF:=ah HF;replace HF:=ah (HF.give 1 rfl);have c_res:=HF.cell 4 rfl;have f_res:=HF.frz 4 rfl;replace HF:=ah (HF.nd4 4 rfl (.int .i64 17) (.string eB) (.int .i64 0) (.slice (some ⟨w5.heap.size,0,none⟩) 2 2));go_wp2;refine br (rt52 results176 rfl (HF.blkAt 4 rfl)) ?_;exact PN.yes (n:=.mk 17 eB 0 [x,y]) (r:=r5) (by simp +decide only [b9,Q.bind,eat,if_neg HQ2.out,if_pos HQ3.out,H4.out,H5.out,↓reduceIte,reduceCtorEq]) (by omega) (by obtain⟨l,e1,hl⟩:=HS_y;rw[e1];exact .while x l HS_x hl) (HF.ndOf 1 rfl 17 eB 0).swap.lose
 have hb3:=tsf hq (l:=[119,104,105,108,101]) rfl;have HQ3:=ah hq;clear hq;by_cases hq:tx ts=wRETURN
 ·have hb4:=tst hq (l:=[114,101,116,117,114,110]) rfl;have HQ4:=ah hq;have hlt4:=aF hq;clear hq;go_wp2_with fail;go_at_call 150;refine (pass_lt HF hlt4).mono ?_;rintro e w5 ⟨rfl,HF⟩;replace HF:=ah HF;go_wp2_with fail;go_at_call 189;refine (eU 4001 _ _ _ _ _ (by omega) HF).mono ?_;rintro e w6 (⟨r6,h3,rfl,hf⟩|⟨x,r6,a_x,n_x,c_x,h3,hl6,hS,rfl,hf⟩)
  ·exact⟨rfl,PN.no (by simp +decide only [b9,Q.bind,eat,if_neg HQ2.out,if_neg HQ3.out,if_pos HQ4.out,h3,↓reduceIte,reduceCtorEq]) hf.lose⟩
  have H6:=ah h3;have HS_x:=ah hS;replace HF:=ah hf;clear h3 hf hS;replace HF:=ah (HF.box (q:=w6.heap.size) rfl #[.int .i64 x.kind,.string x.text,.int .i64 x.num,.slice a_x n_x c_x] 52);go_wp2_with fail;go_at_call 186;refine (fL HF 1 2 rfl rfl 18).mono ?_;rintro e w7 ⟨rfl,hf⟩;replace HF:=ah hf.swap;clear hf;go_wp2_with fail;go_at_call 188;refine (ended_any HF 18 eB 0 (some ⟨w6.heap.size,0,none⟩) 1 1).mono ?_;rintro e w8 (⟨hq,rfl,hf⟩|⟨hq,rfl,hf⟩)
  ·exact⟨rfl,PN.no (by simp +decide only [b9,Q.bind,eat,if_neg HQ2.out,if_neg HQ3.out,if_pos HQ4.out,H6.out,if_neg hq,↓reduceIte,reduceCtorEq]) hf.lose⟩
  have HQ8:=ah hq;have hlt8:=aF hq;replace HF:=ah hf;clear hq hf;have c_res:=HF.cell 4 rfl;have f_res:=HF.frz 4 rfl;replace HF:=ah (HF.nd4 4 rfl (.int .i64 18) (.string eB) (.int .i64 0) (.slice (some ⟨w6.heap.size,0,none⟩) 1 1));go_wp2;refine br (rt52 results176 rfl (HF.blkAt 4 rfl)) ?_;exact PN.yes (n:=.mk 18 eB 0 [x]) (r:=r6.tail) (by simp +decide only [b9,Q.bind,eat,if_neg HQ2.out,if_neg HQ3.out,if_pos HQ4.out,H6.out,if_pos HQ8.out,↓reduceIte,reduceCtorEq]) (by omega) (.one 18 x (by simp) HS_x) HF.lose
 have hb4:=tsf hq (l:=[114,101,116,117,114,110]) rfl;have HQ4:=ah hq;clear hq;by_cases hq:tx ts=wPUT
 ·have hb5:=tst hq (l:=[112,117,116]) rfl;have HQ5:=ah hq;have hlt5:=aF hq;clear hq;go_wp2_with fail;go_at_call 187;refine (inside1 (eU 4001) (HF.box (q:=w.heap.size+1) (by simp) _ 9) (by omega) HQ5 (by decide)).mono ?_;rintro e w6 (⟨r6,h3,rfl,hf⟩|⟨x,r6,a_x,n_x,c_x,h3,hl6,hS,rfl,hf⟩)
  ·exact⟨rfl,PN.no (by simp +decide only [b9,Q.bind,eat,if_neg HQ2.out,if_neg HQ3.out,if_neg HQ4.out,if_pos HQ5.out,h3,↓reduceIte,reduceCtorEq]) hf.lose⟩
  have H6:=ah h3;have HS_x:=ah hS;replace HF:=ah hf;clear h3 hf hS;replace HF:=ah (HF.box (q:=w6.heap.size) rfl #[.int .i64 x.kind,.string x.text,.int .i64 x.num,.slice a_x n_x c_x] 52);go_wp2_with fail;go_at_call 186;refine (fL HF 1 2 rfl rfl 19).mono ?_;rintro e w7 ⟨rfl,hf⟩;replace HF:=ah hf.swap;clear hf;go_wp2_with fail;go_at_call 188;refine (ended_any HF 19 eB 0 (some ⟨w6.heap.size,0,none⟩) 1 1).mono ?_;rintro e w8 (⟨hq,rfl,hf⟩|⟨hq,rfl,hf⟩)
  ·exact⟨rfl,PN.no (by simp +decide only [b9,Q.bind,eat,if_neg HQ2.out,if_neg HQ3.out,if_neg HQ4.out,if_pos HQ5.out,H6.out,if_neg hq,↓reduceIte,reduceCtorEq]) hf.lose⟩
  have HQ8:=ah hq;have hlt8:=aF hq;replace HF:=ah hf;clear hq hf;have c_res:=HF.cell 4 rfl;have f_res:=HF.frz 4 rfl;replace HF:=ah (HF.nd4 4 rfl (.int .i64 19) (.string eB) (.int .i64 0) (.slice (some ⟨w6.heap.size,0,none⟩) 1 1));go_wp2;refine br (rt52 results176 rfl (HF.blkAt 4 rfl)) ?_;exact PN.yes (n:=.mk 19 eB 0 [x]) (r:=r6.tail) (by simp +decide only [b9,Q.bind,eat,if_neg HQ2.out,if_neg HQ3.out,if_neg HQ4.out,if_pos HQ5.out,H6.out,if_pos HQ8.out,↓reduceIte,reduceCtorEq]) (by omega) (.one 19 x (by simp) HS_x) HF.lose
 have hb5:=tsf hq (l:=[112,117,116]) rfl;have HQ5:=ah hq;clear hq;go_wp2_with fail;go_at_call 170;refine (isName_any HF 0 (by omega)).mono ?_;rintro e w6 ⟨rfl,rfl⟩;cases hn:nmAt ts 0 with
 | true=>
  have HN:=ah hn;clear hn;go_wp2_with fail;go_at_call 170;refine (isName_any HF 1 (by omega)).mono ?_;rintro e w7 ⟨rfl,rfl⟩;cases hn:nmAt ts 1 with
  | false=>
   have HN1:=ah hn;clear hn;go_wp2_with fail;go_at_call 190;refine (setOrDo_any HF).mono ?_;rintro e w8 (⟨r8,h3,rfl,hf⟩|⟨x,r8,a_x,n_x,c_x,h3,hl8,hS,rfl,hf⟩)
   ·exact⟨rfl,PN.no (by simp +decide only [b9,Q.bind,eat,if_neg HQ2.out,if_neg HQ3.out,if_neg HQ4.out,if_neg HQ5.out,HN.out,HN1.out,Bool.not_false,Bool.and_self,Bool.true_and,Bool.and_true,h3,↓reduceIte,reduceCtorEq]) hf.lose⟩
   have H8:=ah h3;have HS_x:=ah hS;replace HF:=ah hf;clear h3 hf hS;go_wp2_with fail;go_at_call 188;refine (ended_any HF x.kind x.text x.num a_x n_x c_x).mono ?_;rintro e w9 (⟨hq,rfl,hf⟩|⟨hq,rfl,hf⟩)
   ·exact⟨rfl,PN.no (by simp +decide only [b9,Q.bind,eat,if_neg HQ2.out,if_neg HQ3.out,if_neg HQ4.out,if_neg HQ5.out,HN.out,HN1.out,Bool.not_false,Bool.and_self,Bool.true_and,Bool.and_true,H8.out,if_neg hq,↓reduceIte,reduceCtorEq]) hf.lose⟩
   have HQ9:=ah hq;have hlt9:=aF hq;replace HF:=ah hf;clear hq hf;have c_res:=HF.cell 2 rfl;have f_res:=HF.frz 2 rfl;replace HF:=ah (HF.nd4 2 rfl (.int .i64 x.kind) (.string x.text) (.int .i64 x.num) (.slice a_x n_x c_x));go_wp2;refine br (rt52 results176 rfl (HF.blkAt 2 rfl)) ?_;exact PN.yes (r:=r8.tail) (by simp +decide only [b9,Q.bind,eat,if_neg HQ2.out,if_neg HQ3.out,if_neg HQ4.out,if_neg HQ5.out,HN.out,HN1.out,Bool.not_false,Bool.and_self,Bool.true_and,Bool.and_true,H8.out,if_pos HQ9.out,↓reduceIte,reduceCtorEq]) (by omega) HS_x HF.lose
  | true=>
   have HN1:=ah hn;clear hn;go_wp2_with fail;go_at_call 153;refine (typed_all HF 14).mono ?_;rintro e w8 (⟨r8,h3,rfl,hf⟩|⟨s,tn,r8,g,h3,hl8,hS,rfl,hf⟩)
   ·exact⟨rfl,PN.no (by simp +decide only [b9,Q.bind,eat,if_neg HQ2.out,if_neg HQ3.out,if_neg HQ4.out,if_neg HQ5.out,HN.out,HN1.out,Bool.not_true,Bool.and_false,h3,↓reduceIte,reduceCtorEq]) hf.lose⟩
   have H8:=ah h3;have HS_t:=ah hS;replace HF:=ah hf;clear h3 hf hS;replace HF:=ah (HF.box (q:=w8.heap.size) rfl #[.int .i64 14,.string s,.int .i64 0,.slice (some ⟨g,0,none⟩) 1 1] 52);go_wp2_with fail;go_at_call 152;refine (ask1 (x:=wEQ) (HF.box (q:=w8.heap.size+1) (by simp) _ 9)).mono ?_;rintro e w9 (⟨hq,rfl,hf⟩|⟨hq,rfl,hf⟩)
   ·exact⟨rfl,PN.no (by simp +decide only [b9,Q.bind,eat,if_neg HQ2.out,if_neg HQ3.out,if_neg HQ4.out,if_neg HQ5.out,HN.out,HN1.out,Bool.not_true,Bool.and_false,H8.out,if_neg hq,↓reduceIte,reduceCtorEq]) hf.lose⟩
   have HQ9:=ah hq;have hlt9:=aF hq;replace HF:=ah hf;clear hq hf;go_wp2;refine regK [7] HF (λ w h=>(h.cell 1 rfl)) (λ wd10 HF hC=>?_);refine tq3 0 1 2 ?_;refine rq 3 λ K hK=>?_;go_simp;refine (eU 4001 _ _ _ _ _ (by omega) HF).mono ?_;rintro e w11 (⟨r11,h3,rfl,hf⟩|⟨x,r11,a_x,n_x,c_x,h3,hl11,hS,rfl,hf⟩)
   ·exact⟨rfl,PN.no (by simp +decide only [b9,Q.bind,eat,if_neg HQ2.out,if_neg HQ3.out,if_neg HQ4.out,if_neg HQ5.out,HN.out,HN1.out,Bool.not_true,Bool.and_false,H8.out,if_pos HQ9.out,h3,↓reduceIte,reduceCtorEq]) hf.lose⟩
   have H11:=ah h3;have HS_x:=ah hS;replace HF:=ah hf;clear h3 hf hS;refine uq hK (HF.cell 2 rfl) λ hC=>?_;refine rq 4 λ K hK=>?_;go_simp;replace HF:=ah (HF.box (q:=w11.heap.size) rfl #[.int .i64 x.kind,.string x.text,.int .i64 x.num,.slice a_x n_x c_x] 52);refine uq hK (HF.cell 3 rfl) λ hC=>?_;refine rq 5 λ K hK=>?_;refine fR (by rfl) (Fr.elApp fB underlying50 rfl (by decide) (by decide) (HF.perm (List.Perm.swap _ _ _)) 3 rfl (by simp) 1 rfl _ _ rfl rfl (by rfl) (by rfl) rfl λ g12 cap12 w12 hF _=>?_);replace HF:=ah hF;clear hF;refine uq hK (HF.cell 2 rfl) λ hC=>?_;refine tq 6 ?_;refine rqb 7 λ K hK=>?_;have c_cur:=HF.cell 2 rfl;have f_cur:=HF.frz 2 rfl;replace HF:=ah (HF.set 2 rfl 3 (.slice (some ⟨g12,0,none⟩) (1+1) cap12));go_simp;refine ub hK ?_;refine dq ?_;clear c_cur f_cur;replace HF:=ah (HF.give 3 rfl);have c_cur:=HF.cell 2 rfl;go_wp2_with fail;clear c_cur;go_at_call 188;refine (ended_any HF 14 s 0 (some ⟨g12,0,none⟩) (1+1) cap12).mono ?_;rintro e w13 (⟨hq,rfl,hf⟩|⟨hq,rfl,hf⟩)
   ·exact⟨rfl,PN.no (by simp +decide only [b9,Q.bind,eat,if_neg HQ2.out,if_neg HQ3.out,if_neg HQ4.out,if_neg HQ5.out,HN.out,HN1.out,Bool.not_true,Bool.and_false,H8.out,if_pos HQ9.out,H11.out,if_neg hq,↓reduceIte,reduceCtorEq]) hf.lose⟩
   have HQ13:=ah hq;have hlt13:=aF hq;replace HF:=ah hf;clear hq hf;have c_res:=HF.cell 4 rfl;have f_res:=HF.frz 4 rfl;replace HF:=ah (HF.nd4 4 rfl (.int .i64 14) (.string s) (.int .i64 0) (.slice (some ⟨g12,0,none⟩) (1+1) cap12));go_wp2;refine br (rt52 results176 rfl (HF.blkAt 4 rfl)) ?_;exact PN.yes (n:=.mk 14 s 0 [tn,x]) (r:=r11.tail) (by simp +decide only [b9,Q.bind,eat,Nd.text,Nd.kids,List.cons_append,List.nil_append,if_neg HQ2.out,if_neg HQ3.out,if_neg HQ4.out,if_neg HQ5.out,HN.out,HN1.out,Bool.not_true,Bool.and_false,H8.out,if_pos HQ9.out,H11.out,if_pos HQ13.out,↓reduceIte,reduceCtorEq]) (by omega) (.var s tn x HS_t HS_x) (HF.ndOf 3 rfl 14 s 0).swap.lose
 | false=>
  have HN:=ah hn;clear hn;go_wp2_with fail;go_at_call 153;refine (typed_all HF 14).mono ?_;rintro e w7 (⟨r7,h3,rfl,hf⟩|⟨s,tn,r7,g,h3,hl7,hS,rfl,hf⟩)
  ·exact⟨rfl,PN.no (by simp +decide only [b9,Q.bind,eat,if_neg HQ2.out,if_neg HQ3.out,if_neg HQ4.out,if_neg HQ5.out,HN.out,Bool.false_and,h3,↓reduceIte,reduceCtorEq]) hf.lose⟩
  have H7:=ah h3;have HS_t:=ah hS;replace HF:=ah hf;clear h3 hf hS;replace HF:=ah (HF.box (q:=w7.heap.size) rfl #[.int .i64 14,.string s,.int .i64 0,.slice (some ⟨g,0,none⟩) 1 1] 52);go_wp2_with fail;go_at_call 152;refine (ask1 (x:=wEQ) (HF.box (q:=w7.heap.size+1) (by simp) _ 9)).mono ?_;rintro e w8 (⟨hq,rfl,hf⟩|⟨hq,rfl,hf⟩)
  ·exact⟨rfl,PN.no (by simp +decide only [b9,Q.bind,eat,if_neg HQ2.out,if_neg HQ3.out,if_neg HQ4.out,if_neg HQ5.out,HN.out,Bool.false_and,H7.out,if_neg hq,↓reduceIte,reduceCtorEq]) hf.lose⟩
  have HQ8:=ah hq;have hlt8:=aF hq;replace HF:=ah hf;clear hq hf;go_wp2;refine regK [7] HF (λ w h=>(h.cell 1 rfl)) (λ wd9 HF hC=>?_);refine tq3 0 1 2 ?_;refine rq 3 λ K hK=>?_;go_simp;refine (eU 4001 _ _ _ _ _ (by omega) HF).mono ?_;rintro e w10 (⟨r10,h3,rfl,hf⟩|⟨x,r10,a_x,n_x,c_x,h3,hl10,hS,rfl,hf⟩)
  ·exact⟨rfl,PN.no (by simp +decide only [b9,Q.bind,eat,if_neg HQ2.out,if_neg HQ3.out,if_neg HQ4.out,if_neg HQ5.out,HN.out,Bool.false_and,H7.out,if_pos HQ8.out,h3,↓reduceIte,reduceCtorEq]) hf.lose⟩
  have H10:=ah h3;have HS_x:=ah hS;replace HF:=ah hf;clear h3 hf hS;refine uq hK (HF.cell 2 rfl) λ hC=>?_;refine rq 4 λ K hK=>?_;go_simp;replace HF:=ah (HF.box (q:=w10.heap.size) rfl #[.int .i64 x.kind,.string x.text,.int .i64 x.num,.slice a_x n_x c_x] 52);refine uq hK (HF.cell 3 rfl) λ hC=>?_;refine rq 5 λ K hK=>?_;refine fR (by rfl) (Fr.elApp fB underlying50 rfl (by decide) (by decide) (HF.perm (List.Perm.swap _ _ _)) 3 rfl (by simp) 1 rfl _ _ rfl rfl (by rfl) (by rfl) rfl λ g11 cap11 w11 hF _=>?_);replace HF:=ah hF;clear hF;refine uq hK (HF.cell 2 rfl) λ hC=>?_;refine tq 6 ?_;refine rqb 7 λ K hK=>?_;have c_cur:=HF.cell 2 rfl;have f_cur:=HF.frz 2 rfl;replace HF:=ah (HF.set 2 rfl 3 (.slice (some ⟨g11,0,none⟩) (1+1) cap11));go_simp;refine ub hK ?_;refine dq ?_;clear c_cur f_cur;replace HF:=ah (HF.give 3 rfl);have c_cur:=HF.cell 2 rfl;go_wp2_with fail;clear c_cur;go_at_call 188;refine (ended_any HF 14 s 0 (some ⟨g11,0,none⟩) (1+1) cap11).mono ?_;rintro e w12 (⟨hq,rfl,hf⟩|⟨hq,rfl,hf⟩)
  ·exact⟨rfl,PN.no (by simp +decide only [b9,Q.bind,eat,if_neg HQ2.out,if_neg HQ3.out,if_neg HQ4.out,if_neg HQ5.out,HN.out,Bool.false_and,H7.out,if_pos HQ8.out,H10.out,if_neg hq,↓reduceIte,reduceCtorEq]) hf.lose⟩
  have HQ12:=ah hq;have hlt12:=aF hq;replace HF:=ah hf;clear hq hf;have c_res:=HF.cell 4 rfl;have f_res:=HF.frz 4 rfl;replace HF:=ah (HF.nd4 4 rfl (.int .i64 14) (.string s) (.int .i64 0) (.slice (some ⟨g11,0,none⟩) (1+1) cap11));go_wp2;refine br (rt52 results176 rfl (HF.blkAt 4 rfl)) ?_;exact PN.yes (n:=.mk 14 s 0 [tn,x]) (r:=r10.tail) (by simp +decide only [b9,Q.bind,eat,Nd.text,Nd.kids,List.cons_append,List.nil_append,if_neg HQ2.out,if_neg HQ3.out,if_neg HQ4.out,if_neg HQ5.out,HN.out,Bool.false_and,H7.out,if_pos HQ8.out,H10.out,if_pos HQ12.out,↓reduceIte,reduceCtorEq]) (by omega) (.var s tn x HS_t HS_x) (HF.ndOf 3 rfl 14 s 0).swap.lose
theorem len_snoc (l:List α) (x:α):(l++[x]).length=l.length+1:=by simp
theorem block_step {S : List Tok→Q Nd} (hE:Meth 176 St S N) (h:Fr B w (.ps b ts::L)) (hN:ts.length≤N):Calls prog 156 #[ptr b] w (PN Bl (blockS S ts) ts.length B b L):=by
 have hal0:=h.tokAll.1;have HF:=ah h;have HE:=ah hE;clear h hE;go_enter func156,ntmps156;replace HF:=ah (HF.box (q:=w.heap.size) (by simp) ndz 52);replace HF:=ah (HF.box (q:=w.heap.size+1) (by simp) #[.int .i64 13,.string eB,.int .i64 0,.slice none 0 0] 52);go_wp2_with fail;go_at_call 152;refine (ask1 (x:=wLB) (HF.box (q:=w.heap.size+1+1) (by simp) _ 9)).mono ?_;rintro e w1 (⟨hq,rfl,hf⟩|⟨hq,rfl,hf⟩)
 ·exact⟨rfl,PN.no (by simp +decide only [blockS,eat,Q.bind,if_neg hq,↓reduceIte,reduceCtorEq]) hf.lose⟩
 have HQ1:=ah hq;have hlt1:=aF hq;replace HF:=ah hf;clear hq hf;go_wp2;generalize hqc:w.heap.size+1=qc at *;generalize hqr:w.heap.size=qr at *;clear hqc hqr;have HM:Hid (∃m acc r v,r.length<m∧r.length≤ts.tail.length∧blockS S ts=blockL S m acc r∧acc.length+r.length≤ts.tail.length∧(∀x,x∈acc→St x)∧Fr B w1 (.ps b r::.blk qc #[.int .i64 13,.string eB,.int .i64 0,v] 52::.els NdE v 52 4 acc::.blk qr ndz 52::L)):=⟨_,[],ts.tail,.slice none 0 0,Nat.lt_succ_self _,Nat.le_refl _,by simp +decide only [blockS,eat,Q.bind,if_pos HQ1.out,↓reduceIte,reduceCtorEq],by simp,by simp,(HF.noEls NdE 52 4).perm (List.Perm.trans (List.Perm.swap _ _ _) (List.Perm.cons _ (List.Perm.swap _ _ _)))⟩
 clear HF;go_loopw [8] (λ_ wr=>Hid (∃m acc r v,r.length<m∧r.length≤ts.tail.length∧blockS S ts=blockL S m acc r∧acc.length+r.length≤ts.tail.length∧(∀x,x∈acc→St x)∧Fr B wr (.ps b r::.blk qc #[.int .i64 13,.string eB,.int .i64 0,v] 52::.els NdE v 52 4 acc::.blk qr ndz 52::L))) (λ_ wr=>leftOf wr b)
 case atStart=>exact HM
 clear HM;obtain⟨m,acc,r,v,hm,hlr,heq,hlen,hS,hf⟩:=hrel.out;clear hrel;obtain⟨m,rfl⟩:∃k,m=k+1:=⟨m - 1,by omega⟩
 have hleft:=ah hf.left;obtain⟨av,cv,rfl,-,-⟩:=hf.elsForm 2 rfl;have HEq:=ah heq;have HSa:=ah hS;have HF:=ah hf;clear heq hS hf;go_wp2_with fail;go_at_call 127;refine (aW HF wRB (by decide)).mono ?_;rintro e w1 ⟨rfl,hf⟩;by_cases hq:tx r=wRB
 ·rw[if_pos hq] at hf;rw[decide_eq_true hq];have HQ1:=ah hq;have hlt1:=aF hq;replace HF:=ah hf;clear hq hf;replace HF:=ah (HF.give 2 rfl);have c_cur:=HF.cell 1 rfl;have c_res:=HF.cell 3 rfl;have f_res:=HF.frz 3 rfl;replace HF:=ah (HF.nd4 3 rfl (.int .i64 13) (.string eB) (.int .i64 0) (.slice av acc.length cv));go_wp2;refine br (rt52 results156 rfl (HF.blkAt 3 rfl)) ?_;exact PN.yes (n:=.mk 13 eB 0 acc) (r:=r.tail) (by simp +decide only [eat,Q.bind,HEq.out,blockL,if_pos HQ1.out,↓reduceIte,reduceCtorEq]) (by omega) ⟨acc,rfl,HSa⟩ (HF.ndOf 2 rfl 13 eB 0).swap.lose
 rw[if_neg hq] at hf;rw[decide_eq_false hq];have HQ1:=ah hq;replace HF:=ah hf;clear hq hf;go_wp2;refine regK [7] HF (λ w h=>(h.cell 1 rfl)) (λ wd2 HF hC=>?_);refine tq3 0 1 2 ?_;refine rq 3 λ K hK=>?_;go_simp;refine (HE _ _ _ _ _ (by omega) HF).mono ?_;rintro e w3 (⟨r3,h3,rfl,hf⟩|⟨x,r3,a_x,n_x,c_x,h3,hl3,hS,rfl,hf⟩)
 ·exact⟨rfl,PN.no (by simp +decide only [eat,Q.bind,HEq.out,blockL,if_neg HQ1.out,h3,↓reduceIte,reduceCtorEq]) hf.lose⟩
 have H3:=ah h3;have HS_x:=ah hS;replace HF:=ah hf;clear h3 hf hS;refine uq hK (HF.cell 2 rfl) λ hC=>?_;refine rq 4 λ K hK=>?_;go_simp;replace HF:=ah (HF.box (q:=w3.heap.size) (by simp) #[.int .i64 x.kind,.string x.text,.int .i64 x.num,.slice a_x n_x c_x] 52);refine uq hK (HF.cell 3 rfl) λ hC=>?_;refine rq 5 λ K hK=>?_;refine fR (by rfl) (Fr.elApp fB underlying50 rfl (by decide) (by decide) (HF.perm (List.Perm.swap _ _ _)) 3 rfl (by first|omega|simp) 1 rfl _ _ rfl rfl (by rfl) (by rfl) rfl λ g4 cap4 w4 hF _=>?_);replace HF:=ah hF;clear hF;refine uq hK (HF.cell 2 rfl) λ hC=>?_;refine tq 6 ?_;refine rqb 7 λ K hK=>?_;have c_cur:=HF.cell 2 rfl;have f_cur:=HF.frz 2 rfl;replace HF:=ah (HF.set 2 rfl 3 (.slice (some ⟨g4,0,none⟩) (acc.length+1) cap4));go_simp;refine ub hK ?_;refine dq ?_;go_wp2;go_roundw
 case rel=>exact⟨m,acc++[x],r3,.slice (some ⟨g4,0,none⟩) (acc.length+1) cap4,by omega,by omega,by simp +decide only [eat,Q.bind,HEq.out,blockL,if_neg HQ1.out,H3.out,↓reduceIte,reduceCtorEq],by rw[len_snoc];omega,λ y hy=>by rcases List.mem_append.1 hy with h|h;exact HSa y h;rw[List.mem_singleton.1 h];exact HS_x,HF.lose⟩
 case measure=>rw[hleft.out,HF.out.left];omega
theorem st_meth:∀k,Meth 176 St (statK k) k
 | 0=>λ_ _ _ _ _ hl _=>absurd hl (Nat.not_lt_zero _)
 | k+1=>λ B w b ts L hl h=>stat_step (K:=blockS (statK k)) (N:=k) (λ B w b ts L hl h=>block_step (st_meth k) h (by omega)) h (by omega)
theorem block_any (h:Fr B w (.ps b ts::L)):Calls prog 156 #[ptr b] w (PN Bl (blockQ ts) ts.length B b L):=block_step (st_meth 4001) h (by have:=h.tokAll.1;omega)
theorem structure_any (h:Fr B w (.ps b ts::L)):Calls prog 128 #[ptr b] w (PN De (eI ts) ts.length B b L):=by
 have hal0:=h.tokAll.1;have HF:=ah h;clear h;go_enter func128,ntmps128;replace HF:=ah (HF.box (q:=w.heap.size) (by simp) ndz 52);go_wp2_with fail;go_at_call 151;refine (eZ HF).mono ?_;rintro e w1 (⟨hq,rfl,hf⟩|⟨hq,rfl,hf⟩)
 ·exact⟨rfl,PN.no (by simp +decide only [eI,eat,Q.bind,bC,hq,↓reduceIte,reduceCtorEq]) hf.lose⟩
 have HQ1:=ah hq;have hlt1:=nm_lt hq;replace HF:=ah hf;clear hq hf;replace HF:=ah (HF.box (q:=w1.heap.size) (by simp) #[.int .i64 2,.string (tx ts),.int .i64 0,.slice none 0 0] 52);go_wp2_with fail;go_at_call 152;refine (ask1 (x:=wLB) (HF.box (q:=w1.heap.size+1) (by simp) _ 9)).mono ?_;rintro e w2 (⟨hq,rfl,hf⟩|⟨hq,rfl,hf⟩)
 ·exact⟨rfl,PN.no (by simp +decide only [eI,eat,Q.bind,bC,HQ1.out,if_neg hq,↓reduceIte,reduceCtorEq]) hf.lose⟩
 have HQ2:=ah hq;have hlt2:=aF hq;replace HF:=ah hf;clear hq hf;go_wp2;generalize w1.heap.size=qc at *;generalize w.heap.size=qr at *;have HM:Hid (∃m acc r v,r.length<m∧r.length≤ts.tail.tail.length∧eI ts=(fieldsL m acc r).bind (λ l r=>.ok (.mk 2 (tx ts) 0 l) r)∧acc.length+r.length≤ts.tail.tail.length∧(∀x,x∈acc→Ti 3 x)∧Fr B w2 (.ps b r::.blk qc #[.int .i64 2,.string (tx ts),.int .i64 0,v] 52::.els NdE v 52 4 acc::.blk qr ndz 52::L)):=⟨_,[],ts.tail.tail,.slice none 0 0,Nat.lt_succ_self _,Nat.le_refl _,by simp +decide only [eI,eat,Q.bind,bC,HQ1.out,if_pos HQ2.out,↓reduceIte,reduceCtorEq],by simp,by simp,(HF.noEls NdE 52 4).perm (List.Perm.trans (List.Perm.swap _ _ _) (List.Perm.cons _ (List.Perm.swap _ _ _)))⟩
 clear HF;generalize tx ts=s at *;go_loopw [10] (λ_ wr=>Hid (∃m acc r v,r.length<m∧r.length≤ts.tail.tail.length∧eI ts=(fieldsL m acc r).bind (λ l r=>.ok (.mk 2 s 0 l) r)∧acc.length+r.length≤ts.tail.tail.length∧(∀x,x∈acc→Ti 3 x)∧Fr B wr (.ps b r::.blk qc #[.int .i64 2,.string s,.int .i64 0,v] 52::.els NdE v 52 4 acc::.blk qr ndz 52::L))) (λ_ wr=>leftOf wr b)
 case atStart=>exact HM
 clear HM;obtain⟨m,acc,r,v,hm,hlr,heq,hlen,hS,hf⟩:=hrel.out;clear hrel;obtain⟨m,rfl⟩:∃k,m=k+1:=⟨m - 1,by omega⟩
 have hleft:=ah hf.left;obtain⟨av,cv,rfl,-,-⟩:=hf.elsForm 2 rfl;have HEq:=ah heq;have HSa:=ah hS;have HF:=ah hf;clear heq hS hf;go_wp2;refine regK [7] HF (λ w h=>(h.cell 1 rfl)) (λ wd1 HF hC=>?_);refine tq3 0 1 2 ?_;refine rq 3 λ K hK=>?_;go_simp;refine ((typed_all HF 3).mono λ e w h=>h.nd).mono ?_;rintro e w2 (⟨r2,h3,rfl,hf⟩|⟨x,r2,a_x,n_x,c_x,h3,hl2,hS,rfl,hf⟩)
 ·exact⟨rfl,PN.no (by simp +decide only [eat,Q.bind,HEq.out,fieldsL,h3,↓reduceIte,reduceCtorEq]) hf.lose⟩
 have H2:=ah h3;have HS_x:=ah hS;replace HF:=ah hf;clear h3 hf hS;refine uq hK (HF.cell 2 rfl) λ hC=>?_;refine rq 4 λ K hK=>?_;go_simp;replace HF:=ah (HF.box (q:=w2.heap.size) (by simp) #[.int .i64 x.kind,.string x.text,.int .i64 x.num,.slice a_x n_x c_x] 52);refine uq hK (HF.cell 3 rfl) λ hC=>?_;refine rq 5 λ K hK=>?_;refine fR (by rfl) (Fr.elApp fB underlying50 rfl (by decide) (by decide) (HF.perm (List.Perm.swap _ _ _)) 3 rfl (by first|omega|simp) 1 rfl _ _ rfl rfl (by rfl) (by rfl) rfl λ g3 cap3 w3 hF _=>?_);replace HF:=ah hF;clear hF;refine uq hK (HF.cell 2 rfl) λ hC=>?_;refine tq 6 ?_;refine rqb 7 λ K hK=>?_;have c_cur:=HF.cell 2 rfl;have f_cur:=HF.frz 2 rfl;replace HF:=ah (HF.set 2 rfl 3 (.slice (some ⟨g3,0,none⟩) (acc.length+1) cap3));go_simp;refine ub hK ?_;refine dq ?_;clear c_cur f_cur;go_wp2_with fail;go_at_call 152;refine (ask1 (x:=wSEMI) (HF.box (q:=w3.heap.size) (by simp) _ 9)).mono ?_;rintro e w4 (⟨hq,rfl,hf⟩|⟨hq,rfl,hf⟩)
 ·exact⟨rfl,PN.no (by simp +decide only [eat,Q.bind,HEq.out,fieldsL,H2.out,if_neg hq,↓reduceIte,reduceCtorEq]) hf.lose⟩
 have HQ4:=ah hq;have hlt4:=aF hq;replace HF:=ah hf;clear hq hf;go_wp2_with fail;go_at_call 127;refine (aW HF wRB (by decide)).mono ?_;rintro e w5 ⟨rfl,hf⟩;by_cases hq:tx r2.tail=wRB
 ·rw[if_pos hq] at hf;rw[decide_eq_true hq];have HQ5:=ah hq;have hlt5:=aF hq;replace HF:=ah hf;clear hq hf;replace HF:=ah (HF.give 3 rfl);have c_cur:=HF.cell 2 rfl;have c_res:=HF.cell 4 rfl;have f_res:=HF.frz 4 rfl;replace HF:=ah (HF.nd4 4 rfl (.int .i64 2) (.string s) (.int .i64 0) (.slice (some ⟨g3,0,none⟩) (acc.length+1) cap3));go_wp2;refine br (rt52 results128 rfl (HF.blkAt 4 rfl)) ?_;exact PN.yes (n:=.mk 2 s 0 (acc++[x])) (r:=r2.tail.tail) (by simp +decide only [eat,Q.bind,HEq.out,fieldsL,H2.out,if_pos HQ4.out,if_pos HQ5.out,↓reduceIte,reduceCtorEq]) (by omega) (.struct s _ λ y hy=>by rcases List.mem_append.1 hy with h|h;exact HSa y h;rw[List.mem_singleton.1 h];exact HS_x) (HF.ndOf 3 rfl 2 s 0).swap.lose
 rw[if_neg hq] at hf;rw[decide_eq_false hq];have HQ5:=ah hq;replace HF:=ah hf;clear hq hf;go_wp2;go_roundw
 case rel=>exact⟨m,acc++[x],r2.tail,.slice (some ⟨g3,0,none⟩) (acc.length+1) cap3,by omega,by omega,by simp +decide only [eat,Q.bind,HEq.out,fieldsL,H2.out,if_pos HQ4.out,if_neg HQ5.out,↓reduceIte,reduceCtorEq],by rw[len_snoc];omega,λ y hy=>by rcases List.mem_append.1 hy with h|h;exact HSa y h;rw[List.mem_singleton.1 h];exact HS_x,HF.lose⟩
 case measure=>rw[hleft.out,HF.out.left];omega
theorem Fr.elRowsL {E : El α} {e : TypeId} {zv : Value} {z by' : Nat} (t:TypeId)
  (hinfo:(P.info? e).map (λ i=>(i.zero,i.size,i.bytes))=some (some zv,z,by')) (ht:P.underlying t=some (.slice e)) (hz:zv.cells.size=z) (hz0:0<z) (hby:by'≤1000)
  (hone:∀H c x,E.p H c x→c.all (λ u=>u.oneCell')=true)
  (h:Fr B w L) (i j:Nat) {v u:Value} {l k:List α} (hi:L[i]?=some (.els E v e z l)) (hj:L[j]?=some (.els E u e z k)) (hn:l.length≤16000) (hm:k.length≤16000)
  {ops:Array Oper} {rest:List Oper} {o:Oper} {a:Act} (p q:Operand) (hgd:o.guard=none) (ho:o.op=.call { callee:=.builtin .append,args:=#[p,q],argTypes:=#[t,t] }) (hs:a.eval p=v) (hx:a.eval q=u) {Q:Exit→Act→World→Prop}
  (kk:∀ad cap w',Fr B w' (L.set i (.els E (.slice ad (l.length+k.length) cap) e z (l++k)))→wpList P ops Q rest (a.put o.dst (.slice ad (l.length+k.length) cap)) w'):
  wpList P ops Q (o::rest) a w:=
 wpList_plain hgd λ_ hK=>h.elRows hinfo ht hz hz0 hby hone i j hi hj hn hm p q ho hs hx λ ad cap w' h2=>hK _ _ (kk ad cap w' h2)
def PF (k:Int)(s:ByteArray)(t:Nd)(q:Nat)(N:Nat)(ts:List Tok)(B:Bs)(b:Nat)(L:List Rs)(e:Ending)(w':World):Prop:=
 (∃r,fH (fW 8) ts=.no r∧e=up r∧Fr B w' (.ps b r::L))∨(∃l m r a c,fH (fW 8) ts=.ok (l,m) r∧r.length<N∧l.length+r.length<N∧(m=0∨m=1)∧(∀x,x∈l→Ti 8 x)∧e=.returned (.tuple #[])∧Fr B w' (.ps b r::.blk q #[.int .i64 k,.string s,.int .i64 m,.slice a (l.length+1) c] 52::.els NdE (.slice a (l.length+1) c) 52 4 (l++[t])::L))
theorem function_any {k m0 : Int} {s : ByteArray} {t : Nd} {g : Nat} (h:Fr B w (.ps b ts::.blk q #[.int .i64 k,.string s,.int .i64 m0,.slice (some ⟨g,0,none⟩) 1 1] 52::.els NdE (.slice (some ⟨g,0,none⟩) 1 1) 52 4 [t]::L)):Calls prog 154 #[ptr b,ptr q] w (PF k s t q ts.length ts B b L):=by
 have hal0:=h.tokAll.1;have HF:=ah h;clear h;go_enter func154,ntmps154;go_wp2_with fail;go_at_call 173;refine (open_174 (param_meth 4001) HF (by omega)).mono ?_;rintro e w1 (⟨r,h3,rfl,hf⟩|⟨l,m,r,v,h3,hl,hm,hm01,hS,rfl,hf⟩)
 ·exact⟨rfl,Or.inl ⟨r,h3,rfl,hf.lose⟩⟩
 obtain⟨av,cv,rfl,-,-⟩:=hf.elsForm 1 rfl;have H3:=ah h3;have HS:=ah hS;have HM:=ah hm01;have HF:=ah hf;clear h3 hS hm01 hf;have c0:=HF.cell 2 rfl;have f0:=HF.frz 2 rfl;replace HF:=ah (HF.set 2 rfl 2 (.int .i64 m));have c1:=HF.cell 2 rfl;have f1:=HF.frz 2 rfl;go_wp2_with (at_builtin;refine Fr.elRowsL 50 fB underlying50 rfl (by decide) (by decide) nd_one HF 1 3 rfl rfl (by omega) (by simp) _ _ rfl rfl rfl rfl ?_;intro ad cap w2 hF;clear c0 f0 c1 f1;have c1:=hF.cell 2 rfl;have f1:=hF.frz 2 rfl)
 replace HF:=ah (hF.set 2 rfl 3 (.slice ad (l.length+1) cap));clear hF;go_end0
 exact Or.inr ⟨l,m,r,ad,cap,H3,hl,hm,HM,HS,rfl,(HF.perm (List.Perm.cons _ (List.Perm.swap _ _ _))).lose⟩
def ValS (n:Nd):Prop:=∃k v,n=.mk k eB v []∧(k=21∨k=22)∧-9223372036854775807≤v∧v≤9223372036854775807
section
variable (h:Fr B w (.ps b ts::L))
include h
theorem value_any:Calls prog 155 #[ptr b] w (PN ValS (valueQ ts) ts.length B b L):=by
 have hal0:=h.tokAll.1;have HF:=ah h;clear h;go_enter func155,ntmps155;replace HF:=ah (HF.box (q:=w.heap.size) (by simp) ndz 52);go_wp2_with fail;go_at_call 127;refine (aW HF wMINUS (by decide)).mono ?_;rintro e w1 ⟨rfl,hf⟩;by_cases hq:tx ts=wMINUS
 ·rw[if_pos hq] at hf;rw[decide_eq_true hq];have HQ1:=ah hq;have hlt1:=aF hq;replace HF:=ah hf;clear hq hf;go_wp2_with fail;go_at_call 175;refine (number_any HF).mono ?_;rintro e w2 (⟨r2,h3,rfl,hf⟩|⟨x,r2,a_x,n_x,c_x,h3,hl2,hS,rfl,hf⟩)
  ·exact⟨rfl,PN.no (by simp +decide only [valueQ,Q.map,if_pos HQ1.out,h3,↓reduceIte,reduceCtorEq]) hf.lose⟩
  have H2:=ah h3;have HS_x:=ah hS;replace HF:=ah hf;clear h3 hf hS;have HSx:Hid (0≤x.num∧x.num≤9223372036854775807):=by obtain⟨k,v,e,h1,h2,h3⟩:=HS_x;rw[e];exact⟨h2,h3⟩
  have hx0:=HSx.1;have hx1:=HSx.2;replace HF:=ah (HF.box (q:=w2.heap.size) (by simp) #[.int .i64 x.kind,.string x.text,.int .i64 (-x.num),.slice a_x n_x c_x] 52);have c_cur:=HF.cell 1 rfl;have c_res:=HF.cell 3 rfl;have f_res:=HF.frz 3 rfl;replace HF:=ah (HF.nd4 3 rfl (.int .i64 x.kind) (.string x.text) (.int .i64 (-x.num)) (.slice a_x n_x c_x));go_wp2;refine br (rt52 results155 rfl (HF.blkAt 3 rfl)) ?_;clear c_cur c_res f_res hx0 hx1;obtain⟨k,v,rfl,h1,h2,h3⟩:=HS_x;have HK:=(HF.kids 2 rfl).2;exact PN.yes (n:=.mk k eB (-v) []) (r:=r2) (by simp +decide only [valueQ,Q.map,if_pos HQ1.out,H2.out,Nd.kind,Nd.text,Nd.num,Nd.kids,↓reduceIte,reduceCtorEq]) (by omega) ⟨k,-v,rfl,h1,by omega,by omega⟩ ((HK.ndOf 0 rfl k eB (-v)).perm (List.Perm.trans (List.Perm.cons _ (List.Perm.swap _ _ _)) (List.Perm.swap _ _ _))).lose
 rw[if_neg hq] at hf;rw[decide_eq_false hq];have HQ1:=ah hq;replace HF:=ah hf;clear hq hf;go_wp2_with fail;go_at_call 175;refine (number_any HF).mono ?_;rintro e w2 (⟨r2,h3,rfl,hf⟩|⟨x,r2,a_x,n_x,c_x,h3,hl2,hS,rfl,hf⟩)
 ·exact⟨rfl,PN.no (by simp +decide only [valueQ,Q.map,if_neg HQ1.out,h3,↓reduceIte,reduceCtorEq]) hf.lose⟩
 have H2:=ah h3;have HS_x:=ah hS;replace HF:=ah hf;clear h3 hf hS;replace HF:=ah (HF.box (q:=w2.heap.size) (by simp) #[.int .i64 x.kind,.string x.text,.int .i64 x.num,.slice a_x n_x c_x] 52);have c_cur:=HF.cell 1 rfl;have c_res:=HF.cell 3 rfl;have f_res:=HF.frz 3 rfl;replace HF:=ah (HF.nd4 3 rfl (.int .i64 x.kind) (.string x.text) (.int .i64 x.num) (.slice a_x n_x c_x));go_wp2;refine br (rt52 results155 rfl (HF.blkAt 3 rfl)) ?_;exact PN.yes (r:=r2) (by simp +decide only [valueQ,Q.map,if_neg HQ1.out,H2.out,↓reduceIte,reduceCtorEq]) (by omega) (by obtain⟨k,v,e,h1,h2,h3⟩:=HS_x;exact⟨k,v,e,h1,by omega,h3⟩) HF.lose
theorem extern_any:Calls prog 129 #[ptr b] w (PN De (externQ ts) ts.length B b L):=by
 have hal0:=h.tokAll.1;have HF:=ah h;clear h;go_enter func129,ntmps129;replace HF:=ah (HF.box (q:=w.heap.size) (by simp) ndz 52);go_wp2_with fail;go_at_call 153;refine (typed_all HF 5).mono ?_;rintro e w1 (⟨r1,h3,rfl,hf⟩|⟨s,tn,r1,g,h3,hl1,hS,rfl,hf⟩)
 ·exact⟨rfl,PN.no (by simp +decide only [externQ,eat,Q.bind,h3,↓reduceIte,reduceCtorEq]) hf.lose⟩
 have H1:=ah h3;have HS_t:=ah hS;replace HF:=ah hf;clear h3 hf hS;replace HF:=ah (HF.box (q:=w1.heap.size) (by simp) #[.int .i64 5,.string s,.int .i64 0,.slice (some ⟨g,0,none⟩) 1 1] 52);go_wp2_with fail;go_at_call 127;refine (aW HF wSEMI (by decide)).mono ?_;rintro e w2 ⟨rfl,hf⟩;by_cases hq:tx r1=wSEMI
 ·rw[if_pos hq] at hf;rw[decide_eq_true hq];have HQ2:=ah hq;have hlt2:=aF hq;replace HF:=ah hf;clear hq hf;replace HF:=ah (HF.give 2 rfl);have c_cur:=HF.cell 1 rfl;have c_res:=HF.cell 3 rfl;have f_res:=HF.frz 3 rfl;replace HF:=ah (HF.nd4 3 rfl (.int .i64 5) (.string s) (.int .i64 0) (.slice (some ⟨g,0,none⟩) 1 1));go_wp2;refine br (rt52 results129 rfl (HF.blkAt 3 rfl)) ?_;exact PN.yes (n:=.mk 5 s 0 [tn]) (r:=r1.tail) (by simp +decide only [externQ,eat,Q.bind,H1.out,if_pos HQ2.out,↓reduceIte,reduceCtorEq]) (by omega) (.outside _ ⟨s,tn,rfl,HS_t⟩) (HF.ndOf 2 rfl 5 s 0).swap.lose
 rw[if_neg hq] at hf;rw[decide_eq_false hq];have HQ2:=ah hq;replace HF:=ah hf;clear hq hf;go_wp2_with fail;go_at_call 154;refine (function_any HF).mono ?_;rintro e w3 (⟨r3,h3,rfl,hf⟩|⟨l,m,r3,a,ca,h3,hl3,hm3,hm01,hS,rfl,hf⟩)
 ·exact⟨rfl,PN.no (by simp +decide only [externQ,eat,Q.bind,H1.out,if_neg HQ2.out,h3,↓reduceIte,reduceCtorEq]) hf.lose⟩
 have H3:=ah h3;have HSl:=ah hS;have HM:=ah hm01;replace HF:=ah hf;clear h3 hf hS hm01;have c_cur:=HF.cell 1 rfl;have f_cur:=HF.frz 1 rfl;replace HF:=ah (HF.set 1 rfl 0 (.int .i64 4));go_wp2_with fail;clear c_cur f_cur;go_at_call 152;refine (ask1 (x:=wSEMI) (HF.box (q:=w3.heap.size) (by simp) _ 9)).mono ?_;rintro e w4 (⟨hq,rfl,hf⟩|⟨hq,rfl,hf⟩)
 ·exact⟨rfl,PN.no (by simp +decide only [externQ,eat,Q.bind,H1.out,if_neg HQ2.out,H3.out,if_neg hq,↓reduceIte,reduceCtorEq]) hf.lose⟩
 have HQ4:=ah hq;have hlt4:=aF hq;replace HF:=ah hf;clear hq hf;replace HF:=ah (HF.give 2 rfl);have c_cur:=HF.cell 1 rfl;have c_res:=HF.cell 3 rfl;have f_res:=HF.frz 3 rfl;replace HF:=ah (HF.nd4 3 rfl (.int .i64 4) (.string s) (.int .i64 m) (.slice a (l.length+1) ca));go_wp2;refine br (rt52 results129 rfl (HF.blkAt 3 rfl)) ?_;exact PN.yes (n:=.mk 4 s m (l++[tn])) (r:=r3.tail) (by simp +decide only [externQ,eat,Q.bind,Nd.text,Nd.kids,H1.out,if_neg HQ2.out,H3.out,if_pos HQ4.out,↓reduceIte,reduceCtorEq]) (by omega) (.extern s m l tn HM HSl HS_t) (HF.ndOf 2 rfl 4 s m).swap.lose
theorem defined_any (st:Int) (h0:0≤st) (h1:st≤1):Calls prog 130 #[ptr b,.int .i64 st] w (PN De (cU st ts) ts.length B b L):=by
 have hal0:=h.tokAll.1;have HF:=ah h;clear h;go_enter func130,ntmps130;replace HF:=ah (HF.box (q:=w.heap.size) (by simp) ndz 52);go_wp2_with fail;go_at_call 153;refine (typed_all HF 6).mono ?_;rintro e w1 (⟨r1,h3,rfl,hf⟩|⟨s,tn,r1,g,h3,hl1,hS,rfl,hf⟩)
 ·exact⟨rfl,PN.no (by simp +decide only [cU,eat,Q.bind,h3,↓reduceIte,reduceCtorEq]) hf.lose⟩
 have H1:=ah h3;have HS_t:=ah hS;replace HF:=ah hf;clear h3 hf hS;replace HF:=ah (HF.box (q:=w1.heap.size) (by simp) #[.int .i64 6,.string s,.int .i64 0,.slice (some ⟨g,0,none⟩) 1 1] 52);go_wp2_with fail;go_at_call 127;refine (aW HF wEQ (by decide)).mono ?_;rintro e w2 ⟨rfl,hf⟩;by_cases hq:tx r1=wEQ
 ·rw[if_pos hq] at hf;rw[decide_eq_true hq];have HQ2:=ah hq;have hlt2:=aF hq;replace HF:=ah hf;clear hq hf;have c_cur:=HF.cell 1 rfl;have f_cur:=HF.frz 1 rfl;replace HF:=ah (HF.set 1 rfl 2 (.int .i64 st));go_wp2;clear c_cur f_cur;refine regK [7,8,9,10] HF (λ w h=>(h.cell 1 rfl)) (λ wd3 HF hC=>?_);refine tq4 0 1 2 4 ?_;refine rq2 3 5 (λ K hK=>?_) λ K hK=>?_;go_simp;refine (value_any HF).mono ?_;rintro e w4 (⟨r4,h3,rfl,hf⟩|⟨x,r4,a_x,n_x,c_x,h3,hl4,hS,rfl,hf⟩)
  ·exact⟨rfl,PN.no (by simp +decide only [cU,eat,Q.bind,H1.out,if_pos HQ2.out,h3,↓reduceIte,reduceCtorEq]) hf.lose⟩
  have H4:=ah h3;have HS_x:=ah hS;replace HF:=ah hf;clear h3 hf hS;refine uq hK (HF.cell 2 rfl) λ hC=>?_;refine rq 5 λ K hK=>?_;go_simp;replace HF:=ah (HF.box (q:=w4.heap.size) (by simp) ndz 52);refine uq hK (HF.cell 3 rfl) λ hC=>?_;try simp only[qq]
  generalize w4.heap.size=qs at *;refine genW HF λ w5 hF=>?_;clear HF;have HF:=ah hF;clear hF;rotate_left;go_simp;replace HF:=ah (HF.box (q:=wd3.heap.size) (by simp) ndz 52);refine uq hK (HF.cell 2 rfl) λ hC=>?_;try simp only[qq]
  generalize wd3.heap.size=qs at *;refine rq 3 λ K hK=>?_;go_simp;refine (value_any HF).mono ?_;rintro e w4 (⟨r4,h3,rfl,hf⟩|⟨x,r4,a_x,n_x,c_x,h3,hl4,hS,rfl,hf⟩)
  ·exact⟨rfl,PN.no (by simp +decide only [cU,eat,Q.bind,H1.out,if_pos HQ2.out,h3,↓reduceIte,reduceCtorEq]) hf.lose⟩
  have H4:=ah h3;have HS_x:=ah hS;replace HF:=ah hf;clear h3 hf hS;refine uq hK (HF.cell 3 rfl) λ hC=>?_;try simp only[qq]
  replace HF:=ah (HF.perm (List.Perm.cons _ (List.Perm.swap _ _ _)));refine genW HF λ w5 hF=>?_;clear HF;have HF:=ah hF;clear hF;all_goals
   refine rq 6 λ K hK=>?_;replace HF:=ah (HF.ndBare 0 eB 0).swap;refine fR (by rfl) (Fr.elAppN fB underlying50 rfl (by decide) (by decide) (HF.perm (List.Perm.trans (List.Perm.cons _ (List.Perm.swap _ _ _)) (List.Perm.swap _ _ _))) 4 rfl 1 2 (by first|rfl|(simp;omega)) (by first|rfl|omega) (by omega) 1 rfl _ _ rfl rfl (by rfl) (by rfl) rfl λ g6 cap6 w6 hF=>?_);replace HF:=ah hF;clear hF;refine uq hK (HF.cell 3 rfl) λ hC=>?_;try simp only[qq]
   refine tqP 7 ?_ (hy:=by (intro w;go_simp;try rw[if_pos (by omega)])<;>with_reducible rfl);refine tqP 9 ?_ (hy:=by (intro w;go_simp;try rw[if_pos (by omega)])<;>with_reducible rfl);refine rq2b 8 10 (λ K hK=>?_) λ K hK=>?_;obtain⟨f_g,d0,d1,d2,d3,e0,e1,e2,e3⟩:=HF.last4 (o1:=5) (o2:=6) (o3:=7) 4 rfl 4 (by simp) (by simp) (by simp) (by simp);go_simp;clear e0 e1 e2 e3 f_g;replace HF:=ah (HF.putLast4 (o1:=5) (o2:=6) (o3:=7) 4 rfl 2 rfl 4 (by simp) (by simp) (by simp) (by simp));refine ub hK ?_;refine rqb 10 λ K hK=>?_;have c_cur:=HF.cell 3 rfl;have f_cur:=HF.frz 3 rfl;go_simp;clear c_cur f_cur;replace HF:=ah (HF.set 3 rfl 3 (.slice (some ⟨g6,0,none⟩) 2 cap6));refine ub hK ?_;refine dq ?_;refine genW HF λ w7 hF=>?_;clear HF;have HF:=ah hF;clear hF;rotate_left;have c_cur:=HF.cell 3 rfl;have f_cur:=HF.frz 3 rfl;go_simp;clear c_cur f_cur;replace HF:=ah (HF.set 3 rfl 3 (.slice (some ⟨g6,0,none⟩) 2 cap6));refine ub hK ?_;refine rqb 8 λ K hK=>?_;obtain⟨f_g,d0,d1,d2,d3,e0,e1,e2,e3⟩:=HF.last4 (o1:=5) (o2:=6) (o3:=7) 4 rfl 4 (by simp) (by simp) (by simp) (by simp);go_simp;clear e0 e1 e2 e3 f_g;replace HF:=ah (HF.putLast4 (o1:=5) (o2:=6) (o3:=7) 4 rfl 2 rfl 4 (by simp) (by simp) (by simp) (by simp));refine ub hK ?_;refine dq ?_;refine genW HF λ w7 hF=>?_;clear HF;have HF:=ah hF;clear hF;all_goals
    go_wp2_with fail;go_at_call 152;refine (ask1 (x:=wSEMI) (HF.box (q:=w7.heap.size) (by simp) _ 9)).mono ?_;rintro e w8 (⟨hq,rfl,hf⟩|⟨hq,rfl,hf⟩)
    ·exact⟨rfl,PN.no (by simp +decide only [cU,eat,Q.bind,H1.out,if_pos HQ2.out,H4.out,if_neg hq,↓reduceIte,reduceCtorEq]) hf.lose⟩
    have HQ8:=ah hq;have hlt8:=aF hq;replace HF:=ah hf;clear hq hf;replace HF:=ah (HF.give 4 rfl);have c_cur:=HF.cell 3 rfl;have c_res:=HF.cell 5 rfl;have f_res:=HF.frz 5 rfl;replace HF:=ah (HF.nd4 5 rfl (.int .i64 6) (.string s) (.int .i64 st) (.slice (some ⟨g6,0,none⟩) 2 cap6));go_wp2;refine br (rt52 results130 rfl (HF.blkAt 5 rfl)) ?_;clear c_cur c_res f_res;obtain⟨k,v,rfl,hk1,hk2,hk3⟩:=HS_x;exact PN.yes (n:=.mk 6 s st ([tn]++[.mk k eB v []])) (r:=r4.tail) (by simp +decide only [cU,eat,Q.bind,Nd.text,Nd.kids,List.cons_append,List.nil_append,H1.out,if_pos HQ2.out,H4.out,if_pos HQ8.out,↓reduceIte,reduceCtorEq]) (by omega) (.global s st tn k v (by omega) HS_t hk1 hk2 hk3) (HF.ndOf 4 rfl 6 s st).swap.lose
 rw[if_neg hq] at hf;rw[decide_eq_false hq];have HQ2:=ah hq;replace HF:=ah hf;clear hq hf;go_wp2_with fail;go_at_call 154;refine (function_any HF).mono ?_;rintro e w3 (⟨r3,h3,rfl,hf⟩|⟨l,m,r3,a,ca,h3,hl3,hm3,hm01,hS,rfl,hf⟩)
 ·exact⟨rfl,PN.no (by simp +decide only [cU,eat,Q.bind,H1.out,if_neg HQ2.out,h3,↓reduceIte,reduceCtorEq]) hf.lose⟩
 have H3:=ah h3;have HSl:=ah hS;have HM:=ah hm01;replace HF:=ah hf;clear h3 hf hS hm01;obtain⟨n1,hn1⟩:∃n1,l.length+1=n1:=⟨_,rfl⟩
 rw[hn1] at HF;have hm1:0≤m∧m≤1:=by have:=HM.out;omega
 have hm2:=hm1.1;have hm3:=hm1.2;have c_cur:=HF.cell 1 rfl;have f_cur:=HF.frz 1 rfl;replace HF:=ah (HF.set 1 rfl 0 (.int .i64 7));have c_cur_:=HF.cell 1 rfl;have f_cur_:=HF.frz 1 rfl;replace HF:=ah (HF.set 1 rfl 2 (.int .i64 (st+2*m)));go_wp2;clear c_cur f_cur c_cur_ f_cur_;refine regK [7,8,9,10] HF (λ w h=>(h.cell 1 rfl)) (λ wd4 HF hC=>?_);refine tq4 0 1 2 4 ?_;refine rq2 3 5 (λ K hK=>?_) λ K hK=>?_;go_simp;refine (block_any HF).mono ?_;rintro e w5 (⟨r5,h3,rfl,hf⟩|⟨x,r5,a_x,n_x,c_x,h3,hl5,hS,rfl,hf⟩)
 ·exact⟨rfl,PN.no (by simp +decide only [cU,eat,Q.bind,H1.out,if_neg HQ2.out,H3.out,h3,↓reduceIte,reduceCtorEq]) hf.lose⟩
 have H5:=ah h3;have HS_x:=ah hS;replace HF:=ah hf;clear h3 hf hS;refine uq hK (HF.cell 2 rfl) λ hC=>?_;refine rq 5 λ K hK=>?_;go_simp;replace HF:=ah (HF.box (q:=w5.heap.size) (by simp) ndz 52);refine uq hK (HF.cell 3 rfl) λ hC=>?_;try simp only[qq]
 generalize w5.heap.size=qs at *;refine genW HF λ w6 hF=>?_;clear HF;have HF:=ah hF;clear hF;rotate_left;go_simp;replace HF:=ah (HF.box (q:=wd4.heap.size) (by simp) ndz 52);refine uq hK (HF.cell 2 rfl) λ hC=>?_;try simp only[qq]
 generalize wd4.heap.size=qs at *;refine rq 3 λ K hK=>?_;go_simp;refine (block_any HF).mono ?_;rintro e w5 (⟨r5,h3,rfl,hf⟩|⟨x,r5,a_x,n_x,c_x,h3,hl5,hS,rfl,hf⟩)
 ·exact⟨rfl,PN.no (by simp +decide only [cU,eat,Q.bind,H1.out,if_neg HQ2.out,H3.out,h3,↓reduceIte,reduceCtorEq]) hf.lose⟩
 have H5:=ah h3;have HS_x:=ah hS;replace HF:=ah hf;clear h3 hf hS;refine uq hK (HF.cell 3 rfl) λ hC=>?_;try simp only[qq]
 replace HF:=ah (HF.perm (List.Perm.cons _ (List.Perm.swap _ _ _)));refine genW HF λ w6 hF=>?_;clear HF;have HF:=ah hF;clear hF;all_goals
  refine rq 6 λ K hK=>?_;replace HF:=ah (HF.ndBare 0 eB 0).swap;refine fR (by rfl) (Fr.elAppN fB underlying50 rfl (by decide) (by decide) (HF.perm (List.Perm.trans (List.Perm.cons _ (List.Perm.swap _ _ _)) (List.Perm.swap _ _ _))) 4 rfl n1 (n1+1) (by first|rfl|(simp;omega)) (by first|rfl|omega) (by omega) 1 rfl _ _ rfl rfl (by rfl) (by rfl) rfl λ g7 cap7 w7 hF=>?_);replace HF:=ah hF;clear hF;refine uq hK (HF.cell 3 rfl) λ hC=>?_;try simp only[qq]
  refine tqP 7 ?_ (hy:=by (intro w;go_simp;try rw[if_pos (by omega)])<;>with_reducible rfl);refine tqP 9 ?_ (hy:=by (intro w;go_simp;try rw[if_pos (by omega)])<;>with_reducible rfl);refine rq2b 8 10 (λ K hK=>?_) λ K hK=>?_;obtain⟨f_g,d0,d1,d2,d3,e0,e1,e2,e3⟩:=HF.last4 (o1:=(n1*4+1)) (o2:=(n1*4+2)) (o3:=(n1*4+3)) 4 rfl (n1*4) (by simp;omega) rfl rfl rfl;go_simp;clear e0 e1 e2 e3 f_g;replace HF:=ah (HF.putLast4 (o1:=(n1*4+1)) (o2:=(n1*4+2)) (o3:=(n1*4+3)) 4 rfl 2 rfl (n1*4) (by simp;omega) rfl rfl rfl);refine ub hK ?_;refine rqb 10 λ K hK=>?_;have c_cur:=HF.cell 3 rfl;have f_cur:=HF.frz 3 rfl;go_simp;clear c_cur f_cur;replace HF:=ah (HF.set 3 rfl 3 (.slice (some ⟨g7,0,none⟩) (n1+1) cap7));refine ub hK ?_;refine dq ?_;refine genW HF λ w8 hF=>?_;clear HF;have HF:=ah hF;clear hF;rotate_left;have c_cur:=HF.cell 3 rfl;have f_cur:=HF.frz 3 rfl;go_simp;clear c_cur f_cur;replace HF:=ah (HF.set 3 rfl 3 (.slice (some ⟨g7,0,none⟩) (n1+1) cap7));refine ub hK ?_;refine rqb 8 λ K hK=>?_;obtain⟨f_g,d0,d1,d2,d3,e0,e1,e2,e3⟩:=HF.last4 (o1:=(n1*4+1)) (o2:=(n1*4+2)) (o3:=(n1*4+3)) 4 rfl (n1*4) (by simp;omega) rfl rfl rfl;go_simp;clear e0 e1 e2 e3 f_g;replace HF:=ah (HF.putLast4 (o1:=(n1*4+1)) (o2:=(n1*4+2)) (o3:=(n1*4+3)) 4 rfl 2 rfl (n1*4) (by simp;omega) rfl rfl rfl);refine ub hK ?_;refine dq ?_;refine genW HF λ w8 hF=>?_;clear HF;have HF:=ah hF;clear hF;all_goals
   replace HF:=ah (HF.give 4 rfl);have c_cur:=HF.cell 3 rfl;have c_res:=HF.cell 5 rfl;have f_res:=HF.frz 5 rfl;replace HF:=ah (HF.nd4 5 rfl (.int .i64 7) (.string s) (.int .i64 (st+2*m)) (.slice (some ⟨g7,0,none⟩) (n1+1) cap7));go_wp2;refine br (rt52 results130 rfl (HF.blkAt 5 rfl)) ?_;clear c_cur c_res f_res;have hlen:n1+1=(l++[tn]++[x]).length:=by simp;omega
   exact PN.yes (n:=.mk 7 s (st+2*m) (l++[tn]++[x])) (r:=r5) (by simp +decide only [cU,eat,Q.bind,Nd.text,Nd.kids,H1.out,if_neg HQ2.out,H3.out,H5.out,↓reduceIte,reduceCtorEq]) (by omega) (.func s (st+2*m) l tn x (by omega) (by omega) HSl HS_t HS_x) (HF.ndOf 4 rfl 7 s (st+2*m)).swap.lose
theorem decl_any:Calls prog 102 #[ptr b] w (PN De (declQ ts) ts.length B b L):=by
 have hal0:=h.tokAll.1;have HF:=ah h;clear h;go_enter func102,ntmps102;replace HF:=ah (HF.box (q:=w.heap.size) (by simp) ndz 52);go_wp2_with fail;go_at_call 127;refine (aW HF wSTRUCT (by decide)).mono ?_;rintro e w1 ⟨rfl,hf⟩;by_cases hq:tx ts=wSTRUCT
 ·rw[if_pos hq] at hf;rw[decide_eq_true hq];have HQ1:=ah hq;have hlt1:=aF hq;replace HF:=ah hf;clear hq hf;go_wp2_with fail;go_at_call 128;refine (structure_any HF).mono ?_;rintro e w2 (⟨r2,h3,rfl,hf⟩|⟨x,r2,a_x,n_x,c_x,h3,hl2,hS,rfl,hf⟩)
  ·exact⟨rfl,PN.no (by simp +decide only [declQ,if_pos HQ1.out,h3,↓reduceIte,reduceCtorEq]) hf.lose⟩
  have H2:=ah h3;have HS_x:=ah hS;replace HF:=ah hf;clear h3 hf hS;have c_res:=HF.cell 2 rfl;have f_res:=HF.frz 2 rfl;replace HF:=ah (HF.nd4 2 rfl (.int .i64 x.kind) (.string x.text) (.int .i64 x.num) (.slice a_x n_x c_x));go_wp2;refine br (rt52 results102 rfl (HF.blkAt 2 rfl)) ?_;exact PN.yes (r:=r2) (by simp +decide only [declQ,if_pos HQ1.out,H2.out,↓reduceIte,reduceCtorEq]) (by omega) HS_x HF.lose
 rw[if_neg hq] at hf;rw[decide_eq_false hq];have HQ1:=ah hq;replace HF:=ah hf;clear hq hf;go_wp2_with fail;go_at_call 127;refine (aW HF wEXTERN (by decide)).mono ?_;rintro e w2 ⟨rfl,hf⟩;by_cases hq:tx ts=wEXTERN
 ·rw[if_pos hq] at hf;rw[decide_eq_true hq];have HQ2:=ah hq;have hlt2:=aF hq;replace HF:=ah hf;clear hq hf;go_wp2_with fail;go_at_call 129;refine (extern_any HF).mono ?_;rintro e w3 (⟨r3,h3,rfl,hf⟩|⟨x,r3,a_x,n_x,c_x,h3,hl3,hS,rfl,hf⟩)
  ·exact⟨rfl,PN.no (by simp +decide only [declQ,if_neg HQ1.out,if_pos HQ2.out,h3,↓reduceIte,reduceCtorEq]) hf.lose⟩
  have H3:=ah h3;have HS_x:=ah hS;replace HF:=ah hf;clear h3 hf hS;have c_res:=HF.cell 2 rfl;have f_res:=HF.frz 2 rfl;replace HF:=ah (HF.nd4 2 rfl (.int .i64 x.kind) (.string x.text) (.int .i64 x.num) (.slice a_x n_x c_x));go_wp2;refine br (rt52 results102 rfl (HF.blkAt 2 rfl)) ?_;exact PN.yes (r:=r3) (by simp +decide only [declQ,if_neg HQ1.out,if_pos HQ2.out,H3.out,↓reduceIte,reduceCtorEq]) (by omega) HS_x HF.lose
 rw[if_neg hq] at hf;rw[decide_eq_false hq];have HQ2:=ah hq;replace HF:=ah hf;clear hq hf;go_wp2_with fail;go_at_call 127;refine (aW HF wSTATIC (by decide)).mono ?_;rintro e w3 ⟨rfl,hf⟩;by_cases hq:tx ts=wSTATIC
 ·rw[if_pos hq] at hf;rw[decide_eq_true hq];have HQ3:=ah hq;have hlt3:=aF hq;replace HF:=ah hf;clear hq hf;go_wp2_with fail;go_at_call 130;refine (defined_any HF 1 (by omega) (by omega)).mono ?_;rintro e w4 (⟨r4,h3,rfl,hf⟩|⟨x,r4,a_x,n_x,c_x,h3,hl4,hS,rfl,hf⟩)
  ·exact⟨rfl,PN.no (by simp +decide only [declQ,if_neg HQ1.out,if_neg HQ2.out,if_pos HQ3.out,h3,↓reduceIte,reduceCtorEq]) hf.lose⟩
  have H4:=ah h3;have HS_x:=ah hS;replace HF:=ah hf;clear h3 hf hS;have c_res:=HF.cell 2 rfl;have f_res:=HF.frz 2 rfl;replace HF:=ah (HF.nd4 2 rfl (.int .i64 x.kind) (.string x.text) (.int .i64 x.num) (.slice a_x n_x c_x));go_wp2;refine br (rt52 results102 rfl (HF.blkAt 2 rfl)) ?_;exact PN.yes (r:=r4) (by simp +decide only [declQ,if_neg HQ1.out,if_neg HQ2.out,if_pos HQ3.out,H4.out,↓reduceIte,reduceCtorEq]) (by omega) HS_x HF.lose
 rw[if_neg hq] at hf;rw[decide_eq_false hq];have HQ3:=ah hq;replace HF:=ah hf;clear hq hf;go_wp2_with fail;go_at_call 130;refine (defined_any HF 0 (by omega) (by omega)).mono ?_;rintro e w4 (⟨r4,h3,rfl,hf⟩|⟨x,r4,a_x,n_x,c_x,h3,hl4,hS,rfl,hf⟩)
 ·exact⟨rfl,PN.no (by simp +decide only [declQ,if_neg HQ1.out,if_neg HQ2.out,if_neg HQ3.out,h3,↓reduceIte,reduceCtorEq]) hf.lose⟩
 have H4:=ah h3;have HS_x:=ah hS;replace HF:=ah hf;clear h3 hf hS;have c_res:=HF.cell 2 rfl;have f_res:=HF.frz 2 rfl;replace HF:=ah (HF.nd4 2 rfl (.int .i64 x.kind) (.string x.text) (.int .i64 x.num) (.slice a_x n_x c_x));go_wp2;refine br (rt52 results102 rfl (HF.blkAt 2 rfl)) ?_;exact PN.yes (r:=r4) (by simp +decide only [declQ,if_neg HQ1.out,if_neg HQ2.out,if_neg HQ3.out,H4.out,↓reduceIte,reduceCtorEq]) (by omega) HS_x HF.lose
end
def unitQ (ts:List Tok):Q Nd:=unitL (ts.length+1) [] ts
theorem unit_any (h:Fr B w (.ps b ts::L)):Calls prog 66 #[ptr b] w (PN Un (unitQ ts) (ts.length+1) B b L):=by
 have hal0:=h.tokAll.1;have HF:=ah h;clear h;go_enter func66,ntmps66;replace HF:=ah (HF.box (q:=w.heap.size) (by simp) ndz 52);replace HF:=ah (HF.box (q:=w.heap.size+1) (by simp) #[.int .i64 1,.string eB,.int .i64 0,.slice none 0 0] 52);go_wp2;generalize hw0:(w.alloc (.cells ndz 52)).alloc (.cells #[.int .i64 1,.string eB,.int .i64 0,.slice none 0 0] 52)=w0 at *;generalize hqc:w.heap.size+1=qc at *;generalize hqr:w.heap.size=qr at *;clear hqc hqr hw0;go_loopw [5] (λ_ wr=>Hid (∃m acc r v,r.length<m∧r.length≤ts.length∧unitQ ts=unitL m acc r∧acc.length+r.length≤ts.length∧(∀x,x∈acc→De x)∧Fr B wr (.ps b r::.blk qc #[.int .i64 1,.string eB,.int .i64 0,v] 52::.els NdE v 52 4 acc::.blk qr ndz 52::L))) (λ_ wr=>leftOf wr b)
 case atStart=>exact⟨_,[],ts,.slice none 0 0,Nat.lt_succ_self _,Nat.le_refl _,rfl,by simp,by simp,(HF.noEls NdE 52 4).perm (List.Perm.trans (List.Perm.swap _ _ _) (List.Perm.cons _ (List.Perm.swap _ _ _)))⟩
 clear HF;obtain⟨m,acc,r,v,hm,hlr,heq,hlen,hS,hf⟩:=hrel.out;clear hrel;obtain⟨m,rfl⟩:∃k,m=k+1:=⟨m - 1,by omega⟩
 have hleft:=ah hf.left;obtain⟨av,cv,rfl,-,-⟩:=hf.elsForm 2 rfl;have HEq:=ah heq;have HSa:=ah hS;have HF:=ah hf;clear heq hS hf;obtain⟨pa,pc,pm,hp1,-,-,-⟩:=HF.psAt;have c_p:=aA hp1;clear hp1;by_cases hr:r=[]
 ·subst hr;replace hleft:=hleft.out;clear hleft;replace HF:=ah (HF.give 2 rfl);have c_cur:=HF.cell 1 rfl;have c_res:=HF.cell 3 rfl;have f_res:=HF.frz 3 rfl;replace HF:=ah (HF.nd4 3 rfl (.int .i64 1) (.string eB) (.int .i64 0) (.slice av acc.length cv));go_wp2;refine br (rt52 results66 rfl (HF.blkAt 3 rfl)) ?_;exact PN.yes (n:=.mk 1 eB 0 acc) (r:=([]:List Tok)) (by simp +decide only [Q.bind,HEq.out,unitL,↓reduceIte,↓reduceIte,reduceCtorEq]) (by simp) ⟨acc,rfl,HSa⟩ (HF.ndOf 2 rfl 1 eB 0).swap.lose
 have HNr:=ah hr;have hr0:0<r.length:=List.length_pos_iff.2 hr;have hr1:(0:Int)<(r.length:Int):=by omega
 clear hr;go_wp2_with fail;clear c_p hr1;go_wp2;refine regK [7] HF (λ w h=>(h.cell 1 rfl)) (λ wd1 HF hC=>?_);refine tq3 0 1 2 ?_;refine rq 3 λ K hK=>?_;go_simp;refine (decl_any HF).mono ?_;rintro e w2 (⟨r2,h3,rfl,hf⟩|⟨x,r2,a_x,n_x,c_x,h3,hl2,hS,rfl,hf⟩)
 ·exact⟨rfl,PN.no (by simp +decide only [Q.bind,HEq.out,unitL,if_neg HNr.out,h3,↓reduceIte,reduceCtorEq]) hf.lose⟩
 have H2:=ah h3;have HS_x:=ah hS;replace HF:=ah hf;clear h3 hf hS;refine uq hK (HF.cell 2 rfl) λ hC=>?_;refine rq 4 λ K hK=>?_;go_simp;replace HF:=ah (HF.box (q:=w2.heap.size) (by simp) #[.int .i64 x.kind,.string x.text,.int .i64 x.num,.slice a_x n_x c_x] 52);refine uq hK (HF.cell 3 rfl) λ hC=>?_;refine rq 5 λ K hK=>?_;refine fR (by rfl) (Fr.elApp fB underlying50 rfl (by decide) (by decide) (HF.perm (List.Perm.swap _ _ _)) 3 rfl (by first|omega|simp) 1 rfl _ _ rfl rfl (by rfl) (by rfl) rfl λ g3 cap3 w3 hF _=>?_);replace HF:=ah hF;clear hF;refine uq hK (HF.cell 2 rfl) λ hC=>?_;refine tq 6 ?_;refine rqb 7 λ K hK=>?_;have c_cur:=HF.cell 2 rfl;have f_cur:=HF.frz 2 rfl;replace HF:=ah (HF.set 2 rfl 3 (.slice (some ⟨g3,0,none⟩) (acc.length+1) cap3));go_simp;refine ub hK ?_;refine dq ?_;go_wp2;go_roundw
 case rel=>exact⟨m,acc++[x],r2,.slice (some ⟨g3,0,none⟩) (acc.length+1) cap3,by omega,by omega,by simp +decide only [Q.bind,HEq.out,unitL,if_neg HNr.out,H2.out,↓reduceIte,reduceCtorEq],by rw[len_snoc];omega,λ y hy=>by rcases List.mem_append.1 hy with h|h;exact HSa y h;rw[List.mem_singleton.1 h];exact HS_x,HF.lose⟩
 case measure=>rw[hleft.out,HF.out.left];omega
variable {w0 : World} {g : Nat} {m : Value}
abbrev V1:Value:=.agg #[.int .i64 9,.int .i64 30]
abbrev V2:Value:=.agg #[.int .i64 10,.int .i64 31]
abbrev D0 (k:Int):DataW Unit:=.lit (.int .i64 k)
def Rw:Value→Option (DataW Unit × List MemPlace)
 | .agg a=>if a.toList.length=2 then (match a.toList with|[.int .i64 x,.int .i64 y]=>if x=9∧y=30 then some (D0 1,[]) else if x=10∧y=31 then some (D0 2,[]) else none|_=>none) else none
 | _=>none
theorem Rw_one:Rw V1=some (D0 1,[]):=rfl
theorem Rw_two:Rw V2=some (D0 2,[]):=rfl
theorem Rw_inv {y : DataW Unit × List MemPlace} (h:Rw v=some y):(v=V1∧y.1=D0 1)∨(v=V2∧y.1=D0 2):=by
 unfold Rw at h;split at h
 ·rename_i a
  split at h
  ·split at h
   ·rename_i x y' he
    have ea:a=#[.int .i64 x,.int .i64 y']:=Array.toList_inj.1 he;split at h
    ·rename_i hc
     obtain⟨rfl,rfl⟩:=hc;injection h with h
     subst h;exact Or.inl ⟨by rw[ea],rfl⟩
    split at h
    ·rename_i hc
     obtain⟨rfl,rfl⟩:=hc;injection h with h
     subst h;exact Or.inr ⟨by rw[ea],rfl⟩
    cases h
   cases h
  cases h
 cases h
def Mp (w:World)(mb k:Nat)(A:ByteArray→DataW Unit→DataW Unit):Prop:=∃D,w.ownsMap prog 9 Rw mb k D∧Maps.IsMap D∧∀s zd,D.atKey (.string s.data.toList) zd=A s zd
theorem Mp.made (w:World):Mp (w.alloc (.map #[] 0)) w.heap.size 0 (λ_ zd=>zd):=⟨_,World.ownsMap_made w _ _ _,Maps.isMap_empty,λ s zd=>WideAt.atKey_none _ (by simp)⟩
theorem Mp.put {k : Nat} {A : ByteArray→DataW Unit→DataW Unit} (h:Mp w mb k A) (hk:k<1000) (x:ByteArray) (hx:x.size≤maxLen) {d : DataW Unit} (hv:Rw v=some (d,[])):
  ∃w',(Instr.mapUpdate 128 (.map (some mb)) (.string x) v).run prog w=.ok () w'∧(∀A',(∀s zd,A' s zd=if s=x then d else A s zd)→Mp w' mb (k+1) A')∧w.grownBy w' (some mb):=by
 obtain⟨D,h1,h2,h3⟩:=h;have hm:maxLen=9223372036854775807:=rfl;obtain⟨w',k1,k2,k3⟩:=h1.update (t:=128) (e:=127) (Maps.string_keyed underlying9) underlying128 (by omega) (WideMaps.keyOf_string_mk underlying9 hx) hv;refine⟨w',k1,λ A' hA=>⟨_,k2,h2.put _ _,λ s zd=>?_⟩,k3⟩;rw[hA];by_cases e:s=x
 ·subst e;rw[Maps.atKey_put_same h2 (show WideAt.IsKeyLit (.string s.data.toList) from trivial),if_pos rfl]
 rw[Maps.atKey_put_other (λ q=>e (ByteArray.ext (Array.toList_inj.1 (by injection q with y)))),h3,if_neg e]
def A2 (s:ByteArray)(zd:DataW Unit):DataW Unit:=if s=wLONG then D0 2 else if s=wINT then D0 1 else zd
theorem Mp.two (h:Mp w mb 2 A2):∃o,w.heap[mb]?=some o∧∀w':World,w'.heap[mb]?=some o→∀s:ByteArray,s.size≤4000→(Instr.lookup 128 (.map (some mb)) (.string s) true).run prog w'=.ok (.tuple #[.agg #[.int .i64 (dV s).1,.int .i64 (dV s).2.1],.bool (dV s).2.2]) w':=by
 obtain⟨D,h1,h2,h3⟩:=h;obtain⟨es,clock,hb,F,hn,rfl⟩:=h1;refine⟨_,hb,λ w' hb' s hs=>?_⟩;have hm:maxLen=9223372036854775807:=rfl;have hz:(zeroValue 127).run prog w'=.ok (.agg #[.int .i64 0,.int .i64 0]) w':=zeroValue127 w';rcases Maps.fit_look true (Maps.string_keyed underlying9) underlying128 hz hb' F (WideMaps.keyOf_string_mk underlying9 (show s.size≤maxLen by omega)) with⟨hrun,_,hat⟩|⟨e0,y,_,_,hrun,hRv,hat,_⟩
 ·have e1:=(h3 s (D0 0)).symm.trans (hat (D0 0));have n2:¬ s=wLONG:=λ e=>by unfold A2 at e1;rw[if_pos e] at e1;cases e1
  have n1:¬ s=wINT:=λ e=>by unfold A2 at e1;rw[if_neg n2,if_pos e] at e1;cases e1
  rw[hrun];unfold dV;rw[if_neg n1,if_neg n2];rfl
 have e1:=(h3 s (D0 0)).symm.trans (hat (D0 0));rw[hrun];unfold A2 at e1;by_cases n2:s=wLONG
 ·rw[if_pos n2] at e1;rcases Rw_inv hRv with⟨_,e2⟩|⟨e2,_⟩
  ·rw[← e1] at e2;cases e2
  rw[e2,n2];rfl
 rw[if_neg n2] at e1;by_cases n1:s=wINT
 ·rw[if_pos n1] at e1;rcases Rw_inv hRv with⟨e2,_⟩|⟨_,e2⟩
  ·rw[e2,n1];rfl
  rw[← e1] at e2;cases e2
 rw[if_neg n1] at e1;rcases Rw_inv hRv with⟨_,e2⟩|⟨_,e2⟩
 ·rw[← e1] at e2;cases e2
 rw[← e1] at e2;cases e2
theorem hand_idle (q p:Nat) (w:World):
  CallsD prog 65 #[.pointer (some ⟨q,0,none⟩),.pointer (some ⟨p,0,none⟩)] .returning w λ e u' w'=>e=.returned (.tuple #[])∧u'=.returning∧w'=w:=by
 have hta:∀(w:World),(Instr.typeAssert .nilIface 20 122 true).run prog w=.ok (.tuple #[.agg #[.int .i64 0,.string ⟨#[]⟩,.int .i64 0],.bool false]) w:=λ_=>by kernel_rfl
 have htb:∀(w:World),(Instr.typeAssert .nilIface 20 124 true).run prog w=.ok (.tuple #[.agg #[],.bool false]) w:=λ_=>by kernel_rfl
 refine callsD_of_wpS func65 rfl λ c₀ cs hu=>?_;apply wpS_seq
 apply wpS_region
 simp [wpOpsS,go_sem,recoverD,hu,ntmps65,Exit.thenS];refine wpS_of_wp ?_;change Code.wp _ _ _ ⟨#[.pointer (some ⟨q,0,none⟩),.pointer (some ⟨p,0,none⟩),undef,undef,.nilIface,undef,undef,undef,undef,undef,undef,undef,undef,undef,undef,undef],[]⟩ _;go_wp2;cases c₀;simp_all [bodyPostS,results,results65]
theorem hand_wrong (q p:Nat) (k a:Int) (x:ByteArray) (y0 y1:Value) (older:List PanicEntry) (w:World) (hc:w.heap[q]?=some (.cells #[y0,y1] 54 (0,0))):
  CallsD prog 65 #[.pointer (some ⟨q,0,none⟩),.pointer (some ⟨p,0,none⟩)] (.panicking ({ v:=.iface 122 (.agg #[.int .i64 k,.string x,.int .i64 a]),recovered:=false }::older)) w λ e u' w'=>
   e=.returned (.tuple #[])∧u'=.panicking ({ v:=.iface 122 (.agg #[.int .i64 k,.string x,.int .i64 a]),recovered:=true }::older)∧w'=((w.setCell ⟨q,0,none⟩ (.int .i64 2)).setCell ⟨q,1,none⟩ (.int .i64 a)).alloc (.cells #[.int .i64 k,.string x,.int .i64 a] 122):=by
 have hta:∀(w:World),(Instr.typeAssert (.iface 122 (.agg #[.int .i64 k,.string x,.int .i64 a])) 20 122 true).run prog w=.ok (.tuple #[.agg #[.int .i64 k,.string x,.int .i64 a],.bool true]) w:=λ_=>by kernel_rfl
 have hlt:=(Array.getElem?_eq_some_iff.1 hc).1;have hc1:(w.setCell ⟨q,0,none⟩ (.int .i64 2)).heap[q]?=some (.cells #[.int .i64 2,y1] 54 (0,0)):=(heap_setCell_same w q 0 _ 54 _ hc).trans rfl;have hc2:((w.setCell ⟨q,0,none⟩ (.int .i64 2)).alloc (.cells #[.int .i64 k,.string x,.int .i64 a] 122)).heap[q]?=some (.cells #[.int .i64 2,y1] 54 (0,0)):=(Below.heap_alloc _ _ _ (by simpa using hlt)).trans hc1;have hcc:=aA hc;have hff:=aX hc;have hcc1:=aA hc1;have hff1:=aX hc1;have hcc2:=aA hc2;have hff2:=aX hc2;have hne:q≠w.heap.size:=by omega
 clear hc hc1 hc2;refine callsD_of_wpS func65 rfl λ c₀ cs hu=>?_;apply wpS_seq
 apply wpS_region
 simp [wpOpsS,go_sem,recoverD,hu,ntmps65,Exit.thenS];refine wpS_of_wp ?_;change Code.wp _ _ _ ⟨#[.pointer (some ⟨q,0,none⟩),.pointer (some ⟨p,0,none⟩),undef,undef,.iface 122 (.agg #[.int .i64 k,.string x,.int .i64 a]),undef,undef,undef,undef,undef,undef,undef,undef,undef,undef,undef],[]⟩ _;go_wp2;simp [bodyPostS,results,results65]
theorem hand_short (q p:Nat) (a:Int) (y0 y1:Value) (older:List PanicEntry) (w:World) (hc:w.heap[q]?=some (.cells #[y0,y1] 54 (0,0))) (hp:w.heap[p]?=some (.cells #[.int .i64 a] 3 (0,0))):
  CallsD prog 65 #[.pointer (some ⟨q,0,none⟩),.pointer (some ⟨p,0,none⟩)] (.panicking ({ v:=.iface 124 (.agg #[]),recovered:=false }::older)) w λ e u' w'=>
   e=.returned (.tuple #[])∧u'=.panicking ({ v:=.iface 124 (.agg #[]),recovered:=true }::older)∧w'=((w.setCell ⟨q,0,none⟩ (.int .i64 2)).setCell ⟨q,1,none⟩ (.int .i64 a)).alloc (.cells #[] 124):=by
 have hta:∀(w:World),(Instr.typeAssert (.iface 124 (.agg #[])) 20 122 true).run prog w=.ok (.tuple #[.agg #[.int .i64 0,.string ⟨#[]⟩,.int .i64 0],.bool false]) w:=λ_=>by kernel_rfl
 have htb:∀(w:World),(Instr.typeAssert (.iface 124 (.agg #[])) 20 124 true).run prog w=.ok (.tuple #[.agg #[],.bool true]) w:=λ_=>by kernel_rfl
 have hlt:=(Array.getElem?_eq_some_iff.1 hc).1;have hlp:=(Array.getElem?_eq_some_iff.1 hp).1;have hc1:(w.setCell ⟨q,0,none⟩ (.int .i64 2)).heap[q]?=some (.cells #[.int .i64 2,y1] 54 (0,0)):=(heap_setCell_same w q 0 _ 54 _ hc).trans rfl;have hc2:((w.setCell ⟨q,0,none⟩ (.int .i64 2)).alloc (.cells #[] 124)).heap[q]?=some (.cells #[.int .i64 2,y1] 54 (0,0)):=(Below.heap_alloc _ _ _ (by simpa using hlt)).trans hc1;have hp1:(w.alloc (.cells #[] 124)).heap[p]?=some (.cells #[.int .i64 a] 3 (0,0)):=(Below.heap_alloc w _ _ hlp).trans hp;have hcc:=aA hc;have hff:=aX hc;have hcc1:=aA hc1;have hff1:=aX hc1;have hcc2:=aA hc2;have hff2:=aX hc2;have hpp:=aA hp1;have hpq:=aA hp;clear hc hc1 hc2 hp hp1;refine callsD_of_wpS func65 rfl λ c₀ cs hu=>?_;apply wpS_seq
 apply wpS_region
 simp [wpOpsS,go_sem,recoverD,hu,ntmps65,Exit.thenS];refine wpS_of_wp ?_;change Code.wp _ _ _ ⟨#[.pointer (some ⟨q,0,none⟩),.pointer (some ⟨p,0,none⟩),undef,undef,.iface 124 (.agg #[]),undef,undef,undef,undef,undef,undef,undef,undef,undef,undef,undef],[]⟩ _;go_wp2;simp [bodyPostS,results,results65]
abbrev Rs.glo:Rs:=.fact ⟨Glo,λ H H' h hl=>by obtain⟨cur,T,f,h1,h2⟩:=h;exact⟨cur,T,f,hl _ _ h1,h2⟩⟩
abbrev Rs.lk (mb:Nat):Rs:=.fact ⟨λ H=>∃o,H mb=some o∧∀w':World,w'.heap[mb]?=some o→∀s:ByteArray,s.size≤4000→(Instr.lookup 128 (.map (some mb)) (.string s) true).run prog w'=.ok (.tuple #[.agg #[.int .i64 (dV s).1,.int .i64 (dV s).2.1],.bool (dV s).2.2]) w',λ H H' h hl=>by obtain⟨o,h1,h2⟩:=h;exact⟨o,hl _ _ h1,h2⟩⟩
theorem Fr.giveMap (h:Fr B w L) (i:Nat) {p : Option Obj→Prop} (hi:L[i]?=some (.ob mb p)) (hm:Mp w mb 2 A2):Fr B w (L.set i (.lk mb)):=by
 obtain⟨o,h1,h2⟩:=hm.two;obtain⟨H,h⟩:=h;exact⟨_,h.giveOne i hi (g:=mb) rfl h1 ⟨o,Snap.add_at _ _ _,h2⟩ λ q hq=>hq⟩
theorem Fr.psMade (h:Fr B w (.blk b #[.slice a ts.length c,.map (some mb)] 130::L)) (i j k:Nat) (hi:L[i]?=some (.sl TokE (.slice a ts.length c) 207 3 ts)) (hj:L[j]?=some (.lk mb)) (hk:L[k]?=some .glo) (ht:aB ts):Fr B w (.ps b ts::L):=by
 obtain⟨H,h⟩:=h;have m:∀{r:Rs} {i:Nat},L[i]?=some r→r.ok H w:=λ e=>h.ok _ (List.mem_cons_of_mem _ (List.mem_of_getElem? e));exact⟨H,h.turn 0 rfl h.below (Nat.le_refl _) (λ_ _ _=>rfl) (r':=.ps b ts) ⟨ht,a,c,mb,h.ok _ (List.mem_cons_self ..),m hi,m hk,m hj⟩ λ q hq=>Or.inl hq⟩
def atOf (nb:Int):List Tok→Int
 | []=>nb
 | t::_=>t.at_
def PP (ts:List Tok)(nb:Int)(B:Bs)(L:List Rs)(e:Ending)(w':World):Prop:=
 (∃r,unitQ ts=.no r∧e=.returned (.tuple #[.agg ndz,.agg #[.int .i64 2,.int .i64 (atOf nb r)]])∧Fr B w' L) ∨
 (∃n r a kn c,unitQ ts=.ok n r∧Un n∧e=.returned (.tuple #[.agg #[.int .i64 n.kind,.string n.text,.int .i64 n.num,.slice a kn c],.agg #[.int .i64 0,.int .i64 0]])∧Fr B w' (.el NdE (ndc n.kind n.text n.num a kn c) n::L))
theorem aH {fn : Func} {t u : Tmp} {ty ty2 : TypeId} {q : Addr} (h:fn.results=#[.cell t ty,.cell u ty2]) (tmps:Array Value) (ht:tmps.getD t undef=.pointer (some q)) (hu:tmps.getD u undef=.pointer (some q2)) (w:World) (hr:(loadVar ty q).run P w=.ok v w) (hr2:(loadVar ty2 q2).run P w=.ok v2 w):(results fn tmps).run P w=.ok (.tuple #[v,v2]) w:=by
 have ht':tmps[t]?.getD undef=.pointer (some q):=by simpa using ht
 have hu':tmps[u]?.getD undef=.pointer (some q2):=by simpa using hu
 simp [results,h,asAddr,ht',hu',hr,hr2]
theorem load52 {x2 x3 : Value} (h:w.heap[q]?=some (.cells #[x0,x1,x2,x3] 52 (0,0))):(loadVar 52 ⟨q,0,none⟩).run prog w=.ok (.agg #[x0,x1,x2,x3]) w:=by
 have hc:=aA h;simp [loadVar,go_sem,hc]
theorem eL (h:w.heap[q]?=some (.cells #[x0,x1] 54 (0,0))):(loadVar 54 ⟨q,0,none⟩).run prog w=.ok (.agg #[x0,x1]) w:=by
 have hc:=aA h;simp [loadVar,go_sem,hc]
theorem leaves_cc {tmps : Array Value} {R : Ending→World→Prop} {q : Addr} (ht:tmps.getD 4 undef=.pointer (some q)) (hu:tmps.getD 5 undef=.pointer (some q2)) (hr:(loadVar 52 q).run prog w=.ok v w) (hr2:(loadVar 54 q2).run prog w=.ok v2 w) (h:R (.returned (.tuple #[v,v2])) w):Leaves prog f46 tmps R [] .returning w:=
 ⟨_,aH results46 tmps ht hu w hr hr2,h⟩
theorem Fr.two2 (h:Fr B w L) (i:Nat) {T : TypeId} (hi:L[i]?=some (.blk q #[x0,x1] T)) (y0 y1:Value):Fr B ((w.setCell ⟨q,0,none⟩ y0).setCell ⟨q,1,none⟩ y1) (L.set i (.blk q #[y0,y1] T)):=by
 have hl:i<L.length:=(List.getElem?_eq_some_iff.1 hi).1;have h1:=h.set i hi 0 y0;have h2:=h1.set i (q:=q) (cs:=#[y0,x1]) (T:=T) (by rw[List.getElem?_set_self hl];rfl) 1 y1;simpa using h2
theorem parsed_any (h:Fr B w (.sl TokE (.slice a ts.length c) 207 3 ts::.glo::L)) (ht:aB ts) (nb:Int):
  Calls prog 46 #[.slice a ts.length c,.int .i64 nb] w (PP ts nb B (.sl TokE (.slice a ts.length c) 207 3 ts::.glo::L)):=by
 have hmf:∀(fn:Fn) (first cap:Array Value) (w:World),(Instr.makeFunc fn first cap).run prog w=.ok (.func fn first cap) w:=λ_ _ _ _=>rfl;have hmm:=@run_makeMap prog;have h2:=(((h.alloc (q:=w.heap.size) rfl #[.int .i64 nb] 3).alloc (q:=w.heap.size+1) (by simp) ndz 52).alloc (q:=w.heap.size+1+1) (by simp) #[.int .i64 0,.int .i64 0] 54).allocOb (q:=w.heap.size+1+1+1) (by simp) (.map #[] 0) (λ_=>True) trivial;have M0:=Mp.made (((w.alloc (.cells #[.int .i64 nb] 3)).alloc (.cells ndz 52)).alloc (.cells #[.int .i64 0,.int .i64 0] 54));simp only[World.size_alloc] at M0;obtain⟨W5,u1,m1,g5⟩:=M0.put (by omega) ⟨#[105,110,116]⟩ (by decide) Rw_one;have M1:=m1 (λ s zd=>if s=wINT then D0 1 else zd) (λ s zd=>rfl);obtain⟨W6,u2,m2,g6⟩:=M1.put (by omega) ⟨#[108,111,110,103]⟩ (by decide) Rw_two;have M2:Mp W6 (w.heap.size+1+1+1) 2 A2:=m2 A2 (λ s zd=>rfl);have h3:=h2.grown 0 rfl g5 (λ q e=>(Option.some.inj e).symm) (r':=.ob (w.heap.size+1+1+1) λ_=>True) (λ H hr=>⟨Nat.lt_of_lt_of_le hr.1 g5.size,trivial⟩) λ q hq=>Or.inl hq;have h4:=h3.grown 0 rfl g6 (λ q e=>(Option.some.inj e).symm) (r':=.ob (w.heap.size+1+1+1) λ_=>True) (λ H hr=>⟨Nat.lt_of_lt_of_le hr.1 g6.size,trivial⟩) λ q hq=>Or.inl hq;have HF:=ah (((h4.giveMap 0 rfl M2).alloc (q:=W6.heap.size) rfl #[.slice a ts.length c,.map (some (w.heap.size+1+1+1))] 130).psMade 4 0 5 rfl rfl rfl ht);clear h h2 h3 h4 M0 m1 g5 M1 m2 g6 M2;go_enter_defers func46,ntmps46
 go_wp2_with fail;go_at_call 66;refine (unit_any HF).mono ?_;rintro e w8 (⟨r,h3,rfl,hf⟩|⟨x,r,a_x,n_x,c_x,h3,hl,hS,rfl,hf⟩)
 ·have H3:=ah h3;clear HF h3;refine leaves_cons (f:=65) (args:=#[.pointer (some ⟨w.heap.size+1+1,0,none⟩),.pointer (some ⟨w.heap.size,0,none⟩)]) (by simp) (by simp [go_sem]) ?_;cases r with
  | nil=>
   refine (hand_short (w.heap.size+1+1) w.heap.size nb _ _ [] w8 (hf.blkAt 2 rfl) (hf.blkAt 4 rfl)).mono ?_;rintro e u' w9 ⟨rfl,rfl,rfl⟩;have h9:=(hf.two2 2 rfl (.int .i64 2) (.int .i64 nb)).alloc rfl #[] 124;refine leaves_cc (q:=⟨w.heap.size+1,0,none⟩) (q2:=⟨w.heap.size+1+1,0,none⟩) rfl rfl (load52 (h9.blkAt 4 rfl)) (eL (h9.blkAt 3 rfl)) ?_;exact Or.inl ⟨[],H3,rfl,h9.lose⟩
  | cons t r=>
   refine (hand_wrong (w.heap.size+1+1) w.heap.size t.kind t.at_ t.text _ _ [] w8 (hf.blkAt 2 rfl)).mono ?_;rintro e u' w9 ⟨rfl,rfl,rfl⟩;have h9:=(hf.two2 2 rfl (.int .i64 2) (.int .i64 t.at_)).alloc rfl #[.int .i64 t.kind,.string t.text,.int .i64 t.at_] 122;refine leaves_cc (q:=⟨w.heap.size+1,0,none⟩) (q2:=⟨w.heap.size+1+1,0,none⟩) rfl rfl (load52 (h9.blkAt 4 rfl)) (eL (h9.blkAt 3 rfl)) ?_;exact Or.inl ⟨t::r,H3,rfl,h9.lose⟩
 have H3:=ah h3;have HS_x:=ah hS;replace HF:=ah hf;clear h3 hS hf;have c_n:=HF.cell 4 rfl;have f_n:=HF.frz 4 rfl;replace HF:=ah (HF.nd4 4 rfl (.int .i64 x.kind) (.string x.text) (.int .i64 x.num) (.slice a_x n_x c_x));have c_f:=HF.cell 3 rfl;have f_f:=HF.frz 3 rfl;replace HF:=ah (HF.two2 3 rfl (.int .i64 0) (.int .i64 0));go_wp2_with fail;refine leaves_cons (f:=65) (args:=#[.pointer (some ⟨w.heap.size+1+1,0,none⟩),.pointer (some ⟨w.heap.size,0,none⟩)]) (by simp) (by simp [go_sem]) ?_;refine (hand_idle _ _ _).mono ?_;rintro e u' w9 ⟨rfl,rfl,rfl⟩;refine leaves_cc (q:=⟨w.heap.size+1,0,none⟩) (q2:=⟨w.heap.size+1+1,0,none⟩) rfl rfl (load52 (HF.blkAt 4 rfl)) (eL (HF.blkAt 3 rfl)) ?_;exact Or.inr ⟨x,r,a_x,n_x,c_x,H3,HS_x,rfl,HF.lose⟩
def roomL (R:Nd→Int→Int):List Nd→Int→Int
 | [],m=>m
 | y::l,m=>if R y m<0 then R y m else roomL R l (R y m)
def cP:Nat→Nd→Int→Int
 | 0,_,_=>-1
 | k+1,x,m=>if m<1 then -1 else roomL (cP k) x.kids (m - 1)
theorem roomL_le {R:Nd→Int→Int}(hR:∀x m,0≤m→-1≤R x m∧R x m≤m):∀(l:List Nd) (m:Int),0≤m→-1≤roomL R l m∧roomL R l m≤m
 | [],m,h=>by simp only[roomL];omega
 | y::l,m,h=>by
  have h1:=hR y m h;simp only[roomL];split
  ·exact h1
  have:=roomL_le hR l (R y m) (by omega);omega
theorem roomK_le:∀(k:Nat)(x:Nd)(m:Int),0≤m→-1≤cP k x m∧cP k x m≤m
 | 0,x,m,h=>by simp only[cP];omega
 | k+1,x,m,h=>by
  simp only[cP];split
  ·omega
  have:=roomL_le (roomK_le k) x.kids (m - 1) (by omega);omega
theorem eF {l : List α} (h:j<l.length):l.drop j=l[j]::l.drop (j+1):=List.drop_eq_getElem_cons h
theorem aO (h:j<n):n - ((j:Int)+1).toNat<n - ((j:Int)).toNat:=by omega
def PR (v:Value)(B:Bs)(L:List Rs)(e:Ending)(w':World):Prop:=e=.returned v∧Fr B w' L
def RoomH (k:Nat):Prop:=∀(B:Bs) (w:World) (L:List Rs) (x:Nd) (a:Option Addr) (n c:Nat) (h:Fr B w (.el NdE (ndc x.kind x.text x.num a n c) x::L)) (m d:Int),0≤m→m≤700→d=k→k≤16 →
  Calls prog 67 #[.agg #[.int .i64 x.kind,.string x.text,.int .i64 x.num,.slice a n c],.int .i64 m,.int .i64 d] w (PR (.int .i64 (cP k x m)) B (.el NdE (ndc x.kind x.text x.num a n c) x::L))
theorem room_all:∀(k:Nat),RoomH k:=by
 intro k;induction k with
 | zero=>
  intro B w L x a n c h m d hm0 hm1 hd hk;have hd1:d<1:=by omega
  clear hd hk;have HF:=ah (h.alloc rfl #[.int .i64 x.kind,.string x.text,.int .i64 x.num,.slice a n c] 52);clear h;by_cases hm:m<1
  all_goals
   go_enter func67,ntmps67;go_wp2;go_ret
   exact⟨rfl,HF.lose⟩
 | succ k ih=>
  intro B w L x a n c h m d hm0 hm1 hd hk;have hd1:1≤d:=by omega
  have hd2:d≤16:=by omega
  have hnd:¬ d<1:=by omega
  have HD:Hid (d - 1=(k:Int)):=by show _=_;omega
  have HI:=ah ih;have HK:Hid (k≤16):=by show _≤_;omega
  clear hd hk ih;by_cases hm:m<1
  ·have HF:=ah (h.alloc rfl #[.int .i64 x.kind,.string x.text,.int .i64 x.num,.slice a n c] 52);have HE:Hid (cP (k+1) x m=-1):=by show _=_;simp only[cP,if_pos hm]
   clear h;go_enter func67,ntmps67;go_wp2;go_ret
   exact⟨by rw[HE.out];rfl,HF.lose⟩
  have hm':1≤m:=by omega
  have HE:Hid (cP (k+1) x m=roomL (cP k) x.kids (m - 1)):=by show _=_;simp only[cP,if_neg hm]
  obtain⟨kd,tx,nm,l⟩:=x;simp only[Nd.kind,Nd.text,Nd.num,Nd.kids] at h HE ⊢;obtain⟨rfl,-⟩:=h.kids 0 rfl;have HF:=ah (h.alloc (q:=w.heap.size) rfl #[.int .i64 kd,.string tx,.int .i64 nm,.slice a l.length c] 52);clear h;go_enter func67,ntmps67;go_wp2;go_loopw [1,20] (λ mv iv wr=>Hid (∃(j:Nat) (u:Int),j≤l.length∧iv=.int .i64 (j:Int)∧mv=.int .i64 u∧0≤u∧u≤700∧roomL (cP k) l (m - 1)=roomL (cP k) (l.drop j) u∧Fr B wr (.el NdE (ndc kd tx nm a l.length c) (.mk kd tx nm l)::L))) (λ_ iv _=>l.length - (intOf iv).toNat)
  case atStart=>exact⟨0,m - 1,Nat.zero_le _,rfl,rfl,by omega,by omega,rfl,HF.tail⟩
  clear HF;obtain⟨j,u,hj,rfl,rfl,hu0,hu1,heq,hf⟩:=hrel.out;clear hrel;have HQ:=ah heq;clear heq;by_cases hlt:j<l.length
  ·obtain⟨g,o,a',n',c',rfl,-,hc1,hc2,e0,e1,e2,e3,hk⟩:=hf.kidHere 0 rfl j hlt;have HY:Hid (l.drop j=l[j]::l.drop (j+1)):=eF hlt;generalize l[j]=y at *;have HF:=ah ((hk.alloc (q:=wr.heap.size) rfl #[.int .i64 y.kind,.string y.text,.int .i64 y.num,.slice a' n' c'] 52).perm (List.Perm.swap _ _ _));have hli:(j:Int)<(l.length:Int):=by omega
   have HLT:=ah hlt;have HJ:Hid (wrap64 ((j:Int)+1)=(j:Int)+1):=by
    show _=_;unfold maxLen at hc2;unfold wrap64;omega
   clear hc1 hc2;clear hf hk;go_wp2_with fail;go_at_call 67;refine (HI _ _ _ _ _ _ _ HF u (d - 1) (by omega) (by omega) HD HK).mono ?_;rintro e w2 ⟨rfl,hf⟩;have hr:=roomK_le k y u hu0;have HE2:Hid (roomL (cP k) (l.drop j) u=if cP k y u<0 then cP k y u else roomL (cP k) (l.drop (j+1)) (cP k y u)):=by show _=_;rw[HY.out];rfl
   generalize cP k y u=v at *;replace HF:=ah hf;clear hf e0 e1 e2 e3 hli;by_cases hv:v<0
   ·go_wp2_with fail;go_ret
    exact⟨by rw[HE.out,HQ.out,HE2.out,if_pos hv];rfl,HF.lose⟩
   go_wp2;go_roundw
   case rel=>exact⟨j+1,v,HLT,by rw[HJ.out];go_num,rfl,by omega,by omega,by rw[HQ.out,HE2.out,if_neg (by omega)],HF.lose⟩
   case measure=>rw[HJ.out];exact aO HLT
  have hje:j=l.length:=by omega
  have hli:¬ (j:Int)<(l.length:Int):=by omega
  have HF:=ah hf;clear hf;go_wp2;go_ret
  exact⟨by rw[HE.out,HQ.out,hje,List.drop_length];rfl,HF⟩
theorem fits_any {x : Nd} (h:Fr B w (.el NdE (ndc x.kind x.text x.num a n c) x::L)):
  Calls prog 47 #[.agg #[.int .i64 x.kind,.string x.text,.int .i64 x.num,.slice a n c]] w (PR (.bool (decide (0≤cP 16 x 700))) B (.el NdE (ndc x.kind x.text x.num a n c) x::L)):=by
 have HF:=ah ((h.alloc (q:=w.heap.size) rfl #[.int .i64 x.kind,.string x.text,.int .i64 x.num,.slice a n c] 52).perm (List.Perm.swap _ _ _));clear h;go_enter func47,ntmps47;go_wp2_with fail;go_at_call 67;refine (room_all 16 _ _ _ _ _ _ _ HF 700 16 (by omega) (by omega) rfl (by omega)).mono ?_;rintro e w1 ⟨rfl,hf⟩;have HF1:=ah hf;clear hf HF;go_wp2;go_ret
 exact⟨by simp,HF1.lose⟩
end Go.Proofs.YtdnhbedbpbgeeaaGreatDoor.K
namespace Go.Proofs.YtdnhbedbpbgeeaaGreatDoor.X
open Go.RowKit Go.Proofs.Tryz
theorem hide {p : Prop} (h:p):Hid p:=h
def letB (c:Nat):Bool:=(decide (97≤c) && decide (c≤122)) || (decide (65≤c) && decide (c≤90))
def digB (c:Nat):Bool:=decide (48≤c) && decide (c≤57)
def insB (c:Nat):Bool:=letB c || digB c || decide (c=95)
def aboveB (a b:ByteArray):Bool:=decide (b.size<a.size) || (decide (a.size=b.size) && !(Op.bytesLess a.toList b.toList || a.toList == b.toList))
def signs:List (List UInt8):=[[46,46,46],[61,61],[123],[125],[40],[41],[59],[44],[46],[61],[60],[43],[45],[42],[47],[37],[38],[124],[94],[33]]
def sigN (j:Nat):ByteArray:=⟨(signs.getD j []).toArray⟩
def pre (s:ByteArray)(j:Nat):Bool:=decide ((sigN j).size≤s.size) && ((s.extract 0 (sigN j).size).toList == (sigN j).toList)
def eC (s:ByteArray):Nat→Nat→ByteArray
 | _,0=>⟨#[]⟩
 | j,n+1=>if pre s j then sigN j else eC s (j+1) n
def signOf (s:ByteArray):ByteArray:=eC s 0 20
theorem signFrom_skip (s:ByteArray):∀n j,(∀i,j≤i→i<j+n→pre s i=false)→eC s j n=⟨#[]⟩
 | 0,_,_=>rfl
 | n+1,j,h=>by
  unfold eC;rw[h j (Nat.le_refl _) (by omega)];exact signFrom_skip s n (j+1) (λ i h1 h2=>h i (by omega) (by omega))
def aD (s:ByteArray)(i:Nat):Nat:=match s.data[i]? with|some c=>c.toNat|none=>0
theorem byteAt_get (s:ByteArray) (i:Nat) (h:i<s.size):aD s i=(s[i]'h).toNat:=by
 unfold aD;rw[Array.getElem?_eq_getElem (show i<s.data.size from h)];rfl
def mostW:ByteArray:=⟨#[50,49,52,55,52,56,51,54,52,55]⟩
def mostL:ByteArray:=⟨#[57,50,50,51,51,55,50,48,51,54,56,53,52,55,55,53,56,48,55]⟩
def rowC (x most:ByteArray):Int:=
 if !((List.range x.size).all λ i=>digB (aD x i)) then 2 else if 1<x.size∧aD x 0=48 then 2 else if aboveB x most then 6 else 0
def isL (s:ByteArray):Bool:=decide (aD s (s.size - 1)=76)
def aK (s:ByteArray):ByteArray:=if isL s then s.extract 0 (s.size - 1) else s
def cF (s:ByteArray):Int:=rowC (aK s) (if isL s then mostL else mostW)
structure Tok where
 kind:Int
 text:ByteArray
 at_:Nat
def Tok.cells (k:Tok):List Value:=[.int .i64 k.kind,.string k.text,.int .i64 k.at_]
def toks (l:List Tok):List Value:=l.flatMap Tok.cells
theorem toks_app (l:List Tok) (k:Tok):toks (l++[k])=toks l++k.cells:=by unfold toks;rw[List.flatMap_append,List.flatMap_singleton]
end Go.Proofs.YtdnhbedbpbgeeaaGreatDoor.X
