/- 5 -/
import Derived.Test.YtdnhbedbpbgeeaaGreatDoorMAe
import Derived.WalkKit
import Derived.Test.YtdnhbedbpbgeeaaGreatDoorProg
import Derived.WalkSpells
import Derived.Outline
import Derived.LoopTactic
import Derived.Deep.DeepCutAuto
import Derived.Deep.RegionHeldLaw
import Derived.Maps.Own
import Derived.Maps.Views
import Derived.StringKeys
import Derived.RangeFuncNested
import Derived.RangeFuncBound
import Derived.RangeFuncCalls
import Derived.RangeFuncLeaves
import Derived.Shelf.Abstract
import Derived.Shelf.RegionOpen
import Derived.OwnWalkIn
import Derived.TacticsInMore
import Derived.LoopNIn
import Derived.LoopIn
set_option maxRecDepth 100000
set_option maxHeartbeats 4000000
set_option linter.all false
namespace Go.Proofs.YtdnhbedbpbgeeaaGreatDoor.X
open Go.RowKit Go.Proofs.Tryz
variable {w : World}
variable {w0 : World} {b : Nat} {t : ByteArray} {c p : Int} {i : Nat} {L : List Tok}
def TkPost (w0 w':World)(b:Nat)(t:ByteArray)(c p:Int)(i:Nat)(L:List Tok)(k:Look):Prop:=if k.code=0 then Sc w0 w' b t c p k.next (L++[⟨k.kind,k.text,i⟩]) else Sc w0 w' b t k.code i i L
theorem byteAt_ext (t:ByteArray) (i j k:Nat) (h:i+k<j) (hj:j≤t.size):aD (t.extract i j) k=aD t (i+k):=by
 unfold aD;rw[← Array.getElem?_toList,← Array.getElem?_toList,Lib.extract_data,List.getElem?_take_of_lt (by omega),List.getElem?_drop]
theorem token_any (G:Gl w0) (h:Sc w0 w b t c p i L) (hi:i<t.size):Calls prog 64 #[.pointer (some ⟨b,0,none⟩)] w λ e w'=>(∃v,e=.returned v)∧TkPost w0 w' b t c p i L (look t i):=by
 have hlen:=h.len;have HS:=ah h;obtain⟨v,h1,h2⟩:=h.blk;have hc:=cells_at h1;clear h h1 h2;have hi':(i:Int)<t.size:=by omega
 have hidx:(0:Int)≤i∧(i:Int)<t.size:=by omega
 have hb8:t[i].toNat<256:=UInt8.toNat_lt _;have HBy:=ah (byteAt_get t i hi);have hle:=λ w'=>pletter_any t[i].toNat w' hb8;have hdi:=λ w'=>pdigit_any t[i].toNat w' hb8;obtain⟨lk,hlk⟩:∃lk,lk=look t i:=⟨_,rfl⟩
 rw[← hlk];have HLk:=ah hlk;clear hlk;cases hL:letB t[i].toNat with
 | true=>
  rw[hL] at hle;have HI:Hid (insB (aD t i)=true):=by show _=_;rw[HBy.out];exact let_ins hL
  have HLt:Hid (letB (aD t i)=true):=by show _=_;rw[HBy.out];exact hL
  clear hL;go_enter func64,ntmps64;go_wp2_with fail;go_quiet (fail)
  generalize nq=q;have hS:Sc w0 (w.drewN q) b t c p i L:=HS.kept (aP (Below.refl _ _) _);have HS1:=ah hS;clear hS hc;generalize w.drewN q=w1 at *;go_wp2_with fail;go_at_call 96;refine (hle _).mono ?_;rintro e w2 ⟨rfl,rfl⟩;go_wp2_with fail;go_at_call 94;refine (row_ins_any HS1 insB rfl).mono ?_;rintro e w3 ⟨j,q1,q2,q3,q4,rfl,hb3⟩;have he:=rowEnd_eq q1 q2 q3 q4;have hgt:=rowEnd_gt hi HI;rw[he] at hgt;have hex:(t.extract i j).size=j - i:=by rw[ByteArray.size_extract];omega
  have hwd:=word_any (HS1.kept hb3) (t.extract i j) (by omega) (by omega);have HF:Hid (∀w':World,(if 16<(t.extract i j).size then Sc w0 w' b t 1 i i L else Sc w0 w' b t c p (i+(t.extract i j).size) (L++[⟨1,t.extract i j,i⟩]))→TkPost w0 w' b t c p i L lk):=λ w' hw=>by
   have e1:lk=⟨if 16<j - i then 1 else 0,1,t.extract i j,j⟩:=by
    rw[HLk.out];unfold look;rw[HLt.out,he];rfl
   unfold TkPost;rw[hex] at hw;by_cases h16:16<j - i
   ·rw[if_pos h16] at hw;rw[e1,if_neg (by simp [h16])];rw[if_pos h16];exact hw
   rw[if_neg h16] at hw;rw[e1,if_pos (by simp [h16])];rw[show i+(j - i)=j by omega] at hw;exact hw
  clear he hex q3 q4 hb3 HS1 HS;go_wp2_with fail;go_at_call 97;refine hwd.mono ?_;rintro e w4 ⟨⟨v4,rfl⟩,hw4⟩;have HW:=ah (HF w4 hw4);clear hw4 HF;go_wp2;go_end0
  exact⟨⟨_,rfl⟩,HW⟩
 | false=>
 rw[hL] at hle;cases hD:digB t[i].toNat with
 | true=>
  rw[hD] at hdi;have HI:Hid (insB (aD t i)=true):=by show _=_;rw[HBy.out];exact dig_ins hD
  have HLt:Hid (letB (aD t i)=false∧digB (aD t i)=true):=by show _∧_;rw[HBy.out];exact⟨hL,hD⟩
  clear hL hD;go_enter func64,ntmps64;go_wp2_with fail;go_quiet (fail)
  generalize nq=q;have hS:Sc w0 (w.drewN q) b t c p i L:=HS.kept (aP (Below.refl _ _) _);have HS1:=ah hS;clear hS hc;generalize w.drewN q=w1 at *;go_wp2_with fail;go_at_call 96;refine (hle _).mono ?_;rintro e w2 ⟨rfl,rfl⟩;go_wp2_with fail;go_at_call 99;refine (hdi _).mono ?_;rintro e w2 ⟨rfl,rfl⟩;go_wp2_with fail;go_at_call 94;refine (row_ins_any HS1 insB rfl).mono ?_;rintro e w3 ⟨j,q1,q2,q3,q4,rfl,hb3⟩;have he:=rowEnd_eq q1 q2 q3 q4;have hgt:=rowEnd_gt hi HI;rw[he] at hgt;have hex:(t.extract i j).size=j - i:=by rw[ByteArray.size_extract];omega
  have hwd:=number_any G (HS1.kept hb3) (t.extract i j) (by omega) (by omega) (by rw[byteAt_ext t i j 0 (by omega) q2];exact HLt.2);have HF:Hid (∀w':World,NumPost w0 w' b t c p i L (t.extract i j)→TkPost w0 w' b t c p i L lk):=λ w' hw=>by
   have e1:lk=⟨cF (t.extract i j),if isL (t.extract i j) then 3 else 2,aK (t.extract i j),j⟩:=by
    rw[HLk.out];unfold look;rw[HLt.out.1,HLt.out.2,he];rfl
   unfold NumPost at hw;unfold TkPost;rw[hex,show i+(j - i)=j by omega] at hw;rw[e1];exact hw
  clear he hex q3 q4 hb3 HS1 HS;go_wp2_with fail;go_at_call 100;refine hwd.mono ?_;rintro e w4 ⟨⟨v4,rfl⟩,hw4⟩;have HW:=ah (HF w4 hw4);clear hw4 HF;go_wp2;go_end0
  exact⟨⟨_,rfl⟩,HW⟩
 | false=>
  rw[hD] at hdi;have HLt:Hid (letB (aD t i)=false∧digB (aD t i)=false):=by show _∧_;rw[HBy.out];exact⟨hL,hD⟩
  clear hL hD;go_enter func64,ntmps64;go_wp2_with fail;go_quiet (fail)
  generalize nq=q;have hS:Sc w0 (w.drewN q) b t c p i L:=HS.kept (aP (Below.refl _ _) _);have HS1:=ah hS;clear hS hc;generalize w.drewN q=w1 at *;have hwd:=psign_any HS1 hi;have HF:Hid (∀w':World,SgPost w0 w' b t c p i L (signOf (t.extract i t.size))→TkPost w0 w' b t c p i L lk):=λ w' hw=>by
   have e1:lk=⟨if (signOf (t.extract i t.size)).size=0 then 2 else 0,4,signOf (t.extract i t.size),i+(signOf (t.extract i t.size)).size⟩:=by
    rw[HLk.out];unfold look;rw[HLt.out.1,HLt.out.2];rfl
   unfold SgPost at hw;unfold TkPost;rw[e1];by_cases h0:(signOf (t.extract i t.size)).size=0
   ·rw[if_pos h0] at hw;rw[if_neg (by simp [h0]),if_pos h0];exact hw
   rw[if_neg h0] at hw;rw[if_pos (by simp [h0])];exact hw
  go_wp2_with fail;go_at_call 96;refine (hle _).mono ?_;rintro e w2 ⟨rfl,rfl⟩;go_wp2_with fail;go_at_call 99;refine (hdi _).mono ?_;rintro e w2 ⟨rfl,rfl⟩;go_wp2_with fail;go_at_call 101;refine hwd.mono ?_;rintro e w4 ⟨⟨v4,rfl⟩,hw4⟩;have HW:=ah (HF w4 hw4);clear hw4 HF;go_wp2;go_end0
  exact⟨⟨_,rfl⟩,HW⟩
theorem own_set25 {ob : Nat} {v : Value} {n : Nat} {xs : List Value} {b o : Nat} {x : Value} {cur : Array Value} (h:w.ownsRow ob 207 3 v n xs) (hb:w.heap[b]?=some (.cells cur 54 (0,0))):(w.setCell ⟨b,o,none⟩ x).ownsRow ob 207 3 v n xs:=by
 refine⟨h.1,?_⟩;rcases h.2 with h2|⟨g,cap,cu,hv,hg,hh,r⟩
 ·exact Or.inl h2
 refine Or.inr ⟨g,cap,cu,hv,hg,(Below.heap_setCell _ _ _ g (λ e=>?_)).trans hh,r⟩;have e':g=b:=e;rw[e',hb] at hh;simp at hh
theorem end_cells {w2 : World} {q : Nat} {a c : Value} (hq:w2.heap[q]?=some (.cells #[.int .i64 0,.int .i64 0] 54 (0,0))) (hw:w.heap.size≤q) (hB:Below w.heap.size w w2):
  (∀o,((w2.setCell ⟨q,0,none⟩ a).setCell ⟨q,1,none⟩ c).drew.cell? ⟨q,o,none⟩=(#[a,c])[o]?)∧q<((w2.setCell ⟨q,0,none⟩ a).setCell ⟨q,1,none⟩ c).drew.heap.size∧Below w.heap.size w ((w2.setCell ⟨q,0,none⟩ a).setCell ⟨q,1,none⟩ c).drew∧∀ob v n xs,w2.ownsRow ob 207 3 v n xs→((w2.setCell ⟨q,0,none⟩ a).setCell ⟨q,1,none⟩ c).drew.ownsRow ob 207 3 v n xs:=by
 have k1:(w2.setCell ⟨q,0,none⟩ a).heap[q]?=some (.cells #[a,.int .i64 0] 54 (0,0)):=(heap_setCell_same w2 q 0 _ 54 _ hq).trans rfl;have k2:((w2.setCell ⟨q,0,none⟩ a).setCell ⟨q,1,none⟩ c).heap[q]?=some (.cells #[a,c] 54 (0,0)):=(heap_setCell_same _ q 1 _ 54 _ k1).trans rfl;have k3:((w2.setCell ⟨q,0,none⟩ a).setCell ⟨q,1,none⟩ c).drew.heap[q]?=some (.cells #[a,c] 54 (0,0)):=k2;exact⟨cells_at k3,(Array.getElem?_eq_some_iff.1 k3).1,((hB.setCell hw _).setCell hw _).drew,λ ob v n xs h=>own_set25 (own_set25 h hq) k1⟩
theorem pscan_any (t:ByteArray) (w:World) (G:Gl w) (hm:t.size≤9223372036854775807):Calls prog 45 #[.string t] w λ e w'=>∃l,e=.returned (.tuple #[l,.agg #[.int .i64 (scan t).2.1,.int .i64 (scan t).2.2]])∧w'.ownsRow w.heap.size 207 3 l (scan t).1.length (toks (scan t).1)∧Below w.heap.size w w':=by
 obtain⟨R,hR⟩:∃R,R=scan t:=⟨_,rfl⟩
 rw[← hR];by_cases h4:4000<t.size
 ·unfold scan at hR;have h4':(4000:Int)<t.size:=by omega
  rw[if_pos h4] at hR;subst hR;go_enter func45,ntmps45;go_wp2;refine bodyPost_ret (v:=.tuple #[.slice none 0 0,.agg #[.int .i64 1,.int .i64 0]]) (by simp [results,results45,go_sem]) rfl ?_;exact⟨_,rfl,⟨rfl,Or.inl ⟨rfl,rfl⟩⟩,(Below.refl _ _).alloc (Nat.le_refl _) _⟩
 have h4':¬ (4000:Int)<t.size:=by omega
 rw[scan_at t (by omega)] at hR;have HR:=ah hR;clear hR;go_enter func45,ntmps45;go_wp2_with fail;have hB0:Below w.heap.size w (w.alloc (.cells #[.int .i64 0,.int .i64 0] 54)):=(Below.refl _ _).alloc (Nat.le_refl _) _;have hq0:(w.alloc (.cells #[.int .i64 0,.int .i64 0] 54)).heap[w.heap.size]?=some (.cells #[.int .i64 0,.int .i64 0] 54 (0,0)):=heap_alloc_new w _;have hz0:(w.alloc (.cells #[.int .i64 0,.int .i64 0] 54)).heap.size=w.heap.size+1:=by simp
 have HG:=ah (G.below hB0);clear G;generalize w.alloc (.cells #[.int .i64 0,.int .i64 0] 54)=W at *;have HW:Hid (∀w',Below W.heap.size W w'→Below w.heap.size w w'):=λ w' hw=>hB0.trans (hw.mono (by omega));have HQ:Hid (∀w',Below W.heap.size W w'→(∀o,w'.cell? ⟨w.heap.size,o,none⟩=(#[Value.int .i64 0,.int .i64 0])[o]?)∧(∀o,w'.frozen? ⟨w.heap.size,o,none⟩=false)∧w.heap.size<w'.heap.size∧Hid (w'.heap[w.heap.size]?=some (.cells #[.int .i64 0,.int .i64 0] 54 (0,0)))):=λ w' hw=>by
  have e:=(hw.block w.heap.size (by omega)).trans hq0;exact⟨λ o=>by simp [World.cell?,e],λ o=>by simp only[World.frozen?,e];rfl,by have:=hw.size;omega,e⟩
 have HZ:=ah hz0;have hS0:Sc W (W.alloc (.cells #[.int .i64 0,.int .i64 0,.string t,.int .i64 0,.slice none 0 0] 120)) (w.heap.size+1) t 0 0 0 []:=⟨by omega,Nat.zero_le _,Nat.le_refl _,by omega,⟨.slice none 0 0,by rw[← hz0];exact heap_alloc_new W _,⟨rfl,Or.inl ⟨rfl,rfl⟩⟩⟩,(Below.refl _ _).alloc (Nat.le_refl _) _⟩
 have hps:=pass_any hS0;clear hq0 hB0 hz0 hS0;generalize hbb:w.heap.size+1=b at *;have HBb:=ah hbb;clear hbb;go_at_call 63;refine hps.mono ?_;rintro e w1 ⟨⟨v1,rfl⟩,j1,-,hS1,hT1,hE1⟩;have HS1:=ah hS1;have HR1:Hid (R=bV t j1 false []):=HR.trans (hT1 []);have HE1:=ah hE1;clear hS1 hT1 hE1 hps HR;go_wp2;go_loopw [12] (λ_ wr=>∃(i:Nat) (L:List Tok),Hid (Sc W wr b t 0 0 i L)∧Hid (R=bV t i false L)∧Hid (i=t.size∨blank false (aD t i)=false)) (λ_ wr=>t.size - X.atOf wr b)
 case atStart=>exact⟨j1,[],HS1,HR1,HE1⟩
 obtain⟨i,L,HS,HRi,HE⟩:=hrel;clear HS1 HR1 HE1;have hle:=HS.le;obtain⟨v,k1,k2⟩:=HS.blk;have hc:=cells_at k1;have HO:=ah k2;clear k1 k2;by_cases hlt:i<t.size
 ·have hlt':(i:Int)<t.size:=by omega
  have htk:=token_any HG HS hlt;have HBl:Hid (blank false (aD t i)=false):=HE.resolve_left (by omega);have HTk:=ah (take_tok t i hlt HBl L);have hnx:=λ h=>look_next (t:=t) (i:=i) hlt h;have HNx:=ah hnx;clear hnx;go_wp2_with fail;go_at_call 64;refine htk.mono ?_;rintro e w2 ⟨⟨v2,rfl⟩,hp2⟩;unfold TkPost at hp2;by_cases hcode:(look t i).code=0
  ·rw[if_pos hcode] at hp2;have HR2:Hid (R=bV t (look t i).next false (L++[⟨(look t i).kind,(look t i).text,i⟩])):=by show _=_;rw[HRi.out,HTk.out,if_pos hcode]
   have hnext:=HNx hcode;have hps:=pass_any hp2;obtain⟨v3,m1,m2⟩:=hp2.blk;have hc2:=cells_at m1;clear m1 m2 hc htk hp2 hcode HNx HTk;go_wp2_with fail;go_at_call 63;refine hps.mono ?_;rintro e w3 ⟨⟨v4,rfl⟩,j3,hj3,hS3,hT3,hE3⟩;have HS3:=ah hS3;have HR3:Hid (R=bV t j3 false (L++[⟨(look t i).kind,(look t i).text,i⟩])):=HR2.trans (hT3 _);have HE3:=ah hE3;have hj3i:i<j3:=by omega
   clear hS3 hT3 hE3 hps hc2;go_wp2;go_roundw
   case rel=>exact⟨j3,_,HS3,HR3,HE3⟩
   case measure=>rw[HS3.out.atOf,HS.out.atOf];have:=HS3.le;omega
  rw[if_neg hcode] at hp2;have hR2:R=([],(look t i).code,i):=by rw[HRi.out,HTk.out,if_neg hcode]
  obtain⟨qx,qf,qz,QH⟩:=HQ w2 hp2.below;have HB2:=ah (HW _ hp2.below);obtain⟨v3,m1,m2⟩:=hp2.blk;have hc2:=cells_at m1;have hne:((look t i).code != 0)=true:=by simpa using hcode
  have hbq:w.heap.size≠b:=by have:=HBb.out;omega
  clear m1 m2 hc htk hp2 hcode HNx HTk;generalize (look t i).code=code at *;subst hR2;go_wp2;go_region
  all_goals go_wp2_with fail
  obtain⟨y1,y2,y3,y4⟩:=end_cells (a:=.int .i64 code) (c:=.int .i64 i) QH.out (Nat.le_refl _) HB2;generalize ((w2.setCell ⟨w.heap.size,0,none⟩ (.int .i64 code)).setCell ⟨w.heap.size,1,none⟩ (.int .i64 i)).drew=X at *;refine bodyPost_ret (v:=.tuple #[.slice none 0 0,.agg #[.int .i64 code,.int .i64 i]]) (by simp [results,results45,go_sem,y1,y2]) rfl ?_;exact⟨_,rfl,⟨rfl,Or.inl ⟨rfl,rfl⟩⟩,y3⟩
 have hlt':¬ (i:Int)<t.size:=by omega
 have hR2:R=(L,0,0):=by rw[HRi.out,scanAt_end _ _ _ _ (by omega)]
 obtain⟨qx,qf,qz,QH⟩:=HQ wr HS.below;have HB2:=ah (HW _ HS.below);have hbq:w.heap.size≠b:=by have:=HBb.out;omega
 subst hR2;go_wp2;go_region
 all_goals go_wp2_with fail
 obtain⟨y1,y2,y3,y4⟩:=end_cells (a:=.int .i64 0) (c:=.int .i64 0) QH.out (Nat.le_refl _) HB2;have y5:=y4 _ _ _ _ HO;clear y4;generalize ((wr.setCell ⟨w.heap.size,0,none⟩ (.int .i64 0)).setCell ⟨w.heap.size,1,none⟩ (.int .i64 0)).drew=X at *;refine bodyPost_ret (v:=.tuple #[v,.agg #[.int .i64 0,.int .i64 0]]) (by simp [results,results45,go_sem,y1,y2]) rfl ?_;exact⟨_,rfl,own_base y5 (by have h1:=HZ.out;have h2:=HBb.out;omega),y3⟩
end Go.Proofs.YtdnhbedbpbgeeaaGreatDoor.X
namespace Go.Proofs.YtdnhbedbpbgeeaaGreatDoor.K
open Go.RowKit Go.Proofs.Tryz
variable {i : Nat}
section
open Go.Proofs.YtdnhbedbpbgeeaaGreatDoor.X (scan scanN cF rowC aK isL mostW mostL cK insB aD decB toks)
def kt (k:X.Tok):Tok:=⟨k.kind,k.text,k.at_⟩
theorem row_ok {x : ByteArray} (h1:1≤(aK x).size) (hc:cF x=0):∃v:Int,Lib.parseIntB 64 (aK x).data.toList=.ok v∧0≤v∧v≤9223372036854775807:=by
 unfold cF at hc;generalize aK x=y at *;have hd:decB y=true:=by
  cases hq:decB y with
  | true=>rfl
  | false=>rw[X.rowC_bad y _ h1 hq] at hc;cases hc
 have hne:y.data.toList≠[]:=λ e=>by
  have h2:y.data.toList.length=y.size:=rfl;rw[e] at h2;simp at h2;omega
 have ha:=(X.decB_all hd).1;have e64:=X.int_val 64 (by omega) y.data.toList ha hne;have e32:=X.int_val 32 (by omega) y.data.toList ha hne;have p64:(2:Nat) ^ (64 - 1)=9223372036854775808:=by decide
 have p32:(2:Nat) ^ (32 - 1)=2147483648:=by decide
 rw[p64] at e64;rw[p32] at e32;generalize X.valN y.data.toList 0=n at *;have hn:n<9223372036854775808:=by
  cases hl:isL x with
  | false=>
   rw[hl] at hc;rcases X.rowC_w y h1 hd with⟨-,e⟩|⟨⟨v,e⟩,-⟩
   ·rw[if_neg (by simp),e] at hc;cases hc
   by_cases q:2147483648≤n
   ·rw[if_pos q,e] at e32;cases e32
   omega
  | true=>
   rw[hl] at hc;rcases X.rowC_l y h1 hd with⟨-,e⟩|⟨⟨v,e⟩,-⟩
   ·rw[if_pos rfl,e] at hc;cases hc
   by_cases q:9223372036854775808≤n
   ·rw[if_pos q,e] at e64;cases e64
   omega
 rw[if_neg (by omega)] at e64;exact⟨n,e64,by omega,by omega⟩
theorem row_text {t : ByteArray} (hi:i<t.size) (h:X.digB (aD t i)=true):1≤(aK (t.extract i (cK t i))).size∧(aK (t.extract i (cK t i))).size≤t.size:=by
 have h1:=X.rowEnd_gt hi (X.dig_ins h);have h2:=X.rowEnd_le (Nat.le_of_lt hi);have hs:(t.extract i (cK t i)).size=cK t i - i:=by rw[ByteArray.size_extract];omega
 have h0:aD (t.extract i (cK t i)) 0=aD t i:=by
  rw[X.byteAt_get _ 0 (by omega),X.byteAt_get _ i hi];congr 1
  rw[ByteArray.getElem_extract];simp
 generalize t.extract i (cK t i)=x at *;unfold aK;cases hl:isL x with
 | false=>simp only[Bool.false_eq_true,if_false];omega
 | true=>
  simp only[if_true,ByteArray.size_extract];have:x.size≠1:=λ e=>by
   unfold isL at hl;rw[e,Nat.sub_self,h0,decide_eq_true_eq] at hl;rw[hl] at h;exact absurd h (by decide)
  omega
theorem look_ok {t : ByteArray} (ht:t.size≤4000) (hi:i<t.size) (hc:(X.look t i).code=0):TokOk ⟨(X.look t i).kind,(X.look t i).text,i⟩:=by
 unfold X.look at hc ⊢;by_cases hl:X.letB (aD t i)=true
 ·rw[if_pos hl];exact⟨by simp only[ByteArray.size_extract];omega,λ h=>by simp at h⟩
 rw[if_neg hl] at hc ⊢;by_cases hd:X.digB (aD t i)=true
 ·rw[if_pos hd] at hc ⊢;dsimp only at hc ⊢;obtain⟨h1,h2⟩:=row_text hi hd;generalize hx:t.extract i (cK t i)=x at *;obtain⟨v,e,h3,h4⟩:=row_ok h1 hc;refine⟨by dsimp only;omega,λ_=>?_⟩;have:numV ⟨if isL x=true then 3 else 2,aK x,i⟩=v:=by unfold numV;simp only[e]
  rw[this];exact⟨e,h3,h4⟩
 rw[if_neg hd];refine⟨?_,λ h=>by simp at h⟩;have h1:=X.signFrom_le (t.extract i t.size) 20 0;rw[ByteArray.size_extract] at h1;show (X.signOf _).size≤4000;unfold X.signOf;omega
theorem scanN_ok {t:ByteArray}(ht:t.size≤4000):∀(n i:Nat) (note:Bool) (l:List X.Tok),l.length≤i→i≤t.size→(∀k,k∈l→TokOk (kt k))→(∀k,k∈(scanN t n i note l).1→TokOk (kt k))∧(scanN t n i note l).1.length≤t.size
 | 0,i,note,l,hl,hi,h=>⟨h,by show l.length≤_;omega⟩
 | n+1,i,note,l,hl,hi,h=>by
  rw[X.scanN_succ];by_cases h1:i<t.size
  ·rw[if_pos h1];split
   ·exact scanN_ok ht n (i+1) _ l (by omega) (by omega) h
   split
   ·rename_i hc
    have h2:=X.look_next h1 hc;have h3:=X.look_le h1;refine scanN_ok ht n _ note _ (by simp;omega) h3 λ k hk=>?_;rcases List.mem_append.1 hk with hk|hk
    ·exact h k hk
    rw[List.mem_singleton.1 hk];exact look_ok ht h1 hc
   exact⟨λ k hk=>by simp at hk,by simp⟩
  rw[if_neg h1];exact⟨h,by show l.length≤_;omega⟩
theorem scan_all (t:ByteArray):aB ((scan t).1.map kt):=by
 unfold scan;by_cases h:4000<t.size
 ·rw[if_pos h];exact⟨by simp,λ k hk=>by simp at hk⟩
 rw[if_neg h];obtain⟨h1,h2⟩:=scanN_ok (t:=t) (by omega) t.size 0 false [] (by simp) (by omega) (by simp);refine⟨by simp;omega,λ k hk=>?_⟩;obtain⟨a,ha,rfl⟩:=List.mem_map.1 hk;exact h1 a ha
end
section
open Go.Proofs.YtdnhbedbpbgeeaaGreatDoor.X (scan)
variable {B : Bs} {w w' : World} {L : List Rs} {b : Nat} {ts : List Tok} {t : Tok}
abbrev Rs.er:Rs:=.fact ⟨λ H=>∃cur T f te pe,H 2=some (.cells cur T f)∧cur[0]?=some (.iface te pe),λ H H' h hl=>by obtain⟨cur,T,f,te,pe,h1,h2⟩:=h;exact⟨cur,T,f,te,pe,hl _ _ h1,h2⟩⟩
theorem Fr.gl (h:Fr B w L) (i:Nat) (hi:L[i]?=some .er):X.Gl w:=by
 obtain⟨H,h⟩:=h;obtain⟨cur,T,f,te,pe,h1,h2⟩:(Rs.er).ok H w:=h.ok _ (List.mem_of_getElem? hi);exact⟨te,pe,(aA (h.snap _ _ h1) 0).trans h2⟩
theorem toks_flat (l:List X.Tok):X.toks l=((l.map kt).map Tok.cells).flatten:=by
 induction l with
 | nil=>rfl
 | cons k r ih=>show k.cells++X.toks r=_;rw[ih];rfl
theorem Fr.tokens (h:Fr B w L) (hb:Below w.heap.size w w') {l : Value} {s : List X.Tok} (hv:w'.ownsRow w.heap.size 207 3 l s.length (X.toks s)):Fr B w' (.els TokE l 207 3 (s.map kt)::L):=
 (h.take hb hv).same 0 rfl (r':=.els TokE l 207 3 (s.map kt)) (λ H hr=>by
  refine⟨(s.map kt).map Tok.cells,by simp,λ c hc=>?_,?_,λ j hj hj'=>?_⟩
  ·obtain⟨t,-,rfl⟩:=List.mem_map.1 hc;rfl
  ·rw[← toks_flat,List.length_map];exact hr
  simp [TokE]) λ q hq=>hq
def parseQ (t:ByteArray):Nd ⊕ (Int × Int):=
 if (scan t).2.1≠0 then .inr ((scan t).2.1,(scan t).2.2) else
  match unitQ ((scan t).1.map kt) with
  | .no r=>.inr (2,atOf t.size r)
  | .ok n _=>if 0≤cP 16 n 700 then .inl n else .inr (1,0)
def PPs (t:ByteArray)(B:Bs)(L:List Rs)(e:Ending)(w':World):Prop:=
 (∃c p,parseQ t=.inr (c,p)∧c≠0∧e=.returned (.tuple #[.agg ndz,.agg #[.int .i64 c,.int .i64 p]])∧Fr B w' L) ∨
 (∃n a kn c,parseQ t=.inl n∧Un n∧e=.returned (.tuple #[.agg #[.int .i64 n.kind,.string n.text,.int .i64 n.num,.slice a kn c],.agg #[.int .i64 0,.int .i64 0]])∧Fr B w' (.el NdE (ndc n.kind n.text n.num a kn c) n::L))
theorem parse34 (t:ByteArray) (ht:t.size≤9223372036854775807) (h:Fr B w (.glo::.er::L)):Calls prog 34 #[.string t] w (PPs t B (.glo::.er::L)):=by
 have h1:=(h.alloc (q:=w.heap.size) rfl ndz 52).alloc (q:=w.heap.size+1) (by simp) #[.int .i64 0,.int .i64 0] 54;have HG:=ah (h1.gl 3 rfl);have HA:=ah (scan_all t);have HF:=ah h1;have HT:=ah ht;clear h h1 ht;go_enter func34,ntmps34;go_wp2_with fail;go_at_call 45;refine (X.pscan_any t _ HG HT).mono ?_;rintro e w1 ⟨l,rfl,hrow,hb⟩;replace HF:=ah ((HF.tokens hb hrow).give 0 rfl);clear hrow hb HG;obtain⟨a,c,rfl,-,-⟩:=HF.slForm 0 rfl;have HP:Hid (parseQ t=if (scan t).2.1≠0 then .inr ((scan t).2.1,(scan t).2.2) else
  match unitQ ((scan t).1.map kt) with
  | .no r=>.inr (2,atOf t.size r)
  | .ok n _=>if 0≤cP 16 n 700 then .inl n else .inr (1,0)):=rfl
 generalize (scan t).2.1=fc at *;generalize ((scan t).2.2:Int)=fp at *;generalize (scan t).1.map kt=ts at *;replace HF:=ah (HF.alloc (q:=w1.heap.size) rfl #[.int .i64 fc,.int .i64 fp] 54).swap;have c_f:=HF.cell 1 rfl;by_cases hc:fc=0
 ·subst hc;rw[if_neg (by simp)] at HP;go_wp2_with fail;clear c_f;replace HF:=ah (HF.perm (List.Perm.cons _ (List.perm_middle (l₁:=[_,_,_]))));go_at_call 46;refine (parsed_any HF HA t.size).mono ?_;rintro e w2 (⟨r,hq,rfl,hf⟩|⟨x,r,a_x,n_x,c_x,hq,hS,rfl,hf⟩)
  ·have HQ:=ah hq;replace HF:=ah (hf.alloc (q:=w2.heap.size) rfl ndz 52).swap;clear hf hq;have c_f:=HF.cell 3 rfl;have f_f:=HF.frz 3 rfl;replace HF:=ah (HF.two2 3 rfl (.int .i64 2) (.int .i64 (atOf t.size r)));have c_f_:=HF.cell 3 rfl;go_wp2;clear c_f f_f c_f_;refine regK [] HF (λ w h=>(h.cell 3 rfl)) (λ wd1 HF hC=>?_);refine tq2 0 1 ?_;refine rq 2 λ K hK=>?_;have c_n:=HF.cell 5 rfl;have f_n:=HF.frz 5 rfl;replace HF:=ah (HF.nd4 5 rfl (.int .i64 0) (.string ⟨#[]⟩) (.int .i64 0) (.slice none 0 0));go_simp;clear c_n f_n;refine uq hK (HF.cell 3 rfl) λ hC=>?_;refine rq 3 λ K hK=>?_;have c_r:=HF.cell 4 rfl;have f_r:=HF.frz 4 rfl;replace HF:=ah (HF.two2 4 rfl (.int .i64 2) (.int .i64 (atOf t.size r)));go_simp;clear c_r f_r;refine uq hK (HF.cell 3 rfl) λ hC=>?_;refine dq ?_;go_wp2;refine br (aH results34 _ rfl rfl _ (load52 (HF.blkAt 5 rfl)) (eL (HF.blkAt 4 rfl))) ?_;exact Or.inl ⟨2,atOf t.size r,by rw[HP.out,HQ.out],by decide,rfl,HF.lose⟩
  have HQ:=ah hq;have HS_x:=ah hS;replace HF:=ah ((hf.alloc (q:=w2.heap.size) rfl #[.int .i64 x.kind,.string x.text,.int .i64 x.num,.slice a_x n_x c_x] 52).swap);clear hf hq hS;have c_f:=HF.cell 4 rfl;have f_f:=HF.frz 4 rfl;replace HF:=ah (HF.two2 4 rfl (.int .i64 0) (.int .i64 0));have c_f_:=HF.cell 4 rfl;have c_m:=HF.cell 1 rfl;go_wp2_with fail;clear c_f f_f c_f_ c_m;go_at_call 47;refine (fits_any HF).mono ?_;rintro e w3 ⟨rfl,HF⟩;replace HF:=ah HF;by_cases hr:0≤cP 16 x 700
  ·rw[decide_eq_true hr];have HR:=ah hr;clear hr;have c_m:=HF.cell 1 rfl;have c_n:=HF.cell 6 rfl;have c_r:=HF.cell 5 rfl;have f_n:=HF.frz 6 rfl;have f_r:=HF.frz 5 rfl;replace HF:=ah (HF.nd4 6 rfl (.int .i64 x.kind) (.string x.text) (.int .i64 x.num) (.slice a_x n_x c_x));have c_r_:=HF.cell 5 rfl;have f_r_:=HF.frz 5 rfl;replace HF:=ah (HF.two2 5 rfl (.int .i64 0) (.int .i64 0));go_wp2;refine br (aH results34 _ rfl rfl _ (load52 (HF.blkAt 6 rfl)) (eL (HF.blkAt 5 rfl))) ?_;exact Or.inr ⟨x,a_x,n_x,c_x,by rw[HP.out,HQ.out];exact if_pos HR,HS_x,rfl,HF.lose⟩
  rw[decide_eq_false hr];have HR:=ah hr;clear hr;have c_n:=HF.cell 6 rfl;have c_r:=HF.cell 5 rfl;have f_n:=HF.frz 6 rfl;have f_r:=HF.frz 5 rfl;replace HF:=ah (HF.nd4 6 rfl (.int .i64 0) (.string ⟨#[]⟩) (.int .i64 0) (.slice none 0 0));have c_r_:=HF.cell 5 rfl;have f_r_:=HF.frz 5 rfl;replace HF:=ah (HF.two2 5 rfl (.int .i64 1) (.int .i64 0));go_wp2;refine br (aH results34 _ rfl rfl _ (load52 (HF.blkAt 6 rfl)) (eL (HF.blkAt 5 rfl))) ?_;exact Or.inl ⟨1,0,by rw[HP.out,HQ.out];exact if_neg (by have:=HR.out;omega),by decide,rfl,HF.lose⟩
 have HC:=ah hc;clear hc;have hc:fc≠0:=HC;go_wp2;clear c_f;refine regK [] HF (λ w h=>(h.cell 1 rfl)) (λ wd1 HF hC=>?_);refine tq2 0 1 ?_;refine rq 2 λ K hK=>?_;have c_n:=HF.cell 3 rfl;have f_n:=HF.frz 3 rfl;replace HF:=ah (HF.nd4 3 rfl (.int .i64 0) (.string ⟨#[]⟩) (.int .i64 0) (.slice none 0 0));go_simp;clear c_n f_n;refine uq hK (HF.cell 1 rfl) λ hC=>?_;refine rq 3 λ K hK=>?_;have c_r:=HF.cell 2 rfl;have f_r:=HF.frz 2 rfl;replace HF:=ah (HF.two2 2 rfl (.int .i64 fc) (.int .i64 fp));go_simp;clear c_r f_r;refine uq hK (HF.cell 1 rfl) λ hC=>?_;refine dq ?_;go_wp2;refine br (aH results34 _ rfl rfl _ (load52 (HF.blkAt 3 rfl)) (eL (HF.blkAt 2 rfl))) ?_;exact Or.inl ⟨fc,fp,by rw[HP.out,if_pos HC.out],HC,rfl,HF.lose⟩
end
end Go.Proofs.YtdnhbedbpbgeeaaGreatDoor.K
namespace Go.Proofs.YtdnhbedbpbgeeaaGreatDoor.T
open Go.RowKit Go.Proofs.Tryz
variable {w A B : World} {n d pn k nn d' mb : Nat} {p : Nat→Bool} {name a b : ByteArray} {v : Value} {s : List UInt8} {D : DataW Unit} {many : Bool}
inductive Ty where
 | leaf
 | mk (kind:Int) (name:ByteArray) (nn:Nat) (names:Nat→ByteArray) (pn:Nat) (parts:Nat→Ty) (many:Bool)
def gA:Ty→Bool
 | .leaf=>false
 | .mk kind _ _ _ pn parts _=>(decide (kind=3) && (List.range pn).any λ i=>gA (parts i)) || decide (kind=2)
def rnd (e:Bool)(n:Nat):Nat:=if e=true∧n % 2=1 then n+1 else n
def bR (sz:Nat→Nat)(ev:Nat→Bool):Nat→Nat
 | 0=>0
 | k+1=>rnd (ev (k+1)) (bR sz ev k+sz k)
def sizeT:Ty→Nat
 | .leaf=>0
 | .mk kind name nn names pn parts many=>if kind=2 then 2 else if kind=3 then bR (λ i=>sizeT (parts i)) (λ i=>if i<pn then gA (parts i) else gA (.mk kind name nn names pn parts many)) pn else 1
def letB (c:Nat):Bool:=(decide (97≤c) && decide (c≤122)) || (decide (65≤c) && decide (c≤90))
def digB (c:Nat):Bool:=decide (48≤c) && decide (c≤57)
def signB (s:List UInt8)(i:Nat):Bool:=match s[i]? with|some c=>letB c.toNat || (decide (i≠0) && (digB c.toNat || decide (c.toNat=95)))|none=>false
def reserved:List (List UInt8):=[[98,114,101,97,107],[99,111,117,110,116],[101,108,115,101],[101,120,116,101,114,110],[101,120,116,114,97],[102,110],[105,102],[105,110,116],[108,111,110,103],[112,117,116],[114,101,116,117,114,110],[115,116,97,116,105,99],[115,116,114,117,99,116],[119,104,105,108,101]]
def nameB (s:List UInt8):Bool:=decide (1≤s.length) && decide (s.length≤16) && ((List.range s.length).all λ i=>signB s i) && !(reserved.contains s)
def bytes (s:ByteArray):List UInt8:=s.data.toList
def mayN:Nat→Ty→Bool
 | 0,_=>false
 | _+1,.leaf=>false
 | d+1,.mk kind name nn names pn parts many=>
  decide (pn≤7) && decide (nn≤6) && ((List.range pn).all λ i=>mayN d (parts i)) &&
  (if kind=3 then !many && nameB (bytes name) && decide (1≤pn) && decide (pn≤6) && decide (nn=pn) && ((List.range pn).all λ i=>nameB (bytes (names i)) && !((List.range i).any λ j=>decide (names j=names i)))
    && decide (sizeT (.mk kind name nn names pn parts many)≤12)
   else decide (name.size=0) && decide (nn=0) && (if kind=4 then decide (1≤pn) else (decide (kind=1) || decide (kind=2)) && decide (pn=0) && !many))
def textT:Ty→List UInt8
 | .leaf=>[]
 | .mk kind name _ names pn parts many=>
  if kind=1 then [105,110,116] else if kind=2 then [108,111,110,103] else if kind=3 then
   [115,116,114,117,99,116,32]++bytes name++[123]++((List.range pn).flatMap λ i=>textT (parts i)++[32]++bytes (names i)++[59])++[125]
  else [102,110,40]++((List.range (pn - 1)).flatMap λ i=>textT (parts i)++(if i+1<pn - 1∨many=true then [44] else []))++(if many=true then [46,46,46] else [])++[41]++textT (parts (pn - 1))
def alikeT:Ty→Ty→Bool
 | .leaf,_=>false
 | .mk ..,.leaf=>false
 | .mk kind name nn names pn parts many,.mk kind' name' nn' names' pn' parts' many'=>
  decide (kind=kind') && decide (name=name') && decide (many=many') && decide (pn=pn') && decide (nn=nn') && ((List.range nn).all λ i=>decide (names i=names' i)) && ((List.range pn).all λ i=>alikeT (parts i) (parts' i))
def TyV (w:World):Ty→Value→Prop
 | .leaf,_=>False
 | .mk kind name nn names pn parts many,v=>∃na nc pa pc,v=.agg #[.int .i64 kind,.string name,.slice na nn nc,.slice pa pn pc,.bool many]
  ∧ (0<nn→∃b o,na=some ⟨b,o,none⟩∧b<w.heap.size∧∀j,j<nn→w.cell? ⟨b,o+j,none⟩=some (.string (names j)))
  ∧ (0<pn→∃b o,pa=some ⟨b,o,none⟩∧b<w.heap.size∧∀j,j<pn→∃k0 k1 k2 k3 k4,w.cell? ⟨b,o+j*5,none⟩=some k0∧w.cell? ⟨b,o+j*5+1,none⟩=some k1∧w.cell? ⟨b,o+j*5+2,none⟩=some k2∧w.cell? ⟨b,o+j*5+3,none⟩=some k3∧w.cell? ⟨b,o+j*5+4,none⟩=some k4
   ∧ TyV w (parts j) (.agg #[k0,k1,k2,k3,k4]))
  ∧ -9223372036854775808≤kind∧kind≤9223372036854775807∧nn≤9223372036854775807∧pn≤9223372036854775807∧name.size≤9223372036854775807∧(∀j,j<nn→(names j).size≤9223372036854775807)∧nn≤nc∧nc≤9223372036854775807∧pn≤pc∧pc≤9223372036854775807
theorem mayN_leaf (d:Nat):mayN d .leaf=false:=by cases d<;>rfl
theorem TyV_leaf (h:TyV w .leaf v):False:=by unfold TyV at h;exact h
theorem TyV.below {w' : World}:∀{T:Ty} {v:Value},TyV w T v→Below w.heap.size w w'→TyV w' T v
 | .leaf,v,h,_=>(TyV_leaf h).elim
 | .mk kind name nn names pn parts many,v,h,hb=>by
  unfold TyV at h ⊢;obtain⟨na,nc,pa,pc,rfl,h1,h2,h3⟩:=h;refine⟨na,nc,pa,pc,rfl,λ hp=>?_,λ hp=>?_,h3⟩
  ·obtain⟨b,o,e1,e2,e3⟩:=h1 hp;exact⟨b,o,e1,Nat.lt_of_lt_of_le e2 hb.size,λ j hj=>(hb.cell (p:=⟨b,o+j,none⟩) e2).trans (e3 j hj)⟩
  obtain⟨b,o,e1,e2,e3⟩:=h2 hp;refine⟨b,o,e1,Nat.lt_of_lt_of_le e2 hb.size,λ j hj=>?_⟩;obtain⟨k0,k1,k2,k3,k4,g0,g1,g2,g3,g4,g5⟩:=e3 j hj;exact⟨k0,k1,k2,k3,k4,(hb.cell (p:=⟨b,o+j*5,none⟩) e2).trans g0,(hb.cell (p:=⟨b,o+j*5+1,none⟩) e2).trans g1,(hb.cell (p:=⟨b,o+j*5+2,none⟩) e2).trans g2,(hb.cell (p:=⟨b,o+j*5+3,none⟩) e2).trans g3,(hb.cell (p:=⟨b,o+j*5+4,none⟩) e2).trans g4,TyV.below g5 hb⟩
theorem cut_at {c:UInt8}:∀{a b u v:List UInt8},c ∉ a→c ∉ b→a++c::u=b++c::v→a=b∧u=v
 | [],[],_,_,_,_,h=>by simpa using h
 | [],y::b,_,_,_,hb,h=>by
  simp at h hb;exact absurd h.1 hb.1
 | x::a,[],_,_,ha,_,h=>by
  simp at h ha;exact absurd h.1.symm ha.1
 | x::a,y::b,u,v,ha,hb,h=>by
  simp at h ha hb;obtain⟨rfl,h⟩:=h;have:=cut_at ha.2 hb.2 h;exact⟨by rw[this.1],this.2⟩
theorem name_sign (h:nameB s=true) (c:UInt8) (hc:c∈s):letB c.toNat=true∨digB c.toNat=true∨c.toNat=95:=by
 simp only[nameB,Bool.and_eq_true,List.all_eq_true,List.mem_range] at h;obtain⟨i,hi,rfl⟩:=List.mem_iff_getElem.1 hc;have:=h.1.2 i hi;simp [signB,hi] at this;rcases this with h1|⟨_,h1|h1⟩
 ·exact Or.inl h1
 ·exact Or.inr (Or.inl h1)
 exact Or.inr (Or.inr h1)
theorem name_free (h:nameB s=true) (c:UInt8) (hc:letB c.toNat=false) (hd:digB c.toNat=false) (hl:c.toNat≠95):c ∉ s:=λ hm=>by
 rcases name_sign h c hm with h1|h1|h1
 ·rw[hc] at h1;cases h1
 ·rw[hd] at h1;cases h1
 exact hl h1
theorem may_facts {kind : Int} {names : Nat→ByteArray} {parts : Nat→Ty} (h:mayN (d+1) (.mk kind name nn names pn parts many)=true):
  pn≤7∧nn≤6∧(∀i,i<pn→mayN d (parts i)=true) ∧
  ((kind=3∧many=false∧nameB (bytes name)=true∧1≤pn∧pn≤6∧nn=pn∧(∀i,i<pn→nameB (bytes (names i))=true)∧sizeT (.mk kind name nn names pn parts many)≤12)
   ∨ (kind=4∧name.size=0∧nn=0∧1≤pn)∨(kind=1∧name.size=0∧nn=0∧pn=0∧many=false)∨(kind=2∧name.size=0∧nn=0∧pn=0∧many=false)):=by
 unfold mayN at h;simp only[Bool.and_eq_true,decide_eq_true_eq,List.all_eq_true,List.mem_range] at h;obtain⟨⟨⟨h1,h2⟩,h3⟩,h4⟩:=h;refine⟨h1,h2,h3,?_⟩;by_cases k3:kind=3
 ·rw[if_pos k3] at h4;simp only[Bool.and_eq_true,decide_eq_true_eq,List.all_eq_true,List.mem_range,Bool.not_eq_true'] at h4;obtain⟨⟨⟨⟨⟨⟨a1,a2⟩,a3⟩,a4⟩,a5⟩,a6⟩,a7⟩:=h4;exact Or.inl ⟨k3,a1,a2,a3,a4,a5,λ i hi=>(a6 i hi).1,a7⟩
 rw[if_neg k3] at h4;simp only[Bool.and_eq_true,decide_eq_true_eq] at h4;obtain⟨⟨b1,b2⟩,b3⟩:=h4;by_cases k4:kind=4
 ·rw[if_pos k4] at b3;exact Or.inr (Or.inl ⟨k4,b1,b2,by simpa using b3⟩)
 rw[if_neg k4] at b3;simp at b3;rcases b3.1.1 with k|k
 ·exact Or.inr (Or.inr (Or.inl ⟨k,b1,b2,b3.1.2,b3.2⟩))
 exact Or.inr (Or.inr (Or.inr ⟨k,b1,b2,b3.1.2,b3.2⟩))
def headB (c:UInt8):Prop:=c=105∨c=108∨c=115∨c=102
theorem text_head {T : Ty} (h:mayN d T=true):∃c r,textT T=c::r∧headB c:=by
 cases d with
 | zero=>simp [mayN] at h
 | succ d=>
  cases T with
  | leaf=>rw[mayN_leaf] at h;cases h
  | mk kind name nn names pn parts many=>
   unfold textT headB;rcases (may_facts h).2.2.2 with⟨rfl,_⟩|⟨rfl,_⟩|⟨rfl,_⟩|⟨rfl,_⟩<;>simp
theorem head_no {c : UInt8} {x y : List UInt8} {T : Ty} (h:mayN d T=true) (hc:¬ headB c):c::x≠textT T++y:=λ e=>by
 obtain⟨k,r,h1,h2⟩:=text_head h;rw[h1] at e;simp at e;exact hc (e.1 ▸ h2)
theorem no125:¬ headB 125:=by unfold headB;decide
theorem no41:¬ headB 41:=by unfold headB;decide
theorem no46:¬ headB 46:=by unfold headB;decide
theorem fields_inj {pa pb : Nat→Ty} {na nb : Nat→List UInt8} (ih:∀j b' u v,mayN d (pa j)=true→mayN d' b'=true→textT (pa j)++u=textT b'++v→alikeT (pa j) b'=true∧u=v):∀n i m u v,
  (∀j,j<i+n→mayN d (pa j)=true∧nameB (na j)=true)→(∀j,j<i+m→mayN d' (pb j)=true∧nameB (nb j)=true) →
  ((List.range' i n).flatMap λ j=>textT (pa j)++[32]++na j++[59])++125::u=((List.range' i m).flatMap λ j=>textT (pb j)++[32]++nb j++[59])++125::v →
  n=m∧(∀j,i≤j→j<i+n→alikeT (pa j) (pb j)=true∧na j=nb j)∧u=v:=by
 intro n;induction n with
 | zero=>
  intro i m u v ha hb h;cases m with
  | zero=>simp at h;exact⟨rfl,λ j h1 h2=>by omega,h⟩
  | succ m=>
   simp only[List.range'_zero,List.flatMap_nil,List.nil_append,List.range'_succ,List.flatMap_cons,List.append_assoc] at h;exact absurd h (head_no (hb i (by omega)).1 no125)
 | succ n hn=>
  intro i m u v ha hb h;cases m with
  | zero=>
   simp only[List.range'_zero,List.flatMap_nil,List.nil_append,List.range'_succ,List.flatMap_cons,List.append_assoc] at h;exact absurd h.symm (head_no (ha i (by omega)).1 no125)
  | succ m=>
   simp only[List.range'_succ,List.flatMap_cons,List.append_assoc] at h;obtain⟨h1,h2⟩:=ih i (pb i) _ _ (ha i (by omega)).1 (hb i (by omega)).1 h;simp only[List.cons_append,List.nil_append,List.cons.injEq,true_and] at h2;obtain⟨h3,h4⟩:=cut_at (c:=59) (name_free (ha i (by omega)).2 59 (by decide) (by decide) (by decide)) (name_free (hb i (by omega)).2 59 (by decide) (by decide) (by decide)) h2;have h4':((List.range' (i+1) n).flatMap λ j=>textT (pa j)++[32]++na j++[59])++125::u=((List.range' (i+1) m).flatMap λ j=>textT (pb j)++[32]++nb j++[59])++125::v:=by
    simpa only [List.append_assoc,List.cons_append,List.nil_append] using h4
   obtain⟨rfl,h5,h6⟩:=hn (i+1) m u v (λ j hj=>ha j (by omega)) (λ j hj=>hb j (by omega)) h4';refine⟨rfl,λ j g1 g2=>?_,h6⟩;by_cases e:j=i
   ·subst e;exact⟨h1,h3⟩
   exact h5 j (by omega) (by omega)
def tail (p:Nat→Ty)(many:Bool)(last i n:Nat)(u:List UInt8):List UInt8:=
 ((List.range' i n).flatMap λ j=>textT (p j)++(if j+1<last∨many=true then [44] else []))++((if many=true then [46,46,46] else [])++41::u)
theorem tail_succ (p:Nat→Ty) (many:Bool) (last i n:Nat) (u:List UInt8):tail p many last i (n+1) u=textT (p i)++((if i+1<last∨many=true then [44] else [])++tail p many last (i+1) n u):=by
 unfold tail;simp only[List.range'_succ,List.flatMap_cons,List.append_assoc]
theorem tail_zero (p:Nat→Ty) (many:Bool) (last i:Nat) (u:List UInt8):tail p many last i 0 u=(if many=true then [46,46,46] else [])++41::u:=by simp [tail]
theorem params_inj {pa pb : Nat→Ty} {ma mb : Bool} {la lb : Nat} (ih:∀j b' u v,mayN d (pa j)=true→mayN d' b'=true→textT (pa j)++u=textT b'++v→alikeT (pa j) b'=true∧u=v):∀n i m u v,
  i+n=la→i+m=lb→(∀j,j<la→mayN d (pa j)=true)→(∀j,j<lb→mayN d' (pb j)=true) →
  tail pa ma la i n u=tail pb mb lb i m v→n=m∧ma=mb∧(∀j,i≤j→j<i+n→alikeT (pa j) (pb j)=true)∧u=v:=by
 intro n;induction n with
 | zero=>
  intro i m u v hla hlb ha hb h;rw[tail_zero] at h;cases m with
  | zero=>
   rw[tail_zero] at h;cases ma<;>cases mb<;>simp at h
   ·exact⟨rfl,rfl,λ j _ _=>by omega,h⟩
   exact⟨rfl,rfl,λ j _ _=>by omega,h⟩
  | succ m=>
   rw[tail_succ] at h;cases ma
   ·exact absurd h (head_no (hb i (by omega)) no41)
   exact absurd h (head_no (hb i (by omega)) no46)
 | succ n hn=>
  intro i m u v hla hlb ha hb h;rw[tail_succ] at h;cases m with
  | zero=>
   rw[tail_zero] at h;cases mb
   ·exact absurd h.symm (head_no (ha i (by omega)) no41)
   exact absurd h.symm (head_no (ha i (by omega)) no46)
  | succ m=>
   rw[tail_succ] at h;obtain⟨h1,h2⟩:=ih i (pb i) _ _ (ha i (by omega)) (hb i (by omega)) h;have key:tail pa ma la (i+1) n u=tail pb mb lb (i+1) m v:=by
    by_cases ca:i+1<la∨ma=true
    ·rw[if_pos ca] at h2;by_cases cb:i+1<lb∨mb=true
     ·rw[if_pos cb] at h2;simpa using h2
     rw[if_neg cb] at h2;have hm0:m=0:=by omega
     subst hm0;have hmb:mb=false:=by cases mb<;>simp_all
     rw[tail_zero,hmb] at h2;simp at h2
    rw[if_neg ca] at h2;have hn0:n=0:=by omega
    subst hn0;have hma:ma=false:=by cases ma<;>simp_all
    by_cases cb:i+1<lb∨mb=true
    ·rw[if_pos cb,tail_zero,hma] at h2;simp at h2
    rw[if_neg cb] at h2;simpa using h2
   obtain⟨rfl,h4,h5,h6⟩:=hn (i+1) m u v (by omega) (by omega) ha hb key;refine⟨rfl,h4,λ j g1 g2=>?_,h6⟩;by_cases e:j=i
   ·subst e;exact h1
   exact h5 j (by omega) (by omega)
theorem ba_empty (ha:a.size=0) (hb:b.size=0):a=b:=by
 apply ByteArray.ext
 apply Array.ext
 ·show a.size=b.size;omega
 intro i h1 _;have:i<a.size:=h1;omega
theorem bytes_inj (h:bytes a=bytes b):a=b:=by
 apply ByteArray.ext
 exact Array.toList_inj.1 h
theorem text_inj:∀(a:Ty)(d d':Nat)(b:Ty)(u v:List UInt8),mayN d a=true→mayN d' b=true→textT a++u=textT b++v→alikeT a b=true∧u=v:=by
 intro a;induction a with
 | leaf=>intro d d' b u v ha;rw[mayN_leaf] at ha;cases ha
 | mk kind name nn names pn parts many ih=>
  intro d d' b u v ha hb h;rcases b with _|⟨kind',name',nn',names',pn',parts',many'⟩
  ·rw[mayN_leaf] at hb;cases hb
  cases d with
  | zero=>simp [mayN] at ha
  | succ d=>
   cases d' with
   | zero=>simp [mayN] at hb
   | succ d'=>
    have fa:=may_facts ha;have fb:=may_facts hb;unfold textT at h;rcases fa.2.2.2 with⟨rfl,a1,a2,a3,a4,rfl,a6,_⟩|⟨rfl,a1,rfl,a3⟩|⟨rfl,a1,rfl,rfl,rfl⟩|⟨rfl,a1,rfl,rfl,rfl⟩ <;>
     rcases fb.2.2.2 with⟨rfl,b1,b2,b3,b4,rfl,b6,_⟩|⟨rfl,b1,rfl,b3⟩|⟨rfl,b1,rfl,rfl,rfl⟩|⟨rfl,b1,rfl,rfl,rfl⟩<;>simp at h
    ·obtain⟨h1,h2⟩:=cut_at (c:=123) (name_free a2 123 (by decide) (by decide) (by decide)) (name_free b2 123 (by decide) (by decide) (by decide)) h;have h2':((List.range' 0 nn).flatMap λ j=>textT (parts j)++[32]++bytes (names j)++[59])++125::u=((List.range' 0 nn').flatMap λ j=>textT (parts' j)++[32]++bytes (names' j)++[59])++125::v:=by
      simpa [← List.range_eq_range'] using h2
     obtain⟨rfl,h3,h4⟩:=fields_inj (na:=λ j=>bytes (names j)) (nb:=λ j=>bytes (names' j)) (λ j b' u v x1 x2 x3=>ih j d d' b' u v x1 x2 x3) nn 0 nn' u v (λ j hj=>⟨fa.2.2.1 j (by omega),a6 j (by omega)⟩) (λ j hj=>⟨fb.2.2.1 j (by omega),b6 j (by omega)⟩) h2';refine⟨?_,h4⟩;unfold alikeT;simp [a1,b1,bytes_inj h1];exact⟨λ j hj=>bytes_inj (h3 j (by omega) (by omega)).2,λ j hj=>(h3 j (by omega) (by omega)).1⟩
    ·have h':tail parts many (pn - 1) 0 (pn - 1) (textT (parts (pn - 1))++u)=tail parts' many' (pn' - 1) 0 (pn' - 1) (textT (parts' (pn' - 1))++v):=by
      unfold tail;simpa [← List.range_eq_range'] using h
     obtain⟨e1,rfl,h3,h4⟩:=params_inj (λ j b' u v x1 x2 x3=>ih j d d' b' u v x1 x2 x3) (pn - 1) 0 (pn' - 1) _ _ (by omega) (by omega) (λ j hj=>fa.2.2.1 j (by omega)) (λ j hj=>fb.2.2.1 j (by omega)) h';obtain rfl:pn=pn':=by omega
     obtain⟨h5,h6⟩:=ih (pn - 1) d d' _ _ _ (fa.2.2.1 _ (by omega)) (fb.2.2.1 _ (by omega)) h4;refine⟨?_,h6⟩;unfold alikeT;simp [ba_empty a1 b1];intro j hj;by_cases e:j=pn - 1
     ·subst e;exact h5
     exact h3 j (by omega) (by omega)
    ·exact⟨by unfold alikeT;simp [ba_empty a1 b1],h⟩
    exact⟨by unfold alikeT;simp [ba_empty a1 b1],h⟩
theorem text_alike:∀(a:Ty)(d d':Nat)(b:Ty),mayN d a=true→mayN d' b=true→alikeT a b=true→textT a=textT b:=by
 intro a;induction a with
 | leaf=>intro d d' b ha;rw[mayN_leaf] at ha;cases ha
 | mk kind name nn names pn parts many ih=>
  intro d d' b ha hb h;rcases b with _|⟨kind',name',nn',names',pn',parts',many'⟩
  ·rw[mayN_leaf] at hb;cases hb
  cases d with
  | zero=>simp [mayN] at ha
  | succ d=>
   cases d' with
   | zero=>simp [mayN] at hb
   | succ d'=>
    have fa:=may_facts ha;have fb:=may_facts hb;unfold alikeT at h;simp only[Bool.and_eq_true,decide_eq_true_eq,List.all_eq_true,List.mem_range] at h;obtain⟨⟨⟨⟨⟨⟨rfl,rfl⟩,rfl⟩,rfl⟩,rfl⟩,h6⟩,h7⟩:=h;have hp:∀i,i<pn→textT (parts i)=textT (parts' i):=λ i hi=>ih i d d' (parts' i) (fa.2.2.1 i hi) (fb.2.2.1 i hi) (h7 i hi);unfold textT;split
    ·rfl
    split
    ·rfl
    split
    ·have hnn:nn=pn:=by
      rcases fa.2.2.2 with⟨_,_,_,_,_,e,_⟩|⟨e,_⟩|⟨e,_⟩|⟨e,_⟩
      ·exact e
      all_goals omega
     have:((List.range pn).flatMap λ i=>textT (parts i)++[32]++bytes (names i)++[59])=((List.range pn).flatMap λ i=>textT (parts' i)++[32]++bytes (names' i)++[59]):=by
      rw[List.flatMap_def,List.flatMap_def];congr 1
      apply List.map_congr_left
      intro i hi;rw[List.mem_range] at hi;rw[hp i hi,h6 i (by omega)]
     rw[this]
    have hp1:1≤pn:=by
     rcases fa.2.2.2 with⟨_,_,_,e,_⟩|⟨_,_,_,e⟩|⟨e,_⟩|⟨e,_⟩
     ·exact e
     ·exact e
     all_goals omega
    have:((List.range (pn - 1)).flatMap λ i=>textT (parts i)++(if i+1<pn - 1∨many=true then [44] else []))=((List.range (pn - 1)).flatMap λ i=>textT (parts' i)++(if i+1<pn - 1∨many=true then [44] else [])):=by
     rw[List.flatMap_def,List.flatMap_def];congr 1
     apply List.map_congr_left
     intro i hi;rw[List.mem_range] at hi;rw[hp i (by omega)]
    rw[this,hp (pn - 1) (by omega)]
theorem text_same {a b : Ty} (ha:mayN d a=true) (hb:mayN d' b=true):decide (textT a=textT b)=alikeT a b:=by
 cases h:alikeT a b with
 | true=>exact decide_eq_true (text_alike a d d' b ha hb h)
 | false=>
  refine decide_eq_false λ e=>?_;have:=(text_inj a d d' b [] [] ha hb (by rw[e])).1;rw[h] at this;cases this
theorem hide {p : Prop} (h:p):Hid p:=h
def Strs (w:World)(na:Option Addr)(nn:Nat)(names:Nat→ByteArray):Prop:=0<nn→∃b o,na=some ⟨b,o,none⟩∧b<w.heap.size∧∀j,j<nn→w.cell? ⟨b,o+j,none⟩=some (.string (names j))
theorem str_eq (a b:ByteArray):(a.toList == b.toList)=decide (a=b):=by
 by_cases h:a=b
 ·subst h;simp
 rw[decide_eq_false h];simp only[ByteArray.toList_eq,beq_eq_false_iff_ne,ne_eq];intro e;exact h (ByteArray.ext (Array.toList_inj.1 e))
theorem any_upto (h:∀j,j<n→p j=false):(List.range n).any p=false:=by simpa using h
theorem any_at (hk:k<n) (h:p k=true):(List.range n).any p=true:=by simpa using ⟨k,hk,h⟩
theorem pletter_any (c:Nat) (w:World) (hc:c<256):Calls prog 96 #[.int .u8 c] w λ e w'=>e=.returned (.bool (letB c))∧w'=w:=by
 have key:∀b1 b2 b3 b4,decide (97≤c)=b1→decide (c≤122)=b2→decide (65≤c)=b3→decide (c≤90)=b4→letB c=((b1 && b2) || (b3 && b4)):=λ_ _ _ _ h1 h2 h3 h4=>by unfold letB;rw[h1,h2,h3,h4]
 by_cases a1:97≤c
 ·by_cases a2:c≤122
  ·rw[key true true _ _ (decide_eq_true a1) (decide_eq_true a2) rfl rfl];have d1:(97:Int)≤c:=by omega
   have d2:(c:Int)≤122:=by omega
   go_enter func96,ntmps96;go_wp2;go_ret
   exact⟨rfl,rfl⟩
  rw[key true false true false (decide_eq_true a1) (decide_eq_false a2) (decide_eq_true (by omega)) (decide_eq_false (by omega))];have d1:(97:Int)≤c:=by omega
  have d2:¬ (c:Int)≤122:=by omega
  have d3:(65:Int)≤c:=by omega
  have d4:¬ (c:Int)≤90:=by omega
  go_enter func96,ntmps96;go_wp2;go_ret
  exact⟨rfl,rfl⟩
 by_cases a3:65≤c
 ·have d1:¬ (97:Int)≤c:=by omega
  have d3:(65:Int)≤c:=by omega
  by_cases a4:c≤90
  ·rw[key false true true true (decide_eq_false a1) (decide_eq_true (by omega)) (decide_eq_true a3) (decide_eq_true a4)];have d4:(c:Int)≤90:=by omega
   go_enter func96,ntmps96;go_wp2;go_ret
   exact⟨rfl,rfl⟩
  rw[key false true true false (decide_eq_false a1) (decide_eq_true (by omega)) (decide_eq_true a3) (decide_eq_false a4)];have d4:¬ (c:Int)≤90:=by omega
  go_enter func96,ntmps96;go_wp2;go_ret
  exact⟨rfl,rfl⟩
 rw[key false true false true (decide_eq_false a1) (decide_eq_true (by omega)) (decide_eq_false a3) (decide_eq_true (by omega))];have d1:¬ (97:Int)≤c:=by omega
 have d3:¬ (65:Int)≤c:=by omega
 go_enter func96,ntmps96;go_wp2;go_ret
 exact⟨rfl,rfl⟩
theorem pdigit_any (c:Nat) (w:World) (hc:c<256):Calls prog 99 #[.int .u8 c] w λ e w'=>e=.returned (.bool (digB c))∧w'=w:=by
 have key:∀b1 b2,decide (48≤c)=b1→decide (c≤57)=b2→digB c=(b1 && b2):=λ_ _ h1 h2=>by unfold digB;rw[h1,h2]
 by_cases a1:48≤c
 ·have d1:(48:Int)≤c:=by omega
  by_cases a2:c≤57
  ·rw[key true true (decide_eq_true a1) (decide_eq_true a2)];have d2:(c:Int)≤57:=by omega
   go_enter func99,ntmps99;go_wp2;go_ret
   exact⟨rfl,rfl⟩
  rw[key true false (decide_eq_true a1) (decide_eq_false a2)];have d2:¬ (c:Int)≤57:=by omega
  go_enter func99,ntmps99;go_wp2;go_ret
  exact⟨rfl,rfl⟩
 rw[key false true (decide_eq_false a1) (decide_eq_true (by omega))];have d1:¬ (48:Int)≤c:=by omega
 go_enter func99,ntmps99;go_wp2;go_ret
 exact⟨rfl,rfl⟩
theorem bytes_eq (s:ByteArray) (l:List UInt8) (h:¬ bytes s=l):(s.toList == l)=false:=by
 simp only[ByteArray.toList_eq,beq_eq_false_iff_ne,ne_eq];exact h
theorem bytes_same (s:ByteArray) (l:List UInt8) (h:bytes s=l):(s.toList == l)=true:=by
 simp only[ByteArray.toList_eq,beq_iff_eq];exact h
theorem barred_any (s:ByteArray) (w:World):Calls prog 111 #[.string s] w λ e w'=>e=.returned (.bool (reserved.contains (bytes s)))∧w'=w:=by
 by_cases a0:bytes s=[98,114,101,97,107]
 ·have d0:=bytes_same s [98,114,101,97,107] a0;rw[show reserved.contains (bytes s)=true by rw[a0];decide];clear a0;go_enter func111,ntmps111;go_wp2;go_ret
  exact⟨rfl,rfl⟩
 have d0:=bytes_eq s [98,114,101,97,107] a0;by_cases a1:bytes s=[99,111,117,110,116]
 ·have d1:=bytes_same s [99,111,117,110,116] a1;rw[show reserved.contains (bytes s)=true by rw[a1];decide];clear a1;go_enter func111,ntmps111;go_wp2;go_ret
  exact⟨rfl,rfl⟩
 have d1:=bytes_eq s [99,111,117,110,116] a1;by_cases a2:bytes s=[101,108,115,101]
 ·have d2:=bytes_same s [101,108,115,101] a2;rw[show reserved.contains (bytes s)=true by rw[a2];decide];clear a2;go_enter func111,ntmps111;go_wp2;go_ret
  exact⟨rfl,rfl⟩
 have d2:=bytes_eq s [101,108,115,101] a2;by_cases a3:bytes s=[101,120,116,101,114,110]
 ·have d3:=bytes_same s [101,120,116,101,114,110] a3;rw[show reserved.contains (bytes s)=true by rw[a3];decide];clear a3;go_enter func111,ntmps111;go_wp2;go_ret
  exact⟨rfl,rfl⟩
 have d3:=bytes_eq s [101,120,116,101,114,110] a3;by_cases a4:bytes s=[101,120,116,114,97]
 ·have d4:=bytes_same s [101,120,116,114,97] a4;rw[show reserved.contains (bytes s)=true by rw[a4];decide];clear a4;go_enter func111,ntmps111;go_wp2;go_ret
  exact⟨rfl,rfl⟩
 have d4:=bytes_eq s [101,120,116,114,97] a4;by_cases a5:bytes s=[102,110]
 ·have d5:=bytes_same s [102,110] a5;rw[show reserved.contains (bytes s)=true by rw[a5];decide];clear a5;go_enter func111,ntmps111;go_wp2;go_ret
  exact⟨rfl,rfl⟩
 have d5:=bytes_eq s [102,110] a5;by_cases a6:bytes s=[105,102]
 ·have d6:=bytes_same s [105,102] a6;rw[show reserved.contains (bytes s)=true by rw[a6];decide];clear a6;go_enter func111,ntmps111;go_wp2;go_ret
  exact⟨rfl,rfl⟩
 have d6:=bytes_eq s [105,102] a6;by_cases a7:bytes s=[105,110,116]
 ·have d7:=bytes_same s [105,110,116] a7;rw[show reserved.contains (bytes s)=true by rw[a7];decide];clear a7;go_enter func111,ntmps111;go_wp2;go_ret
  exact⟨rfl,rfl⟩
 have d7:=bytes_eq s [105,110,116] a7;by_cases a8:bytes s=[108,111,110,103]
 ·have d8:=bytes_same s [108,111,110,103] a8;rw[show reserved.contains (bytes s)=true by rw[a8];decide];clear a8;go_enter func111,ntmps111;go_wp2;go_ret
  exact⟨rfl,rfl⟩
 have d8:=bytes_eq s [108,111,110,103] a8;by_cases a9:bytes s=[112,117,116]
 ·have d9:=bytes_same s [112,117,116] a9;rw[show reserved.contains (bytes s)=true by rw[a9];decide];clear a9;go_enter func111,ntmps111;go_wp2;go_ret
  exact⟨rfl,rfl⟩
 have d9:=bytes_eq s [112,117,116] a9;by_cases a10:bytes s=[114,101,116,117,114,110]
 ·have d10:=bytes_same s [114,101,116,117,114,110] a10;rw[show reserved.contains (bytes s)=true by rw[a10];decide];clear a10;go_enter func111,ntmps111;go_wp2;go_ret
  exact⟨rfl,rfl⟩
 have d10:=bytes_eq s [114,101,116,117,114,110] a10;by_cases a11:bytes s=[115,116,97,116,105,99]
 ·have d11:=bytes_same s [115,116,97,116,105,99] a11;rw[show reserved.contains (bytes s)=true by rw[a11];decide];clear a11;go_enter func111,ntmps111;go_wp2;go_ret
  exact⟨rfl,rfl⟩
 have d11:=bytes_eq s [115,116,97,116,105,99] a11;by_cases a12:bytes s=[115,116,114,117,99,116]
 ·have d12:=bytes_same s [115,116,114,117,99,116] a12;rw[show reserved.contains (bytes s)=true by rw[a12];decide];clear a12;go_enter func111,ntmps111;go_wp2;go_ret
  exact⟨rfl,rfl⟩
 have d12:=bytes_eq s [115,116,114,117,99,116] a12;by_cases a13:bytes s=[119,104,105,108,101]
 ·have d13:=bytes_same s [119,104,105,108,101] a13;rw[show reserved.contains (bytes s)=true by rw[a13];decide];clear a13;go_enter func111,ntmps111;go_wp2;go_ret
  exact⟨rfl,rfl⟩
 have d13:=bytes_eq s [119,104,105,108,101] a13;have hn:reserved.contains (bytes s)=false:=by
  rw[Bool.eq_false_iff];intro h;rw[List.contains_iff_mem] at h;simp only[reserved,List.mem_cons,List.not_mem_nil,or_false] at h;rcases h with h|h|h|h|h|h|h|h|h|h|h|h|h|h
  ·exact a0 h
  ·exact a1 h
  ·exact a2 h
  ·exact a3 h
  ·exact a4 h
  ·exact a5 h
  ·exact a6 h
  ·exact a7 h
  ·exact a8 h
  ·exact a9 h
  ·exact a10 h
  ·exact a11 h
  ·exact a12 h
  exact a13 h
 rw[hn];clear hn a0 a1 a2 a3 a4 a5 a6 a7 a8 a9 a10 a11 a12 a13;go_enter func111,ntmps111;go_wp2;go_ret
 exact⟨rfl,rfl⟩
def insB (c:Nat):Bool:=letB c || digB c || decide (c=95)
theorem pin_any (c:Nat) (w:World) (hc:c<256):Calls prog 98 #[.int .u8 c] w λ e w'=>e=.returned (.bool (insB c))∧w'=w:=by
 have hlet:=λ w'=>pletter_any c w' hc;have hdig:=λ w'=>pdigit_any c w' hc;obtain⟨r,hr⟩:∃r,r=insB c:=⟨_,rfl⟩
 rw[← hr];unfold insB at hr;have HR:=ah hr;clear hr;cases hL:letB c with
 | true=>
  rw[hL] at hlet;obtain rfl:r=true:=by rw[HR.out,hL];rfl
  go_enter func98,ntmps98;go_wp2_with fail;go_at_call 96;refine (hlet _).mono ?_;rintro e w1 ⟨rfl,rfl⟩;go_wp2;go_ret
  exact⟨rfl,rfl⟩
 | false=>
  rw[hL] at hlet;cases hD:digB c with
  | true=>
   rw[hD] at hdig;obtain rfl:r=true:=by rw[HR.out,hL,hD];rfl
   go_enter func98,ntmps98;go_wp2_with fail;go_at_call 96;refine (hlet _).mono ?_;rintro e w1 ⟨rfl,rfl⟩;go_wp2_with fail;go_at_call 99;refine (hdig _).mono ?_;rintro e w1 ⟨rfl,rfl⟩;go_wp2;go_ret
   exact⟨rfl,rfl⟩
  | false=>
   rw[hD] at hdig;obtain rfl:r=((c:Int) == 95):=by
    rw[HR.out,hL,hD];by_cases h:c=95
    ·subst h;rfl
    rw[decide_eq_false h];simp;omega
   clear HR;go_enter func98,ntmps98;go_wp2_with fail;go_at_call 96;refine (hlet _).mono ?_;rintro e w1 ⟨rfl,rfl⟩;go_wp2_with fail;go_at_call 99;refine (hdig _).mono ?_;rintro e w1 ⟨rfl,rfl⟩;go_wp2;go_ret
   exact⟨rfl,rfl⟩
theorem sign_at (s:ByteArray) (k:Nat) (hlt:k<s.size):signB (bytes s) k=(letB s[k].toNat || (decide (k≠0) && (digB s[k].toNat || decide (s[k].toNat=95)))):=by
 have e:(bytes s)[k]?=some s[k]:=by
  show s.data.toList[k]?=_;rw[Array.getElem?_toList];exact Array.getElem?_eq_getElem hlt
 unfold signB;rw[e]
theorem name_bad (s:ByteArray) (k:Nat) (hlt:k<s.size) (h:signB (bytes s) k=false):nameB (bytes s)=false:=by
 unfold nameB;have:((List.range (bytes s).length).all λ i=>signB (bytes s) i)=false:=by
  rw[Bool.eq_false_iff];intro e;rw[List.all_eq_true] at e;have:=e k (by rw[List.mem_range];exact hlt);rw[h] at this;cases this
 rw[this];simp
theorem pname_any (s:ByteArray) (w:World) (hs:s.size≤maxLen):Calls prog 82 #[.string s] w λ e w'=>e=.returned (.bool (nameB (bytes s)))∧w'=w:=by
 have hm:maxLen=9223372036854775807:=rfl;have hl:(bytes s).length=s.size:=rfl;by_cases a1:s.size<1
 ·have:nameB (bytes s)=false:=by unfold nameB;rw[hl,decide_eq_false (by omega)];rfl
  rw[this];have d1:(s.size:Int)<1:=by omega
  go_enter func82,ntmps82;go_wp2;go_ret
  exact⟨rfl,rfl⟩
 have d1:¬ (s.size:Int)<1:=by omega
 by_cases a2:16<s.size
 ·have:nameB (bytes s)=false:=by unfold nameB;rw[hl,decide_eq_true (show 1≤s.size by omega),decide_eq_false (show ¬ s.size≤16 by omega)];rfl
  rw[this];have d2:(16:Int)<s.size:=by omega
  go_enter func82,ntmps82;go_wp2;go_ret
  exact⟨rfl,rfl⟩
 have d2:¬ (16:Int)<s.size:=by omega
 have h0:0<s.size:=by omega
 have h0i:(0:Int)<s.size:=by omega
 have hlet0:=λ w'=>pletter_any s[0].toNat w' (UInt8.toNat_lt _);have hs0:=sign_at s 0 h0;cases hL0:letB s[0].toNat with
 | false=>
  rw[hL0] at hlet0 hs0;have HF:Hid (nameB (bytes s)=false):=name_bad s 0 h0 (by rw[hs0];rfl);clear hs0;rw[HF.out];go_enter func82,ntmps82;go_wp2_with fail;go_at_call 96;refine (hlet0 _).mono ?_;rintro e w1 ⟨rfl,rfl⟩;go_wp2;go_ret
  exact⟨rfl,rfl⟩
 | true=>
 rw[hL0] at hlet0 hs0;have HS0:Hid (signB (bytes s) 0=true):=by show _=_;rw[hs0];rfl
 clear hs0;go_enter func82,ntmps82;go_wp2_with fail;go_at_call 96;refine (hlet0 _).mono ?_;rintro e w1 ⟨rfl,rfl⟩;go_wp2;go_loopw [3] (λ i wr=>∃k:Nat,k≤s.size∧1≤k∧i=.int .i64 k∧wr=w1∧Hid (∀j,j<k→signB (bytes s) j=true)) (λ i _=>s.size - (intOf i).toNat)
 case atStart=>exact⟨1,by omega,Nat.le_refl _,rfl,rfl,λ j hj=>(show j=0 by omega) ▸ HS0⟩
 clear hlet0;obtain⟨k,hk,k1,rfl,rfl,HK⟩:=hrel;by_cases hlt:k<s.size
 ·have hlt':(k:Int)<s.size:=by omega
  have hidx:(0:Int)≤k∧(k:Int)<s.size:=by omega
  have hb:s[k].toNat<256:=UInt8.toNat_lt _;have hsig:=sign_at s k hlt;rw[decide_eq_true (show k≠0 by omega),Bool.true_and] at hsig;have HE:Hid (signB (bytes s) k=true→∀j,j<k+1→signB (bytes s) j=true):=λ h j hj=>by
   by_cases e:j=k
   ·subst e;exact h
   exact HK j (by omega)
  have HF:Hid (signB (bytes s) k=false→nameB (bytes s)=false):=λ h=>name_bad s k hlt h;have hin:=λ w'=>pin_any s[k].toNat w' hb;have hsig2:signB (bytes s) k=insB s[k].toNat:=by rw[hsig];unfold insB;rw[Bool.or_assoc]
  clear hsig;cases hI:insB s[k].toNat with
  | true=>
   rw[hI] at hin hsig2;go_wp2_with fail;go_at_call 98;refine (hin _).mono ?_;rintro e w1 ⟨rfl,rfl⟩;go_wp2;go_roundw
   case rel=>exact⟨k+1,by omega,by omega,by go_num,trivial,HE hsig2⟩
   case measure=>simp [intOf];omega
  | false=>
   rw[hI] at hin hsig2;go_wp2_with fail;go_at_call 98;refine (hin _).mono ?_;rintro e w1 ⟨rfl,rfl⟩;go_wp2;go_ret
   exact⟨by rw[HF.out hsig2];rfl,rfl⟩
 have hkn:k=s.size:=by omega
 subst hkn;have hlt':¬ (s.size:Int)<s.size:=by omega
 have hba:=λ w'=>barred_any s w';obtain⟨rb,hrb⟩:∃rb,rb=reserved.contains (bytes s):=⟨_,rfl⟩
 have HN:Hid (nameB (bytes s)=!rb):=by
  show _=_;unfold nameB;rw[hrb];rw[hl,decide_eq_true (show 1≤s.size by omega),decide_eq_true (show s.size≤16 by omega),(List.all_eq_true).2 (λ i hi=>HK.out i (List.mem_range.1 hi))];rfl
 rw[← hrb] at hba;clear hrb;go_wp2_with fail;go_at_call 111;refine (hba _).mono ?_;rintro e w2 ⟨rfl,rfl⟩;go_wp2;go_ret
 exact⟨by rw[HN.out];rfl,rfl⟩
theorem evenT_mk (kind:Int) (name:ByteArray) (nn:Nat) (names:Nat→ByteArray) (pn:Nat) (parts:Nat→Ty) (many:Bool):
  gA (.mk kind name nn names pn parts many)=((decide (kind=3) && (List.range pn).any λ i=>gA (parts i)) || decide (kind=2)):=by rw[gA]
theorem TyV.part {kind : Int} {names : Nat→ByteArray} {parts : Nat→Ty} (h:TyV w (.mk kind name nn names pn parts many) v):
  ∃na nc pa pc,v=.agg #[.int .i64 kind,.string name,.slice na nn nc,.slice pa pn pc,.bool many]∧Strs w na nn names∧nn≤9223372036854775807∧pn≤9223372036854775807∧-9223372036854775808≤kind∧kind≤9223372036854775807∧name.size≤9223372036854775807∧(∀j,j<nn→(names j).size≤9223372036854775807)∧(nn≤nc∧nc≤9223372036854775807∧pn≤pc∧pc≤9223372036854775807)
  ∧ Hid (0<pn→∃b o,pa=some ⟨b,o,none⟩∧b<w.heap.size∧∀j,j<pn→∃k0 k1 k2 k3 k4,w.cell? ⟨b,o+j*5,none⟩=some k0∧w.cell? ⟨b,o+j*5+1,none⟩=some k1∧w.cell? ⟨b,o+j*5+2,none⟩=some k2∧w.cell? ⟨b,o+j*5+3,none⟩=some k3∧w.cell? ⟨b,o+j*5+4,none⟩=some k4
   ∧ TyV w (parts j) (.agg #[k0,k1,k2,k3,k4])):=by
 unfold TyV at h;obtain⟨na,nc,pa,pc,rfl,h1,h2,h3,h4,h5,h6,h7,h8,h9⟩:=h;exact⟨na,nc,pa,pc,rfl,h1,h5,h6,h3,h4,h7,h8,h9,h2⟩
section
def Few:Ty→Prop
 | .leaf=>False
 | .mk _ _ _ _ pn parts _=>pn≤7∧∀i,i<pn→Few (parts i)∧sizeT (parts i)≤12
theorem rnd_le (e:Bool) (n:Nat):n≤rnd e n∧rnd e n≤n+1:=by unfold rnd;split<;>omega
theorem place_le {sz:Nat→Nat}{ev:Nat→Bool}{n:Nat}(h:∀i,i<n→sz i≤12):∀k,k≤n→bR sz ev k≤13*k
 | 0,_=>by simp [bR]
 | k+1,hk=>by
  have h1:=place_le (ev:=ev) h k (by omega);have h2:=h k (by omega);have h3:=(rnd_le (ev (k+1)) (bR sz ev k+sz k)).2;unfold bR;omega
def evs (T:Ty)(pn:Nat)(parts:Nat→Ty):Nat→Bool:=λ i=>if i<pn then gA (parts i) else gA T
theorem sizeT_mk (kind:Int) (name:ByteArray) (nn:Nat) (names:Nat→ByteArray) (pn:Nat) (parts:Nat→Ty) (many:Bool):
  sizeT (.mk kind name nn names pn parts many)=if kind=2 then 2 else if kind=3 then bR (λ i=>sizeT (parts i)) (evs (.mk kind name nn names pn parts many) pn parts) pn else 1:=by
 rw[sizeT];rfl
def endN (sz:Nat→Nat)(ev:Nat→Bool):Nat→Nat
 | 0=>0
 | i+1=>bR sz ev i+sz i
theorem place_end (sz:Nat→Nat) (ev:Nat→Bool):∀k,bR sz ev k=rnd (ev k) (endN sz ev k)
 | 0=>by simp [bR,endN,rnd]
 | k+1=>rfl
variable {kind : Int} {names : Nat → ByteArray} {parts : Nat → Ty}
end
section
theorem sizeT_le :∀{T:Ty},mayN d T=true→Few T∧sizeT T≤12:=by
 induction d with
 | zero=>intro T h;simp [mayN] at h
 | succ d ih=>
  intro T h;rcases T with _|⟨kind,name,nn,names,pn,parts,many⟩
  ·rw[mayN_leaf] at h;cases h
  have f:=may_facts h;refine⟨?_,?_⟩
  ·unfold Few;exact⟨f.1,λ i hi=>ih (f.2.2.1 i hi)⟩
  rcases f.2.2.2 with⟨_,_,_,_,_,_,_,e⟩|⟨rfl,_⟩|⟨rfl,_⟩|⟨rfl,_⟩
  ·exact e
  all_goals (rw[sizeT_mk];simp)
def dY (names:Nat→ByteArray)(i:Nat):Bool:=nameB (bytes (names i)) && !((List.range i).any λ j=>decide (names j=names i))
theorem mayN_succ (d:Nat) (kind:Int) (name:ByteArray) (nn:Nat) (names:Nat→ByteArray) (pn:Nat) (parts:Nat→Ty) (many:Bool):mayN (d+1) (.mk kind name nn names pn parts many) =
  (decide (pn≤7) && decide (nn≤6) && ((List.range pn).all λ i=>mayN d (parts i)) &&
  (if kind=3 then !many && nameB (bytes name) && decide (1≤pn) && decide (pn≤6) && decide (nn=pn) && ((List.range pn).all λ i=>dY names i) && decide (sizeT (.mk kind name nn names pn parts many)≤12)
   else decide (name.size=0) && decide (nn=0) && (if kind=4 then decide (1≤pn) else (decide (kind=1) || decide (kind=2)) && decide (pn=0) && !many))):=by
 rw[mayN];rfl
theorem all_upto (h:∀j,j<n→p j=true):(List.range n).all p=true:=by simpa using h
theorem all_at (hk:k<n) (h:p k=false):(List.range n).all p=false:=by
 rw[Bool.eq_false_iff];intro e;rw[List.all_eq_true] at e;have:=e k (List.mem_range.2 hk);rw[h] at this;cases this
variable {kind : Int} {names : Nat → ByteArray} {parts : Nat → Ty}
end
def seenN (names:Nat→ByteArray)(k:Nat)(s:ByteArray):Int:=if ((List.range k).any λ j=>decide (names j=s))=true then 1 else 0
theorem seen_succ (names:Nat→ByteArray) (k:Nat) (s:ByteArray) (h:¬ names k=s):seenN names (k+1) s=seenN names k s:=by
 unfold seenN;rw[List.range_succ,List.any_append];simp [h]
theorem seen_same (names:Nat→ByteArray) (k:Nat):seenN names (k+1) (names k)=1:=by
 unfold seenN;rw[List.range_succ,List.any_append];simp
structure Seen (names:Nat→ByteArray)(mb k:Nat)(D:DataW Unit)(w:World):Prop where
 own:w.ownsMap prog 9 (plainElem prog 3) mb k D
 map:Maps.IsMap D
 at':∀s:ByteArray,D.atKey (.string s.data.toList) (.lit (.int .i64 0))=.lit (.int .i64 (seenN names k s))
theorem Seen.made (names:Nat→ByteArray) (w:World):Seen names w.heap.size 0 (.map []) (w.alloc (.map #[] 0)):=
 ⟨World.ownsMap_made w _ _ _,Maps.isMap_empty,λ s=>WideAt.atKey_none _ (by simp)⟩
theorem Seen.look {names : Nat→ByteArray} (h:Seen names mb k D w) (s:ByteArray) (hs:s.size≤maxLen):
  (Instr.lookup 40 (.map (some mb)) (.string s) false).run prog w=.ok (.int .i64 (seenN names k s)) w:=by
 obtain⟨c,hrun,hat,hwc⟩:=h.own.lookup_int (t:=40) (e:=3) (q:=.i64) (Maps.string_keyed underlying9) underlying40 underlying3 (zeroValue3 _) (WideMaps.keyOf_string_mk underlying9 hs);rw[h.at' s] at hat;cases hat;exact hrun
theorem Seen.put {names : Nat→ByteArray} (h:Seen names mb k D w) (hk:k<1000) (hs:(names k).size≤maxLen):
  ∃w' D',(Instr.mapUpdate 40 (.map (some mb)) (.string (names k)) (.int .i64 1)).run prog w=.ok () w'∧Seen names mb (k+1) D' w'∧w.grownBy w' (some mb):=by
 have hm:maxLen=9223372036854775807:=rfl;obtain⟨w',h1,h2,h3⟩:=h.own.update (t:=40) (e:=3) (Maps.string_keyed underlying9) underlying40 (by omega) (WideMaps.keyOf_string_mk underlying9 hs) (plainElem_int underlying3 (q:=.i64) (a:=1) (by decide));refine⟨w',_,h1,⟨h2,h.map.put _ _,λ s=>?_⟩,h3⟩;by_cases e:names k=s
 ·subst e;rw[Maps.atKey_put_same h.map (show WideAt.IsKeyLit (.string (names k).data.toList) from trivial),seen_same]
 rw[Maps.atKey_put_other (λ x=>e (ByteArray.ext (Array.toList_inj.1 (by injection x with y;first|exact y|exact y.symm)))),h.at' s,seen_succ names k s e]
theorem names_bad {names : Nat→ByteArray} (hk:k<nn) (h:dY names k=false):(decide (1≤nn) && decide (nn≤6) && (List.range nn).all λ i=>dY names i)=false:=by
 rw[all_at hk h];simp
theorem fieldNames_any (na:Option Addr) (nn nc:Nat) (names:Nat→ByteArray) (w:World) (hS:Strs w na nn names) (hz:nn≤9223372036854775807) (hl:∀j,j<nn→(names j).size≤9223372036854775807):
  Calls prog 83 #[.slice na nn nc] w λ e w'=>e=.returned (.bool (decide (1≤nn) && decide (nn≤6) && (List.range nn).all λ i=>dY names i))∧Below w.heap.size w w':=by
 have hm:maxLen=9223372036854775807:=rfl;by_cases a1:nn<1
 ·rw[decide_eq_false (show ¬ 1≤nn by omega)];have d1:(nn:Int)<1:=by omega
  go_enter func83,ntmps83;go_wp2;go_ret
  exact⟨rfl,Below.refl _ _⟩
 have d1:¬ (nn:Int)<1:=by omega
 by_cases a2:6<nn
 ·rw[decide_eq_false (show ¬ nn≤6 by omega)];have d2:(6:Int)<nn:=by omega
  go_enter func83,ntmps83;go_wp2;go_ret
  exact⟨rfl,Below.refl _ _⟩
 have d2:¬ (6:Int)<nn:=by omega
 obtain⟨b,o,rfl,hb,hc⟩:=hS (by omega);have HC:=ah hc;have HS:=ah (Seen.made names w);have hmm:=@run_makeMap prog;have hB0:Below w.heap.size w (w.alloc (.map #[] 0)):=(Below.refl _ _).alloc (Nat.le_refl _) _;clear hc hS;go_enter func83,ntmps83;go_wp2;generalize w.alloc (.map #[] 0)=W at *;have HB0:=ah hB0;clear hB0 hmm;go_loopw [17] (λ i wr=>∃(k:Nat) (D:DataW Unit),k≤nn∧i=.int .i64 k∧Hid (Below w.heap.size w wr)∧Hid (Seen names w.heap.size k D wr)∧Hid (∀j,j<k→dY names j=true)) (λ i _=>nn - (intOf i).toNat)
 case atStart=>exact⟨0,_,Nat.zero_le _,rfl,HB0,HS,λ j hj=>by omega⟩
 clear HS HB0;obtain⟨k,D,hk,rfl,HB,HS,HK⟩:=hrel;by_cases hlt:k<nn
 ·have hlt':(k:Int)<nn:=by omega
  have hidx:(0:Int)≤k∧(k:Int)<nn:=by omega
  have r1:wr.cell? ⟨b,o+k,none⟩=some (.string (names k)):=(HB.cell (p:=⟨b,o+k,none⟩) hb).trans (HC k hlt);have hnm:=λ w'=>pname_any (names k) w' (by have:=hl k hlt;omega);have hlk:=HS.look (names k) (by have:=hl k hlt;omega);cases hN:nameB (bytes (names k)) with
  | false=>
   rw[hN] at hnm;have HF:=ah (names_bad hlt (show dY names k=false by unfold dY;rw[hN];rfl));clear hlk;go_wp2_with fail;go_at_call 82;refine (hnm _).mono ?_;rintro e w1 ⟨rfl,rfl⟩;go_wp2;go_ret
   exact⟨by rw[HF.out];rfl,HB⟩
  | true=>
   rw[hN] at hnm;cases hA:((List.range k).any λ i=>decide (names i=names k)) with
   | true=>
    rw[show seenN names k (names k)=1 by unfold seenN;rw[hA];rfl] at hlk;have HF:=ah (names_bad hlt (show dY names k=false by unfold dY;rw[hN,hA];rfl));go_wp2_with fail;go_at_call 82;refine (hnm _).mono ?_;rintro e w1 ⟨rfl,rfl⟩;go_wp2;go_ret
    exact⟨by rw[HF.out];rfl,HB⟩
   | false=>
    rw[show seenN names k (names k)=0 by unfold seenN;rw[hA];rfl] at hlk;have HK1:Hid (∀j,j<k+1→dY names j=true):=λ j hj=>by
     by_cases e:j=k
     ·subst e;unfold dY;rw[hN,hA];rfl
     exact HK j (by omega)
    obtain⟨w2,D2,hup,hS2,hg⟩:=HS.put (by omega) (by have:=hl k hlt;omega);have HB2:Hid (Below w.heap.size w w2):=HB.grown hg HB.size (λ k e=>by cases e;exact Nat.le_refl _);have HS2:=ah hS2;have HG:=ah hg;clear hS2 hg;go_wp2_with fail;go_at_call 82;refine (hnm _).mono ?_;rintro e w1 ⟨rfl,rfl⟩;go_wp2;go_roundw
    case rel=>exact⟨k+1,D2,by omega,by go_num,HB2,HS2,HK1⟩
    case measure=>simp [intOf];omega
 obtain rfl:k=nn:=by omega
 have hlt':¬ (k:Int)<k:=by omega
 go_wp2;go_ret
 exact⟨by rw[all_upto HK.out,decide_eq_true (show 1≤k by omega),decide_eq_true (show k≤6 by omega)];rfl,HB⟩
theorem TyV.shape {T : Ty} {k0 k1 k2 k3 k4 : Value} (h:TyV w T (.agg #[k0,k1,k2,k3,k4])):∃kind name na nn nc pa pn pc many,k0=.int .i64 kind∧k1=.string name∧k2=.slice na nn nc∧k3=.slice pa pn pc∧k4=.bool many:=by
 rcases T with _|⟨kind,name,nn,names,pn,parts,many⟩
 ·exact (TyV_leaf h).elim
 obtain⟨na,nc,pa,pc,e,_⟩:=h.part;cases e;exact⟨_,_,_,_,_,_,_,_,_,rfl,rfl,rfl,rfl,rfl⟩
theorem peven_any:∀(T:Ty)(v:Value)(w:World),TyV w T v→Calls prog 113 #[v] w λ e w'=>e=.returned (.bool (gA T))∧Below w.heap.size w w':=by
 intro T;induction T with
 | leaf=>intro v w hv;exact (TyV_leaf hv).elim
 | mk kind name nn names pn parts many ih=>
  intro v w hv;rw[evenT_mk];obtain⟨na,nc,pa,pc,rfl,hS,q1,q2,q3,q4,q5,q6,q7,HP⟩:=hv.part;have HT:=ah hv;have HI:=ah ih;clear ih hv hS;have hB0:Below w.heap.size w (w.alloc (.cells #[.int .i64 kind,.string name,.slice na nn nc,.slice pa pn pc,.bool many] 83)):=(Below.refl _ _).alloc (Nat.le_refl _) _;by_cases k3:kind=3
  ·subst k3;go_enter func113,ntmps113;go_wp2;have hx0:∀o,(w.alloc (.cells #[.int .i64 3,.string name,.slice na nn nc,.slice pa pn pc,.bool many] 83)).cell? ⟨w.heap.size,o,none⟩=(#[Value.int .i64 3,.string name,.slice na nn nc,.slice pa pn pc,.bool many])[o]?:=λ o=>World.cell?_alloc_at _ _ _ _ rfl;have hz0:(w.alloc (.cells #[.int .i64 3,.string name,.slice na nn nc,.slice pa pn pc,.bool many] 83)).heap.size=w.heap.size+1:=by simp
   generalize w.alloc (.cells #[.int .i64 3,.string name,.slice na nn nc,.slice pa pn pc,.bool many] 83)=W at *;have HX:=ah (And.intro hx0 (And.intro hz0 hB0));clear hx0 hz0 hB0;go_loopw [14] (λ i wr=>∃k:Nat,k≤pn∧i=.int .i64 k∧Hid (Below W.heap.size W wr)∧Hid (∀j,j<k→gA (parts j)=false)) (λ i _=>pn - (intOf i).toNat)
   case atStart=>exact⟨0,Nat.zero_le _,rfl,Below.refl _ _,λ j hj=>by omega⟩
   obtain⟨k,hk,rfl,HB,HK⟩:=hrel;have hx1:∀o,wr.cell? ⟨w.heap.size,o,none⟩=(#[Value.int .i64 3,.string name,.slice na nn nc,.slice pa pn pc,.bool many])[o]?:=λ o=>(HB.cell (p:=⟨w.heap.size,o,none⟩) (by show w.heap.size<_;rw[HX.out.2.1];omega)).trans (HX.1 o);have HBw:Hid (Below w.heap.size w wr):=HX.2.2.trans (HB.mono (by rw[HX.out.2.1];omega));by_cases hlt:k<pn
   ·have hlt':(k:Int)<pn:=by omega
    have hidx:(0:Int)≤k∧(k:Int)<pn:=by omega
    obtain⟨b,o,rfl,hb,hc⟩:=HP (by omega);obtain⟨c0,c1,c2,c3,c4,g0,g1,g2,g3,g4,g5⟩:=hc k hlt;obtain⟨kd,nm,xa,xn,xc,ya,yn,yc,my,rfl,rfl,rfl,rfl,rfl⟩:=g5.shape;have hcal:=λ w' hw=>HI k _ w' (g5.below hw);have e0:wr.cell? ⟨b,o+k*5,none⟩=some (.int .i64 kd):=(HBw.cell (p:=⟨b,o+k*5,none⟩) hb).trans g0;have e1:wr.cell? ⟨b,o+k*5+1,none⟩=some (.string nm):=(HBw.cell (p:=⟨b,o+k*5+1,none⟩) hb).trans g1;have e2:wr.cell? ⟨b,o+k*5+2,none⟩=some (.slice xa xn xc):=(HBw.cell (p:=⟨b,o+k*5+2,none⟩) hb).trans g2;have e3:wr.cell? ⟨b,o+k*5+3,none⟩=some (.slice ya yn yc):=(HBw.cell (p:=⟨b,o+k*5+3,none⟩) hb).trans g3;have e4:wr.cell? ⟨b,o+k*5+4,none⟩=some (.bool my):=(HBw.cell (p:=⟨b,o+k*5+4,none⟩) hb).trans g4;clear g0 g1 g2 g3 g4 g5 hc;cases hE:gA (parts k) with
    | true=>
     rw[hE] at hcal;go_wp2_with fail;go_at_call 113;refine (hcal _ (HBw.alloc HBw.size _)).mono ?_;rintro e w1 ⟨rfl,hb1⟩;have HB1:Hid (Below w.heap.size w w1):=(HBw.alloc HBw.size _).trans (hb1.mono (HBw.alloc HBw.size _).size);clear hb1;go_wp2;go_ret
     exact⟨by rw[any_at hlt hE];rfl,HB1⟩
    | false=>
     rw[hE] at hcal;have HK1:Hid (∀j,j<k+1→gA (parts j)=false):=λ j hj=>by
      by_cases e:j=k
      ·subst e;exact hE
      exact HK j (by omega)
     go_wp2_with fail;go_at_call 113;refine (hcal _ (HBw.alloc HBw.size _)).mono ?_;rintro e w1 ⟨rfl,hb1⟩;have HB1:Hid (Below W.heap.size W w1):=(HB.alloc HB.size _).trans (hb1.mono (HB.alloc HB.size _).size);clear hb1;go_wp2;go_roundw
     case rel=>exact⟨k+1,by omega,by go_num,HB1,HK1⟩
     case measure=>simp [intOf];omega
   have hkn:k=pn:=by omega
   subst hkn;have hlt':¬ (k:Int)<k:=by omega
   go_wp2;go_ret
   exact⟨by rw[any_upto HK.out];rfl,HBw⟩
  have k3':(kind == 3)=false:=by simpa using k3
  rw[decide_eq_false k3];by_cases k2:kind=2
  ·subst k2;go_enter func113,ntmps113;go_wp2;go_ret
   exact⟨rfl,hB0⟩
  have k2':(kind == 2)=false:=by simpa using k2
  rw[decide_eq_false k2];go_enter func113,ntmps113;go_wp2;go_ret
  exact⟨rfl,hB0⟩
section
open Go.RowKit Go.Shelf
def is25 (o:Obj):Prop:=∃cur,o=.cells cur 83 (0,0)
structure Kp (n:Nat)(A B:World):Prop where
 below:Below n A B
 types:∀(k:Nat) (o:Obj),A.heap[k]?=some o→is25 o→B.heap[k]?=some o
theorem Kp.trans {C : World} (h:Kp n A B) (k:Kp n B C):Kp n A C:=⟨h.below.trans k.below,λ i o hi ho=>k.types i o (h.types i o hi ho) ho⟩
theorem Kp.of (h:Below A.heap.size A B) (hn:n≤A.heap.size):Kp n A B:=
 ⟨h.mono hn,λ i o hi _=>(h.block i (Array.getElem?_eq_some_iff.1 hi).1).trans hi⟩
theorem kp_put {m : Nat} (hn:n≤m) (W:World) (l:Nat) (o o':Obj) (hl:m≤l) (h:W.heap[l]?=some o) (hc:o.isCells=false) (hw:o.isWalk=false):Kp n W (W.putObj l o'):=by
 have hg:=grownBy_putObj' W l o';refine⟨(Below.refl n W).grown hg (by have:=(Array.getElem?_eq_some_iff.1 h).1;omega) (λ k e=>by cases e;omega),λ i q hi hq=>?_⟩;by_cases e:i=l
 ·subst e;obtain⟨cur,rfl⟩:=hq;rw[h] at hi;cases hi;cases hc
 exact (World.putObj_heap_other e).trans hi
theorem grown_of (h:Below A.heap.size A B):A.grownBy B none:=⟨h.os,h.tape,h.output,h.size,λ k hk _=>h.block k hk⟩
theorem keeps_of (h:Below A.heap.size A B):KeepsFrom n A B:=⟨h.size,λ k o _ hk _=>(h.block k (Array.getElem?_eq_some_iff.1 hk).1).trans hk⟩
theorem Boxed.below {W W' : World} {B : Nat} {t : TypeId} (h:Boxed W B t v) (hb:Below W.heap.size W W'):Boxed W' B t v:=h.kept (grown_of hb) (by simp)
def PartsAt (w:World)(pa:Option Addr)(pn:Nat)(parts:Nat→Ty)(pv:Nat→Value):Prop:=∀i,i<pn→∃b o kd nm xa xn xc ya yn yc my,pa=some ⟨b,o,none⟩∧b<w.heap.size∧pv i=.agg #[.int .i64 kd,.string nm,.slice xa xn xc,.slice ya yn yc,.bool my]
 ∧ w.cell? ⟨b,o+i*5,none⟩=some (.int .i64 kd)∧w.cell? ⟨b,o+i*5+1,none⟩=some (.string nm)∧w.cell? ⟨b,o+i*5+2,none⟩=some (.slice xa xn xc)∧w.cell? ⟨b,o+i*5+3,none⟩=some (.slice ya yn yc)∧w.cell? ⟨b,o+i*5+4,none⟩=some (.bool my)
 ∧ TyV w (parts i) (pv i)
theorem parts_at {pa : Option Addr} {parts : Nat→Ty}(h:0<pn→∃b o,pa=some ⟨b,o,none⟩∧b<w.heap.size∧∀j,j<pn→∃k0 k1 k2 k3 k4,w.cell? ⟨b,o+j*5,none⟩=some k0∧w.cell? ⟨b,o+j*5+1,none⟩=some k1∧w.cell? ⟨b,o+j*5+2,none⟩=some k2∧w.cell? ⟨b,o+j*5+3,none⟩=some k3∧w.cell? ⟨b,o+j*5+4,none⟩=some k4
   ∧ TyV w (parts j) (.agg #[k0,k1,k2,k3,k4])):∃pv,PartsAt w pa pn parts pv:=by
 by_cases hp:0<pn
 ·obtain⟨b,o,rfl,hb,hc⟩:=h hp;refine⟨λ i=>.agg #[(w.cell? ⟨b,o+i*5,none⟩).getD undef,(w.cell? ⟨b,o+i*5+1,none⟩).getD undef,(w.cell? ⟨b,o+i*5+2,none⟩).getD undef,(w.cell? ⟨b,o+i*5+3,none⟩).getD undef,(w.cell? ⟨b,o+i*5+4,none⟩).getD undef],λ i hi=>?_⟩;obtain⟨c0,c1,c2,c3,c4,g0,g1,g2,g3,g4,g5⟩:=hc i hi;obtain⟨kd,nm,xa,xn,xc,ya,yn,yc,my,rfl,rfl,rfl,rfl,rfl⟩:=g5.shape;refine⟨b,o,kd,nm,xa,xn,xc,ya,yn,yc,my,rfl,hb,?_,g0,g1,g2,g3,g4,?_⟩
  ·simp only[g0,g1,g2,g3,g4,Option.getD_some]
  simp only[g0,g1,g2,g3,g4,Option.getD_some];exact g5
 exact⟨λ_=>undef,λ i hi=>by omega⟩
def upto (pn k:Nat):List (Fin pn):=(List.finRange pn).take k
theorem upto_succ (hk:k<pn):upto pn (k+1)=upto pn k++[⟨k,hk⟩]:=by
 unfold upto;rw[List.take_add_one];simp [hk]
theorem upto_len (hk:k≤pn):(upto pn k).length=k:=by simp [upto];omega
theorem upto_all (pn:Nat):upto pn pn=List.finRange pn:=by unfold upto;exact List.take_of_length_le (by simp)
end
end Go.Proofs.YtdnhbedbpbgeeaaGreatDoor.T
