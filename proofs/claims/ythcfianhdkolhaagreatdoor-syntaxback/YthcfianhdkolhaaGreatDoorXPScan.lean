/- XToken XPScan -/
import Derived.Test.YthcfianhdkolhaaGreatDoorXPPass
namespace Go.Proofs.YthcfianhdkolhaaGreatDoor.X
open Go.RowKit
set_option maxRecDepth 100000
set_option maxHeartbeats 2000000
set_option linter.unusedVariables false
set_option linter.unusedSimpArgs false
variable {w0 w : World} {b : Nat} {t : ByteArray} {c p : Int} {i : Nat} {L : List Tok}
def TkPost (w0 w':World) (b:Nat) (t:ByteArray) (c p:Int) (i:Nat) (L:List Tok) (k:Look):Prop:=if k.code=0 then Sc w0 w' b t c p k.next (L++[⟨k.kind,k.text,i⟩]) else Sc w0 w' b t k.code i i L
theorem byteAt_ext (t:ByteArray) (i j k:Nat) (h:i+k<j) (hj:j≤t.size):byteAt (t.extract i j) k=byteAt t (i+k):=by
 unfold byteAt
 rw [← Array.getElem?_toList,← Array.getElem?_toList,Lib.extract_data,List.getElem?_take_of_lt (by omega),List.getElem?_drop]
theorem token_any (G:Gl w0) (h:Sc w0 w b t c p i L) (hi:i<t.size):Calls Tryz.prog 18 #[.pointer (some ⟨b,0,none⟩)] w fun e w'=>(∃ v,e=.returned v)∧TkPost w0 w' b t c p i L (look t i):=by
 have hlen:=h.len
 have HS:=hide h
 obtain ⟨v,h1,h2⟩:=h.blk
 have hc:=cells_at h1
 clear h h1 h2
 have hi':(i:Int)<t.size:=by omega
 have hidx:(0:Int)≤i∧(i:Int)<t.size:=by omega
 have hb8:t[i].toNat<256:=UInt8.toNat_lt _
 have HBy:=hide (byteAt_get t i hi)
 have hle:=fun w'=>pletter_any t[i].toNat w' hb8
 have hdi:=fun w'=>pdigit_any t[i].toNat w' hb8
 obtain ⟨lk,hlk⟩:∃ lk,lk=look t i:=⟨_,rfl⟩
 rw [← hlk]
 have HLk:=hide hlk
 clear hlk
 cases hL:letB t[i].toNat with
 | true=>
  rw [hL] at hle
  have HI:Hid (insB (byteAt t i)=true):=by show _=_;rw [HBy.out];exact let_ins hL
  have HLt:Hid (letB (byteAt t i)=true):=by show _=_;rw [HBy.out];exact hL
  clear hL
  go_enter Tryz.func18,Tryz.ntmps18
  go_wp2_with fail
  go_quiet (fail)
  generalize nq=q
  have hS:Sc w0 (w.drewN q) b t c p i L:=HS.out.kept (below_drew (Below.refl _ _) _)
  have HS1:=hide hS
  clear hS hc
  generalize w.drewN q=w1 at *
  go_wp2_with fail
  go_at_call 42
  refine (hle _).mono ?_
  rintro e w2 ⟨rfl,rfl⟩
  go_wp2_with fail
  go_at_call 40
  refine (row_ins_any HS1.out insB rfl).mono ?_
  rintro e w3 ⟨j,q1,q2,q3,q4,rfl,hb3⟩
  have he:=rowEnd_eq q1 q2 q3 q4
  have hgt:=rowEnd_gt hi HI.out
  rw [he] at hgt
  have hex:(t.extract i j).size=j - i:=by rw [ByteArray.size_extract];omega
  have hwd:=word_any (HS1.out.kept hb3) (t.extract i j) (by omega) (by omega)
  have HF:Hid (∀ w':World,(if 16<(t.extract i j).size then Sc w0 w' b t 1 i i L else Sc w0 w' b t c p (i+(t.extract i j).size) (L++[⟨1,t.extract i j,i⟩]))→TkPost w0 w' b t c p i L lk):=fun w' hw=>by
   have e1:lk=⟨if 16<j - i then 1 else 0,1,t.extract i j,j⟩:=by
    rw [HLk.out]
    unfold look
    rw [HLt.out,he]
    rfl
   unfold TkPost
   rw [hex] at hw
   by_cases h16:16<j - i
   ·rw [if_pos h16] at hw
    rw [e1,if_neg (by simp [h16])]
    rw [if_pos h16]
    exact hw
   ·rw [if_neg h16] at hw
    rw [e1,if_pos (by simp [h16])]
    rw [show i+(j - i)=j by omega] at hw
    exact hw
  clear he hex q3 q4 hb3 HS1 HS
  go_wp2_with fail
  go_at_call 43
  refine hwd.mono ?_
  rintro e w4 ⟨⟨v4,rfl⟩,hw4⟩
  have HW:=hide (HF.out w4 hw4)
  clear hw4 HF
  go_wp2_with fail
  go_end0
  exact ⟨⟨_,rfl⟩,HW.out⟩
 | false=>
 rw [hL] at hle
 cases hD:digB t[i].toNat with
 | true=>
  rw [hD] at hdi
  have HI:Hid (insB (byteAt t i)=true):=by show _=_;rw [HBy.out];exact dig_ins hD
  have HLt:Hid (letB (byteAt t i)=false∧digB (byteAt t i)=true):=by show _∧_;rw [HBy.out];exact ⟨hL,hD⟩
  clear hL hD
  go_enter Tryz.func18,Tryz.ntmps18
  go_wp2_with fail
  go_quiet (fail)
  generalize nq=q
  have hS:Sc w0 (w.drewN q) b t c p i L:=HS.out.kept (below_drew (Below.refl _ _) _)
  have HS1:=hide hS
  clear hS hc
  generalize w.drewN q=w1 at *
  go_wp2_with fail
  go_at_call 42
  refine (hle _).mono ?_
  rintro e w2 ⟨rfl,rfl⟩
  go_wp2_with fail
  go_at_call 45
  refine (hdi _).mono ?_
  rintro e w2 ⟨rfl,rfl⟩
  go_wp2_with fail
  go_at_call 40
  refine (row_ins_any HS1.out insB rfl).mono ?_
  rintro e w3 ⟨j,q1,q2,q3,q4,rfl,hb3⟩
  have he:=rowEnd_eq q1 q2 q3 q4
  have hgt:=rowEnd_gt hi HI.out
  rw [he] at hgt
  have hex:(t.extract i j).size=j - i:=by rw [ByteArray.size_extract];omega
  have hwd:=number_any G (HS1.out.kept hb3) (t.extract i j) (by omega) (by omega) (by rw [byteAt_ext t i j 0 (by omega) q2];exact HLt.out.2)
  have HF:Hid (∀ w':World,NumPost w0 w' b t c p i L (t.extract i j)→TkPost w0 w' b t c p i L lk):=fun w' hw=>by
   have e1:lk=⟨rowCode (t.extract i j),if isL (t.extract i j) then 3 else 2,rowText (t.extract i j),j⟩:=by
    rw [HLk.out]
    unfold look
    rw [HLt.out.1,HLt.out.2,he]
    rfl
   unfold NumPost at hw
   unfold TkPost
   rw [hex,show i+(j - i)=j by omega] at hw
   rw [e1]
   exact hw
  clear he hex q3 q4 hb3 HS1 HS
  go_wp2_with fail
  go_at_call 46
  refine hwd.mono ?_
  rintro e w4 ⟨⟨v4,rfl⟩,hw4⟩
  have HW:=hide (HF.out w4 hw4)
  clear hw4 HF
  go_wp2_with fail
  go_end0
  exact ⟨⟨_,rfl⟩,HW.out⟩
 | false=>
  rw [hD] at hdi
  have HLt:Hid (letB (byteAt t i)=false∧digB (byteAt t i)=false):=by show _∧_;rw [HBy.out];exact ⟨hL,hD⟩
  clear hL hD
  go_enter Tryz.func18,Tryz.ntmps18
  go_wp2_with fail
  go_quiet (fail)
  generalize nq=q
  have hS:Sc w0 (w.drewN q) b t c p i L:=HS.out.kept (below_drew (Below.refl _ _) _)
  have HS1:=hide hS
  clear hS hc
  generalize w.drewN q=w1 at *
  have hwd:=psign_any HS1.out hi
  have HF:Hid (∀ w':World,SgPost w0 w' b t c p i L (signOf (t.extract i t.size))→TkPost w0 w' b t c p i L lk):=fun w' hw=>by
   have e1:lk=⟨if (signOf (t.extract i t.size)).size=0 then 2 else 0,4,signOf (t.extract i t.size),i+(signOf (t.extract i t.size)).size⟩:=by
    rw [HLk.out]
    unfold look
    rw [HLt.out.1,HLt.out.2]
    rfl
   unfold SgPost at hw
   unfold TkPost
   rw [e1]
   by_cases h0:(signOf (t.extract i t.size)).size=0
   ·rw [if_pos h0] at hw
    rw [if_neg (by simp [h0]),if_pos h0]
    exact hw
   ·rw [if_neg h0] at hw
    rw [if_pos (by simp [h0])]
    exact hw
  go_wp2_with fail
  go_at_call 42
  refine (hle _).mono ?_
  rintro e w2 ⟨rfl,rfl⟩
  go_wp2_with fail
  go_at_call 45
  refine (hdi _).mono ?_
  rintro e w2 ⟨rfl,rfl⟩
  go_wp2_with fail
  go_at_call 47
  refine hwd.mono ?_
  rintro e w4 ⟨⟨v4,rfl⟩,hw4⟩
  have HW:=hide (HF.out w4 hw4)
  clear hw4 HF
  go_wp2_with fail
  go_end0
  exact ⟨⟨_,rfl⟩,HW.out⟩
end Go.Proofs.YthcfianhdkolhaaGreatDoor.X
namespace Go.Proofs.YthcfianhdkolhaaGreatDoor.X
open Go.RowKit
set_option maxRecDepth 100000
set_option maxHeartbeats 2000000
set_option linter.unusedVariables false
set_option linter.unusedSimpArgs false
theorem own_set25 {w:World} {ob:Nat} {v:Value} {n:Nat} {xs:List Value} {b o:Nat} {x:Value} {cur:Array Value} (h:w.ownsRow ob 44 3 v n xs) (hb:w.heap[b]?=some (.cells cur 27 (0,0))):(w.setCell ⟨b,o,none⟩ x).ownsRow ob 44 3 v n xs:=by
 refine ⟨h.1,?_⟩
 rcases h.2 with h2|⟨g,cap,cu,hv,hg,hh,r⟩
 ·exact Or.inl h2
 ·refine Or.inr ⟨g,cap,cu,hv,hg,(Below.heap_setCell _ _ _ g (fun e=>?_)).trans hh,r⟩
  have e':g=b:=e
  rw [e',hb] at hh
  simp at hh
theorem end_cells {w2 w:World} {q:Nat} {a c:Value} (hq:w2.heap[q]?=some (.cells #[.int .i64 0,.int .i64 0] 27 (0,0))) (hw:w.heap.size≤q) (hB:Below w.heap.size w w2):
  (∀ o,((w2.setCell ⟨q,0,none⟩ a).setCell ⟨q,1,none⟩ c).drew.cell? ⟨q,o,none⟩=(#[a,c])[o]?)∧q<((w2.setCell ⟨q,0,none⟩ a).setCell ⟨q,1,none⟩ c).drew.heap.size∧Below w.heap.size w ((w2.setCell ⟨q,0,none⟩ a).setCell ⟨q,1,none⟩ c).drew∧∀ ob v n xs,w2.ownsRow ob 44 3 v n xs→((w2.setCell ⟨q,0,none⟩ a).setCell ⟨q,1,none⟩ c).drew.ownsRow ob 44 3 v n xs:=by
 have k1:(w2.setCell ⟨q,0,none⟩ a).heap[q]?=some (.cells #[a,.int .i64 0] 27 (0,0)):=(heap_setCell_same w2 q 0 _ 27 _ hq).trans rfl
 have k2:((w2.setCell ⟨q,0,none⟩ a).setCell ⟨q,1,none⟩ c).heap[q]?=some (.cells #[a,c] 27 (0,0)):=(heap_setCell_same _ q 1 _ 27 _ k1).trans rfl
 have k3:((w2.setCell ⟨q,0,none⟩ a).setCell ⟨q,1,none⟩ c).drew.heap[q]?=some (.cells #[a,c] 27 (0,0)):=k2
 exact ⟨cells_at k3,(Array.getElem?_eq_some_iff.1 k3).1,((hB.setCell hw _).setCell hw _).drew,fun ob v n xs h=>own_set25 (own_set25 h hq) k1⟩
theorem pscan_any (t:ByteArray) (w:World) (G:Gl w) (hm:t.size≤9223372036854775807):Calls Tryz.prog 10 #[.string t] w fun e w'=>∃ l,e=.returned (.tuple #[l,.agg #[.int .i64 (scan t).2.1,.int .i64 (scan t).2.2]])∧w'.ownsRow w.heap.size 44 3 l (scan t).1.length (toks (scan t).1)∧Below w.heap.size w w':=by
 obtain ⟨R,hR⟩:∃ R,R=scan t:=⟨_,rfl⟩
 rw [← hR]
 by_cases h4:4000<t.size
 ·unfold scan at hR
  have h4':(4000:Int)<t.size:=by omega
  rw [if_pos h4] at hR
  subst hR
  go_enter Tryz.func10,Tryz.ntmps10
  go_wp2_with fail
  refine bodyPost_ret (v:=.tuple #[.slice none 0 0,.agg #[.int .i64 1,.int .i64 0]]) (by simp [results,Tryz.results10,go_sem]) rfl ?_
  exact ⟨_,rfl,⟨rfl,Or.inl ⟨rfl,rfl⟩⟩,(Below.refl _ _).alloc (Nat.le_refl _) _⟩
 have h4':¬ (4000:Int)<t.size:=by omega
 rw [scan_at t (by omega)] at hR
 have HR:=hide hR
 clear hR
 go_enter Tryz.func10,Tryz.ntmps10
 go_wp2_with fail
 have hB0:Below w.heap.size w (w.alloc (.cells #[.int .i64 0,.int .i64 0] 27)):=(Below.refl _ _).alloc (Nat.le_refl _) _
 have hq0:(w.alloc (.cells #[.int .i64 0,.int .i64 0] 27)).heap[w.heap.size]?=some (.cells #[.int .i64 0,.int .i64 0] 27 (0,0)):=heap_alloc_new w _
 have hz0:(w.alloc (.cells #[.int .i64 0,.int .i64 0] 27)).heap.size=w.heap.size+1:=by simp
 have HG:=hide (G.below hB0)
 clear G
 generalize w.alloc (.cells #[.int .i64 0,.int .i64 0] 27)=W at *
 have HW:Hid (∀ w',Below W.heap.size W w'→Below w.heap.size w w'):=fun w' hw=>hB0.trans (hw.mono (by omega))
 have HQ:Hid (∀ w',Below W.heap.size W w'→(∀ o,w'.cell? ⟨w.heap.size,o,none⟩=(#[Value.int .i64 0,.int .i64 0])[o]?)∧(∀ o,w'.frozen? ⟨w.heap.size,o,none⟩=false)∧w.heap.size<w'.heap.size∧Hid (w'.heap[w.heap.size]?=some (.cells #[.int .i64 0,.int .i64 0] 27 (0,0)))):=fun w' hw=>by
  have e:=(hw.block w.heap.size (by omega)).trans hq0
  exact ⟨fun o=>by simp [World.cell?,e],fun o=>by simp only [World.frozen?,e];rfl,by have:=hw.size;omega,e⟩
 have HZ:=hide hz0
 have hS0:Sc W (W.alloc (.cells #[.int .i64 0,.int .i64 0,.string t,.int .i64 0,.slice none 0 0] 46)) (w.heap.size+1) t 0 0 0 []:=⟨by omega,Nat.zero_le _,Nat.le_refl _,by omega,⟨.slice none 0 0,by rw [← hz0];exact heap_alloc_new W _,⟨rfl,Or.inl ⟨rfl,rfl⟩⟩⟩,(Below.refl _ _).alloc (Nat.le_refl _) _⟩
 have hps:=pass_any hS0
 clear hq0 hB0 hz0 hS0
 generalize hbb:w.heap.size+1=b at *
 have HBb:=hide hbb
 clear hbb
 go_at_call 17
 refine hps.mono ?_
 rintro e w1 ⟨⟨v1,rfl⟩,j1,-,hS1,hT1,hE1⟩
 have HS1:=hide hS1
 have HR1:Hid (R=scanAt t j1 false []):=HR.out.trans (hT1 [])
 have HE1:=hide hE1
 clear hS1 hT1 hE1 hps HR
 go_wp2_with fail
 go_loopw [12] (fun _ wr=>∃ (i:Nat) (L:List Tok),Hid (Sc W wr b t 0 0 i L)∧Hid (R=scanAt t i false L)∧Hid (i=t.size∨blank false (byteAt t i)=false)) (fun _ wr=>t.size - X.atOf wr b)
 case atStart=>exact ⟨j1,[],HS1,HR1,HE1⟩
 case round=>
  obtain ⟨i,L,HS,HRi,HE⟩:=hrel
  clear HS1 HR1 HE1
  have hle:=HS.out.le
  obtain ⟨v,k1,k2⟩:=HS.out.blk
  have hc:=cells_at k1
  have HO:=hide k2
  clear k1 k2
  by_cases hlt:i<t.size
  ·have hlt':(i:Int)<t.size:=by omega
   have htk:=token_any HG.out HS.out hlt
   have HBl:Hid (blank false (byteAt t i)=false):=HE.out.resolve_left (by omega)
   have HTk:=hide (take_tok t i hlt HBl.out L)
   have hnx:=fun h=>look_next (t:=t) (i:=i) hlt h
   have HNx:=hide hnx
   clear hnx
   go_wp2_with fail
   go_at_call 18
   refine htk.mono ?_
   rintro e w2 ⟨⟨v2,rfl⟩,hp2⟩
   unfold TkPost at hp2
   by_cases hcode:(look t i).code=0
   ·rw [if_pos hcode] at hp2
    have HR2:Hid (R=scanAt t (look t i).next false (L++[⟨(look t i).kind,(look t i).text,i⟩])):=by show _=_;rw [HRi.out,HTk.out,if_pos hcode]
    have hnext:=HNx.out hcode
    have hps:=pass_any hp2
    obtain ⟨v3,m1,m2⟩:=hp2.blk
    have hc2:=cells_at m1
    clear m1 m2 hc htk hp2 hcode HNx HTk
    go_wp2_with fail
    go_at_call 17
    refine hps.mono ?_
    rintro e w3 ⟨⟨v4,rfl⟩,j3,hj3,hS3,hT3,hE3⟩
    have HS3:=hide hS3
    have HR3:Hid (R=scanAt t j3 false (L++[⟨(look t i).kind,(look t i).text,i⟩])):=HR2.out.trans (hT3 _)
    have HE3:=hide hE3
    have hj3i:i<j3:=by omega
    clear hS3 hT3 hE3 hps hc2
    go_wp2_with fail
    go_roundw
    case rel=>exact ⟨j3,_,HS3,HR3,HE3⟩
    case measure=>rw [HS3.out.atOf,HS.out.atOf];have:=HS3.out.le;omega
   ·rw [if_neg hcode] at hp2
    have hR2:R=([],(look t i).code,i):=by rw [HRi.out,HTk.out,if_neg hcode]
    obtain ⟨qx,qf,qz,QH⟩:=HQ.out w2 hp2.below
    have HB2:=hide (HW.out _ hp2.below)
    obtain ⟨v3,m1,m2⟩:=hp2.blk
    have hc2:=cells_at m1
    have hne:((look t i).code != 0)=true:=by simpa using hcode
    have hbq:w.heap.size≠b:=by have:=HBb.out;omega
    clear m1 m2 hc htk hp2 hcode HNx HTk
    generalize (look t i).code=code at *
    subst hR2
    go_wp2_with fail
    go_region
    all_goals go_wp2_with fail
    obtain ⟨y1,y2,y3,y4⟩:=end_cells (a:=.int .i64 code) (c:=.int .i64 i) QH.out (Nat.le_refl _) HB2.out
    generalize ((w2.setCell ⟨w.heap.size,0,none⟩ (.int .i64 code)).setCell ⟨w.heap.size,1,none⟩ (.int .i64 i)).drew=X at *
    refine bodyPost_ret (v:=.tuple #[.slice none 0 0,.agg #[.int .i64 code,.int .i64 i]]) (by simp [results,Tryz.results10,go_sem,y1,y2]) rfl ?_
    exact ⟨_,rfl,⟨rfl,Or.inl ⟨rfl,rfl⟩⟩,y3⟩
  ·have hlt':¬ (i:Int)<t.size:=by omega
   have hR2:R=(L,0,0):=by rw [HRi.out,scanAt_end _ _ _ _ (by omega)]
   obtain ⟨qx,qf,qz,QH⟩:=HQ.out wr HS.out.below
   have HB2:=hide (HW.out _ HS.out.below)
   have hbq:w.heap.size≠b:=by have:=HBb.out;omega
   subst hR2
   go_wp2_with fail
   go_region
   all_goals go_wp2_with fail
   obtain ⟨y1,y2,y3,y4⟩:=end_cells (a:=.int .i64 0) (c:=.int .i64 0) QH.out (Nat.le_refl _) HB2.out
   have y5:=y4 _ _ _ _ HO.out
   clear y4
   generalize ((wr.setCell ⟨w.heap.size,0,none⟩ (.int .i64 0)).setCell ⟨w.heap.size,1,none⟩ (.int .i64 0)).drew=X at *
   refine bodyPost_ret (v:=.tuple #[v,.agg #[.int .i64 0,.int .i64 0]]) (by simp [results,Tryz.results10,go_sem,y1,y2]) rfl ?_
   exact ⟨_,rfl,own_base y5 (by have h1:=HZ.out;have h2:=HBb.out;omega),y3⟩
end Go.Proofs.YthcfianhdkolhaaGreatDoor.X
