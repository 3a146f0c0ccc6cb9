/- PaH PaI PaJ PaK PbA -/
import Derived.Test.YthcfianhdkolhaaGreatDoorPaG
import Derived.Test.YthcfianhdkolhaaGreatDoorRfA
namespace Go.Proofs.YthcfianhdkolhaaGreatDoor.Y
open Go.RowKit Go.Proofs.YthcfianhdkolhaaGreatDoor.X Go.Proofs.YthcfianhdkolhaaGreatDoor.T Go.Proofs.YthcfianhdkolhaaGreatDoor.S
set_option maxRecDepth 100000
set_option maxHeartbeats 2000000
set_option linter.unusedVariables false
set_option linter.unusedSimpArgs false
variable {w w' : World} {b g : Nat} {m : Value} {ts : List Tok} {t : Tok}
theorem r_round {x:Nd} {ts r:List Tk} (h:hd ts=sLP) (a:R .expr ts.tail (.ok (.nd x) r)) (k:hd r=sRP):R .round ts (.ok (.nd x) r.tail):=by
 obtain ⟨n,e1⟩:=a
 exact ⟨n+1,by simp [P,F,must,h,andN,e1,k,okN]⟩
theorem r_round0 {ts:List Tk} (h:¬ hd ts=sLP):R .round ts (.no ts):=⟨1,by simp [P,F,must,h]⟩
theorem r_round1 {ts r:List Tk} (h:hd ts=sLP) (a:R .expr ts.tail (.no r)):R .round ts (.no r):=by
 obtain ⟨n,e1⟩:=a
 exact ⟨n+1,by simp [P,F,must,h,andN,e1]⟩
theorem r_round2 {x:Nd} {ts r:List Tk} (h:hd ts=sLP) (a:R .expr ts.tail (.ok (.nd x) r)) (k:¬ hd r=sRP):R .round ts (.no r):=by
 obtain ⟨n,e1⟩:=a
 exact ⟨n+1,by simp [P,F,must,h,andN,e1,k]⟩
theorem grown_some {w w':World} {b:Nat} (h:w.grownBy w' none):w.grownBy w' (some b):=⟨h.os,h.tape,h.output,h.size,fun k hk _=>h.block k hk (by simp)⟩
theorem word_sg (c:UInt8) (h:¬ (48≤c.toNat∧c.toNat≤57)):Word [c]:=⟨c,[],rfl,h⟩
theorem inside_any (h:Ps w b g m ts) (hgl:g<w.heap.size) (hT:Two w b m) (xs:List ByteArray) (hx:∀ x,x∈xs→x.size≠0) (a:Option Addr) (c B:Nat) (ha:xs≠[]→a=some ⟨B,0,none⟩) (hB:B≠b) (hl:B<w.heap.size) (hcs:∀ j (hj:j<xs.length),w.cell? ⟨B,j,none⟩=some (.string xs[j])) (hn:xs.length≤100)
  (r0:List Tok) (hr:asks xs ts=(true,r0)) (hF:Fits r0)
  (hE:∀ w1:World,w.grownBy w1 (some b)→Ps w1 b g m r0.tail→Two w1 b m→g<w1.heap.size→Calls Tryz.prog 143 #[.pointer (some ⟨b,0,none⟩)] w1 (PostN .expr w1 b g m r0.tail)):
  Calls Tryz.prog 141 #[.pointer (some ⟨b,0,none⟩),.slice a xs.length c] w (PostN .round w b g m r0):=by
 have hbl:=h.lt
 have hg0:=grown_alloc w (.cells #[.int .i64 0,.string ⟨#[]⟩,.int .i64 0,.slice none 0 0] 24)
 have hK:=ask_any (h.alloc (.cells #[.int .i64 0,.string ⟨#[]⟩,.int .i64 0,.slice none 0 0] 24)) xs hx a c B ha hB (Nat.lt_of_lt_of_le hl hg0.size) (fun j hj=>by
  rw [World.cell?_of_block (a:=⟨B,j,none⟩) (hg0.block B hl (by simp))]
  exact hcs j hj) hn
 rw [hr] at hK
 have HK:=hide hK
 have HG0:=ħ (grown_some (b:=b) hg0)
 have HB0:=ħ (heap_new w #[.int .i64 0,.string ⟨#[]⟩,.int .i64 0,.slice none 0 0] 24)
 have HT:=hide hT
 have HE:=hide hE
 have HF:=hide hF
 clear h hK hg0 hT hE hF hx ha hcs hr
 have hz0:(w.alloc (.cells #[.int .i64 0,.string ⟨#[]⟩,.int .i64 0,.slice none 0 0] 24)).heap.size=w.heap.size+1:=by simp
 have HZ0:=hide hz0
 clear hz0
 go_enter Tryz.func141,Tryz.ntmps141
 go_wp2_with fail
 generalize w.alloc (.cells #[.int .i64 0,.string ⟨#[]⟩,.int .i64 0,.slice none 0 0] 24)=W0 at *
 go_at_call 94
 refine HK.out.mono ?_
 rintro e w1 ⟨he,hP1,hG1⟩
 obtain rfl:e=.returned (.tuple #[]):=he
 have HP1:=hide hP1
 have HG1:=ħ (grown_trans HG0.out hG1)
 have HB1:=ħ ((hG1.block w.heap.size (by rw [HZ0.out];omega) (fun e=>by have:=Option.some.inj e;omega)).trans HB0.out)
 have hs1:=hG1.size
 clear hP1 hG1 HG0 HB0 HK
 have HA1:=ħ (ask_new HP1.out (str sLP) (by decide))
 go_wp2_with fail
 go_at_call 94
 refine HA1.out.mono ?_
 rintro e w2 ⟨hG2,⟨hq,rfl,hP2⟩|⟨hq,rfl⟩⟩
 ·have HQ:=ħ ((tx_hd HF.out sLP (word_sg 40 (by decide))).1 hq)
  have HP2:=hide hP2
  have HG2:=ħ (grown_trans HG1.out hG2)
  have hs1':w.heap.size<w1.heap.size:=by have:=HZ0.out;omega
  have HB2:=ħ ((hG2.block w.heap.size hs1' (fun e=>by have:=Option.some.inj e;omega)).trans HB1.out)
  have HS2:=ħ (Nat.lt_of_lt_of_le hs1' hG2.size)
  clear hq hP2 hG2 HA1 hs1 hs1'
  have HX:=ħ (HE.out w2 HG2.out HP2.out (HT.out.kept HG2.out) (Nat.lt_of_lt_of_le hgl HG2.out.size))
  go_wp2_with fail
  go_at_call 143
  refine HX.out.mono ?_
  rintro e w3 ⟨hG3,r,hsu,⟨n,vv,hlt,hR,rfl,hN,hP3⟩|⟨hR,rfl⟩⟩
  ·obtain ⟨k,tt,v,ka,kn,kc,rfl⟩:=hN.form
   have HR:=hide hR
   have HN:=hide hN
   have HP3:=hide hP3
   have HG3:=ħ (grown_trans HG2.out hG3)
   have HB3:=ħ ((hG3.block w.heap.size HS2.out (fun e=>by have:=Option.some.inj e;omega)).trans HB2.out)
   have HS3:=ħ (Nat.lt_of_lt_of_le HS2.out hG3.size)
   have HSu:=hide hsu
   clear hR hN hP3 hG3 hsu HX
   have HA3:=ħ (ask_new (HP3.out.alloc (.cells #[.int .i64 k,.string tt,.int .i64 v,.slice ka kn kc] 24)) (str sRP) (by decide))
   have hz3:(w3.alloc (.cells #[.int .i64 k,.string tt,.int .i64 v,.slice ka kn kc] 24)).heap.size=w3.heap.size+1:=by simp
   rw [hz3] at HA3
   have HN3:=ħ (heap_new w3 #[.int .i64 k,.string tt,.int .i64 v,.slice ka kn kc] 24)
   have HG4:=ħ (grown_trans HG3.out (grown_some (grown_alloc w3 (.cells #[.int .i64 k,.string tt,.int .i64 v,.slice ka kn kc] 24))))
   have HO3:=ħ ((Below.heap_alloc w3 (.cells #[.int .i64 k,.string tt,.int .i64 v,.slice ka kn kc] 24) w.heap.size HS3.out).trans HB3.out)
   have HM3:Hid (∀ q,q<w3.heap.size→(w3.alloc (.cells #[.int .i64 k,.string tt,.int .i64 v,.slice ka kn kc] 24)).heap[q]?=w3.heap[q]?):=fun q hq=>Below.heap_alloc w3 (.cells #[.int .i64 k,.string tt,.int .i64 v,.slice ka kn kc] 24) q hq
   have HZ3:=hide hz3
   clear hz3
   go_wp2_with fail
   generalize w3.alloc (.cells #[.int .i64 k,.string tt,.int .i64 v,.slice ka kn kc] 24)=W3 at *
   go_at_call 94
   refine HA3.out.mono ?_
   rintro e w4 ⟨hG5,⟨hq,rfl,hP4⟩|⟨hq,rfl⟩⟩
   ·have HQ2:=ħ ((tx_hd ((HF.out.suf (List.tail_suffix _)).suf HSu.out) sRP (word_sg 41 (by decide))).1 hq)
    have h3s:=HS3.out
    have H5:=ħ ((hG5.block w3.heap.size (by rw [HZ3.out];omega) (fun e=>by have:=Option.some.inj e;omega)).trans HN3.out)
    have H6:=ħ ((hG5.block w.heap.size (by rw [HZ3.out];omega) (fun e=>by have:=Option.some.inj e;omega)).trans HO3.out)
    have hc5:=cells_at H5.out
    have hc6:=cells_at H6.out
    have hf6:=frozen_at H6.out
    obtain ⟨m1,m2,m3⟩:=set4 (.int .i64 k) (.string tt) (.int .i64 v) (.slice ka kn kc) H6.out
    have hc7:=cells_at m1
    have hl7:=(Array.getElem?_eq_some_iff.1 m1).1
    have HEnd:=ħ (And.intro (m2 b g m r.tail (by omega) (by omega) hP4) (m3 w _ (grown_trans HG4.out hG5) (Nat.le_refl _)))
    have HNd:Hid (NdV ((((w4.setCell ⟨w.heap.size,0,none⟩ (.int .i64 k)).setCell ⟨w.heap.size,1,none⟩ (.string tt)).setCell ⟨w.heap.size,2,none⟩ (.int .i64 v)).setCell ⟨w.heap.size,3,none⟩ (.slice ka kn kc)) (fun k=>w.heap.size≤k) n (.agg #[.int .i64 k,.string tt,.int .i64 v,.slice ka kn kc])):=by
     refine HN.out.move (fun q hq hlt=>⟨?_,?_⟩)
     ·have h2s:=HS2.out
      have hne:q≠w.heap.size:=by omega
      have hnb:q≠b:=by omega
      rw [heap_setCell_other _ _ q _ hne,heap_setCell_other _ _ q _ hne,heap_setCell_other _ _ q _ hne,heap_setCell_other _ _ q _ hne]
      exact (hG5.block q (by rw [HZ3.out];omega) (fun e=>hnb (Option.some.inj e))).trans (HM3.out q hlt)
     have h2s:=HS2.out
     omega
    clear m1 m2 m3 hP4 hG5 H5 H6 HG4 HO3 HM3 HN3 HA3 HN HB3 HB2 HB1 hq
    go_wp2_with fail
    generalize ((((w4.setCell ⟨w.heap.size,0,none⟩ (.int .i64 k)).setCell ⟨w.heap.size,1,none⟩ (.string tt)).setCell ⟨w.heap.size,2,none⟩ (.int .i64 v)).setCell ⟨w.heap.size,3,none⟩ (.slice ka kn kc))=X at *
    refine bodyPost_ret (v:=(.agg #[.int .i64 k,.string tt,.int .i64 v,.slice ka kn kc])) (by simp [results,Tryz.results141,go_sem,hc7,hl7]) rfl ?_
    refine ⟨HEnd.out.2,r.tail,(List.tail_suffix _).trans (HSu.out.trans (List.tail_suffix _)),Or.inl ⟨n,_,?_,?_,rfl,HNd.out,HEnd.out.1⟩⟩
    ·have l1:=hd_lt HQ.out (by decide)
     have l2:=HSu.out.length_le
     have l3:=(List.tail_suffix r).length_le
     omega
    rw [tk_tail]
    exact r_round HQ.out (by rw [← tk_tail];exact HR.out) HQ2.out
   refine ⟨rfl,grown_trans HG4.out hG5,r,HSu.out.trans (List.tail_suffix _),Or.inr ⟨?_,rfl⟩⟩
   have hq':¬ hd (tk r)=sRP:=fun e=>hq ((tx_hd ((HF.out.suf (List.tail_suffix _)).suf HSu.out) sRP (word_sg 41 (by decide))).2 e)
   exact r_round2 HQ.out (by rw [← tk_tail];exact HR.out) hq'
  exact ⟨rfl,grown_trans HG2.out hG3,r,hsu.trans (List.tail_suffix _),Or.inr ⟨r_round1 HQ.out (by rw [← tk_tail];exact hR),rfl⟩⟩
 exact ⟨rfl,grown_trans HG1.out hG2,r0,List.suffix_refl _,Or.inr ⟨r_round0 (fun e=>hq ((tx_hd HF.out sLP (word_sg 40 (by decide))).2 e)),rfl⟩⟩
end Go.Proofs.YthcfianhdkolhaaGreatDoor.Y
namespace Go.Proofs.YthcfianhdkolhaaGreatDoor.Y
open Go.RowKit Go.Proofs.YthcfianhdkolhaaGreatDoor.X Go.Proofs.YthcfianhdkolhaaGreatDoor.T Go.Proofs.YthcfianhdkolhaaGreatDoor.S
set_option maxRecDepth 100000
set_option maxHeartbeats 2000000
set_option linter.unusedVariables false
set_option linter.unusedSimpArgs false
theorem NdV.two {w:World} {A:Nat→Prop} {x y:Nd} {q:Nat} {k1 k2 v1 v2:Int} {t1 t2:ByteArray} {a1 a2:Option Addr} {n1 n2 c1 c2:Nat} (k v:Int) (hx:NdV w A x (.agg #[.int .i64 k1,.string t1,.int .i64 v1,.slice a1 n1 c1])) (hy:NdV w A y (.agg #[.int .i64 k2,.string t2,.int .i64 v2,.slice a2 n2 c2])) (hq:w.heap[q]?=some (.cells #[.int .i64 k1,.string t1,.int .i64 v1,.slice a1 n1 c1,.int .i64 k2,.string t2,.int .i64 v2,.slice a2 n2 c2] 24 (0,0))) (hA:A q):
  NdV w A (.mk k [] v [x,y]) (.agg #[.int .i64 k,.string ⟨#[]⟩,.int .i64 v,.slice (some ⟨q,0,none⟩) 2 2]):=by
 have hc:=cells_at hq
 refine NdV.full k [] v [x,y] q 2 (fun j o=>(#[Value.int .i64 k1,.string t1,.int .i64 v1,.slice a1 n1 c1,.int .i64 k2,.string t2,.int .i64 v2,.slice a2 n2 c2].getD (j*4+o) undef)) (by simp) (by simp) (by omega) hA (fun j o hj ho=>?_) (fun j hj=>?_)
 ·have hj':j<2:=by simpa using hj
  rw [hc]
  have hlt:j*4+o<8:=by omega
  simp [Array.getD,hlt]
 have hj2:j<2:=by simpa using hj
 have hj':j=0∨j=1:=by omega
 rcases hj' with rfl|rfl
 ·exact hx
 exact hy
theorem operation_any (w:World) (A:Nat→Prop) (x y:Nd) (vx vy:Value) (op:Int) (hx:NdV w A x vx) (hy:NdV w A y vy):Calls Tryz.prog 155 #[.int .i64 op,vx,vy] w fun e w'=>w.grownBy w' none∧∃ v,e=.returned v∧NdV w' (fun k=>A k∨w.heap.size≤k) (.mk 32 [] op [x,y]) v:=by
 obtain ⟨k1,t1,v1,a1,n1,c1,rfl⟩:=hx.form
 obtain ⟨k2,t2,v2,a2,n2,c2,rfl⟩:=hy.form
 have HX:=hide hx
 have HY:=hide hy
 clear hx hy
 have HG:=ħ (grown_none (grown_none (grown_none (grown_alloc w (.cells #[.int .i64 k1,.string t1,.int .i64 v1,.slice a1 n1 c1] 24)) (grown_alloc _ (.cells #[.int .i64 k2,.string t2,.int .i64 v2,.slice a2 n2 c2] 24))) (grown_alloc _ (.cells #[.int .i64 0,.string ⟨#[]⟩,.int .i64 0,.slice none 0 0] 24))) (grown_alloc (((w.alloc (.cells #[.int .i64 k1,.string t1,.int .i64 v1,.slice a1 n1 c1] 24)).alloc (.cells #[.int .i64 k2,.string t2,.int .i64 v2,.slice a2 n2 c2] 24)).alloc (.cells #[.int .i64 0,.string ⟨#[]⟩,.int .i64 0,.slice none 0 0] 24)) (.cells #[.int .i64 k1,.string t1,.int .i64 v1,.slice a1 n1 c1,.int .i64 k2,.string t2,.int .i64 v2,.slice a2 n2 c2] 24)))
 have HQ:=ħ (heap_new (((w.alloc (.cells #[.int .i64 k1,.string t1,.int .i64 v1,.slice a1 n1 c1] 24)).alloc (.cells #[.int .i64 k2,.string t2,.int .i64 v2,.slice a2 n2 c2] 24)).alloc (.cells #[.int .i64 0,.string ⟨#[]⟩,.int .i64 0,.slice none 0 0] 24)) #[.int .i64 k1,.string t1,.int .i64 v1,.slice a1 n1 c1,.int .i64 k2,.string t2,.int .i64 v2,.slice a2 n2 c2] 24)
 have hz:(((w.alloc (.cells #[.int .i64 k1,.string t1,.int .i64 v1,.slice a1 n1 c1] 24)).alloc (.cells #[.int .i64 k2,.string t2,.int .i64 v2,.slice a2 n2 c2] 24)).alloc (.cells #[.int .i64 0,.string ⟨#[]⟩,.int .i64 0,.slice none 0 0] 24)).heap.size=w.heap.size+1+1+1:=by simp
 rw [hz] at HQ
 have HO:Hid (((((w.alloc (.cells #[.int .i64 k1,.string t1,.int .i64 v1,.slice a1 n1 c1] 24)).alloc (.cells #[.int .i64 k2,.string t2,.int .i64 v2,.slice a2 n2 c2] 24)).alloc (.cells #[.int .i64 0,.string ⟨#[]⟩,.int .i64 0,.slice none 0 0] 24)).alloc (.cells #[.int .i64 k1,.string t1,.int .i64 v1,.slice a1 n1 c1,.int .i64 k2,.string t2,.int .i64 v2,.slice a2 n2 c2] 24)).heap[w.heap.size+1+1]?=some (.cells #[.int .i64 0,.string ⟨#[]⟩,.int .i64 0,.slice none 0 0] 24 (0,0))):=by
  have h1:=heap_new ((w.alloc (.cells #[.int .i64 k1,.string t1,.int .i64 v1,.slice a1 n1 c1] 24)).alloc (.cells #[.int .i64 k2,.string t2,.int .i64 v2,.slice a2 n2 c2] 24)) #[.int .i64 0,.string ⟨#[]⟩,.int .i64 0,.slice none 0 0] 24
  have hz2:((w.alloc (.cells #[.int .i64 k1,.string t1,.int .i64 v1,.slice a1 n1 c1] 24)).alloc (.cells #[.int .i64 k2,.string t2,.int .i64 v2,.slice a2 n2 c2] 24)).heap.size=w.heap.size+1+1:=by simp
  rw [hz2] at h1
  exact (Below.heap_alloc _ _ _ (by rw [hz];omega)).trans h1
 have HZ:Hid (((((w.alloc (.cells #[.int .i64 k1,.string t1,.int .i64 v1,.slice a1 n1 c1] 24)).alloc (.cells #[.int .i64 k2,.string t2,.int .i64 v2,.slice a2 n2 c2] 24)).alloc (.cells #[.int .i64 0,.string ⟨#[]⟩,.int .i64 0,.slice none 0 0] 24)).alloc (.cells #[.int .i64 k1,.string t1,.int .i64 v1,.slice a1 n1 c1,.int .i64 k2,.string t2,.int .i64 v2,.slice a2 n2 c2] 24)).heap.size=w.heap.size+4):=by simp [Hid]
 clear hz
 go_enter Tryz.func155,Tryz.ntmps155
 go_wp2_with fail
 generalize (((w.alloc (.cells #[.int .i64 k1,.string t1,.int .i64 v1,.slice a1 n1 c1] 24)).alloc (.cells #[.int .i64 k2,.string t2,.int .i64 v2,.slice a2 n2 c2] 24)).alloc (.cells #[.int .i64 0,.string ⟨#[]⟩,.int .i64 0,.slice none 0 0] 24)).alloc (.cells #[.int .i64 k1,.string t1,.int .i64 v1,.slice a1 n1 c1,.int .i64 k2,.string t2,.int .i64 v2,.slice a2 n2 c2] 24)=W at *
 go_at_call 140
 refine (node_any 32 _ 2 2 W).mono ?_
 rintro e w1 ⟨rfl,hG1⟩
 have hz:=HZ.out
 have hs1:=hG1.size
 have k0:=(Below.heap_alloc w1 (.cells #[.int .i64 32,.string ⟨#[]⟩,.int .i64 op,.slice (some ⟨w.heap.size+1+1+1,0,none⟩) 2 2] 24) (w.heap.size+1+1) (by omega)).trans ((hG1.block (w.heap.size+1+1) (by omega) (by simp)).trans HO.out)
 have k3:=(Below.heap_alloc w1 (.cells #[.int .i64 32,.string ⟨#[]⟩,.int .i64 op,.slice (some ⟨w.heap.size+1+1+1,0,none⟩) 2 2] 24) (w.heap.size+1+1+1) (by omega)).trans ((hG1.block (w.heap.size+1+1+1) (by omega) (by simp)).trans HQ.out)
 have HG2:=ħ (grown_none (grown_none HG.out hG1) (grown_alloc w1 (.cells #[.int .i64 32,.string ⟨#[]⟩,.int .i64 op,.slice (some ⟨w.heap.size+1+1+1,0,none⟩) 2 2] 24)))
 have hc:=cells_at k0
 have hf:=frozen_at k0
 have HM:Hid (∀ w2:World,w2=w1.alloc (.cells #[.int .i64 32,.string ⟨#[]⟩,.int .i64 op,.slice (some ⟨w.heap.size+1+1+1,0,none⟩) 2 2] 24)→w.grownBy ((((w2.setCell ⟨w.heap.size+1+1,0,none⟩ (.int .i64 32)).setCell ⟨w.heap.size+1+1,1,none⟩ (.string ⟨#[]⟩)).setCell ⟨w.heap.size+1+1,2,none⟩ (.int .i64 op)).setCell ⟨w.heap.size+1+1,3,none⟩ (.slice (some ⟨w.heap.size+1+1+1,0,none⟩) 2 2)) none∧NdV ((((w2.setCell ⟨w.heap.size+1+1,0,none⟩ (.int .i64 32)).setCell ⟨w.heap.size+1+1,1,none⟩ (.string ⟨#[]⟩)).setCell ⟨w.heap.size+1+1,2,none⟩ (.int .i64 op)).setCell ⟨w.heap.size+1+1,3,none⟩ (.slice (some ⟨w.heap.size+1+1+1,0,none⟩) 2 2)) (fun k=>A k∨w.heap.size≤k) (.mk 32 [] op [x,y]) (.agg #[.int .i64 32,.string ⟨#[]⟩,.int .i64 op,.slice (some ⟨w.heap.size+1+1+1,0,none⟩) 2 2])):=fun w2 e2=>by
  subst e2
  obtain ⟨m1,m2,m3⟩:=set4 (.int .i64 32) (.string ⟨#[]⟩) (.int .i64 op) (.slice (some ⟨w.heap.size+1+1+1,0,none⟩) 2 2) k0
  have g1:=m3 w none HG2.out (by omega)
  have hmv:∀ q,A q→q<w.heap.size→_∧(fun k=>A k∨w.heap.size≤k) q:=fun q hq hl=>⟨g1.block q hl (by simp),Or.inl hq⟩
  refine ⟨g1,NdV.two 32 op (HX.out.move hmv) (HY.out.move hmv) ?_ (Or.inr (by omega))⟩
  have hne:w.heap.size+1+1+1≠w.heap.size+1+1:=by omega
  rw [heap_setCell_other _ _ _ _ hne,heap_setCell_other _ _ _ _ hne,heap_setCell_other _ _ _ _ hne,heap_setCell_other _ _ _ _ hne]
  exact k3
 have hc7:=fun w2 (e2:w2=w1.alloc (.cells #[.int .i64 32,.string ⟨#[]⟩,.int .i64 op,.slice (some ⟨w.heap.size+1+1+1,0,none⟩) 2 2] 24))=>cells_at (set4 (w:=w2) (.int .i64 32) (.string ⟨#[]⟩) (.int .i64 op) (.slice (some ⟨w.heap.size+1+1+1,0,none⟩) 2 2) (e2 ▸ k0)).1
 have hl7:=fun w2 (e2:w2=w1.alloc (.cells #[.int .i64 32,.string ⟨#[]⟩,.int .i64 op,.slice (some ⟨w.heap.size+1+1+1,0,none⟩) 2 2] 24))=>(Array.getElem?_eq_some_iff.1 (set4 (w:=w2) (.int .i64 32) (.string ⟨#[]⟩) (.int .i64 op) (.slice (some ⟨w.heap.size+1+1+1,0,none⟩) 2 2) (e2 ▸ k0)).1).1
 have HC7:=hide hc7
 have HL7:=hide hl7
 clear hc7 hl7 k0 k3 HX HY HG HQ HO HZ hG1
 go_wp2_with fail
 obtain ⟨w2,e2⟩:∃ w2,w2=w1.alloc (.cells #[.int .i64 32,.string ⟨#[]⟩,.int .i64 op,.slice (some ⟨w.heap.size+1+1+1,0,none⟩) 2 2] 24):=⟨_,rfl⟩
 have hc8:=HC7.out w2 e2
 have hl8:=HL7.out w2 e2
 have hm8:=HM.out w2 e2
 rw [← e2]
 generalize ((((w2.setCell ⟨w.heap.size+1+1,0,none⟩ (.int .i64 32)).setCell ⟨w.heap.size+1+1,1,none⟩ (.string ⟨#[]⟩)).setCell ⟨w.heap.size+1+1,2,none⟩ (.int .i64 op)).setCell ⟨w.heap.size+1+1,3,none⟩ (.slice (some ⟨w.heap.size+1+1+1,0,none⟩) 2 2))=V at *
 refine bodyPost_ret (v:=(.agg #[.int .i64 32,.string ⟨#[]⟩,.int .i64 op,.slice (some ⟨w.heap.size+1+1+1,0,none⟩) 2 2])) (by simp [results,Tryz.results155,go_sem,hc8,hl8]) rfl ?_
 exact ⟨hm8.1,_,rfl,hm8.2⟩
end Go.Proofs.YthcfianhdkolhaaGreatDoor.Y
namespace Go.Proofs.YthcfianhdkolhaaGreatDoor.Y
open Go.RowKit Go.Proofs.YthcfianhdkolhaaGreatDoor.X Go.Proofs.YthcfianhdkolhaaGreatDoor.T Go.Proofs.YthcfianhdkolhaaGreatDoor.S
set_option maxRecDepth 100000
set_option maxHeartbeats 2000000
set_option linter.unusedVariables false
set_option linter.unusedSimpArgs false
variable {w w' : World} {b g : Nat} {m : Value} {ts : List Tok} {t : Tok}
structure Og (w:World):Prop where
 opr:∀ k:Nat,k<10→w.cell? ⟨4,k*3,none⟩=some (.string (str (opr k).1))∧w.cell? ⟨4,k*3+1,none⟩=some (.int .i64 (opr k).2.1)∧w.cell? ⟨4,k*3+2,none⟩=some (.int .i64 (opr k).2.2)
theorem Og.lt {w:World} (h:Og w):0<w.heap.size∧4<w.heap.size:=by
 have h4:=World.block_lt_of_cell? w ⟨4,0*3,none⟩ (h.opr 0 (by omega)).1
 exact ⟨Nat.lt_of_le_of_lt (Nat.zero_le _) h4,h4⟩
theorem Og.below {w w':World} (h:Og w) (hb:Below w.heap.size w w'):Og w':=by
 have l1:=h.lt.2
 exact ⟨fun k hk=>⟨(hb.cell (p:=⟨4,k*3,none⟩) l1).trans (h.opr k hk).1,(hb.cell (p:=⟨4,k*3+1,none⟩) l1).trans (h.opr k hk).2.1,(hb.cell (p:=⟨4,k*3+2,none⟩) l1).trans (h.opr k hk).2.2⟩⟩
theorem op_rangeO {w:World} (h:Og w):w.rangeAt 4 0 opCells:=by
 intro i u hu
 have hi:i<30:=by have:=(List.getElem?_eq_some_iff.1 hu).1;simpa [opCells] using this
 obtain ⟨k,r,rfl,hr⟩:∃ k r,i=k*3+r∧r<3:=⟨i / 3,i % 3,by omega,by omega⟩
 have hk:k<10:=by omega
 obtain ⟨g0,g1,g2⟩:=h.opr k hk
 have hk':k=0∨k=1∨k=2∨k=3∨k=4∨k=5∨k=6∨k=7∨k=8∨k=9:=by omega
 have hr':r=0∨r=1∨r=2:=by omega
 rcases hr' with rfl|rfl|rfl
 ·rcases hk' with rfl|rfl|rfl|rfl|rfl|rfl|rfl|rfl|rfl|rfl<;>(rw [Nat.zero_add,Nat.add_zero,g0];exact hu)
 ·rcases hk' with rfl|rfl|rfl|rfl|rfl|rfl|rfl|rfl|rfl|rfl<;>(rw [Nat.zero_add,g1];exact hu)
 rcases hk' with rfl|rfl|rfl|rfl|rfl|rfl|rfl|rfl|rfl|rfl<;>(rw [Nat.zero_add,g2];exact hu)
def Hits (ts:List Tok) (firm:Int) (j:Nat):Prop:=(opr j).2.2=firm∧tx ts=str (opr j).1
def OpP (w:World) (b g:Nat) (m:Value) (ts:List Tok) (firm:Int) (e:Ending) (w':World):Prop:=w.grownBy w' (some b) ∧
 ((∃ j,j<10∧Hits ts firm j∧e=.returned (.tuple #[.int .i64 (opr j).2.1,.bool true])∧Ps w' b g m ts.tail)∨((∀ j,j<10→¬ Hits ts firm j)∧e=.returned (.tuple #[.int .i64 0,.bool false])∧Ps w' b g m ts))
theorem opr_ne:∀ j,j<10→(str (opr j).1).size≠0:=fun j hj=>by
 have h:j=0∨j=1∨j=2∨j=3∨j=4∨j=5∨j=6∨j=7∨j=8∨j=9:=by omega
 rcases h with rfl|rfl|rfl|rfl|rfl|rfl|rfl|rfl|rfl|rfl<;>decide
theorem operator_any (h:Ps w b g m ts) (hG:Og w) (firm:Int):Calls Tryz.prog 154 #[.pointer (some ⟨b,0,none⟩),.int .i64 firm] w (OpP w b g m ts firm):=by
 have HR:=ħ (op_rangeO hG)
 have HX:Hid (∀ (j:Nat),j<10→∀ w,(Instr.index 159 (.agg opCells.toArray) (.int .i64 (j:Int))).run Tryz.prog w=.ok (.agg #[.string (str (opr j).1),.int .i64 (opr j).2.1,.int .i64 (opr j).2.2]) w):=fun j hj w=>op_index j hj w
 have HP:=hide h
 clear h hG
 go_enter Tryz.func154,Tryz.ntmps154
 go_wp2_with (refine wpList_load_mid rfl 159 (.global 4) rfl 4 0 rfl opCells _ HR.out Tryz.underlying159 rfl info159 ?_)
 go_loopw [9] (fun i wr=>∃ j:Nat,j≤10∧i=.int .i64 j∧Hid (Ps wr b g m ts)∧Hid (w.grownBy wr (some b))∧Hid (∀ k,k<j→¬ Hits ts firm k)) (fun i _=>10 - (intOf i).toNat)
 case atStart=>exact ⟨0,by omega,rfl,HP,⟨rfl,rfl,rfl,Nat.le_refl _,fun _ _ _=>rfl⟩,fun k hk=>by omega⟩
 case round=>
  obtain ⟨j,hj,rfl,HPj,HGj,HM⟩:=hrel
  by_cases hlt:j<10
  ·have hlt':(j:Int)<10:=by omega
   have hxj:=HX.out j hlt
   have hne:=opr_ne j hlt
   have HMk:Hid (¬ Hits ts firm j→∀ k,k<j+1→¬ Hits ts firm k):=fun hn k hk=>by
    by_cases e:k=j
    ·rw [e];exact hn
    exact HM.out k (by omega)
   have HH:Hid (Hits ts firm j ↔ (opr j).2.2=firm∧tx ts=str (opr j).1):=Iff.rfl
   have HW:Hid (∀ e w',Hits ts firm j→e=.returned (.tuple #[.int .i64 (opr j).2.1,.bool true])→Ps w' b g m ts.tail→w.grownBy w' (some b)→OpP w b g m ts firm e w'):=fun e w' h1 h2 h3 h4=>⟨h4,Or.inl ⟨j,hlt,h1,h2,h3⟩⟩
   generalize opr j=oo at *
   obtain ⟨sg0,op0,fm0⟩:=oo
   simp only at hxj hne
   have HG1:=ħ (grown_trans HGj.out (grown_some (b:=b) (grown_alloc wr (.cells #[.string (str sg0),.int .i64 op0,.int .i64 fm0] 158))))
   have HP1:=ħ (HPj.out.alloc (.cells #[.string (str sg0),.int .i64 op0,.int .i64 fm0] 158))
   have hnb:=heap_new wr #[.string (str sg0),.int .i64 op0,.int .i64 fm0] 158
   have hcn:=cells_at hnb
   have HNB:=hide hnb
   have hbl:=HPj.out.lt
   clear hnb
   by_cases he:fm0=firm
   ·have he':(fm0 == firm)=true:=by simpa using he
    have hT:=takes_any HP1.out (str sg0) hne
    by_cases hq:tx ts=str sg0
    ·rw [decide_eq_true hq,if_pos hq] at hT
     have HT:=hide hT
     have HQ:=ħ (HH.out.2 ⟨he,hq⟩)
     clear hT hq he
     go_wp2_with fail
     go_at_call 67
     refine HT.out.mono ?_
     rintro e w2 ⟨rfl,hP2,hG2⟩
     have H5:=(hG2.block wr.heap.size (by simp) (fun e=>by have:=Option.some.inj e;omega)).trans HNB.out
     have hc5:=cells_at H5
     have HE:=ħ (HW.out _ w2 HQ.out rfl hP2 (grown_trans HG1.out hG2))
     clear hP2 hG2 HT H5 HQ HW HH HMk HM
     go_wp2_with fail
     refine bodyPost_ret (v:=.tuple #[.int .i64 op0,.bool true]) (by simp [results,Tryz.results154,go_sem]) rfl ?_
     exact HE.out
    rw [decide_eq_false hq,if_neg hq] at hT
    have HT:=hide hT
    have HM1:Hid (∀ k,k<j+1→¬ Hits ts firm k):=HMk.out (fun q=>hq (HH.out.1 q).2)
    clear hT hq he
    go_wp2_with fail
    go_at_call 67
    refine HT.out.mono ?_
    rintro e w2 ⟨rfl,hP2,hG2⟩
    have HP2:=hide hP2
    have HG2:=ħ (grown_trans HG1.out hG2)
    clear hP2 hG2 HT HW HH HMk HM
    go_wp2_with fail
    go_roundw
    case rel=>exact ⟨j+1,by omega,by go_num,HP2,HG2,HM1⟩
    case measure=>simp [intOf];omega
   have he':(fm0 == firm)=false:=by simpa using he
   have HM1:Hid (∀ k,k<j+1→¬ Hits ts firm k):=HMk.out (fun q=>he (HH.out.1 q).1)
   clear he
   go_wp2_with fail
   go_roundw
   case rel=>exact ⟨j+1,by omega,by go_num,HP1,HG1,HM1⟩
   case measure=>simp [intOf];omega
  obtain rfl:j=10:=by omega
  have HE:Hid (OpP w b g m ts firm (.returned (.tuple #[.int .i64 0,.bool false])) wr):=⟨HGj.out,Or.inr ⟨fun j hj=>HM.out j hj,rfl,HPj.out⟩⟩
  go_wp2_with fail
  refine bodyPost_ret (v:=.tuple #[.int .i64 0,.bool false]) (by simp [results,Tryz.results154,go_sem]) rfl ?_
  exact HE.out
end Go.Proofs.YthcfianhdkolhaaGreatDoor.Y
namespace Go.Proofs.YthcfianhdkolhaaGreatDoor.Y
open Go.RowKit Go.Proofs.YthcfianhdkolhaaGreatDoor.X Go.Proofs.YthcfianhdkolhaaGreatDoor.T Go.Proofs.YthcfianhdkolhaaGreatDoor.S
set_option linter.unusedVariables false
set_option linter.unusedSimpArgs false
variable {w w' : World} {b g : Nat} {m : Value} {ts : List Tok} {t : Tok}
theorem r_neg {x:Nd} {ts r:List Tk} (h:hd ts=sMINUS) (a:R .unary ts.tail (.ok (.nd x) r)):R .unary ts (.ok (.nd (.mk 28 [] 0 [x])) r):=by
 obtain ⟨n,e⟩:=a
 exact ⟨n+1,by simp [P,F,h,andN,e,okN]⟩
theorem r_neg0 {ts r:List Tk} (h:hd ts=sMINUS) (a:R .unary ts.tail (.no r)):R .unary ts (.no r):=by
 obtain ⟨n,e⟩:=a
 exact ⟨n+1,by simp [P,F,h,andN,e]⟩
theorem r_not {x:Nd} {ts r:List Tk} (h:hd ts=sNOT) (a:R .unary ts.tail (.ok (.nd x) r)):R .unary ts (.ok (.nd (.mk 29 [] 0 [x])) r):=by
 obtain ⟨n,e⟩:=a
 exact ⟨n+1,by simp [P,F,h,andN,e,okN]⟩
theorem r_not0 {ts r:List Tk} (h:hd ts=sNOT) (a:R .unary ts.tail (.no r)):R .unary ts (.no r):=by
 obtain ⟨n,e⟩:=a
 exact ⟨n+1,by simp [P,F,h,andN,e]⟩
end Go.Proofs.YthcfianhdkolhaaGreatDoor.Y
namespace Go.Proofs.YthcfianhdkolhaaGreatDoor.Y
open Go.RowKit Go.Proofs.YthcfianhdkolhaaGreatDoor.X Go.Proofs.YthcfianhdkolhaaGreatDoor.T Go.Proofs.YthcfianhdkolhaaGreatDoor.S
set_option linter.unusedVariables false
set_option linter.unusedSimpArgs false
abbrev Bk:=Nat × Array Value × TypeId
def Av (s:Nat) (L:List Bk) (k:Nat):Prop:=s≤k∧∀ x,x∈L→x.1≠k
structure Wd (w0 w:World) (b g:Nat) (m:Value) (ts:List Tok) (L:List Bk):Prop where
 grown:w0.grownBy w (some b)
 ps:Ps w b g m ts
 two0:Two w0 b m
 glob:Og w0
 bg:4<b
 gl:g<w0.heap.size
 bl:b<w0.heap.size
 blk:∀ x,x∈L→w0.heap.size≤x.1∧w.heap[x.1]?=some (.cells x.2.1 x.2.2 (0,0))
 ord:L.Pairwise (fun x y=>x.1≠y.1)
def Mv (w w':World) (A A':Nat→Prop):Prop:=∀ g,A g→g<w.heap.size→w'.heap[g]?=w.heap[g]?∧A' g
theorem Mv.nd {w w':World} {A A':Nat→Prop} (h:Mv w w' A A') {n:Nd} {v:Value} (k:NdV w A n v):NdV w' A' n v:=k.move h
theorem Mv.row {w w':World} {A A':Nat→Prop} (h:Mv w w' A A') {l:List Nd} {v:Value} (k:RowN w A v l):RowN w' A' v l:=k.move h
variable {w0 w w' : World} {b g : Nat} {m : Value} {ts : List Tok} {L : List Bk}
theorem Wd.start (h:Ps w b g m ts) (hT:Two w b m) (hGl:Og w) (hb:4<b) (hg:g<w.heap.size):Wd w w b g m ts []:=
 ⟨⟨rfl,rfl,rfl,Nat.le_refl _,fun _ _ _=>rfl⟩,h,hT,hGl,hb,hg,h.lt,fun x hx=>by simp at hx,List.Pairwise.nil⟩
theorem Gl_kept (h:Og w) (hb:4<b) (hg:w.grownBy w' (some b)):Og w':=by
 have n4:some 4≠some b:=fun e=>by have h9:(4:Nat)=b:=Option.some.inj e;omega
 exact ⟨fun k hk=>⟨hg.cell (h.opr k hk).1 n4,hg.cell (h.opr k hk).2.1 n4,hg.cell (h.opr k hk).2.2 n4⟩⟩
theorem Wd.glo (h:Wd w0 w b g m ts L):Og w:=Gl_kept h.glob h.bg h.grown
theorem Wd.two (h:Wd w0 w b g m ts L):Two w b m:=h.two0.kept h.grown
theorem Wd.glt (h:Wd w0 w b g m ts L):g<w.heap.size:=Nat.lt_of_lt_of_le h.gl h.grown.size
theorem Wd.lt (h:Wd w0 w b g m ts L):∀ x,x∈L→x.1<w.heap.size:=fun x hx=>(Array.getElem?_eq_some_iff.1 (h.blk x hx).2).1
theorem Wd.alloc (h:Wd w0 w b g m ts L) (cs:Array Value) (T:TypeId):Wd w0 (w.alloc (.cells cs T)) b g m ts ((w.heap.size,cs,T)::L):=by
 refine ⟨grown_none h.grown (grown_alloc w _),h.ps.alloc _,h.two0,h.glob,h.bg,h.gl,h.bl,fun x hx=>?_,List.Pairwise.cons (fun x hx=>?_) h.ord⟩
 ·rcases List.mem_cons.1 hx with rfl|hx
  ·exact ⟨h.grown.size,heap_new w cs T⟩
  exact ⟨(h.blk x hx).1,(Below.heap_alloc w _ _ (h.lt x hx)).trans (h.blk x hx).2⟩
 have:=h.lt x hx
 show w.heap.size≠x.1
 omega
theorem Wd.alloc' (h:Wd w0 w b g m ts L) (q:Nat) (hq:w.heap.size=q) (cs:Array Value) (T:TypeId):Wd w0 (w.alloc (.cells cs T)) b g m ts ((q,cs,T)::L):=by
 subst hq
 exact h.alloc cs T
theorem Wd.call (h:Wd w0 w b g m ts L) {ts':List Tok} (hG:w.grownBy w' (some b)) (hP:Ps w' b g m ts'):Wd w0 w' b g m ts' L:=by
 refine ⟨grown_trans h.grown hG,hP,h.two0,h.glob,h.bg,h.gl,h.bl,fun x hx=>⟨(h.blk x hx).1,?_⟩,h.ord⟩
 have h1:=(h.blk x hx).1
 have h2:=h.bl
 exact (hG.block x.1 (h.lt x hx) (fun e=>by have:=Option.some.inj e;omega)).trans (h.blk x hx).2
theorem Wd.quiet (h:Wd w0 w b g m ts L) (hG:w.grownBy w' none):Wd w0 w' b g m ts L:=h.call (grown_some hG) (h.ps.grown hG)
theorem Wd.rowed (h:Wd w0 w b g m ts L) {r:Option Nat} {s:Nat} (hG:w.grownBy w' r) (hs:w0.heap.size≤s) (hr:∀ k,r=some k→Av s L k):Wd w0 w' b g m ts L:=by
 have hne:∀ k,k<w0.heap.size→some k≠r:=fun k hk e=>by
  have:=(hr k e.symm).1
  omega
 refine ⟨⟨hG.os.trans h.grown.os,hG.tape.trans h.grown.tape,hG.output.trans h.grown.output,Nat.le_trans h.grown.size hG.size,fun k hk hn=>(hG.block k (Nat.lt_of_lt_of_le hk h.grown.size) (hne k hk)).trans (h.grown.block k hk hn)⟩,?_,h.two0,h.glob,h.bg,h.gl,h.bl,fun x hx=>⟨(h.blk x hx).1,?_⟩,h.ord⟩
 ·obtain ⟨a,o,c,h1,h2,h3,h4,h5⟩:=h.ps.blk
  refine ⟨h.ps.ne,a,o,c,(hG.block b h.ps.lt (hne b h.bl)).trans h1,h2,h3,h4,h5.same (hG.block g h.glt (hne g h.gl))⟩
 exact (hG.block x.1 (h.lt x hx) (fun e=>(hr x.1 e.symm).2 x hx rfl)).trans (h.blk x hx).2
theorem pairwise_mid {L1 L2:List Bk} {q:Nat} {c c':Array Value} {T T':TypeId} (h:(L1++(q,c,T)::L2).Pairwise (fun x y=>x.1≠y.1)):(L1++(q,c',T')::L2).Pairwise (fun x y=>x.1≠y.1)∧(∀ x,x∈L1→x.1≠q)∧(∀ x,x∈L2→q≠x.1)∧(L1++L2).Pairwise (fun x y=>x.1≠y.1):=by
 rw [List.pairwise_append] at h ⊢
 obtain ⟨h1,h2,h3⟩:=h
 rw [List.pairwise_cons] at h2 ⊢
 rw [List.pairwise_append]
 refine ⟨⟨h1,h2,fun x hx y hy=>?_⟩,fun x hx=>h3 x hx _ (List.mem_cons_self),fun x hx=>h2.1 x hx,h1,h2.2,fun x hx y hy=>h3 x hx y (List.mem_cons_of_mem _ hy)⟩
 rcases List.mem_cons.1 hy with rfl|hy
 ·exact h3 x hx (q,c,T) (List.mem_cons_self)
 exact h3 x hx y (List.mem_cons_of_mem _ hy)
theorem Wd.set (L1 L2:List Bk) {q:Nat} {cs:Array Value} {T:TypeId} (h:Wd w0 w b g m ts (L1++(q,cs,T)::L2)) (i:Nat) (v:Value):Wd w0 (w.setCell ⟨q,i,none⟩ v) b g m ts (L1++(q,cs.setIfInBounds i v,T)::L2):=by
 obtain ⟨p1,p2,p3,p4⟩:=pairwise_mid (c':=cs.setIfInBounds i v) (T':=T) h.ord
 have hq:=h.blk (q,cs,T) (by simp)
 have hbl:=h.bl
 have hgl:=h.gl
 have hq1:w0.heap.size≤q:=hq.1
 refine ⟨grown_set h.grown hq1,h.ps.set (by omega) (by omega),h.two0,h.glob,h.bg,h.gl,h.bl,fun x hx=>?_,p1⟩
 rcases List.mem_append.1 hx with hx|hx
 ·have:=h.blk x (by simp [hx])
  exact ⟨this.1,(heap_setCell_other _ _ _ _ (p2 x hx)).trans this.2⟩
 rcases List.mem_cons.1 hx with rfl|hx
 ·exact ⟨hq1,heap_setCell_same w q i _ _ _ hq.2⟩
 have:=h.blk x (by simp [hx])
 exact ⟨this.1,(heap_setCell_other _ _ _ _ (fun e=>p3 x hx e.symm)).trans this.2⟩
theorem Wd.set4 (L1 L2:List Bk) {q:Nat} {c0 c1 c2 c3:Value} {T:TypeId} (h:Wd w0 w b g m ts (L1++(q,#[c0,c1,c2,c3],T)::L2)) (x0 x1 x2 x3:Value):Wd w0 ((((w.setCell ⟨q,0,none⟩ x0).setCell ⟨q,1,none⟩ x1).setCell ⟨q,2,none⟩ x2).setCell ⟨q,3,none⟩ x3) b g m ts (L1++(q,#[x0,x1,x2,x3],T)::L2):=
 ((((h.set L1 L2 0 x0).set L1 L2 1 x1).set L1 L2 2 x2).set L1 L2 3 x3)
theorem Wd.drop (L1 L2:List Bk) {x:Bk} (h:Wd w0 w b g m ts (L1++x::L2)):Wd w0 w b g m ts (L1++L2):=by
 obtain ⟨q,c,T⟩:=x
 refine ⟨h.grown,h.ps,h.two0,h.glob,h.bg,h.gl,h.bl,fun y hy=>h.blk y ?_,(pairwise_mid (c':=c) (T':=T) h.ord).2.2.2⟩
 rcases List.mem_append.1 hy with hy|hy
 ·simp [hy]
 simp [hy]
theorem Mv.alloc (w:World) (cs:Array Value) (T:TypeId) (s:Nat) (L:List Bk):Mv w (w.alloc (.cells cs T)) (Av s L) (Av s ((w.heap.size,cs,T)::L)):=fun k hk hl=>⟨Below.heap_alloc w _ _ hl,hk.1,fun x hx=>by
 rcases List.mem_cons.1 hx with rfl|hx
 ·show w.heap.size≠k
  omega
 exact hk.2 x hx⟩
theorem Mv.alloc' (w:World) (q:Nat) (hq:w.heap.size=q) (cs:Array Value) (T:TypeId) (s:Nat) (L:List Bk):Mv w (w.alloc (.cells cs T)) (Av s L) (Av s ((q,cs,T)::L)):=by
 subst hq
 exact Mv.alloc w cs T s L
theorem Mv.call {s:Nat} (hb:b<s) (hG:w.grownBy w' (some b)) (L:List Bk):Mv w w' (Av s L) (Av s L):=fun k hk hl=>⟨hG.block k hl (fun e=>by have:=Option.some.inj e;have:=hk.1;omega),hk⟩
theorem Mv.quiet {A:Nat→Prop} (hG:w.grownBy w' none):Mv w w' A A:=fun k hk hl=>⟨hG.block k hl (by simp),hk⟩
theorem Mv.set (L1 L2:List Bk) {q i s:Nat} {cs cs':Array Value} {T:TypeId} (w:World) (v:Value):Mv w (w.setCell ⟨q,i,none⟩ v) (Av s (L1++(q,cs,T)::L2)) (Av s (L1++(q,cs',T)::L2)):=fun k hk hl=>⟨heap_setCell_other _ _ _ _ (fun e=>hk.2 (q,cs,T) (by simp) e.symm),hk.1,fun x hx=>by
 rcases List.mem_append.1 hx with hx|hx
 ·exact hk.2 x (by simp [hx])
 rcases List.mem_cons.1 hx with rfl|hx
 ·exact hk.2 (q,cs,T) (by simp)
 exact hk.2 x (by simp [hx])⟩
theorem Mv.trans {w1 w2 w3:World} {A B C:Nat→Prop} (h:Mv w1 w2 A B) (k:Mv w2 w3 B C) (hs:w1.heap.size≤w2.heap.size):Mv w1 w3 A C:=fun x hx hl=>⟨(k x (h x hx hl).2 (Nat.lt_of_lt_of_le hl hs)).1.trans (h x hx hl).1,(k x (h x hx hl).2 (Nat.lt_of_lt_of_le hl hs)).2⟩
theorem Mv.set4 (L1 L2:List Bk) {q s:Nat} {c0 c1 c2 c3:Value} {T:TypeId} (w:World) (x0 x1 x2 x3:Value):Mv w ((((w.setCell ⟨q,0,none⟩ x0).setCell ⟨q,1,none⟩ x1).setCell ⟨q,2,none⟩ x2).setCell ⟨q,3,none⟩ x3) (Av s (L1++(q,#[c0,c1,c2,c3],T)::L2)) (Av s (L1++(q,#[x0,x1,x2,x3],T)::L2)):=
 (((Mv.set L1 L2 (cs':=#[x0,c1,c2,c3]) w x0).trans (Mv.set L1 L2 (cs':=#[x0,x1,c2,c3]) _ x1) (by simp)).trans (Mv.set L1 L2 (cs':=#[x0,x1,x2,c3]) _ x2) (by simp)).trans (Mv.set L1 L2 _ x3) (by simp)
theorem Mv.drop (L1 L2:List Bk) {s:Nat} {x:Bk} (w:World):Mv w w (Av s (L1++x::L2)) (Av s (L1++L2)):=fun k hk hl=>⟨rfl,hk.1,fun y hy=>hk.2 y (by
 rcases List.mem_append.1 hy with hy|hy
 ·simp [hy]
 simp [hy])⟩
theorem Wd.given {w1:World} {A:Nat→Prop} (h:Wd w0 w b g m ts L):Mv w1 w1 (fun k=>w.heap.size≤k) (Av w.heap.size L):=fun k hk hl=>⟨rfl,hk,fun x hx=>by have:=h.lt x hx;have hk:w.heap.size≤k:=hk;omega⟩
theorem NdV.given {w1:World} {n:Nd} {v:Value} (k:NdV w1 (fun k=>w.heap.size≤k) n v) (h:Wd w0 w b g m ts L):NdV w1 (Av w.heap.size L) n v:=(h.given (A:=fun _=>True)).nd k
theorem RowN.given {w1:World} {l:List Nd} {v:Value} (k:RowN w1 (fun k=>w.heap.size≤k) v l) (h:Wd w0 w b g m ts L):RowN w1 (Av w.heap.size L) v l:=(h.given (A:=fun _=>True)).row k
theorem Mv.less {s s':Nat} (w:World) (L:List Bk) (h:s'≤s):Mv w w (Av s L) (Av s' L):=fun k hk hl=>⟨rfl,Nat.le_trans h hk.1,hk.2⟩
theorem NdV.less {s s':Nat} {n:Nd} {v:Value} (k:NdV w (Av s L) n v) (h:s'≤s):NdV w (Av s' L) n v:=(Mv.less w L h).nd k
theorem RowN.less {s s':Nat} {l:List Nd} {v:Value} (k:RowN w (Av s L) v l) (h:s'≤s):RowN w (Av s' L) v l:=(Mv.less w L h).row k
theorem RowN.one (L1 L2:List Bk) {q s:Nat} {k1 v1:Int} {t1:ByteArray} {a1:Option Addr} {n1 c1:Nat} {x:Nd} (h:Wd w0 w b g m ts (L1++(q,#[.int .i64 k1,.string t1,.int .i64 v1,.slice a1 n1 c1],24)::L2)) (hs:s≤q) (hx:NdV w (Av s (L1++(q,#[.int .i64 k1,.string t1,.int .i64 v1,.slice a1 n1 c1],24)::L2)) x (.agg #[.int .i64 k1,.string t1,.int .i64 v1,.slice a1 n1 c1])):
  RowN w (Av s (L1++L2)) (.slice (some ⟨q,0,none⟩) 1 1) [x]:=by
 obtain ⟨p1,p2,p3,p4⟩:=pairwise_mid (c':=#[]) (T':=0) h.ord
 have hq:=(h.blk (q,#[.int .i64 k1,.string t1,.int .i64 v1,.slice a1 n1 c1],24) (by simp)).2
 refine ⟨fun k hk=>?_,[(.int .i64 k1,.string t1,.int .i64 v1,.slice a1 n1 c1)],rfl,⟨by simp [cellsN],Or.inr ⟨q,1,#[.int .i64 k1,.string t1,.int .i64 v1,.slice a1 n1 c1],rfl,Nat.zero_le _,hq,by simp,by decide,rfl,rfl⟩⟩,fun j hj hj'=>?_⟩
 ·obtain rfl:q=k:=by simpa [Value.ownBlock] using hk
  refine ⟨hs,fun y hy=>?_⟩
  rcases List.mem_append.1 hy with hy|hy
  ·exact p2 y hy
  exact fun e=>p3 y hy e.symm
 obtain rfl:j=0:=by simpa using hj
 refine hx.mono (fun k hk _=>⟨⟨hk.1,fun y hy=>hk.2 y (by
  rcases List.mem_append.1 hy with hy|hy
  ·simp [hy]
  simp [hy])⟩,fun e=>hk.2 (q,#[.int .i64 k1,.string t1,.int .i64 v1,.slice a1 n1 c1],24) (by simp) ?_⟩)
 exact (Option.some.inj e).symm
theorem Wd.post {q:G} {ts r:List Tok} {n:Nd} {v:Value} {s:Nat} (h:Wd w0 w b g m r L) (hr:r <:+ ts) (hR:R q (tk ts) (.ok (.nd n) (tk r))) (hlt:r.length<ts.length) (hs:w0.heap.size≤s) (hN:NdV w (Av s L) n v):PostN q w0 b g m ts (.returned v) w:=
 ⟨h.grown,r,hr,Or.inl ⟨n,v,hlt,hR,rfl,hN.mono (fun k hk _=>Nat.le_trans hs hk.1),h.ps⟩⟩
theorem RowN.lt {v:Value} {l:List Nd} {A:Nat→Prop} (h:RowN w A v l):∀ k,v.ownBlock=some k→k<w.heap.size:=by
 obtain ⟨cs,h1,h2,h3⟩:=h.row
 exact fun k hk=>(h2.lt k hk).2
theorem grown_drew (w:World):w.grownBy w.drew none:=⟨rfl,rfl,rfl,Nat.le_refl _,fun _ _ _=>rfl⟩
theorem Wd.mixed {s:Nat} (h:Wd w0 w b g m ts L) (hs:s≤w.heap.size) {w1:World} {n:Nd} {v:Value} (k:NdV w1 (fun k=>Av s L k∨w.heap.size≤k) n v):NdV w1 (Av s L) n v:=k.mono (fun k hk _=>by
 rcases hk with hk|hk
 ·exact hk
 exact ⟨Nat.le_trans hs hk,fun x hx=>by have:=h.lt x hx;omega⟩)
theorem Wd.c0 {q:Nat} {cs:Array Value} {T:TypeId} (h:Wd w0 w b g m ts ((q,cs,T)::L)):∀ o,w.cell? ⟨q,o,none⟩=cs[o]?:=cells_at (h.blk (q,cs,T) List.mem_cons_self).2
theorem Wd.f0 {q:Nat} {cs:Array Value} {T:TypeId} (h:Wd w0 w b g m ts ((q,cs,T)::L)):∀ o,w.frozen? ⟨q,o,none⟩=false:=frozen_at (h.blk (q,cs,T) List.mem_cons_self).2
theorem Wd.l0 {q:Nat} {cs:Array Value} {T:TypeId} (h:Wd w0 w b g m ts ((q,cs,T)::L)):q<w.heap.size:=h.lt (q,cs,T) List.mem_cons_self
theorem Wd.s0 {q:Nat} {c0 c1 c2 c3:Value} {T:TypeId} (h:Wd w0 w b g m ts ((q,#[c0,c1,c2,c3],T)::L)) (x0 x1 x2 x3:Value):Wd w0 ((((w.setCell ⟨q,0,none⟩ x0).setCell ⟨q,1,none⟩ x1).setCell ⟨q,2,none⟩ x2).setCell ⟨q,3,none⟩ x3) b g m ts ((q,#[x0,x1,x2,x3],T)::L):=h.set4 [] L x0 x1 x2 x3
theorem Wd.ms0 {q s:Nat} {c0 c1 c2 c3 x0 x1 x2 x3:Value} {T:TypeId} (h:Wd w0 ((((w.setCell ⟨q,0,none⟩ x0).setCell ⟨q,1,none⟩ x1).setCell ⟨q,2,none⟩ x2).setCell ⟨q,3,none⟩ x3) b g m ts ((q,#[x0,x1,x2,x3],T)::L)):Mv w ((((w.setCell ⟨q,0,none⟩ x0).setCell ⟨q,1,none⟩ x1).setCell ⟨q,2,none⟩ x2).setCell ⟨q,3,none⟩ x3) (Av s ((q,#[c0,c1,c2,c3],T)::L)) (Av s ((q,#[x0,x1,x2,x3],T)::L)):=Mv.set4 [] L w x0 x1 x2 x3
theorem Wd.d0 {x:Bk} (h:Wd w0 w b g m ts (x::L)):Wd w0 w b g m ts (L):=h.drop [] L
theorem Mv.d0 {x:Bk} {s:Nat} (w:World):Mv w w (Av s (x::L)) (Av s (L)):=Mv.drop [] L w
theorem RowN.o0 {q:Nat} {k1 v1:Int} {t1:ByteArray} {a1:Option Addr} {n1 c1:Nat} {x:Nd} (h:Wd w0 w b g m ts ((q,#[.int .i64 k1,.string t1,.int .i64 v1,.slice a1 n1 c1],24)::L)) (hx:NdV w (Av w0.heap.size ((q,#[.int .i64 k1,.string t1,.int .i64 v1,.slice a1 n1 c1],24)::L)) x (.agg #[.int .i64 k1,.string t1,.int .i64 v1,.slice a1 n1 c1])):RowN w (Av w0.heap.size (L)) (.slice (some ⟨q,0,none⟩) 1 1) [x]:=RowN.one [] L h (h.blk (q,#[.int .i64 k1,.string t1,.int .i64 v1,.slice a1 n1 c1],24) List.mem_cons_self).1 hx
theorem Wd.p00 {q:Nat} {c0 c1 c2 c3:Value} {T:TypeId} (h:Wd w0 w b g m ts ((q,#[c0,c1,c2,c3],T)::L)) (v:Value):Wd w0 (w.setCell ⟨q,0,none⟩ v) b g m ts ((q,#[v,c1,c2,c3],T)::L):=h.set [] L 0 v
theorem Wd.mp00 {q s:Nat} {c0 c1 c2 c3 v:Value} {T:TypeId} (h:Wd w0 (w.setCell ⟨q,0,none⟩ v) b g m ts ((q,#[v,c1,c2,c3],T)::L)):Mv w (w.setCell ⟨q,0,none⟩ v) (Av s ((q,#[c0,c1,c2,c3],T)::L)) (Av s ((q,#[v,c1,c2,c3],T)::L)):=Mv.set [] L w v
theorem Wd.p02 {q:Nat} {c0 c1 c2 c3:Value} {T:TypeId} (h:Wd w0 w b g m ts ((q,#[c0,c1,c2,c3],T)::L)) (v:Value):Wd w0 (w.setCell ⟨q,2,none⟩ v) b g m ts ((q,#[c0,c1,v,c3],T)::L):=h.set [] L 2 v
theorem Wd.mp02 {q s:Nat} {c0 c1 c2 c3 v:Value} {T:TypeId} (h:Wd w0 (w.setCell ⟨q,2,none⟩ v) b g m ts ((q,#[c0,c1,v,c3],T)::L)):Mv w (w.setCell ⟨q,2,none⟩ v) (Av s ((q,#[c0,c1,c2,c3],T)::L)) (Av s ((q,#[c0,c1,v,c3],T)::L)):=Mv.set [] L w v
theorem Wd.p03 {q:Nat} {c0 c1 c2 c3:Value} {T:TypeId} (h:Wd w0 w b g m ts ((q,#[c0,c1,c2,c3],T)::L)) (v:Value):Wd w0 (w.setCell ⟨q,3,none⟩ v) b g m ts ((q,#[c0,c1,c2,v],T)::L):=h.set [] L 3 v
theorem Wd.mp03 {q s:Nat} {c0 c1 c2 c3 v:Value} {T:TypeId} (h:Wd w0 (w.setCell ⟨q,3,none⟩ v) b g m ts ((q,#[c0,c1,c2,v],T)::L)):Mv w (w.setCell ⟨q,3,none⟩ v) (Av s ((q,#[c0,c1,c2,c3],T)::L)) (Av s ((q,#[c0,c1,c2,v],T)::L)):=Mv.set [] L w v
theorem Wd.r00 {q:Nat} {c0 c1:Value} {T:TypeId} (h:Wd w0 w b g m ts ((q,#[c0,c1],T)::L)) (v:Value):Wd w0 (w.setCell ⟨q,0,none⟩ v) b g m ts ((q,#[v,c1],T)::L):=h.set [] L 0 v
theorem Wd.r01 {q:Nat} {c0 c1:Value} {T:TypeId} (h:Wd w0 w b g m ts ((q,#[c0,c1],T)::L)) (v:Value):Wd w0 (w.setCell ⟨q,1,none⟩ v) b g m ts ((q,#[c0,v],T)::L):=h.set [] L 1 v
theorem Wd.c1 {y0:Bk} {q:Nat} {cs:Array Value} {T:TypeId} (h:Wd w0 w b g m ts (y0::(q,cs,T)::L)):∀ o,w.cell? ⟨q,o,none⟩=cs[o]?:=cells_at (h.blk (q,cs,T) (List.mem_cons_of_mem _ List.mem_cons_self)).2
theorem Wd.f1 {y0:Bk} {q:Nat} {cs:Array Value} {T:TypeId} (h:Wd w0 w b g m ts (y0::(q,cs,T)::L)):∀ o,w.frozen? ⟨q,o,none⟩=false:=frozen_at (h.blk (q,cs,T) (List.mem_cons_of_mem _ List.mem_cons_self)).2
theorem Wd.l1 {y0:Bk} {q:Nat} {cs:Array Value} {T:TypeId} (h:Wd w0 w b g m ts (y0::(q,cs,T)::L)):q<w.heap.size:=h.lt (q,cs,T) (List.mem_cons_of_mem _ List.mem_cons_self)
theorem Wd.s1 {y0:Bk} {q:Nat} {c0 c1 c2 c3:Value} {T:TypeId} (h:Wd w0 w b g m ts (y0::(q,#[c0,c1,c2,c3],T)::L)) (x0 x1 x2 x3:Value):Wd w0 ((((w.setCell ⟨q,0,none⟩ x0).setCell ⟨q,1,none⟩ x1).setCell ⟨q,2,none⟩ x2).setCell ⟨q,3,none⟩ x3) b g m ts (y0::(q,#[x0,x1,x2,x3],T)::L):=h.set4 [y0] L x0 x1 x2 x3
theorem Wd.ms1 {y0:Bk} {q s:Nat} {c0 c1 c2 c3 x0 x1 x2 x3:Value} {T:TypeId} (h:Wd w0 ((((w.setCell ⟨q,0,none⟩ x0).setCell ⟨q,1,none⟩ x1).setCell ⟨q,2,none⟩ x2).setCell ⟨q,3,none⟩ x3) b g m ts (y0::(q,#[x0,x1,x2,x3],T)::L)):Mv w ((((w.setCell ⟨q,0,none⟩ x0).setCell ⟨q,1,none⟩ x1).setCell ⟨q,2,none⟩ x2).setCell ⟨q,3,none⟩ x3) (Av s (y0::(q,#[c0,c1,c2,c3],T)::L)) (Av s (y0::(q,#[x0,x1,x2,x3],T)::L)):=Mv.set4 [y0] L w x0 x1 x2 x3
theorem Mv.d1 {y0:Bk} {x:Bk} {s:Nat} (w:World):Mv w w (Av s (y0::x::L)) (Av s (y0::L)):=Mv.drop [y0] L w
theorem Wd.c2 {y0 y1:Bk} {q:Nat} {cs:Array Value} {T:TypeId} (h:Wd w0 w b g m ts (y0::y1::(q,cs,T)::L)):∀ o,w.cell? ⟨q,o,none⟩=cs[o]?:=cells_at (h.blk (q,cs,T) (List.mem_cons_of_mem _ (List.mem_cons_of_mem _ List.mem_cons_self))).2
theorem Wd.f2 {y0 y1:Bk} {q:Nat} {cs:Array Value} {T:TypeId} (h:Wd w0 w b g m ts (y0::y1::(q,cs,T)::L)):∀ o,w.frozen? ⟨q,o,none⟩=false:=frozen_at (h.blk (q,cs,T) (List.mem_cons_of_mem _ (List.mem_cons_of_mem _ List.mem_cons_self))).2
theorem Wd.l2 {y0 y1:Bk} {q:Nat} {cs:Array Value} {T:TypeId} (h:Wd w0 w b g m ts (y0::y1::(q,cs,T)::L)):q<w.heap.size:=h.lt (q,cs,T) (List.mem_cons_of_mem _ (List.mem_cons_of_mem _ List.mem_cons_self))
theorem Wd.s2 {y0 y1:Bk} {q:Nat} {c0 c1 c2 c3:Value} {T:TypeId} (h:Wd w0 w b g m ts (y0::y1::(q,#[c0,c1,c2,c3],T)::L)) (x0 x1 x2 x3:Value):Wd w0 ((((w.setCell ⟨q,0,none⟩ x0).setCell ⟨q,1,none⟩ x1).setCell ⟨q,2,none⟩ x2).setCell ⟨q,3,none⟩ x3) b g m ts (y0::y1::(q,#[x0,x1,x2,x3],T)::L):=h.set4 [y0,y1] L x0 x1 x2 x3
theorem Wd.ms2 {y0 y1:Bk} {q s:Nat} {c0 c1 c2 c3 x0 x1 x2 x3:Value} {T:TypeId} (h:Wd w0 ((((w.setCell ⟨q,0,none⟩ x0).setCell ⟨q,1,none⟩ x1).setCell ⟨q,2,none⟩ x2).setCell ⟨q,3,none⟩ x3) b g m ts (y0::y1::(q,#[x0,x1,x2,x3],T)::L)):Mv w ((((w.setCell ⟨q,0,none⟩ x0).setCell ⟨q,1,none⟩ x1).setCell ⟨q,2,none⟩ x2).setCell ⟨q,3,none⟩ x3) (Av s (y0::y1::(q,#[c0,c1,c2,c3],T)::L)) (Av s (y0::y1::(q,#[x0,x1,x2,x3],T)::L)):=Mv.set4 [y0,y1] L w x0 x1 x2 x3
theorem Wd.ma {q s:Nat} {cs:Array Value} {T:TypeId} (h:Wd w0 (w.alloc (.cells cs T)) b g m ts ((q,cs,T)::L)) (hq:w.heap.size=q):Mv w (w.alloc (.cells cs T)) (Av s L) (Av s ((q,cs,T)::L)):=Mv.alloc' w q hq cs T s L
theorem q1 {α:Type} (l:List α) (i:Nat) (h:i<l.toArray.size):l.toArray[i]=l[i]'(by simpa using h):=by simp
theorem q2 {α:Type} (l:List α) (i:Nat) (a:α):l.toArray.setIfInBounds i a=(l.set i a).toArray:=by simp
theorem q3 {α:Type} (a b:α) (l:List α):(a::l).set 0 b=b::l:=rfl
theorem q4 {α:Type} (a b:α) (l:List α) (n:Nat):(a::l).set (n+1) b=a::l.set n b:=rfl
theorem su (t:List Tok):Hid (t<:+t):=List.suffix_refl _
theorem rt {fn:Func} {t:Tmp} {q:Nat} {k v:Int} {x:ByteArray} {a:Option Addr} {n c:Nat} {tmps:Array Value} {w:World} (h:fn.results=#[.cell t 24]) (ht:tmps.getD t undef=.pointer (some ⟨q,0,none⟩)) (hb:w.heap[q]?=some (.cells #[.int .i64 k,.string x,.int .i64 v,.slice a n c] 24 (0,0))):(results fn tmps).run Tryz.prog w=.ok (.agg #[.int .i64 k,.string x,.int .i64 v,.slice a n c]) w:=by
 have ht':tmps[t]?.getD undef=.pointer (some ⟨q,0,none⟩):=by simpa using ht
 have hc:=cells_at hb
 have hl:=(Array.getElem?_eq_some_iff.1 hb).1
 simp [results,h,asAddr,ht',loadVar,go_sem,hc,hl]
theorem zz (w:World):Hid (w.heap.size≤w.heap.size):=Nat.le_refl _
theorem Mv.N {w w':World} {A A':Nat→Prop} {n:Nd} {v:Value} (h:Mv w w' A A') (k:Hid (NdV w A n v)):Hid (NdV w' A' n v):=h.nd k.out
theorem Mv.R {w w':World} {A A':Nat→Prop} {n:List Nd} {v:Value} (h:Mv w w' A A') (k:Hid (RowN w A v n)):Hid (RowN w' A' v n):=h.row k.out
theorem Wd.kN {s:Nat} {n:Nd} {v:Value} {M:List Bk} (h:Wd w0 w b g m ts L) (z:Hid (w0.heap.size≤s)) (hG:w.grownBy w' (some b)) (k:Hid (NdV w (Av s M) n v)):Hid (NdV w' (Av s M) n v):=(Mv.call (Nat.lt_of_lt_of_le h.bl z.out) hG _).N k
theorem Wd.kR {s:Nat} {n:List Nd} {v:Value} {M:List Bk} (h:Wd w0 w b g m ts L) (z:Hid (w0.heap.size≤s)) (hG:w.grownBy w' (some b)) (k:Hid (RowN w (Av s M) v n)):Hid (RowN w' (Av s M) v n):=(Mv.call (Nat.lt_of_lt_of_le h.bl z.out) hG _).R k
theorem Wd.nA {q s:Nat} {cs:Array Value} {T:TypeId} {n:Nd} {v:Value} (h:Wd w0 (w.alloc (.cells cs T)) b g m ts ((q,cs,T)::L)) (k:Hid (NdV w (Av s L) n v)) (hq:w.heap.size=q:=by simp):Hid (NdV (w.alloc (.cells cs T)) (Av s ((q,cs,T)::L)) n v):=(h.ma hq).N k
theorem Wd.rA {q s:Nat} {cs:Array Value} {T:TypeId} {n:List Nd} {v:Value} (h:Wd w0 (w.alloc (.cells cs T)) b g m ts ((q,cs,T)::L)) (k:Hid (RowN w (Av s L) v n)) (hq:w.heap.size=q:=by simp):Hid (RowN (w.alloc (.cells cs T)) (Av s ((q,cs,T)::L)) v n):=(h.ma hq).R k
theorem Wd.al (h:Wd w0 w b g m ts L) (q:Nat) (cs:Array Value) (hq:w.heap.size=q:=by simp):Hid (Wd w0 (w.alloc (.cells cs 24)) b g m ts ((q,cs,24)::L)):=h.alloc' q hq cs 24
theorem Wd.b0 {q:Nat} {cs:Array Value} {T:TypeId} (h:Wd w0 w b g m ts ((q,cs,T)::L)):w.heap[q]?=some (.cells cs T (0,0)):=(h.blk (q,cs,T) List.mem_cons_self).2
theorem Wd.b1 {y0:Bk} {q:Nat} {cs:Array Value} {T:TypeId} (h:Wd w0 w b g m ts (y0::(q,cs,T)::L)):w.heap[q]?=some (.cells cs T (0,0)):=(h.blk (q,cs,T) (List.mem_cons_of_mem _ List.mem_cons_self)).2
theorem Wd.b2 {y0 y1:Bk} {q:Nat} {cs:Array Value} {T:TypeId} (h:Wd w0 w b g m ts (y0::y1::(q,cs,T)::L)):w.heap[q]?=some (.cells cs T (0,0)):=(h.blk (q,cs,T) (List.mem_cons_of_mem _ (List.mem_cons_of_mem _ List.mem_cons_self))).2
theorem Wd.b3 {y0 y1 y2:Bk} {q:Nat} {cs:Array Value} {T:TypeId} (h:Wd w0 w b g m ts (y0::y1::y2::(q,cs,T)::L)):w.heap[q]?=some (.cells cs T (0,0)):=(h.blk (q,cs,T) (List.mem_cons_of_mem _ (List.mem_cons_of_mem _ (List.mem_cons_of_mem _ List.mem_cons_self)))).2
theorem Wd.b4 {y0 y1 y2 y3:Bk} {q:Nat} {cs:Array Value} {T:TypeId} (h:Wd w0 w b g m ts (y0::y1::y2::y3::(q,cs,T)::L)):w.heap[q]?=some (.cells cs T (0,0)):=(h.blk (q,cs,T) (List.mem_cons_of_mem _ (List.mem_cons_of_mem _ (List.mem_cons_of_mem _ (List.mem_cons_of_mem _ List.mem_cons_self))))).2
theorem Wd.b5 {y0 y1 y2 y3 y4:Bk} {q:Nat} {cs:Array Value} {T:TypeId} (h:Wd w0 w b g m ts (y0::y1::y2::y3::y4::(q,cs,T)::L)):w.heap[q]?=some (.cells cs T (0,0)):=(h.blk (q,cs,T) (List.mem_cons_of_mem _ (List.mem_cons_of_mem _ (List.mem_cons_of_mem _ (List.mem_cons_of_mem _ (List.mem_cons_of_mem _ List.mem_cons_self)))))).2
theorem Wd.an {A:Nat→Prop} {cs:Array Value} {n:Nd} (h:Wd w0 w b g m ts L) (k:Hid (NdV w A n (.agg cs))):Hid (Wd w0 (w.alloc (.cells cs 24)) b g m ts ((w.heap.size,cs,24)::L)):=h.alloc' _ rfl cs 24
theorem Wd.am {A:Nat→Prop} {cs:Array Value} {n:Nd} (h:Wd w0 w b g m ts L) (q:Nat) (k:Hid (NdV w A n (.agg cs))) (hq:w.heap.size=q:=by simp):Hid (Wd w0 (w.alloc (.cells cs 24)) b g m ts ((q,cs,24)::L)):=h.alloc' q hq cs 24
theorem Wd.az (h:Wd w0 w b g m ts L):Hid (Wd w0 (w.alloc (.cells #[.int .i64 0,.string ⟨#[]⟩,.int .i64 0,.slice none 0 0] 24)) b g m ts ((w.heap.size,#[.int .i64 0,.string ⟨#[]⟩,.int .i64 0,.slice none 0 0],24)::L)):=h.alloc' _ rfl _ 24
end Go.Proofs.YthcfianhdkolhaaGreatDoor.Y
