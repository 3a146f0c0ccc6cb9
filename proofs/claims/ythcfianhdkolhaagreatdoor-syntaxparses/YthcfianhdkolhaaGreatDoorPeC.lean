/- PeA PeB PeC -/
import Derived.Test.YthcfianhdkolhaaGreatDoorPbD
namespace Go.Proofs.YthcfianhdkolhaaGreatDoor.Y.Z
open Go.RowKit Go.Proofs.YthcfianhdkolhaaGreatDoor.T Go.Proofs.YthcfianhdkolhaaGreatDoor.S
open Go.Proofs.YthcfianhdkolhaaGreatDoor.X (Tok)
set_option linter.unusedVariables false
set_option linter.unusedSimpArgs false
set_option maxRecDepth 100000
set_option maxHeartbeats 2000000
variable {w w' : World} {b g : Nat} {K ts : List Tok} {β : Bool}
structure Rs (w:World) (b g:Nat) (K:List Tok) (β:Bool) (ts:List Tok):Prop where
 ne:g≠b
 len:K.length≤4000
 gl:g<w.heap.size
 typ:K≠[]→∃ cur,w.heap[g]?=some (.cells cur 44 (0,0))
 toks:TokAt w g 0 K
 blk:∃ (p:List Tok) (la:Option Addr) (lc:Nat),K=p++ts∧w.heap[b]?=some (.cells #[.slice la K.length lc,.int .i64 p.length,.bool β] 41 (0,0))∧(K≠[]→la=some ⟨g,0,none⟩)
theorem typ_same (h:K≠[]→∃ cur,w.heap[g]?=some (.cells cur 44 (0,0))) (e:w'.heap[g]?=w.heap[g]?):K≠[]→∃ cur,w'.heap[g]?=some (.cells cur 44 (0,0)):=by rw [e];exact h
theorem Rs.lt (h:Rs w b g K β ts):b<w.heap.size:=by
 obtain ⟨_,_,_,_,h,_⟩:=h.blk
 exact (Array.getElem?_eq_some_iff.1 h).1
theorem Rs.grown (h:Rs w b g K β ts) (hg:w.grownBy w' none):Rs w' b g K β ts:=by
 obtain ⟨p,a,c,h1,h2,h3⟩:=h.blk
 exact ⟨h.ne,h.len,Nat.lt_of_lt_of_le h.gl hg.size,typ_same h.typ (hg.block g h.gl (by simp)),h.toks.same (hg.block g h.gl (by simp)),p,a,c,h1,(hg.block b h.lt (by simp)).trans h2,h3⟩
theorem Rs.alloc (h:Rs w b g K β ts) (o:Obj):Rs (w.alloc o) b g K β ts:=h.grown (grown_alloc w o)
theorem Rs.set (h:Rs w b g K β ts) {q i:Nat} {x:Value} (hq:q≠b) (hg:q≠g):Rs (w.setCell ⟨q,i,none⟩ x) b g K β ts:=by
 obtain ⟨p,a,c,h1,h2,h3⟩:=h.blk
 exact ⟨h.ne,h.len,by simpa using h.gl,typ_same h.typ (heap_setCell_other w _ g x (fun e=>hg e.symm)),h.toks.same (heap_setCell_other w _ g x (fun e=>hg e.symm)),p,a,c,h1,(heap_setCell_other w _ b x (fun e=>hq e.symm)).trans h2,h3⟩
theorem grown_own (w:World) (b i:Nat) (x:Value):w.grownBy (w.setCell ⟨b,i,none⟩ x) (some b):=⟨rfl,rfl,rfl,by simp [World.setCell],fun k _ hk=>Below.heap_setCell _ _ _ k (fun e=>hk (by rw [e]))⟩
theorem Rs.step {t:Tok} {p:List Tok} {a:Option Addr} {c:Nat} (h:Rs w b g K β (t::ts)) (h1:K=p++t::ts) (h2:w.heap[b]?=some (.cells #[.slice a K.length c,.int .i64 p.length,.bool β] 41 (0,0))) (h3:K≠[]→a=some ⟨g,0,none⟩):Rs (w.setCell ⟨b,1,none⟩ (.int .i64 ((p.length:Int)+1))) b g K β ts:=
 ⟨h.ne,h.len,by simpa using h.gl,typ_same h.typ (heap_setCell_other w _ g _ (fun e=>h.ne e)),h.toks.same (heap_setCell_other w _ g _ (fun e=>h.ne e)),p++[t],a,c,by rw [h1];simp,((heap_setCell_same w b 1 _ 41 _ h2).trans (by simp)),h3⟩
theorem Rs.bad {p:List Tok} {a:Option Addr} {c:Nat} (h:Rs w b g K β ts) (h1:K=p++ts) (h2:w.heap[b]?=some (.cells #[.slice a K.length c,.int .i64 p.length,.bool β] 41 (0,0))) (h3:K≠[]→a=some ⟨g,0,none⟩):Rs (w.setCell ⟨b,2,none⟩ (.bool true)) b g K true ts:=
 ⟨h.ne,h.len,by simpa using h.gl,typ_same h.typ (heap_setCell_other w _ g _ (fun e=>h.ne e)),h.toks.same (heap_setCell_other w _ g _ (fun e=>h.ne e)),p,a,c,h1,((heap_setCell_same w b 2 _ 41 _ h2).trans rfl),h3⟩
theorem fail_any (h:Rs w b g K β ts):Calls Tryz.prog 52 #[.pointer (some ⟨b,0,none⟩)] w fun e w'=>(∃ v,e=.returned v)∧Rs w' b g K true ts∧w.grownBy w' (some b):=by
 obtain ⟨p,a,c,h1,h2,h3⟩:=h.blk
 have r1:=h.bad h1 h2 h3
 have hf:=frozen_at h2
 have hc:=cells_at h2
 have HR:=ħ (And.intro r1 (grown_own w b 2 (.bool true)))
 clear r1 h h1 h2 h3
 go_enter Tryz.func52,Tryz.ntmps52
 go_wp2_with fail
 go_end0
 exact ⟨⟨_,rfl⟩,HR.out.1,HR.out.2⟩
theorem hd_tk (t:Tok) (ts:List Tok):hd (tk (t::ts))=if t.kind=2∨t.kind=3 then [] else t.text.data.toList:=rfl
theorem text_any (h:Rs w b g K β ts) (k:Nat) (hk:k≤1):Calls Tryz.prog 31 #[.pointer (some ⟨b,0,none⟩),.int .i64 k] w fun e w'=>e=.returned (.string (str (hd (tk (ts.drop k)))))∧w.grownBy w' none:=by
 have hlen:=h.len
 have hT:=h.toks
 obtain ⟨p,la,lc,h1,h2,h3⟩:=h.blk
 have hc:=cells_at h2
 have hl:K.length=p.length+ts.length:=by rw [h1];simp
 have hw:IntKind.i64.wrap ((p.length:Int)+(k:Int))=((p.length+k:Nat):Int):=by rw [IntKind.wrap_i64];omega
 clear h h2
 by_cases hi:ts.length≤k
 ·have hi':(K.length:Int)≤((p.length+k:Nat):Int):=by omega
  have hi2:¬ ((p.length+k:Nat):Int)<K.length:=by omega
  have hi3:K.length≤p.length+k:=by omega
  rw [List.drop_eq_nil_of_le hi]
  generalize p.length+k=s at *
  clear h3 hT h1 hl
  go_enter Tryz.func31,Tryz.ntmps31
  go_wp2_with fail
  go_quiet (fail)
  generalize nq=q
  go_wp2_with fail
  go_ret
  exact ⟨rfl,grown_drewN _ _⟩
 have hi':¬ (K.length:Int)≤((p.length+k:Nat):Int):=by omega
 have hi2:((p.length+k:Nat):Int)<K.length:=by omega
 have hi3:¬ K.length≤p.length+k:=by omega
 have hlt:p.length+k<K.length:=by omega
 have hidx:(0:Int)≤((p.length+k:Nat):Int)∧((p.length+k:Nat):Int)<K.length:=by omega
 obtain rfl:=h3 (fun e=>by rw [e] at hlt;simp at hlt)
 obtain ⟨u0,u1,u2⟩:=hT (p.length+k) hlt
 have e0:K[p.length+k]=ts[k]'(by omega):=by
  subst h1
  rw [List.getElem_append_right (by omega)]
  congr 1
  omega
 rw [e0,Nat.zero_add] at u0 u1 u2
 rw [List.drop_eq_getElem_cons (by omega:k<ts.length),hd_tk]
 generalize ts[k]=t at *
 generalize p.length+k=s at *
 clear hT h1 e0 h3 hlt hl
 by_cases k2:t.kind=2
 ·rw [if_pos (Or.inl k2)]
  have k2':(t.kind == 2)=true:=by simpa using k2
  go_enter Tryz.func31,Tryz.ntmps31
  go_wp2_with fail
  go_quiet (fail)
  generalize nq=q
  go_wp2_with fail
  go_ret
  exact ⟨rfl,grown_drewN _ _⟩
 have k2':(t.kind == 2)=false:=by simpa using k2
 by_cases k3:t.kind=3
 ·rw [if_pos (Or.inr k3)]
  have k3':(t.kind == 3)=true:=by simpa using k3
  go_enter Tryz.func31,Tryz.ntmps31
  go_wp2_with fail
  go_quiet (fail)
  generalize nq=q
  go_wp2_with fail
  go_ret
  exact ⟨rfl,grown_drewN _ _⟩
 have k3':(t.kind == 3)=false:=by simpa using k3
 rw [if_neg (by rintro (e|e);exact k2 e;exact k3 e),str_data]
 go_enter Tryz.func31,Tryz.ntmps31
 go_wp2_with fail
 go_quiet (fail)
 generalize nq=q
 go_wp2_with fail
 go_quiet (fail)
 generalize nq=q2
 go_wp2_with fail
 go_ret
 exact ⟨rfl,grown_none (grown_drewN _ _) (grown_drewN _ _)⟩
theorem str_eqB (a c:List UInt8):((str a).toList == (str c).toList)=decide (a=c):=by
 rw [ByteArray.toList_eq,ByteArray.toList_eq,show (str a).data.toList=a by simp [str],show (str c).data.toList=c by simp [str]]
 by_cases h:a=c
 ·rw [decide_eq_true h,h];simp
 rw [decide_eq_false h];simpa using h
def Eat (β:Bool) (ts:List Tok) (s:List UInt8):Prop:=β=false∧hd (tk ts)=s
theorem hd_ne {s:List UInt8} (hs:s≠[]) (h:hd (tk ts)=s):∃ t r,ts=t::r:=by
 cases ts with
 | nil=>exact absurd h.symm hs
 | cons t r=>exact ⟨t,r,rfl⟩
theorem eat_no (h:Rs w b g K β ts) (s:List UInt8) (hq:¬ Eat β ts s):Calls Tryz.prog 27 #[.pointer (some ⟨b,0,none⟩),.string (str s)] w fun e w'=>e=.returned (.bool false)∧Rs w' b g K β ts∧w.grownBy w' none:=by
 have ht:=text_any h 0 (by omega)
 rw [List.drop_zero] at ht
 have HR:=ħ h
 obtain ⟨p,a,c,h1,h2,h3⟩:=h.blk
 have hc:=cells_at h2
 clear h1 h2 h3 h
 cases β with
 | true=>
  clear hq ht
  go_enter Tryz.func27,Tryz.ntmps27
  go_wp2_with fail
  go_ret
  exact ⟨rfl,HR.out,grown_refl _ _⟩
 | false=>
  have e:¬ hd (tk ts)=s:=fun e=>hq ⟨rfl,e⟩
  have hq2:((str (hd (tk ts))).toList == (str s).toList)=false:=by rw [str_eqB];exact decide_eq_false e
  have hq3:((str (hd (tk ts))).toList != (str s).toList)=true:=by unfold bne;rw [hq2];rfl
  generalize hd (tk ts)=t at *
  clear e hq
  go_enter Tryz.func27,Tryz.ntmps27
  go_wp2_with fail
  go_at_call 31
  refine ht.mono ?_
  rintro ee w1 ⟨rfl,hg1⟩
  have HN:=ħ (And.intro (HR.out.grown hg1) hg1)
  clear hg1
  go_wp2_with fail
  go_ret
  exact ⟨rfl,HN.out.1,HN.out.2⟩
theorem eat_yes (h:Rs w b g K β ts) (s:List UInt8) (hs:s≠[]) (hq:Eat β ts s):Calls Tryz.prog 27 #[.pointer (some ⟨b,0,none⟩),.string (str s)] w fun e w'=>e=.returned (.bool true)∧Rs w' b g K false ts.tail∧w.grownBy w' (some b):=by
 obtain ⟨rfl,e⟩:=hq
 have ht:=text_any h 0 (by omega)
 rw [List.drop_zero] at ht
 obtain ⟨t,r,rfl⟩:=hd_ne hs e
 have HR:=ħ h
 obtain ⟨p,a,c,h1,h2,h3⟩:=h.blk
 have hc:=cells_at h2
 have hlen:=h.len
 have hl:K.length=p.length+(r.length+1):=by rw [h1];simp
 clear h1 h2 h3 h hl
 have hq2:((str (hd (tk (t::r)))).toList == (str s).toList)=true:=by rw [str_eqB];exact decide_eq_true e
 have hq3:((str (hd (tk (t::r)))).toList != (str s).toList)=false:=by unfold bne;rw [hq2];rfl
 generalize hd (tk (t::r))=x at *
 clear e hc
 obtain ⟨p,a,c,h1,h2,h3⟩:=HR.out.blk
 have hc:=cells_at h2
 clear h1 h2 h3
 go_enter Tryz.func27,Tryz.ntmps27
 go_wp2_with fail
 go_at_call 31
 refine ht.mono ?_
 rintro ee w1 ⟨rfl,hg1⟩
 have hR1:=HR.out.grown hg1
 obtain ⟨p1,a1,c1,h1,h2,h3⟩:=hR1.blk
 have r1:=hR1.step h1 h2 h3
 have hc1:=cells_at h2
 have hf1:=frozen_at h2
 have hp:p1.length+1≤K.length:=by rw [h1];simp
 have hw:IntKind.i64.wrap ((p1.length:Int)+1)=(p1.length:Int)+1:=by rw [IntKind.wrap_i64];omega
 have HN:=ħ (And.intro r1 (grown_trans (grown_some hg1) (grown_own w1 b 1 (.int .i64 ((p1.length:Int)+1)))))
 clear hg1 hR1 r1 h1 h2 h3 hc
 go_wp2_with fail
 go_ret
 exact ⟨rfl,HN.out.1,HN.out.2⟩
def Mu (s:List UInt8) (β:Bool) (ts:List Tok) (β':Bool) (r:List Tok):Prop:=(β=true∧β'=true∧r=ts)∨(β=false∧β'=false∧hd (tk ts)=s∧r=ts.tail)∨(β=false∧β'=true∧¬ hd (tk ts)=s∧r=ts)
theorem must_any (h:Rs w b g K β ts) (s:List UInt8) (hs:s≠[]):Calls Tryz.prog 29 #[.pointer (some ⟨b,0,none⟩),.string (str s)] w fun e w'=>∃ v β' r,e=.returned v∧Mu s β ts β' r∧Rs w' b g K β' r∧w.grownBy w' (some b):=by
 by_cases hq:Eat β ts s
 ·have he:=eat_yes h s hs hq
  have HQ:=ħ hq
  clear h hq
  go_enter Tryz.func29,Tryz.ntmps29
  go_wp2_with fail
  go_at_call 27
  refine he.mono ?_
  rintro e w1 ⟨rfl,r1,r2⟩
  have HN:=ħ (And.intro r1 r2)
  clear r1 r2
  go_wp2_with fail
  go_end0
  exact ⟨_,_,_,rfl,Or.inr (Or.inl ⟨HQ.out.1,rfl,HQ.out.2,rfl⟩),HN.out.1,HN.out.2⟩
 have he:=eat_no h s hq
 have HQ:=ħ hq
 clear h hq
 go_enter Tryz.func29,Tryz.ntmps29
 go_wp2_with fail
 go_at_call 27
 refine he.mono ?_
 rintro e w1 ⟨rfl,r1,r2⟩
 have hf:=fail_any r1
 have HN:=ħ r2
 clear r1 r2
 go_wp2_with fail
 go_at_call 52
 refine hf.mono ?_
 rintro e w2 ⟨⟨v,rfl⟩,q1,q2⟩
 have HM:=ħ (And.intro q1 (grown_trans (grown_some HN.out) q2))
 clear q1 q2
 go_wp2_with fail
 go_end0
 refine ⟨_,true,ts,rfl,?_,HM.out.1,HM.out.2⟩
 cases β with
 | true=>exact Or.inl ⟨rfl,rfl,rfl⟩
 | false=>exact Or.inr (Or.inr ⟨rfl,rfl,fun e=>HQ.out ⟨rfl,e⟩,rfl⟩)
theorem hd_short (hF:Fits ts):(str (hd (tk ts))).size≤4000:=by
 cases ts with
 | nil=>show 0≤_;omega
 | cons t r=>
  rw [hd_tk]
  split
  ·show 0≤_;omega
  rw [str_data]
  exact (hF t (by simp)).short
theorem fits_drop (hF:Fits ts) (k:Nat):Fits (ts.drop k):=hF.suf (List.drop_suffix k ts)
theorem isName_any (hF:Fits ts) (h:Rs w b g K β ts) (k:Nat) (hk:k≤1):Calls Tryz.prog 51 #[.pointer (some ⟨b,0,none⟩),.int .i64 k] w fun e w'=>e=.returned (.bool (nameB (hd (tk (ts.drop k)))))∧w.grownBy w' none:=by
 have ht:=text_any h k hk
 have hsh:=hd_short (fits_drop hF k)
 have hn:=fun w'=>T.name_any (str (hd (tk (ts.drop k)))) w' (show _≤9223372036854775807 by omega)
 rw [show T.bytes (str (hd (tk (ts.drop k))))=hd (tk (ts.drop k)) from bytes_str _] at hn
 generalize hd (tk (ts.drop k))=t at *
 generalize nameB t=r at *
 clear h hsh
 go_enter Tryz.func51,Tryz.ntmps51
 go_wp2_with fail
 go_at_call 31
 refine ht.mono ?_
 rintro e w1 ⟨rfl,g1⟩
 have G1:=ħ g1
 clear g1
 go_wp2_with fail
 go_at_call 71
 refine (hn _).mono ?_
 rintro e w2 ⟨rfl,g2⟩
 have G2:Hid (w.grownBy w2 none):=grown_none G1.out (grown_below g2)
 clear g2
 go_wp2_with fail
 go_ret
 exact ⟨rfl,G2.out⟩
def Na (x:List UInt8) (β:Bool) (ts:List Tok) (β':Bool) (r:List Tok):Prop:=(β=true∧β'=true∧r=ts∧x=[])∨(β=false∧β'=false∧nameB (hd (tk ts))=true∧r=ts.tail∧x=hd (tk ts))∨(β=false∧β'=true∧nameB (hd (tk ts))=false∧r=ts∧x=[])
theorem name_any (hF:Fits ts) (h:Rs w b g K β ts):Calls Tryz.prog 28 #[.pointer (some ⟨b,0,none⟩)] w fun e w'=>∃ x β' r,e=.returned (.string (str x))∧Na x β ts β' r∧Rs w' b g K β' r∧w.grownBy w' (some b):=by
 have ht:=text_any h 0 (by omega)
 rw [List.drop_zero] at ht
 have HR:=ħ h
 have HF:=ħ hF
 clear h hF
 go_enter Tryz.func28,Tryz.ntmps28
 go_wp2_with fail
 go_at_call 31
 refine ht.mono ?_
 rintro e w1 ⟨rfl,g1⟩
 have hR1:=HR.out.grown g1
 have hin:=isName_any HF.out hR1 0 (by omega)
 rw [List.drop_zero] at hin
 obtain ⟨p,a,c,h1,h2,h3⟩:=hR1.blk
 have hc:=cells_at h2
 have G1:=ħ (grown_some (b:=b) g1)
 have HR1:=ħ hR1
 clear g1 hR1 ht h1 h2 h3
 cases β with
 | true=>
  clear hin
  go_wp2_with fail
  go_at_call 52
  refine (fail_any HR1.out).mono ?_
  rintro e w2 ⟨⟨v,rfl⟩,q1,q2⟩
  have HM:=ħ (And.intro q1 (grown_trans G1.out q2))
  clear q1 q2
  go_wp2_with fail
  go_ret
  exact ⟨[],true,ts,rfl,Or.inl ⟨rfl,rfl,rfl,rfl⟩,HM.out.1,HM.out.2⟩
 | false=>
  cases hn:nameB (hd (tk ts)) with
  | false=>
   have Hn:=ħ hn
   rw [hn] at hin
   clear hn
   go_wp2_with fail
   go_at_call 51
   refine hin.mono ?_
   rintro e w2 ⟨rfl,g2⟩
   have hR2:=HR1.out.grown g2
   have hf:=fail_any hR2
   have G2:=ħ (grown_trans G1.out (grown_some (b:=b) g2))
   clear g2 hR2 hin hc
   go_wp2_with fail
   go_at_call 52
   refine hf.mono ?_
   rintro e w3 ⟨⟨v,rfl⟩,q1,q2⟩
   have HM:=ħ (And.intro q1 (grown_trans G2.out q2))
   clear q1 q2
   go_wp2_with fail
   go_ret
   exact ⟨[],true,ts,rfl,Or.inr (Or.inr ⟨rfl,rfl,Hn.out,rfl,rfl⟩),HM.out.1,HM.out.2⟩
  | true=>
   have Hn:=ħ hn
   rw [hn] at hin
   obtain ⟨t,r,rfl⟩:=hd_ne (ts:=ts) (s:=hd (tk ts)) (fun e=>by rw [e] at hn;revert hn;decide) rfl
   clear hn
   go_wp2_with fail
   go_at_call 51
   refine hin.mono ?_
   rintro e w2 ⟨rfl,g2⟩
   have hR2:=HR1.out.grown g2
   have hlen:=hR2.len
   obtain ⟨p2,a2,c2,h1,h2,h3⟩:=hR2.blk
   have r1:=hR2.step h1 h2 h3
   have hc2:=cells_at h2
   have hf2:=frozen_at h2
   have hp:p2.length+1≤K.length:=by rw [h1];simp
   have hw:IntKind.i64.wrap ((p2.length:Int)+1)=(p2.length:Int)+1:=by rw [IntKind.wrap_i64];omega
   have HM:=ħ (And.intro r1 (grown_trans (grown_trans G1.out (grown_some (b:=b) g2)) (grown_own w2 b 1 (.int .i64 ((p2.length:Int)+1)))))
   clear g2 hR2 hin hc r1 h1 h2 h3
   go_wp2_with fail
   go_ret
   exact ⟨_,false,r,rfl,Or.inr (Or.inl ⟨rfl,rfl,Hn.out,rfl,rfl⟩),HM.out.1,HM.out.2⟩
end Go.Proofs.YthcfianhdkolhaaGreatDoor.Y.Z
namespace Go.Proofs.YthcfianhdkolhaaGreatDoor.Y.Z
open Go.RowKit Go.Proofs.YthcfianhdkolhaaGreatDoor.T Go.Proofs.YthcfianhdkolhaaGreatDoor.S
open Go.Proofs.YthcfianhdkolhaaGreatDoor.X (Tok)
set_option linter.unusedVariables false
set_option linter.unusedSimpArgs false
set_option maxRecDepth 100000
set_option maxHeartbeats 2000000
variable {w w' : World} {b g : Nat} {K ts : List Tok} {β : Bool}
variable {w0 : World} {L : List Bk}
structure Wr (w0 w:World) (b g:Nat) (K:List Tok) (β:Bool) (ts:List Tok) (L:List Bk):Prop where
 grown:w0.grownBy w (some b)
 ps:Rs w b g K β ts
 gl:g<w0.heap.size
 bl:b<w0.heap.size
 blk:∀ x,x∈L→w0.heap.size≤x.1∧w.heap[x.1]?=some (.cells x.2.1 x.2.2 (0,0))
 ord:L.Pairwise (fun x y=>x.1≠y.1)
theorem Wr.start (h:Rs w b g K β ts):Wr w w b g K β ts []:=⟨⟨rfl,rfl,rfl,Nat.le_refl _,fun _ _ _=>rfl⟩,h,h.gl,h.lt,fun x hx=>by simp at hx,List.Pairwise.nil⟩
theorem Wr.glt (h:Wr w0 w b g K β ts L):g<w.heap.size:=Nat.lt_of_lt_of_le h.gl h.grown.size
theorem Wr.lt (h:Wr w0 w b g K β ts L):∀ x,x∈L→x.1<w.heap.size:=fun x hx=>(Array.getElem?_eq_some_iff.1 (h.blk x hx).2).1
theorem Wr.alloc (h:Wr w0 w b g K β ts L) (cs:Array Value) (T:TypeId):Wr w0 (w.alloc (.cells cs T)) b g K β ts ((w.heap.size,cs,T)::L):=by
 refine ⟨grown_none h.grown (grown_alloc w _),h.ps.alloc _,h.gl,h.bl,fun x hx=>?_,List.Pairwise.cons (fun x hx=>?_) h.ord⟩
 ·rcases List.mem_cons.1 hx with rfl|hx
  ·exact ⟨h.grown.size,heap_new w cs T⟩
  exact ⟨(h.blk x hx).1,(Below.heap_alloc w _ _ (h.lt x hx)).trans (h.blk x hx).2⟩
 have:=h.lt x hx
 show w.heap.size≠x.1
 omega
theorem Wr.alloc' (h:Wr w0 w b g K β ts L) (q:Nat) (hq:w.heap.size=q) (cs:Array Value) (T:TypeId):Wr w0 (w.alloc (.cells cs T)) b g K β ts ((q,cs,T)::L):=by
 subst hq
 exact h.alloc cs T
theorem Wr.call (h:Wr w0 w b g K β ts L) {β':Bool} {ts':List Tok} (hG:w.grownBy w' (some b)) (hP:Rs w' b g K β' ts'):Wr w0 w' b g K β' ts' L:=by
 refine ⟨grown_trans h.grown hG,hP,h.gl,h.bl,fun x hx=>⟨(h.blk x hx).1,?_⟩,h.ord⟩
 have h1:=(h.blk x hx).1
 have h2:=h.bl
 exact (hG.block x.1 (h.lt x hx) (fun e=>by have:=Option.some.inj e;omega)).trans (h.blk x hx).2
theorem Wr.quiet (h:Wr w0 w b g K β ts L) (hG:w.grownBy w' none):Wr w0 w' b g K β ts L:=h.call (grown_some hG) (h.ps.grown hG)
theorem Wr.rowed (h:Wr w0 w b g K β ts L) {r:Option Nat} {s:Nat} (hG:w.grownBy w' r) (hs:w0.heap.size≤s) (hr:∀ k,r=some k→Av s L k):Wr w0 w' b g K β ts L:=by
 have hne:∀ k,k<w0.heap.size→some k≠r:=fun k hk e=>by
  have:=(hr k e.symm).1
  omega
 refine ⟨⟨hG.os.trans h.grown.os,hG.tape.trans h.grown.tape,hG.output.trans h.grown.output,Nat.le_trans h.grown.size hG.size,fun k hk hn=>(hG.block k (Nat.lt_of_lt_of_le hk h.grown.size) (hne k hk)).trans (h.grown.block k hk hn)⟩,?_,h.gl,h.bl,fun x hx=>⟨(h.blk x hx).1,?_⟩,h.ord⟩
 ·obtain ⟨p,a,c,h1,h2,h3⟩:=h.ps.blk
  exact ⟨h.ps.ne,h.ps.len,Nat.lt_of_lt_of_le h.ps.gl hG.size,typ_same h.ps.typ (hG.block g h.glt (hne g h.gl)),h.ps.toks.same (hG.block g h.glt (hne g h.gl)),p,a,c,h1,(hG.block b h.ps.lt (hne b h.bl)).trans h2,h3⟩
 exact (hG.block x.1 (h.lt x hx) (fun e=>(hr x.1 e.symm).2 x hx rfl)).trans (h.blk x hx).2
theorem Wr.set (L1 L2:List Bk) {q:Nat} {cs:Array Value} {T:TypeId} (h:Wr w0 w b g K β ts (L1++(q,cs,T)::L2)) (i:Nat) (v:Value):Wr w0 (w.setCell ⟨q,i,none⟩ v) b g K β ts (L1++(q,cs.setIfInBounds i v,T)::L2):=by
 obtain ⟨p1,p2,p3,p4⟩:=pairwise_mid (c':=cs.setIfInBounds i v) (T':=T) h.ord
 have hq:=h.blk (q,cs,T) (by simp)
 have hbl:=h.bl
 have hgl:=h.gl
 have hq1:w0.heap.size≤q:=hq.1
 refine ⟨grown_set h.grown hq1,h.ps.set (by omega) (by omega),h.gl,h.bl,fun x hx=>?_,p1⟩
 rcases List.mem_append.1 hx with hx|hx
 ·have:=h.blk x (by simp [hx])
  exact ⟨this.1,(heap_setCell_other _ _ _ _ (p2 x hx)).trans this.2⟩
 rcases List.mem_cons.1 hx with rfl|hx
 ·exact ⟨hq1,heap_setCell_same w q i _ _ _ hq.2⟩
 have:=h.blk x (by simp [hx])
 exact ⟨this.1,(heap_setCell_other _ _ _ _ (fun e=>p3 x hx e.symm)).trans this.2⟩
theorem Wr.set4 (L1 L2:List Bk) {q:Nat} {c0 c1 c2 c3:Value} {T:TypeId} (h:Wr w0 w b g K β ts (L1++(q,#[c0,c1,c2,c3],T)::L2)) (x0 x1 x2 x3:Value):Wr w0 ((((w.setCell ⟨q,0,none⟩ x0).setCell ⟨q,1,none⟩ x1).setCell ⟨q,2,none⟩ x2).setCell ⟨q,3,none⟩ x3) b g K β ts (L1++(q,#[x0,x1,x2,x3],T)::L2):=
 ((((h.set L1 L2 0 x0).set L1 L2 1 x1).set L1 L2 2 x2).set L1 L2 3 x3)
theorem Wr.drop (L1 L2:List Bk) {x:Bk} (h:Wr w0 w b g K β ts (L1++x::L2)):Wr w0 w b g K β ts (L1++L2):=by
 obtain ⟨q,c,T⟩:=x
 refine ⟨h.grown,h.ps,h.gl,h.bl,fun y hy=>h.blk y ?_,(pairwise_mid (c':=c) (T':=T) h.ord).2.2.2⟩
 rcases List.mem_append.1 hy with hy|hy
 ·simp [hy]
 simp [hy]
theorem Wr.giv {w1:World} {n:Nd} {v:Value} (h:Wr w0 w b g K β ts L) (k:NdV w1 (fun k=>w.heap.size≤k) n v):NdV w1 (Av w.heap.size L) n v:=k.mono (fun k hk _=>⟨hk,fun x hx=>by have:=h.lt x hx;have hk:w.heap.size≤k:=hk;omega⟩)
theorem Wr.givr {w1:World} {l:List Nd} {v:Value} (h:Wr w0 w b g K β ts L) (k:RowN w1 (fun k=>w.heap.size≤k) v l):RowN w1 (Av w.heap.size L) v l:=k.move (fun k hk hl=>⟨rfl,hk,fun x hx=>by have:=h.lt x hx;have hk:w.heap.size≤k:=hk;omega⟩)
theorem Wr.one (L1 L2:List Bk) {q s:Nat} {k1 v1:Int} {t1:ByteArray} {a1:Option Addr} {n1 c1:Nat} {x:Nd} (h:Wr w0 w b g K β ts (L1++(q,#[.int .i64 k1,.string t1,.int .i64 v1,.slice a1 n1 c1],24)::L2)) (hs:s≤q) (hx:NdV w (Av s (L1++(q,#[.int .i64 k1,.string t1,.int .i64 v1,.slice a1 n1 c1],24)::L2)) x (.agg #[.int .i64 k1,.string t1,.int .i64 v1,.slice a1 n1 c1])):
  RowN w (Av s (L1++L2)) (.slice (some ⟨q,0,none⟩) 1 1) [x]:=by
 obtain ⟨p1,p2,p3,p4⟩:=pairwise_mid (c':=#[]) (T':=0) h.ord
 have hq:=(h.blk (q,#[.int .i64 k1,.string t1,.int .i64 v1,.slice a1 n1 c1],24) (by simp)).2
 refine ⟨fun k hk=>?_,[(.int .i64 k1,.string t1,.int .i64 v1,.slice a1 n1 c1)],rfl,⟨by simp [cellsN],Or.inr ⟨q,1,#[.int .i64 k1,.string t1,.int .i64 v1,.slice a1 n1 c1],rfl,Nat.zero_le _,hq,by simp,by decide,rfl,rfl⟩⟩,fun j hj hj'=>?_⟩
 ·obtain rfl:q=k:=by simpa [Value.ownBlock] using hk
  refine ⟨hs,fun y hy=>?_⟩
  rcases List.mem_append.1 hy with hy|hy
  ·exact p2 y hy
  exact fun e=>p3 y hy e.symm
 obtain rfl:j=0:=by simpa using hj
 refine hx.mono (fun k hk _=>⟨⟨hk.1,fun y hy=>hk.2 y (by
  rcases List.mem_append.1 hy with hy|hy
  ·simp [hy]
  simp [hy])⟩,fun e=>hk.2 (q,#[.int .i64 k1,.string t1,.int .i64 v1,.slice a1 n1 c1],24) (by simp) ?_⟩)
 exact (Option.some.inj e).symm
theorem Wr.two (L1 L2:List Bk) {q s:Nat} {k1 v1 k2 v2:Int} {t1 t2:ByteArray} {a1 a2:Option Addr} {n1 c1 n2 c2:Nat} {x y:Nd} (h:Wr w0 w b g K β ts (L1++(q,#[.int .i64 k1,.string t1,.int .i64 v1,.slice a1 n1 c1,.int .i64 k2,.string t2,.int .i64 v2,.slice a2 n2 c2],24)::L2)) (hs:s≤q)
  (hx:NdV w (Av s (L1++(q,#[.int .i64 k1,.string t1,.int .i64 v1,.slice a1 n1 c1,.int .i64 k2,.string t2,.int .i64 v2,.slice a2 n2 c2],24)::L2)) x (.agg #[.int .i64 k1,.string t1,.int .i64 v1,.slice a1 n1 c1]))
  (hy:NdV w (Av s (L1++(q,#[.int .i64 k1,.string t1,.int .i64 v1,.slice a1 n1 c1,.int .i64 k2,.string t2,.int .i64 v2,.slice a2 n2 c2],24)::L2)) y (.agg #[.int .i64 k2,.string t2,.int .i64 v2,.slice a2 n2 c2])):
  RowN w (Av s (L1++L2)) (.slice (some ⟨q,0,none⟩) 2 2) [x,y]:=by
 obtain ⟨p1,p2,p3,p4⟩:=pairwise_mid (c':=#[]) (T':=0) h.ord
 have hq:=(h.blk (q,#[.int .i64 k1,.string t1,.int .i64 v1,.slice a1 n1 c1,.int .i64 k2,.string t2,.int .i64 v2,.slice a2 n2 c2],24) (by simp)).2
 have hm:∀ n v,NdV w (Av s (L1++(q,#[.int .i64 k1,.string t1,.int .i64 v1,.slice a1 n1 c1,.int .i64 k2,.string t2,.int .i64 v2,.slice a2 n2 c2],24)::L2)) n v→NdV w (fun k=>Av s (L1++L2) k∧some k≠(Value.slice (some ⟨q,0,none⟩) 2 2).ownBlock) n v:=fun n v hn=>
  hn.mono (fun k hk _=>⟨⟨hk.1,fun y hy=>hk.2 y (by
   rcases List.mem_append.1 hy with hy|hy
   ·simp [hy]
   simp [hy])⟩,fun e=>hk.2 (q,#[.int .i64 k1,.string t1,.int .i64 v1,.slice a1 n1 c1,.int .i64 k2,.string t2,.int .i64 v2,.slice a2 n2 c2],24) (by simp) (Option.some.inj e).symm⟩)
 refine ⟨fun k hk=>?_,[(.int .i64 k1,.string t1,.int .i64 v1,.slice a1 n1 c1),(.int .i64 k2,.string t2,.int .i64 v2,.slice a2 n2 c2)],rfl,⟨by simp [cellsN],Or.inr ⟨q,2,#[.int .i64 k1,.string t1,.int .i64 v1,.slice a1 n1 c1,.int .i64 k2,.string t2,.int .i64 v2,.slice a2 n2 c2],rfl,Nat.zero_le _,hq,by simp,by decide,rfl,rfl⟩⟩,fun j hj hj'=>?_⟩
 ·obtain rfl:q=k:=by simpa [Value.ownBlock] using hk
  refine ⟨hs,fun y hy=>?_⟩
  rcases List.mem_append.1 hy with hy|hy
  ·exact p2 y hy
  exact fun e=>p3 y hy e.symm
 have hj2:j=0∨j=1:=by have:j<2:=(by simpa using hj);omega
 rcases hj2 with rfl|rfl
 ·exact hm _ _ hx
 exact hm _ _ hy
theorem Wr.c0 {q:Nat} {cs:Array Value} {T:TypeId} (h:Wr w0 w b g K β ts ((q,cs,T)::L)):∀ o,w.cell? ⟨q,o,none⟩=cs[o]?:=cells_at (h.blk (q,cs,T) List.mem_cons_self).2
theorem Wr.f0 {q:Nat} {cs:Array Value} {T:TypeId} (h:Wr w0 w b g K β ts ((q,cs,T)::L)):∀ o,w.frozen? ⟨q,o,none⟩=false:=frozen_at (h.blk (q,cs,T) List.mem_cons_self).2
theorem Wr.l0 {q:Nat} {cs:Array Value} {T:TypeId} (h:Wr w0 w b g K β ts ((q,cs,T)::L)):q<w.heap.size:=h.lt (q,cs,T) List.mem_cons_self
theorem Wr.s0 {q:Nat} {c0 c1 c2 c3:Value} {T:TypeId} (h:Wr w0 w b g K β ts ((q,#[c0,c1,c2,c3],T)::L)) (x0 x1 x2 x3:Value):Wr w0 ((((w.setCell ⟨q,0,none⟩ x0).setCell ⟨q,1,none⟩ x1).setCell ⟨q,2,none⟩ x2).setCell ⟨q,3,none⟩ x3) b g K β ts ((q,#[x0,x1,x2,x3],T)::L):=h.set4 [] L x0 x1 x2 x3
theorem Wr.ms0 {q s:Nat} {c0 c1 c2 c3 x0 x1 x2 x3:Value} {T:TypeId} (h:Wr w0 ((((w.setCell ⟨q,0,none⟩ x0).setCell ⟨q,1,none⟩ x1).setCell ⟨q,2,none⟩ x2).setCell ⟨q,3,none⟩ x3) b g K β ts ((q,#[x0,x1,x2,x3],T)::L)):Mv w ((((w.setCell ⟨q,0,none⟩ x0).setCell ⟨q,1,none⟩ x1).setCell ⟨q,2,none⟩ x2).setCell ⟨q,3,none⟩ x3) (Av s ((q,#[c0,c1,c2,c3],T)::L)) (Av s ((q,#[x0,x1,x2,x3],T)::L)):=Mv.set4 [] L w x0 x1 x2 x3
theorem Wr.d0 {x:Bk} (h:Wr w0 w b g K β ts (x::L)):Wr w0 w b g K β ts (L):=h.drop [] L
theorem Wr.o0 {q:Nat} {k1 v1:Int} {t1:ByteArray} {a1:Option Addr} {n1 c1:Nat} {x:Nd} (h:Wr w0 w b g K β ts ((q,#[.int .i64 k1,.string t1,.int .i64 v1,.slice a1 n1 c1],24)::L)) (hx:NdV w (Av w0.heap.size ((q,#[.int .i64 k1,.string t1,.int .i64 v1,.slice a1 n1 c1],24)::L)) x (.agg #[.int .i64 k1,.string t1,.int .i64 v1,.slice a1 n1 c1])):RowN w (Av w0.heap.size (L)) (.slice (some ⟨q,0,none⟩) 1 1) [x]:=Wr.one [] L h (h.blk (q,#[.int .i64 k1,.string t1,.int .i64 v1,.slice a1 n1 c1],24) List.mem_cons_self).1 hx
theorem Wr.p00 {q:Nat} {c0 c1 c2 c3:Value} {T:TypeId} (h:Wr w0 w b g K β ts ((q,#[c0,c1,c2,c3],T)::L)) (v:Value):Wr w0 (w.setCell ⟨q,0,none⟩ v) b g K β ts ((q,#[v,c1,c2,c3],T)::L):=h.set [] L 0 v
theorem Wr.mp00 {q s:Nat} {c0 c1 c2 c3 v:Value} {T:TypeId} (h:Wr w0 (w.setCell ⟨q,0,none⟩ v) b g K β ts ((q,#[v,c1,c2,c3],T)::L)):Mv w (w.setCell ⟨q,0,none⟩ v) (Av s ((q,#[c0,c1,c2,c3],T)::L)) (Av s ((q,#[v,c1,c2,c3],T)::L)):=Mv.set [] L w v
theorem Wr.p02 {q:Nat} {c0 c1 c2 c3:Value} {T:TypeId} (h:Wr w0 w b g K β ts ((q,#[c0,c1,c2,c3],T)::L)) (v:Value):Wr w0 (w.setCell ⟨q,2,none⟩ v) b g K β ts ((q,#[c0,c1,v,c3],T)::L):=h.set [] L 2 v
theorem Wr.mp02 {q s:Nat} {c0 c1 c2 c3 v:Value} {T:TypeId} (h:Wr w0 (w.setCell ⟨q,2,none⟩ v) b g K β ts ((q,#[c0,c1,v,c3],T)::L)):Mv w (w.setCell ⟨q,2,none⟩ v) (Av s ((q,#[c0,c1,c2,c3],T)::L)) (Av s ((q,#[c0,c1,v,c3],T)::L)):=Mv.set [] L w v
theorem Wr.p03 {q:Nat} {c0 c1 c2 c3:Value} {T:TypeId} (h:Wr w0 w b g K β ts ((q,#[c0,c1,c2,c3],T)::L)) (v:Value):Wr w0 (w.setCell ⟨q,3,none⟩ v) b g K β ts ((q,#[c0,c1,c2,v],T)::L):=h.set [] L 3 v
theorem Wr.mp03 {q s:Nat} {c0 c1 c2 c3 v:Value} {T:TypeId} (h:Wr w0 (w.setCell ⟨q,3,none⟩ v) b g K β ts ((q,#[c0,c1,c2,v],T)::L)):Mv w (w.setCell ⟨q,3,none⟩ v) (Av s ((q,#[c0,c1,c2,c3],T)::L)) (Av s ((q,#[c0,c1,c2,v],T)::L)):=Mv.set [] L w v
theorem Wr.c1 {y0:Bk} {q:Nat} {cs:Array Value} {T:TypeId} (h:Wr w0 w b g K β ts (y0::(q,cs,T)::L)):∀ o,w.cell? ⟨q,o,none⟩=cs[o]?:=cells_at (h.blk (q,cs,T) (List.mem_cons_of_mem _ List.mem_cons_self)).2
theorem Wr.f1 {y0:Bk} {q:Nat} {cs:Array Value} {T:TypeId} (h:Wr w0 w b g K β ts (y0::(q,cs,T)::L)):∀ o,w.frozen? ⟨q,o,none⟩=false:=frozen_at (h.blk (q,cs,T) (List.mem_cons_of_mem _ List.mem_cons_self)).2
theorem Wr.l1 {y0:Bk} {q:Nat} {cs:Array Value} {T:TypeId} (h:Wr w0 w b g K β ts (y0::(q,cs,T)::L)):q<w.heap.size:=h.lt (q,cs,T) (List.mem_cons_of_mem _ List.mem_cons_self)
theorem Wr.s1 {y0:Bk} {q:Nat} {c0 c1 c2 c3:Value} {T:TypeId} (h:Wr w0 w b g K β ts (y0::(q,#[c0,c1,c2,c3],T)::L)) (x0 x1 x2 x3:Value):Wr w0 ((((w.setCell ⟨q,0,none⟩ x0).setCell ⟨q,1,none⟩ x1).setCell ⟨q,2,none⟩ x2).setCell ⟨q,3,none⟩ x3) b g K β ts (y0::(q,#[x0,x1,x2,x3],T)::L):=h.set4 [y0] L x0 x1 x2 x3
theorem Wr.ms1 {y0:Bk} {q s:Nat} {c0 c1 c2 c3 x0 x1 x2 x3:Value} {T:TypeId} (h:Wr w0 ((((w.setCell ⟨q,0,none⟩ x0).setCell ⟨q,1,none⟩ x1).setCell ⟨q,2,none⟩ x2).setCell ⟨q,3,none⟩ x3) b g K β ts (y0::(q,#[x0,x1,x2,x3],T)::L)):Mv w ((((w.setCell ⟨q,0,none⟩ x0).setCell ⟨q,1,none⟩ x1).setCell ⟨q,2,none⟩ x2).setCell ⟨q,3,none⟩ x3) (Av s (y0::(q,#[c0,c1,c2,c3],T)::L)) (Av s (y0::(q,#[x0,x1,x2,x3],T)::L)):=Mv.set4 [y0] L w x0 x1 x2 x3
theorem Wr.d1 {y0:Bk} {x:Bk} (h:Wr w0 w b g K β ts (y0::x::L)):Wr w0 w b g K β ts (y0::L):=h.drop [y0] L
theorem Wr.p10 {y0:Bk} {q:Nat} {c0 c1 c2 c3:Value} {T:TypeId} (h:Wr w0 w b g K β ts (y0::(q,#[c0,c1,c2,c3],T)::L)) (v:Value):Wr w0 (w.setCell ⟨q,0,none⟩ v) b g K β ts (y0::(q,#[v,c1,c2,c3],T)::L):=h.set [y0] L 0 v
theorem Wr.mp10 {y0:Bk} {q s:Nat} {c0 c1 c2 c3 v:Value} {T:TypeId} (h:Wr w0 (w.setCell ⟨q,0,none⟩ v) b g K β ts (y0::(q,#[v,c1,c2,c3],T)::L)):Mv w (w.setCell ⟨q,0,none⟩ v) (Av s (y0::(q,#[c0,c1,c2,c3],T)::L)) (Av s (y0::(q,#[v,c1,c2,c3],T)::L)):=Mv.set [y0] L w v
theorem Wr.p13 {y0:Bk} {q:Nat} {c0 c1 c2 c3:Value} {T:TypeId} (h:Wr w0 w b g K β ts (y0::(q,#[c0,c1,c2,c3],T)::L)) (v:Value):Wr w0 (w.setCell ⟨q,3,none⟩ v) b g K β ts (y0::(q,#[c0,c1,c2,v],T)::L):=h.set [y0] L 3 v
theorem Wr.mp13 {y0:Bk} {q s:Nat} {c0 c1 c2 c3 v:Value} {T:TypeId} (h:Wr w0 (w.setCell ⟨q,3,none⟩ v) b g K β ts (y0::(q,#[c0,c1,c2,v],T)::L)):Mv w (w.setCell ⟨q,3,none⟩ v) (Av s (y0::(q,#[c0,c1,c2,c3],T)::L)) (Av s (y0::(q,#[c0,c1,c2,v],T)::L)):=Mv.set [y0] L w v
theorem Wr.c2 {y0 y1:Bk} {q:Nat} {cs:Array Value} {T:TypeId} (h:Wr w0 w b g K β ts (y0::y1::(q,cs,T)::L)):∀ o,w.cell? ⟨q,o,none⟩=cs[o]?:=cells_at (h.blk (q,cs,T) (List.mem_cons_of_mem _ (List.mem_cons_of_mem _ List.mem_cons_self))).2
theorem Wr.f2 {y0 y1:Bk} {q:Nat} {cs:Array Value} {T:TypeId} (h:Wr w0 w b g K β ts (y0::y1::(q,cs,T)::L)):∀ o,w.frozen? ⟨q,o,none⟩=false:=frozen_at (h.blk (q,cs,T) (List.mem_cons_of_mem _ (List.mem_cons_of_mem _ List.mem_cons_self))).2
theorem Wr.l2 {y0 y1:Bk} {q:Nat} {cs:Array Value} {T:TypeId} (h:Wr w0 w b g K β ts (y0::y1::(q,cs,T)::L)):q<w.heap.size:=h.lt (q,cs,T) (List.mem_cons_of_mem _ (List.mem_cons_of_mem _ List.mem_cons_self))
theorem Wr.s2 {y0 y1:Bk} {q:Nat} {c0 c1 c2 c3:Value} {T:TypeId} (h:Wr w0 w b g K β ts (y0::y1::(q,#[c0,c1,c2,c3],T)::L)) (x0 x1 x2 x3:Value):Wr w0 ((((w.setCell ⟨q,0,none⟩ x0).setCell ⟨q,1,none⟩ x1).setCell ⟨q,2,none⟩ x2).setCell ⟨q,3,none⟩ x3) b g K β ts (y0::y1::(q,#[x0,x1,x2,x3],T)::L):=h.set4 [y0,y1] L x0 x1 x2 x3
theorem Wr.ms2 {y0 y1:Bk} {q s:Nat} {c0 c1 c2 c3 x0 x1 x2 x3:Value} {T:TypeId} (h:Wr w0 ((((w.setCell ⟨q,0,none⟩ x0).setCell ⟨q,1,none⟩ x1).setCell ⟨q,2,none⟩ x2).setCell ⟨q,3,none⟩ x3) b g K β ts (y0::y1::(q,#[x0,x1,x2,x3],T)::L)):Mv w ((((w.setCell ⟨q,0,none⟩ x0).setCell ⟨q,1,none⟩ x1).setCell ⟨q,2,none⟩ x2).setCell ⟨q,3,none⟩ x3) (Av s (y0::y1::(q,#[c0,c1,c2,c3],T)::L)) (Av s (y0::y1::(q,#[x0,x1,x2,x3],T)::L)):=Mv.set4 [y0,y1] L w x0 x1 x2 x3
theorem Wr.p23 {y0 y1:Bk} {q:Nat} {c0 c1 c2 c3:Value} {T:TypeId} (h:Wr w0 w b g K β ts (y0::y1::(q,#[c0,c1,c2,c3],T)::L)) (v:Value):Wr w0 (w.setCell ⟨q,3,none⟩ v) b g K β ts (y0::y1::(q,#[c0,c1,c2,v],T)::L):=h.set [y0,y1] L 3 v
theorem Wr.mp23 {y0 y1:Bk} {q s:Nat} {c0 c1 c2 c3 v:Value} {T:TypeId} (h:Wr w0 (w.setCell ⟨q,3,none⟩ v) b g K β ts (y0::y1::(q,#[c0,c1,c2,v],T)::L)):Mv w (w.setCell ⟨q,3,none⟩ v) (Av s (y0::y1::(q,#[c0,c1,c2,c3],T)::L)) (Av s (y0::y1::(q,#[c0,c1,c2,v],T)::L)):=Mv.set [y0,y1] L w v
theorem Wr.c3 {y0 y1 y2:Bk} {q:Nat} {cs:Array Value} {T:TypeId} (h:Wr w0 w b g K β ts (y0::y1::y2::(q,cs,T)::L)):∀ o,w.cell? ⟨q,o,none⟩=cs[o]?:=cells_at (h.blk (q,cs,T) (List.mem_cons_of_mem _ (List.mem_cons_of_mem _ (List.mem_cons_of_mem _ List.mem_cons_self)))).2
theorem Wr.f3 {y0 y1 y2:Bk} {q:Nat} {cs:Array Value} {T:TypeId} (h:Wr w0 w b g K β ts (y0::y1::y2::(q,cs,T)::L)):∀ o,w.frozen? ⟨q,o,none⟩=false:=frozen_at (h.blk (q,cs,T) (List.mem_cons_of_mem _ (List.mem_cons_of_mem _ (List.mem_cons_of_mem _ List.mem_cons_self)))).2
theorem Wr.l3 {y0 y1 y2:Bk} {q:Nat} {cs:Array Value} {T:TypeId} (h:Wr w0 w b g K β ts (y0::y1::y2::(q,cs,T)::L)):q<w.heap.size:=h.lt (q,cs,T) (List.mem_cons_of_mem _ (List.mem_cons_of_mem _ (List.mem_cons_of_mem _ List.mem_cons_self)))
theorem Wr.s3 {y0 y1 y2:Bk} {q:Nat} {c0 c1 c2 c3:Value} {T:TypeId} (h:Wr w0 w b g K β ts (y0::y1::y2::(q,#[c0,c1,c2,c3],T)::L)) (x0 x1 x2 x3:Value):Wr w0 ((((w.setCell ⟨q,0,none⟩ x0).setCell ⟨q,1,none⟩ x1).setCell ⟨q,2,none⟩ x2).setCell ⟨q,3,none⟩ x3) b g K β ts (y0::y1::y2::(q,#[x0,x1,x2,x3],T)::L):=h.set4 [y0,y1,y2] L x0 x1 x2 x3
theorem Wr.ms3 {y0 y1 y2:Bk} {q s:Nat} {c0 c1 c2 c3 x0 x1 x2 x3:Value} {T:TypeId} (h:Wr w0 ((((w.setCell ⟨q,0,none⟩ x0).setCell ⟨q,1,none⟩ x1).setCell ⟨q,2,none⟩ x2).setCell ⟨q,3,none⟩ x3) b g K β ts (y0::y1::y2::(q,#[x0,x1,x2,x3],T)::L)):Mv w ((((w.setCell ⟨q,0,none⟩ x0).setCell ⟨q,1,none⟩ x1).setCell ⟨q,2,none⟩ x2).setCell ⟨q,3,none⟩ x3) (Av s (y0::y1::y2::(q,#[c0,c1,c2,c3],T)::L)) (Av s (y0::y1::y2::(q,#[x0,x1,x2,x3],T)::L)):=Mv.set4 [y0,y1,y2] L w x0 x1 x2 x3
theorem Wr.ma {q s:Nat} {cs:Array Value} {T:TypeId} (h:Wr w0 (w.alloc (.cells cs T)) b g K β ts ((q,cs,T)::L)) (hq:w.heap.size=q):Mv w (w.alloc (.cells cs T)) (Av s L) (Av s ((q,cs,T)::L)):=Mv.alloc' w q hq cs T s L
theorem Wr.t0 {L:List Bk} {q:Nat} {k1 v1 k2 v2:Int} {t1 t2:ByteArray} {a1 a2:Option Addr} {n1 c1 n2 c2:Nat} {x y:Nd} (h:Wr w0 w b g K β ts ((q,#[.int .i64 k1,.string t1,.int .i64 v1,.slice a1 n1 c1,.int .i64 k2,.string t2,.int .i64 v2,.slice a2 n2 c2],24)::L)) (hx:NdV w (Av w0.heap.size ((q,#[.int .i64 k1,.string t1,.int .i64 v1,.slice a1 n1 c1,.int .i64 k2,.string t2,.int .i64 v2,.slice a2 n2 c2],24)::L)) x (.agg #[.int .i64 k1,.string t1,.int .i64 v1,.slice a1 n1 c1])) (hy:NdV w (Av w0.heap.size ((q,#[.int .i64 k1,.string t1,.int .i64 v1,.slice a1 n1 c1,.int .i64 k2,.string t2,.int .i64 v2,.slice a2 n2 c2],24)::L)) y (.agg #[.int .i64 k2,.string t2,.int .i64 v2,.slice a2 n2 c2])):RowN w (Av w0.heap.size (L)) (.slice (some ⟨q,0,none⟩) 2 2) [x,y]:=Wr.two [] L h (h.blk (q,#[.int .i64 k1,.string t1,.int .i64 v1,.slice a1 n1 c1,.int .i64 k2,.string t2,.int .i64 v2,.slice a2 n2 c2],24) List.mem_cons_self).1 hx hy
def Pg (β:Bool) (r ts:List Tok):Prop:=β=false→r.length<ts.length
def Md (q:List Tk→Res→Prop) (n:Nd) (β:Bool) (ts:List Tok) (β':Bool) (r:List Tok):Prop:=(β=true∧β'=true∧r=ts)∨(β=false∧β'=false∧r.length<ts.length∧q (tk ts) (.ok (.nd n) (tk r)))∨(β=false∧β'=true∧q (tk ts) (.no (tk r)))
def Mw (q:List Tk→Res→Prop) (l:List Nd) (d:Bool) (β:Bool) (ts:List Tok) (β':Bool) (r:List Tok):Prop:=(β=true∧β'=true∧r=ts∧d=false)∨(β=false∧β'=false∧r.length<ts.length∧l.length+r.length≤ts.length∧q (tk ts) (.ok (.row l d) (tk r)))∨(β=false∧β'=true∧q (tk ts) (.no (tk r)))
def PoN (q:List Tk→Res→Prop) (w:World) (b g:Nat) (K:List Tok) (β:Bool) (ts:List Tok) (e:Ending) (w':World):Prop:=w.grownBy w' (some b)∧∃ n v β' r,r <:+ ts∧Md q n β ts β' r∧e=.returned v∧NdV w' (fun k=>w.heap.size≤k) n v∧Rs w' b g K β' r
def PoR (q:List Tk→Res→Prop) (w:World) (b g:Nat) (K:List Tok) (β:Bool) (ts:List Tok) (e:Ending) (w':World):Prop:=w.grownBy w' (some b)∧∃ l v d β' r,r <:+ ts∧Mw q l d β ts β' r∧l.length≤4000∧(l=[]→v=.slice none 0 0)∧e=.returned (.tuple #[v,.bool d])∧RowN w' (fun k=>w.heap.size≤k) v l∧Rs w' b g K β' r
def Mth (F:Nat) (av:Array Value) (q:G) (b g:Nat) (K:List Tok) (ts:List Tok):Prop:=∀ w β,Rs w b g K β ts→Fits ts→Calls Tryz.prog F av w (PoN (R q) w b g K β ts)
def Bad (F:Nat) (av:Array Value) (b g:Nat) (K:List Tok):Prop:=∀ w ts,Rs w b g K true ts→Fits ts→Calls Tryz.prog F av w (PoN (fun _ _=>True) w b g K true ts)
def Nx (F:Nat) (av:Array Value) (q:G) (b g:Nat) (K:List Tok) (ts:List Tok):Prop:=∀ w β r,r <:+ ts→Pg β r ts→Rs w b g K β r→Fits r→Calls Tryz.prog F av w (PoN (R q) w b g K β r)
theorem Md.bad {q:List Tk→Res→Prop} {n:Nd} {β':Bool} {r:List Tok} (h:Md q n true ts β' r):β'=true∧r=ts:=by
 rcases h with ⟨_,h,k⟩|⟨h,_⟩|⟨h,_⟩
 ·exact ⟨h,k⟩
 ·cases h
 cases h
theorem Mw.bad {q:List Tk→Res→Prop} {l:List Nd} {d β':Bool} {r:List Tok} (h:Mw q l d true ts β' r):β'=true∧r=ts∧d=false:=by
 rcases h with ⟨_,h,k,k2⟩|⟨h,_⟩|⟨h,_⟩
 ·exact ⟨h,k,k2⟩
 ·cases h
 cases h
theorem Mu.bad {s:List UInt8} {β':Bool} {r:List Tok} (h:Mu s true ts β' r):β'=true∧r=ts:=by
 rcases h with ⟨_,h,k⟩|⟨h,_⟩|⟨h,_⟩
 ·exact ⟨h,k⟩
 ·cases h
 cases h
theorem Na.bad {x:List UInt8} {β':Bool} {r:List Tok} (h:Na x true ts β' r):β'=true∧r=ts∧x=[]:=by
 rcases h with ⟨_,h,k⟩|⟨h,_⟩|⟨h,_⟩
 ·exact ⟨h,k⟩
 ·cases h
 cases h
theorem Md.good {q:List Tk→Res→Prop} {n:Nd} {β':Bool} {r:List Tok} (h:Md q n false ts β' r):(β'=false∧r.length<ts.length∧q (tk ts) (.ok (.nd n) (tk r)))∨(β'=true∧q (tk ts) (.no (tk r))):=by
 rcases h with ⟨h,_⟩|⟨_,h⟩|⟨_,h⟩
 ·cases h
 ·exact Or.inl h
 exact Or.inr h
theorem Mw.good {q:List Tk→Res→Prop} {l:List Nd} {d β':Bool} {r:List Tok} (h:Mw q l d false ts β' r):(β'=false∧r.length<ts.length∧l.length+r.length≤ts.length∧q (tk ts) (.ok (.row l d) (tk r)))∨(β'=true∧q (tk ts) (.no (tk r))):=by
 rcases h with ⟨h,_⟩|⟨_,h⟩|⟨_,h⟩
 ·cases h
 ·exact Or.inl h
 exact Or.inr h
theorem Mu.good {s:List UInt8} {β':Bool} {r:List Tok} (h:Mu s false ts β' r):(β'=false∧hd (tk ts)=s∧r=ts.tail)∨(β'=true∧¬ hd (tk ts)=s∧r=ts):=by
 rcases h with ⟨h,_⟩|⟨_,h⟩|⟨_,h⟩
 ·cases h
 ·exact Or.inl h
 exact Or.inr h
theorem Na.good {x:List UInt8} {β':Bool} {r:List Tok} (h:Na x false ts β' r):(β'=false∧nameB (hd (tk ts))=true∧r=ts.tail∧x=hd (tk ts))∨(β'=true∧nameB (hd (tk ts))=false∧r=ts∧x=[]):=by
 rcases h with ⟨h,_⟩|⟨_,h⟩|⟨_,h⟩
 ·cases h
 ·exact Or.inl h
 exact Or.inr h
theorem Mu.suf {s:List UInt8} {β':Bool} {r:List Tok} (h:Mu s β ts β' r):r <:+ ts:=by
 rcases h with ⟨_,_,rfl⟩|⟨_,_,_,rfl⟩|⟨_,_,_,rfl⟩
 ·exact List.suffix_refl _
 ·exact List.tail_suffix _
 exact List.suffix_refl _
theorem Na.suf {x:List UInt8} {β':Bool} {r:List Tok} (h:Na x β ts β' r):r <:+ ts:=by
 rcases h with ⟨_,_,rfl,_⟩|⟨_,_,_,rfl,_⟩|⟨_,_,_,rfl,_⟩
 ·exact List.suffix_refl _
 ·exact List.tail_suffix _
 exact List.suffix_refl _
theorem tail_lt' {s:List UInt8} (hs:s≠[]) (h:hd (tk ts)=s):ts.tail.length<ts.length:=by
 obtain ⟨t,r,rfl⟩:=hd_ne hs h
 simp
theorem nm_ne {s:List UInt8} (h:nameB s=true):s≠[]:=fun e=>by rw [e] at h;revert h;decide
theorem Md.prog {q:List Tk→Res→Prop} {n:Nd} {β':Bool} {r:List Tok} (h:Md q n β ts β' r) (e:β'=false):r.length<ts.length:=by
 rcases h with ⟨_,h,_⟩|⟨_,_,h,_⟩|⟨_,h,_⟩
 ·rw [e] at h;cases h
 ·exact h
 rw [e] at h;cases h
theorem Mw.prog {q:List Tk→Res→Prop} {l:List Nd} {d β':Bool} {r:List Tok} (h:Mw q l d β ts β' r) (e:β'=false):r.length<ts.length:=by
 rcases h with ⟨_,h,_⟩|⟨_,_,h,_⟩|⟨_,h,_⟩
 ·rw [e] at h;cases h
 ·exact h
 rw [e] at h;cases h
theorem Mu.prog {s:List UInt8} {β':Bool} {r:List Tok} (h:Mu s β ts β' r) (hs:s≠[]) (e:β'=false):r.length<ts.length:=by
 rcases h with ⟨_,h,_⟩|⟨_,_,h,rfl⟩|⟨_,h,_⟩
 ·rw [e] at h;cases h
 ·exact tail_lt' hs h
 rw [e] at h;cases h
theorem Na.prog {x:List UInt8} {β':Bool} {r:List Tok} (h:Na x β ts β' r) (e:β'=false):r.length<ts.length:=by
 rcases h with ⟨_,h,_⟩|⟨_,_,h,rfl,_⟩|⟨_,h,_⟩
 ·rw [e] at h;cases h
 ·exact tail_lt' (nm_ne h) rfl
 rw [e] at h;cases h
theorem PoN.any {q q':List Tk→Res→Prop} {e:Ending} (h:PoN q w b g K true ts e w'):PoN q' w b g K true ts e w':=by
 obtain ⟨h1,n,v,β',r,h2,h3,h4⟩:=h
 obtain ⟨rfl,rfl⟩:=h3.bad
 exact ⟨h1,n,v,true,r,h2,Or.inl ⟨rfl,rfl,rfl⟩,h4⟩
theorem Nx.mk {F:Nat} {av:Array Value} {q:G} (hB:Bad F av b g K) (h:∀ r:List Tok,r.length<ts.length→Mth F av q b g K r):Nx F av q b g K ts:=fun w β r hr hl hR hF=>by
 cases β with
 | true=>exact (hB w r hR hF).mono fun e w' h=>h.any
 | false=>exact h r (hl rfl) w false hR hF
theorem Wr.eatY {ts0:List Tok} {s:List UInt8} (HW:Wr w0 w b g K β ts L) (HS:ts <:+ ts0) (hs:s≠[]) (hq:Eat β ts s):Calls Tryz.prog 27 #[.pointer (some ⟨b,0,none⟩),.string (str s)] w fun e w'=>e=.returned (.bool true)∧Hid (Pg false ts.tail ts0)∧Hid (ts.tail <:+ ts0)∧Hid (Wr w0 w' b g K false ts.tail L)∧w.grownBy w' (some b):=
 (eat_yes HW.ps s hs hq).mono fun e w' ⟨h1,h2,h3⟩=>⟨h1,fun _=>Nat.lt_of_lt_of_le (tail_lt' hs hq.2) HS.length_le,(List.tail_suffix _).trans HS,HW.call h3 h2,h3⟩
theorem Wr.eatN {s:List UInt8} (HW:Wr w0 w b g K β ts L) (hq:¬ Eat β ts s):Calls Tryz.prog 27 #[.pointer (some ⟨b,0,none⟩),.string (str s)] w fun e w'=>e=.returned (.bool false)∧Hid (Wr w0 w' b g K β ts L)∧w.grownBy w' (some b):=
 (eat_no HW.ps s hq).mono fun e w' ⟨h1,h2,h3⟩=>⟨h1,HW.quiet h3,grown_some h3⟩
theorem Wr.mu {ts0:List Tok} {s:List UInt8} (HW:Wr w0 w b g K β ts L) (HS:ts <:+ ts0) (hs:s≠[]):Calls Tryz.prog 29 #[.pointer (some ⟨b,0,none⟩),.string (str s)] w fun e w'=>∃ v β' r,e=.returned v∧Hid (Mu s β ts β' r)∧Hid (Pg β' r ts0)∧Hid (r <:+ ts0)∧Hid (Wr w0 w' b g K β' r L)∧w.grownBy w' (some b):=
 (must_any HW.ps s hs).mono fun e w' ⟨v,β',r,h1,h2,h3,h4⟩=>⟨v,β',r,h1,h2,fun e=>Nat.lt_of_lt_of_le (h2.prog hs e) HS.length_le,h2.suf.trans HS,HW.call h4 h3,h4⟩
theorem Wr.nm {ts0:List Tok} (HW:Wr w0 w b g K β ts L) (HS:ts <:+ ts0) (HF:Fits ts0):Calls Tryz.prog 28 #[.pointer (some ⟨b,0,none⟩)] w fun e w'=>∃ x β' r,e=.returned (.string (str x))∧Hid (Na x β ts β' r)∧Hid (Pg β' r ts0)∧Hid (r <:+ ts0)∧Hid (Wr w0 w' b g K β' r L)∧w.grownBy w' (some b):=
 (name_any (HF.suf HS) HW.ps).mono fun e w' ⟨x,β',r,h1,h2,h3,h4⟩=>⟨x,β',r,h1,h2,fun e=>Nat.lt_of_lt_of_le (h2.prog e) HS.length_le,h2.suf.trans HS,HW.call h4 h3,h4⟩
theorem Wr.tx (HW:Wr w0 w b g K β ts L) (k:Nat) (hk:k≤1):Calls Tryz.prog 31 #[.pointer (some ⟨b,0,none⟩),.int .i64 k] w fun e w'=>e=.returned (.string (str (hd (tk (ts.drop k)))))∧Hid (Wr w0 w' b g K β ts L)∧w.grownBy w' none:=
 (text_any HW.ps k hk).mono fun e w' ⟨h1,h2⟩=>⟨h1,HW.quiet h2,h2⟩
theorem Wr.isn {ts0:List Tok} (HW:Wr w0 w b g K β ts L) (HS:ts <:+ ts0) (HF:Fits ts0) (k:Nat) (hk:k≤1):Calls Tryz.prog 51 #[.pointer (some ⟨b,0,none⟩),.int .i64 k] w fun e w'=>e=.returned (.bool (nameB (hd (tk (ts.drop k)))))∧Hid (Wr w0 w' b g K β ts L)∧w.grownBy w' none:=
 (isName_any (HF.suf HS) HW.ps k hk).mono fun e w' ⟨h1,h2⟩=>⟨h1,HW.quiet h2,h2⟩
theorem Wr.fl (HW:Wr w0 w b g K β ts L):Calls Tryz.prog 52 #[.pointer (some ⟨b,0,none⟩)] w fun e w'=>∃ v,e=.returned v∧Hid (Wr w0 w' b g K true ts L)∧w.grownBy w' (some b):=
 (fail_any HW.ps).mono fun e w' ⟨⟨v,h1⟩,h2,h3⟩=>⟨v,h1,HW.call h3 h2,h3⟩
theorem Wr.okN {q:List Tk→Res→Prop} {ts0:List Tok} {e:Ending} (HW:Wr w0 w b g K β ts L) (HS:ts <:+ ts0) (h:PoN q w b g K β ts e w'):
  ∃ n k t v a l c β' r,e=.returned (.agg #[.int .i64 k,.string t,.int .i64 v,.slice a l c])∧Hid (Md q n β ts β' r)∧Hid (NdV w' (Av w.heap.size L) n (.agg #[.int .i64 k,.string t,.int .i64 v,.slice a l c]))∧Hid (w0.heap.size≤w.heap.size)∧Hid (r <:+ ts)∧Hid (Pg β' r ts0)∧Hid (r <:+ ts0)∧Hid (Wr w0 w' b g K β' r L)∧w.grownBy w' (some b):=by
 obtain ⟨hG,n,v,β',r,h1,h2,rfl,h3,h4⟩:=h
 obtain ⟨k,t,x,a,l,c,rfl⟩:=h3.form
 exact ⟨n,k,t,x,a,l,c,β',r,rfl,h2,HW.giv h3,HW.grown.size,h1,fun e=>Nat.lt_of_lt_of_le (h2.prog e) HS.length_le,h1.trans HS,HW.call hG h4,hG⟩
theorem Wr.okR {q:List Tk→Res→Prop} {ts0:List Tok} {e:Ending} (HW:Wr w0 w b g K β ts L) (HS:ts <:+ ts0) (h:PoR q w b g K β ts e w'):
  ∃ l v d β' r,e=.returned (.tuple #[v,.bool d])∧Hid (Mw q l d β ts β' r)∧Hid (l.length≤4000)∧Hid (l=[]→v=.slice none 0 0)∧Hid (RowN w' (Av w.heap.size L) v l)∧Hid (w0.heap.size≤w.heap.size)∧Hid (r <:+ ts)∧Hid (Pg β' r ts0)∧Hid (r <:+ ts0)∧Hid (Wr w0 w' b g K β' r L)∧w.grownBy w' (some b):=by
 obtain ⟨hG,l,v,d,β',r,h1,h2,h5,h6,rfl,h3,h4⟩:=h
 exact ⟨l,v,d,β',r,rfl,h2,h5,h6,HW.givr h3,HW.grown.size,h1,fun e=>Nat.lt_of_lt_of_le (h2.prog e) HS.length_le,h1.trans HS,HW.call hG h4,hG⟩
theorem Wr.post {q:List Tk→Res→Prop} {ts0 r:List Tok} {β0:Bool} {n:Nd} {v:Value} {s:Nat} (h:Wr w0 w b g K β r L) (hr:r <:+ ts0) (hs:w0.heap.size≤s) (hN:NdV w (Av s L) n v) (hM:Md q n β0 ts0 β r):PoN q w0 b g K β0 ts0 (.returned v) w:=
 ⟨h.grown,n,v,β,r,hr,hM,rfl,hN.mono (fun k hk _=>Nat.le_trans hs hk.1),h.ps⟩
theorem mno {q:List Tk→Res→Prop} {n:Nd} {ts r:List Tok} (h:q (tk ts) (.no (tk r))):Md q n false ts true r:=Or.inr (Or.inr ⟨rfl,rfl,h⟩)
theorem mok {q:List Tk→Res→Prop} {n:Nd} {ts r:List Tok} (l:r.length<ts.length) (h:q (tk ts) (.ok (.nd n) (tk r))):Md q n false ts false r:=Or.inr (Or.inl ⟨rfl,rfl,l,h⟩)
theorem Wr.kN {s:Nat} {n:Nd} {v:Value} {M:List Bk} (h:Wr w0 w b g K β ts L) (z:Hid (w0.heap.size≤s)) (hG:w.grownBy w' (some b)) (k:Hid (NdV w (Av s M) n v)):Hid (NdV w' (Av s M) n v):=(Mv.call (Nat.lt_of_lt_of_le h.bl z.out) hG _).N k
theorem Wr.kR {s:Nat} {n:List Nd} {v:Value} {M:List Bk} (h:Wr w0 w b g K β ts L) (z:Hid (w0.heap.size≤s)) (hG:w.grownBy w' (some b)) (k:Hid (RowN w (Av s M) v n)):Hid (RowN w' (Av s M) v n):=(Mv.call (Nat.lt_of_lt_of_le h.bl z.out) hG _).R k
theorem Wr.nA {q s:Nat} {cs:Array Value} {T:TypeId} {n:Nd} {v:Value} (h:Wr w0 (w.alloc (.cells cs T)) b g K β ts ((q,cs,T)::L)) (k:Hid (NdV w (Av s L) n v)) (hq:w.heap.size=q:=by simp):Hid (NdV (w.alloc (.cells cs T)) (Av s ((q,cs,T)::L)) n v):=(h.ma hq).N k
theorem Wr.rA {q s:Nat} {cs:Array Value} {T:TypeId} {n:List Nd} {v:Value} (h:Wr w0 (w.alloc (.cells cs T)) b g K β ts ((q,cs,T)::L)) (k:Hid (RowN w (Av s L) v n)) (hq:w.heap.size=q:=by simp):Hid (RowN (w.alloc (.cells cs T)) (Av s ((q,cs,T)::L)) v n):=(h.ma hq).R k
theorem Wr.al (h:Wr w0 w b g K β ts L) (q:Nat) (cs:Array Value) (hq:w.heap.size=q:=by simp):Hid (Wr w0 (w.alloc (.cells cs 24)) b g K β ts ((q,cs,24)::L)):=h.alloc' q hq cs 24
theorem Wr.b0 {q:Nat} {cs:Array Value} {T:TypeId} (h:Wr w0 w b g K β ts ((q,cs,T)::L)):w.heap[q]?=some (.cells cs T (0,0)):=(h.blk (q,cs,T) List.mem_cons_self).2
theorem Wr.b1 {y0:Bk} {q:Nat} {cs:Array Value} {T:TypeId} (h:Wr w0 w b g K β ts (y0::(q,cs,T)::L)):w.heap[q]?=some (.cells cs T (0,0)):=(h.blk (q,cs,T) (List.mem_cons_of_mem _ List.mem_cons_self)).2
theorem Wr.b2 {y0 y1:Bk} {q:Nat} {cs:Array Value} {T:TypeId} (h:Wr w0 w b g K β ts (y0::y1::(q,cs,T)::L)):w.heap[q]?=some (.cells cs T (0,0)):=(h.blk (q,cs,T) (List.mem_cons_of_mem _ (List.mem_cons_of_mem _ List.mem_cons_self))).2
theorem Wr.b3 {y0 y1 y2:Bk} {q:Nat} {cs:Array Value} {T:TypeId} (h:Wr w0 w b g K β ts (y0::y1::y2::(q,cs,T)::L)):w.heap[q]?=some (.cells cs T (0,0)):=(h.blk (q,cs,T) (List.mem_cons_of_mem _ (List.mem_cons_of_mem _ (List.mem_cons_of_mem _ List.mem_cons_self)))).2
theorem Wr.am {A:Nat→Prop} {cs:Array Value} {n:Nd} (h:Wr w0 w b g K β ts L) (q:Nat) (k:Hid (NdV w A n (.agg cs))) (hq:w.heap.size=q:=by simp):Hid (Wr w0 (w.alloc (.cells cs 24)) b g K β ts ((q,cs,24)::L)):=h.alloc' q hq cs 24
theorem Wr.az (h:Wr w0 w b g K β ts L) (q:Nat) (hq:w.heap.size=q:=by simp):Hid (Wr w0 (w.alloc (.cells #[.int .i64 0,.string ⟨#[]⟩,.int .i64 0,.slice none 0 0] 24)) b g K β ts ((q,#[.int .i64 0,.string ⟨#[]⟩,.int .i64 0,.slice none 0 0],24)::L)):=h.alloc' q hq _ 24
theorem app_list {w0 w:World} {ops:Array Oper} {rest:List Oper} {o:Oper} {a:Act} {Q:Exit→Act→World→Prop} (p q:Operand) (hgd:o.guard=none)
  (ho:o.op=.call { callee:=.builtin .append,args:=#[p,q],argTypes:=#[22,22] }) (L1 L2:List Bk) {B s0 s1:Nat} {k t n s v:Value} {l:List Nd} {x:Nd}
  (HW:Wr w0 w b g K β ts (L1++(B,#[k,t,n,s],24)::L2)) (HM:RowN w (Av s0 (L1++(B,#[k,t,n,s],24)::L2)) v l) (HN:NdV w (Av s1 (L1++(B,#[k,t,n,s],24)::L2)) x (.agg #[k,t,n,s])) (hz:w0.heap.size≤s0) (hz1:w0.heap.size≤s1) (hk:∀ j,v.ownBlock=some j→j<s1) (hn:l.length≤16000) (h1:k.oneCell'=true∧t.oneCell'=true∧n.oneCell'=true∧s.oneCell'=true)
  (hs:a.eval p=v) (hx:a.eval q=.slice (some ⟨B,0,none⟩) 1 1)
  (h:∀ gg cap w',Wr w0 w' b g K β ts (L1++L2)→RowN w' (Av w0.heap.size (L1++L2)) (.slice (some ⟨gg,0,none⟩) (l.length+1) cap) (l++[x])→w.grownBy w' v.ownBlock→wpList Tryz.prog ops Q rest (a.put o.dst (.slice (some ⟨gg,0,none⟩) (l.length+1) cap)) w'):
  wpList Tryz.prog ops Q (o::rest) a w:=by
 refine list_nd p q hgd ho (Av w0.heap.size (L1++(B,#[k,t,n,s],24)::L2)) (Av w0.heap.size (L1++(B,#[k,t,n,s],24)::L2)) v l hs (HM.less hz) B x k t n s hx (HW.blk (B,#[k,t,n,s],24) (by simp)).2 h1 (HN.mono (fun j hj _=>⟨⟨Nat.le_trans hz1 hj.1,hj.2⟩,fun e=>by have:=hk j e.symm;have:=hj.1;omega⟩)) hn (fun _ h=>h) ⟨HW.grown.size,fun y hy=>by have:=HW.lt y hy;omega⟩ ?_
 intro gg cap w' hR hG hat hlt
 exact h gg cap w' ((HW.rowed hG (Nat.le_refl _) (fun j hj=>(HM.less hz).own j hj)).drop L1 L2) ((Mv.drop L1 L2 w').row hR) hG
theorem app_l0 {w0 w:World} {ops:Array Oper} {rest:List Oper} {o:Oper} {a:Act} {Q:Exit→Act→World→Prop} (p q:Operand) (hgd:o.guard=none)
  (ho:o.op=.call { callee:=.builtin .append,args:=#[p,q],argTypes:=#[22,22] }) {L:List Bk} {B s0 s1:Nat} {k t n s v:Value} {l:List Nd} {x:Nd}
  (HW:Wr w0 w b g K β ts ((B,#[k,t,n,s],24)::L)) (HM:RowN w (Av s0 ((B,#[k,t,n,s],24)::L)) v l) (HN:NdV w (Av s1 ((B,#[k,t,n,s],24)::L)) x (.agg #[k,t,n,s])) (hz:w0.heap.size≤s0) (hz1:w0.heap.size≤s1) (hk:∀ j,v.ownBlock=some j→j<s1) (hn:l.length≤16000) (h1:k.oneCell'=true∧t.oneCell'=true∧n.oneCell'=true∧s.oneCell'=true)
  (hs:a.eval p=v) (hx:a.eval q=.slice (some ⟨B,0,none⟩) 1 1)
  (h:∀ gg cap w',Wr w0 w' b g K β ts L→RowN w' (Av w0.heap.size L) (.slice (some ⟨gg,0,none⟩) (l.length+1) cap) (l++[x])→w.grownBy w' v.ownBlock→wpList Tryz.prog ops Q rest (a.put o.dst (.slice (some ⟨gg,0,none⟩) (l.length+1) cap)) w'):
  wpList Tryz.prog ops Q (o::rest) a w:=app_list p q hgd ho [] L HW HM HN hz hz1 hk hn h1 hs hx h
theorem app_rows_step {ops:Array Oper} {o:Oper} {a:Act} {κ:Act→World→Prop} {Q:Exit→Act→World→Prop} {E:Prop} {L:List Bk} (p q:Operand) (hgd:o.guard=none)
  (ho:o.op=.call { callee:=.builtin .append,args:=#[p,q],argTypes:=#[22,22] }) {s0:Nat} {v v2:Value} {l l2:List Nd}
  (HW:Wr w0 w b g K β ts L) (HM:RowN w (Av s0 L) v l) (HM2:RowN w (fun k=>Av w0.heap.size L k∧some k≠v.ownBlock) v2 l2) (hz:w0.heap.size≤s0) (hn:l.length+l2.length≤16000) (hnil:l2=[]→v2=.slice none 0 0) (hv:l≠[])
  (hs:a.eval p=v) (hx:a.eval q=v2)
  (h:∀ gg cap w',Wr w0 w' b g K β ts L→RowN w' (Av w0.heap.size L) (.slice (some ⟨gg,0,none⟩) (l++l2).length cap) (l++l2)→w.grownBy w' v.ownBlock→κ (a.put o.dst (.slice (some ⟨gg,0,none⟩) (l++l2).length cap)) w'):
  if Region.wanted o (yielded ops a.tmps)=true then Oper.wp Tryz.prog o a w κ Q else E:=by
 have hw:Region.wanted o (yielded ops a.tmps)=true:=by simp [Region.wanted,hgd]
 rw [if_pos hw]
 have hA':Av w0.heap.size L w.heap.size:=⟨HW.grown.size,fun y hy=>by have:=HW.lt y hy;omega⟩
 by_cases he:l2=[]
 ·subst he
  obtain rfl:=hnil rfl
  obtain ⟨i0,hi,hz0,hz1',hz2⟩:=info_parts info24
  obtain ⟨cs,c1,c2,c3⟩:=HM.row
  have hr:=run_append_owned_none (P:=Tryz.prog) (w:=w) 0 22 o.type 24 i0 4 Tryz.underlying22 hi v l.length (cellsN cs) c2
  rcases HM.shape with ⟨rfl,e⟩|⟨gg,cap,rfl,_⟩
  ·exact absurd e hv
  unfold Oper.wp execOp
  simp only [ho,resolve,invoke,builtin,Sem.run_bind,Sem.run_pure,Result.andThen_ok,List.map_toArray,List.map_cons,List.map_nil,hs,hx,hr]
  have:=h gg cap w HW (by rw [List.append_nil];exact HM.less hz) ⟨rfl,rfl,rfl,Nat.le_refl _,fun _ _ _=>rfl⟩
  rw [List.append_nil] at this
  exact this
 rcases app_rows (HM.less hz) HM2 hn hA' o.type with ⟨_,e,_⟩|e|⟨gg,cap,w',hr,h3,h4⟩
 ·exact absurd e he
 ·exact absurd e he
 unfold Oper.wp execOp
 simp only [ho,resolve,invoke,builtin,Sem.run_bind,Sem.run_pure,Result.andThen_ok,List.map_toArray,List.map_cons,List.map_nil,hs,hx,hr]
 exact h gg cap w' (HW.rowed h4 (Nat.le_refl _) (fun j hj=>(HM.less hz).own j hj)) h3 h4
theorem app_rows_list {ops:Array Oper} {rest:List Oper} {o:Oper} {a:Act} {Q:Exit→Act→World→Prop} (p q:Operand) (hgd:o.guard=none)
  (ho:o.op=.call { callee:=.builtin .append,args:=#[p,q],argTypes:=#[22,22] }) {s0:Nat} {v v2:Value} {l l2:List Nd}
  (HW:Wr w0 w b g K β ts L) (HM:RowN w (Av s0 L) v l) (HM2:RowN w (fun k=>Av w0.heap.size L k∧some k≠v.ownBlock) v2 l2) (hz:w0.heap.size≤s0) (hn:l.length+l2.length≤16000) (hnil:l2=[]→v2=.slice none 0 0) (hv:l≠[])
  (hs:a.eval p=v) (hx:a.eval q=v2)
  (h:∀ gg cap w',Wr w0 w' b g K β ts L→RowN w' (Av w0.heap.size L) (.slice (some ⟨gg,0,none⟩) (l++l2).length cap) (l++l2)→w.grownBy w' v.ownBlock→wpList Tryz.prog ops Q rest (a.put o.dst (.slice (some ⟨gg,0,none⟩) (l++l2).length cap)) w'):
  wpList Tryz.prog ops Q (o::rest) a w:=by
 refine wpList_plain hgd fun κ hK=>?_
 have:=app_rows_step (ops:=ops) (κ:=κ) (Q:=Q) (E:=True) p q hgd ho HW HM HM2 hz hn hnil hv hs hx (fun gg cap w' a1 a2 a3=>hK _ _ (h gg cap w' a1 a2 a3))
 rw [if_pos (by simp [Region.wanted,hgd])] at this
 exact this
theorem NdV.bothz {A A' B:Nat→Prop} {v:Value} {n:Nd} (h:NdV w (fun k=>A k∧B k) n v) (hm:Mv w w' A A'):NdV w' (fun k=>A' k∧B k) n v:=h.move (fun k hk hl=>⟨(hm k hk.1 hl).1,(hm k hk.1 hl).2,hk.2⟩)
def MthR (F:Nat) (av:Array Value) (q:G) (b g:Nat) (K:List Tok) (ts:List Tok):Prop:=∀ w β,Rs w b g K β ts→Fits ts→Calls Tryz.prog F av w (PoR (R q) w b g K β ts)
def BadR (F:Nat) (av:Array Value) (b g:Nat) (K:List Tok):Prop:=∀ w ts,Rs w b g K true ts→Fits ts→Calls Tryz.prog F av w (PoR (fun _ _=>True) w b g K true ts)
def NxR (F:Nat) (av:Array Value) (q:G) (b g:Nat) (K:List Tok) (ts:List Tok):Prop:=∀ w β r,r <:+ ts→Pg β r ts→Rs w b g K β r→Fits r→Calls Tryz.prog F av w (PoR (R q) w b g K β r)
theorem PoR.any {q q':List Tk→Res→Prop} {e:Ending} (h:PoR q w b g K true ts e w'):PoR q' w b g K true ts e w':=by
 obtain ⟨h1,l,v,d,β',r,h2,h3,h4⟩:=h
 obtain ⟨rfl,rfl,rfl⟩:=h3.bad
 exact ⟨h1,l,v,false,true,r,h2,Or.inl ⟨rfl,rfl,rfl,rfl⟩,h4⟩
theorem NxR.mk {F:Nat} {av:Array Value} {q:G} (hB:BadR F av b g K) (h:∀ r:List Tok,r.length<ts.length→MthR F av q b g K r):NxR F av q b g K ts:=fun w β r hr hl hR hF=>by
 cases β with
 | true=>exact (hB w r hR hF).mono fun e w' h=>h.any
 | false=>exact h r (hl rfl) w false hR hF
def Gd (F:Nat) (av:Array Value) (q:G) (b g:Nat) (K:List Tok) (ts:List Tok):Prop:=∀ w,Rs w b g K false ts→Fits ts→Calls Tryz.prog F av w (PoN (R q) w b g K false ts)
def GdR (F:Nat) (av:Array Value) (q:G) (b g:Nat) (K:List Tok) (ts:List Tok):Prop:=∀ w,Rs w b g K false ts→Fits ts→Calls Tryz.prog F av w (PoR (R q) w b g K false ts)
theorem Mth.mk {F:Nat} {av:Array Value} {q:G} (hB:Bad F av b g K) (hG:Gd F av q b g K ts):Mth F av q b g K ts:=fun w β hR hF=>by
 cases β with
 | true=>exact (hB w ts hR hF).mono fun e w' h=>h.any
 | false=>exact hG w hR hF
theorem MthR.mk {F:Nat} {av:Array Value} {q:G} (hB:BadR F av b g K) (hG:GdR F av q b g K ts):MthR F av q b g K ts:=fun w β hR hF=>by
 cases β with
 | true=>exact (hB w ts hR hF).mono fun e w' h=>h.any
 | false=>exact hG w hR hF
theorem Wr.postR {q:List Tk→Res→Prop} {ts0 r:List Tok} {β0 d:Bool} {l:List Nd} {v:Value} {s:Nat} (h:Wr w0 w b g K β r L) (hr:r <:+ ts0) (hs:w0.heap.size≤s) (hN:RowN w (Av s L) v l) (hl:l.length≤4000) (hnil:l=[]→v=.slice none 0 0) (hM:Mw q l d β0 ts0 β r):PoR q w0 b g K β0 ts0 (.returned (.tuple #[v,.bool d])) w:=
 ⟨h.grown,l,v,d,β,r,hr,hM,hl,hnil,rfl,hN.move (fun k hk _=>⟨rfl,Nat.le_trans hs hk.1⟩),h.ps⟩
theorem not_eat {s:List UInt8}:¬ Eat true ts s:=fun h=>by cases h.1
def leftR (b:Nat) (w:World):Nat:=match w.cell? ⟨b,0,none⟩,w.cell? ⟨b,1,none⟩,w.cell? ⟨b,2,none⟩ with|some (.slice _ n _),some (.int _ p),some (.bool c)=>2*(n - p.toNat)+(if c then 0 else 1)|_,_,_=>0
theorem Rs.leftR (h:Rs w b g K β ts):leftR b w=2*ts.length+(if β then 0 else 1):=by
 obtain ⟨p,a,c,h1,h2,h3⟩:=h.blk
 have e0:w.cell? ⟨b,0,none⟩=some (.slice a K.length c):=cells_at h2 0
 have e1:w.cell? ⟨b,1,none⟩=some (.int .i64 p.length):=cells_at h2 1
 have e2:w.cell? ⟨b,2,none⟩=some (.bool β):=cells_at h2 2
 unfold Z.leftR
 rw [e0,e1,e2]
 have:K.length=p.length+ts.length:=by rw [h1];simp
 simp only [this,Int.toNat_natCast,Nat.add_sub_cancel_left]
theorem less_left {r r':List Tok} {β':Bool} (h1:r'.length≤r.length) (h2:β'=false→r'.length<r.length):2*r'.length+(if β' then 0 else 1)<2*r.length+(if false=true then 0 else 1):=by
 cases β' with
 | true=>simp;omega
 | false=>have:=h2 rfl;simp;omega
end Go.Proofs.YthcfianhdkolhaaGreatDoor.Y.Z
