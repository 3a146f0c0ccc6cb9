/- PaA PaB PaC PaN PaD PaE PaF PaG -/
import Derived.Test.YthcfianhdkolhaaGreatDoorXTd
import Derived.Test.YthcfianhdkolhaaGreatDoorSign
import Derived.Below
import Derived.BigQuiet
import Derived.Carry
import Derived.Laws.Rows
import Derived.Deep.AppendLies
import Derived.Deep.QuietTactic
import Derived.WalkLawsBesides
import Derived.Deep.RegionHeldLaw
import Derived.Test.YthcfianhdkolhaaGreatDoorParts
namespace Go.Proofs.YthcfianhdkolhaaGreatDoor.Y
open Go.RowKit Go.Proofs.YthcfianhdkolhaaGreatDoor.X Go.Proofs.YthcfianhdkolhaaGreatDoor.T Go.Proofs.YthcfianhdkolhaaGreatDoor.S
set_option linter.unusedVariables false
set_option linter.unusedSimpArgs false
def tx:List Tok→ByteArray
 | []=>⟨#[]⟩
 | t::_=>t.text
def thrown:List Tok→Value
 | []=>.iface 49 (.agg #[])
 | t::_=>.iface 47 (.agg #[.int .i64 t.kind,.string t.text,.int .i64 t.at_])
abbrev up (ts:List Tok):Ending:=.panicked [{ v:=thrown ts,recovered:=false }]
def TokAt (w:World) (g o:Nat) (ts:List Tok):Prop:=∀ j (h:j<ts.length),w.cell? ⟨g,o+j*3,none⟩=some (.int .i64 ts[j].kind)∧w.cell? ⟨g,o+j*3+1,none⟩=some (.string ts[j].text)∧w.cell? ⟨g,o+j*3+2,none⟩=some (.int .i64 ts[j].at_)
structure Ps (w:World) (b g:Nat) (m:Value) (ts:List Tok):Prop where
 ne:g≠b
 blk:∃ a o c,w.heap[b]?=some (.cells #[.slice a ts.length c,m] 55 (0,0))∧ts.length≤c∧c≤9223372036854775807∧(ts≠[]→a=some ⟨g,o,none⟩)∧TokAt w g o ts
variable {w : World} {b g : Nat} {m : Value} {ts : List Tok} {t : Tok}
theorem TokAt.tail {o:Nat} (h:TokAt w g o (t::ts)):TokAt w g (o+3) ts:=fun j hj=>by
 have:=h (j+1) (by simp;omega)
 simp only [List.getElem_cons_succ,show o+(j+1)*3=o+3+j*3 by omega] at this
 exact this
theorem TokAt.same {w':World} {o:Nat} (h:TokAt w g o ts) (hg:w'.heap[g]?=w.heap[g]?):TokAt w' g o ts:=fun j hj=>by
 obtain ⟨a,b,c⟩:=h j hj
 have e:∀ k,w'.cell? ⟨g,k,none⟩=w.cell? ⟨g,k,none⟩:=fun k=>by simp [World.cell?,hg]
 exact ⟨(e _).trans a,(e _).trans b,(e _).trans c⟩
theorem Ps.lt (h:Ps w b g m ts):b<w.heap.size:=by
 obtain ⟨_,_,_,h,_⟩:=h.blk
 exact (Array.getElem?_eq_some_iff.1 h).1
theorem text_any (h:Ps w b g m ts):Calls Tryz.prog 91 #[.pointer (some ⟨b,0,none⟩)] w fun e w'=>e=.returned (.string (tx ts))∧w'=w:=by
 obtain ⟨a,o,c,h1,h2,h3,h4,h5⟩:=h.blk
 have hc:=cells_at h1
 cases ts with
 | nil=>
  clear h h1 h5 h4
  go_enter Tryz.func91,Tryz.ntmps91
  go_wp2_with fail
  go_ret
  exact ⟨rfl,rfl⟩
 | cons t ts=>
  obtain rfl:=h4 (by simp)
  obtain ⟨k0,k1,k2⟩:=h5 0 (by simp)
  simp only [Nat.zero_mul,Nat.add_zero,List.getElem_cons_zero] at k0 k1 k2
  have hl:((t::ts).length:Int)≠0:=by rw [List.length_cons];omega
  have hl0:(0:Int)<((t::ts).length:Int):=by rw [List.length_cons];omega
  show Calls _ _ _ _ (fun e w'=>e=.returned (.string t.text)∧w'=w)
  generalize (t::ts).length=n at *
  clear h h1 h5 h4
  go_enter Tryz.func91,Tryz.ntmps91
  go_wp2_with fail
  go_ret
  exact ⟨rfl,rfl⟩
theorem pass_any (h:Ps w b g m (t::ts)):Calls Tryz.prog 92 #[.pointer (some ⟨b,0,none⟩)] w fun e w'=>e=.returned (.tuple #[])∧Ps w' b g m ts∧w.grownBy w' (some b):=by
 obtain ⟨a,o,c,h1,h2,h3,h4,h5⟩:=h.blk
 have hc:=cells_at h1
 have hz:=frozen_at h1
 have hlt:=h.lt
 obtain rfl:=h4 (by simp)
 have hl:((t::ts).length:Int)≠0:=by rw [List.length_cons];omega
 have hl0:(1:Int)≤((t::ts).length:Int):=by rw [List.length_cons];omega
 have HL:Hid ((t::ts).length=ts.length+1):=by simp [Hid]
 have H1:=hide h1
 have H5:=hide h5
 have HN:=hide h.ne
 have HG:Hid (∀ u,w.grownBy (w.setCell ⟨b,0,none⟩ u) (some b)):=fun u=>⟨rfl,rfl,rfl,by simp,fun k hk hn=>heap_setCell_other w _ k u (fun e=>hn (by rw [e]))⟩
 generalize (t::ts).length=n at *
 clear h h1 h5 h4
 by_cases hc1:c=1
 ·subst hc1
  have HO:Hid (∀ u,u=.slice (some ⟨g,o,none⟩) 0 0→Ps (w.setCell ⟨b,0,none⟩ u) b g m ts):=fun u hu=>by
   have hL:=HL.out
   obtain rfl:ts=[]:=List.length_eq_zero_iff.1 (by omega)
   refine ⟨HN.out,some ⟨g,o,none⟩,o,0,?_,by simp,by omega,fun h=>absurd rfl h,fun j hj=>by simp at hj⟩
   rw [heap_setCell_same w b 0 _ 55 u H1.out,hu]
   rfl
  go_enter Tryz.func92,Tryz.ntmps92
  go_wp2_with fail
  go_end0
  exact ⟨rfl,HO.out _ rfl,HG.out _⟩
 have HO:Hid (∀ u,u=.slice (some ⟨g,o+3,none⟩) (n - 1) (c - 1)→Ps (w.setCell ⟨b,0,none⟩ u) b g m ts):=fun u hu=>by
  have hL:=HL.out
  refine ⟨HN.out,some ⟨g,o+3,none⟩,o+3,c - 1,?_,by omega,by omega,fun _=>rfl,H5.out.tail.same (heap_setCell_other w _ g u (fun e=>HN.out e))⟩
  rw [heap_setCell_same w b 0 _ 55 u H1.out,hu]
  have e:n - 1=ts.length:=by omega
  simp [e]
 go_enter Tryz.func92,Tryz.ntmps92
 go_wp2_with fail
 go_end0
 exact ⟨rfl,HO.out _ rfl,HG.out _⟩
theorem giveUp_any (h:Ps w b g m ts):Calls Tryz.prog 120 #[.pointer (some ⟨b,0,none⟩)] w fun e w'=>e=up ts∧w'=w:=by
 obtain ⟨a,o,c,h1,h2,h3,h4,h5⟩:=h.blk
 have hc:=cells_at h1
 cases ts with
 | nil=>
  clear h h1 h5 h4
  go_enter Tryz.func120,Tryz.ntmps120
  go_wp2_with fail
  exact ⟨rfl,rfl,rfl⟩
 | cons t ts=>
  obtain rfl:=h4 (by simp)
  obtain ⟨k0,k1,k2⟩:=h5 0 (by simp)
  simp only [Nat.zero_mul,Nat.add_zero,List.getElem_cons_zero] at k0 k1 k2
  have hl:((t::ts).length:Int)≠0:=by rw [List.length_cons];omega
  have hl0:(0:Int)<((t::ts).length:Int):=by rw [List.length_cons];omega
  generalize (t::ts).length=n at *
  clear h h1 h5 h4
  go_enter Tryz.func120,Tryz.ntmps120
  go_wp2_with fail
  exact ⟨rfl,rfl,rfl⟩
theorem tx_len (ts:List Tok) (x:ByteArray) (hx:x.size≠0) (h:tx ts=x):∃ t r,ts=t::r:=by
 cases ts with
 | nil=>exact absurd (by rw [← h];rfl) hx
 | cons t r=>exact ⟨t,r,rfl⟩
theorem str_neq (a b:ByteArray):(a.toList == b.toList)=decide (a=b):=by
 by_cases h:a=b
 ·subst h;simp
 rw [decide_eq_false h]
 refine beq_eq_false_iff_ne.2 fun e=>h ?_
 rw [ByteArray.toList_eq,ByteArray.toList_eq] at e
 exact ByteArray.ext (Array.toList_inj.1 e)
theorem takes_any (h:Ps w b g m ts) (x:ByteArray) (hx:x.size≠0):Calls Tryz.prog 67 #[.pointer (some ⟨b,0,none⟩),.string x] w fun e w'=>e=.returned (.bool (decide (tx ts=x)))∧Ps w' b g m (if tx ts=x then ts.tail else ts)∧w.grownBy w' (some b):=by
 have HT:=ħ (text_any h)
 have HP:=hide h
 have heq:=str_neq (tx ts) x
 by_cases hq:tx ts=x
 ·obtain ⟨t,r,rfl⟩:=tx_len ts x hx hq
  have HQ:=hide hq
  rw [decide_eq_true hq] at heq ⊢
  have HPa:=ħ (pass_any h)
  clear h hq
  go_enter Tryz.func67,Tryz.ntmps67
  go_wp2_with fail
  go_at_call 91
  refine HT.out.mono ?_
  rintro e w1 ⟨rfl,rfl⟩
  go_wp2_with fail
  go_at_call 92
  refine HPa.out.mono ?_
  rintro e w1 ⟨rfl,hP,hG⟩
  have HP1:=hide hP
  have HG1:=hide hG
  clear hP hG
  go_wp2_with fail
  go_ret
  exact ⟨rfl,HP1.out,HG1.out⟩
 have HQ:=hide hq
 rw [decide_eq_false hq] at heq ⊢
 clear h hq
 go_enter Tryz.func67,Tryz.ntmps67
 go_wp2_with fail
 go_at_call 91
 refine HT.out.mono ?_
 rintro e w1 ⟨rfl,rfl⟩
 go_wp2_with fail
 go_ret
 exact ⟨rfl,HP.out,⟨rfl,rfl,rfl,Nat.le_refl _,fun _ _ _=>rfl⟩⟩
end Go.Proofs.YthcfianhdkolhaaGreatDoor.Y
namespace Go.Proofs.YthcfianhdkolhaaGreatDoor.Y
open Go.RowKit Go.Proofs.YthcfianhdkolhaaGreatDoor.X Go.Proofs.YthcfianhdkolhaaGreatDoor.T Go.Proofs.YthcfianhdkolhaaGreatDoor.S
set_option linter.unusedVariables false
set_option linter.unusedSimpArgs false
variable {w : World} {b g : Nat} {m : Value} {ts : List Tok} {t : Tok}
def Short (ts:List Tok):Prop:=∀ t,t∈ts→t.text.size≤4000
def nmAt (ts:List Tok) (k:Nat):Bool:=match ts[k]? with|some t=>nameB t.text.data.toList|none=>false
theorem isName_any (h:Ps w b g m ts) (hS:Short ts) (k:Nat) (hk:k≤1):Calls Tryz.prog 119 #[.pointer (some ⟨b,0,none⟩),.int .i64 k] w fun e w'=>e=.returned (.bool (nmAt ts k))∧w'=w:=by
 obtain ⟨a,o,c,h1,h2,h3,h4,h5⟩:=h.blk
 have hc:=cells_at h1
 by_cases hlt:k<ts.length
 ·have hne:ts≠[]:=fun e=>by rw [e] at hlt;simp at hlt
  obtain rfl:=h4 hne
  obtain ⟨k0,k1,k2⟩:=h5 k hlt
  have hlt':(k:Int)<ts.length:=by omega
  have hidx:(0:Int)≤k∧(k:Int)<ts.length:=by omega
  have hd:decide ((k:Int)<ts.length)=true:=decide_eq_true hlt'
  have e:nmAt ts k=nameB ts[k].text.data.toList:=by simp [nmAt,hlt]
  rw [e]
  have hs:ts[k].text.size≤4000:=hS _ (List.getElem_mem hlt)
  have HN:Hid (Calls Tryz.prog 103 #[.string ts[k].text] w fun e w'=>e=.returned (.bool (nameB ts[k].text.data.toList))∧w'=w):=pname_any ts[k].text w (by show _≤9223372036854775807;omega)
  clear k0 k2
  generalize ts[k].text=x at *
  clear h h1 h5 h4 hS e hlt hne
  generalize ts.length=n at *
  go_enter Tryz.func119,Tryz.ntmps119
  go_wp2_with fail
  go_at_call 103
  refine HN.out.mono ?_
  rintro e w1 ⟨rfl,rfl⟩
  go_wp2_with fail
  go_ret
  exact ⟨rfl,rfl⟩
 have hlt':¬ (k:Int)<ts.length:=by omega
 have hd:decide ((k:Int)<ts.length)=false:=decide_eq_false hlt'
 have e:nmAt ts k=false:=by simp [nmAt,List.getElem?_eq_none (show ts.length≤k by omega)]
 rw [e]
 generalize ts.length=n at *
 clear h h1 h5 h4 hS e
 go_enter Tryz.func119,Tryz.ntmps119
 go_wp2_with fail
 go_ret
 exact ⟨rfl,rfl⟩
theorem name_any (h:Ps w b g m ts) (hS:Short ts):Calls Tryz.prog 93 #[.pointer (some ⟨b,0,none⟩)] w fun e w'=>(nmAt ts 0=true∧e=.returned (.string (tx ts))∧Ps w' b g m ts.tail∧w.grownBy w' (some b))∨(nmAt ts 0=false∧e=up ts∧w'=w):=by
 have HI:=ħ (isName_any h hS 0 (by omega))
 cases hn:nmAt ts 0 with
 | false=>
  rw [hn] at HI
  have HU:=ħ (giveUp_any h)
  have HN:=hide hn
  clear h hn
  go_enter Tryz.func93,Tryz.ntmps93
  go_wp2_with fail
  go_at_call 119
  refine HI.out.mono ?_
  rintro e w1 ⟨rfl,rfl⟩
  go_wp2_with fail
  go_at_call 120
  refine HU.out.mono ?_
  rintro e w1 ⟨rfl,rfl⟩
  exact ⟨rfl,Or.inr ⟨by trivial,rfl,rfl⟩⟩
 | true=>
  rw [hn] at HI
  obtain ⟨t,r,rfl⟩:∃ t r,ts=t::r:=by
   cases ts with
   | nil=>simp [nmAt] at hn
   | cons t r=>exact ⟨t,r,rfl⟩
  have HT:=ħ (text_any h)
  have HP:=ħ (pass_any h)
  clear h hn
  go_enter Tryz.func93,Tryz.ntmps93
  go_wp2_with fail
  go_at_call 119
  refine HI.out.mono ?_
  rintro e w1 ⟨rfl,rfl⟩
  go_wp2_with fail
  go_at_call 91
  refine HT.out.mono ?_
  rintro e w1 ⟨rfl,rfl⟩
  go_wp2_with fail
  go_at_call 92
  refine HP.out.mono ?_
  rintro e w1 ⟨rfl,hP1,hG1⟩
  have HP1:=hide hP1
  have HG1:=hide hG1
  clear hP1 hG1
  go_wp2_with fail
  go_ret
  exact Or.inl ⟨by trivial,rfl,HP1.out,HG1.out⟩
end Go.Proofs.YthcfianhdkolhaaGreatDoor.Y
namespace Go.Proofs.YthcfianhdkolhaaGreatDoor.Y
open Go.RowKit Go.Proofs.YthcfianhdkolhaaGreatDoor.X Go.Proofs.YthcfianhdkolhaaGreatDoor.T Go.Proofs.YthcfianhdkolhaaGreatDoor.S
set_option maxRecDepth 100000
set_option maxHeartbeats 2000000
set_option linter.unusedVariables false
set_option linter.unusedSimpArgs false
variable {w : World} {b g : Nat} {m : Value} {ts : List Tok} {t : Tok}
def asks:List ByteArray→List Tok→Bool × List Tok
 | [],ts=>(true,ts)
 | x::xs,ts=>if tx ts=x then asks xs ts.tail else (false,ts)
theorem asks_app (xs:List ByteArray) (x:ByteArray):∀ ts r,asks xs ts=(true,r)→asks (xs++[x]) ts=if tx r=x then (true,r.tail) else (false,r):=by
 induction xs with
 | nil=>
  intro ts r h
  obtain ⟨_,rfl⟩:true=true∧ts=r:=by simpa [asks] using h
  simp [asks]
 | cons y ys ih=>
  intro ts r h
  simp only [List.cons_append,asks] at h ⊢
  split at h
  ·rw [if_pos (by assumption)]
   exact ih _ _ h
  simp at h
theorem asks_stop (xs ys:List ByteArray):∀ ts r,asks xs ts=(false,r)→asks (xs++ys) ts=(false,r):=by
 induction xs with
 | nil=>intro ts r h;simp [asks] at h
 | cons y zs ih=>
  intro ts r h
  simp only [List.cons_append,asks] at h ⊢
  split at h
  ·rw [if_pos (by assumption)]
   exact ih _ _ h
  rw [if_neg (by assumption)]
  exact h
theorem grown_trans {a b c:World} {r:Nat} (h:a.grownBy b (some r)) (k:b.grownBy c (some r)):a.grownBy c (some r):=⟨k.os.trans h.os,k.tape.trans h.tape,k.output.trans h.output,Nat.le_trans h.size k.size,fun i hi hn=>(k.block i (Nat.lt_of_lt_of_le hi h.size) hn).trans (h.block i hi hn)⟩
theorem grown_cell {w w':World} {r B j:Nat} (h:w.grownBy w' (some r)) (hB:B≠r) (hl:B<w.heap.size):w'.cell? ⟨B,j,none⟩=w.cell? ⟨B,j,none⟩:=by
 have e:=h.block B hl (fun e=>hB (Option.some.inj e))
 simp [World.cell?,e]
def AskP (w:World) (b g:Nat) (m:Value) (q:Bool × List Tok) (e:Ending) (w':World):Prop:=e=(if q.1 then .returned (.tuple #[]) else up q.2)∧Ps w' b g m q.2∧w.grownBy w' (some b)
theorem ask_any (h:Ps w b g m ts) (xs:List ByteArray) (hx:∀ x,x∈xs→x.size≠0) (a:Option Addr) (c B:Nat) (ha:xs≠[]→a=some ⟨B,0,none⟩) (hB:B≠b) (hl:B<w.heap.size) (hcs:∀ j (hj:j<xs.length),w.cell? ⟨B,j,none⟩=some (.string xs[j])) (hn:xs.length≤100):
  Calls Tryz.prog 94 #[.pointer (some ⟨b,0,none⟩),.slice a xs.length c] w (AskP w b g m (asks xs ts)):=by
 have HP:=hide h
 have HC:=hide hcs
 have HX:=hide hx
 clear h hcs hx
 go_enter Tryz.func94,Tryz.ntmps94
 go_wp2_with fail
 go_loopw [8] (fun i wr=>∃ j:Nat,j≤xs.length∧i=.int .i64 j∧∃ r,Hid (asks (xs.take j) ts=(true,r))∧Hid (Ps wr b g m r)∧Hid (w.grownBy wr (some b))) (fun i _=>xs.length - (intOf i).toNat)
 case atStart=>exact ⟨0,Nat.zero_le _,rfl,ts,rfl,HP,⟨rfl,rfl,rfl,Nat.le_refl _,fun _ _ _=>rfl⟩⟩
 case round=>
  obtain ⟨j,hj,rfl,r,HA,HPj,HGj⟩:=hrel
  by_cases hlt:j<xs.length
  ·have hlt':(j:Int)<xs.length:=by omega
   have hidx:(0:Int)≤j∧(j:Int)<xs.length:=by omega
   obtain rfl:=ha (fun e=>by rw [e] at hlt;simp at hlt)
   have e0:wr.cell? ⟨B,j,none⟩=some (.string xs[j]):=(grown_cell HGj.out hB hl).trans (HC.out j hlt)
   have hT:=takes_any HPj.out xs[j] (HX.out _ (List.getElem_mem hlt))
   have HU:=ħ (fun (w':World) (h:Ps w' b g m r)=>giveUp_any h)
   have HS:Hid (asks (xs.take (j+1)) ts=if tx r=xs[j] then (true,r.tail) else (false,r)):=by
    show _=_
    rw [List.take_succ_eq_append_getElem hlt]
    exact asks_app _ _ _ _ HA.out
   have HD:Hid (∀ q,asks (xs.take (j+1)) ts=(false,q)→asks xs ts=(false,q)):=fun q hq=>by
    have:=asks_stop (xs.take (j+1)) (xs.drop (j+1)) ts q hq
    rwa [List.take_append_drop] at this
   by_cases hq:tx r=xs[j]
   ·rw [decide_eq_true hq,if_pos hq] at hT
    have HS2:Hid (asks (xs.take (j+1)) ts=(true,r.tail)):=by show _=_;rw [HS.out,if_pos hq]
    have HT:=hide hT
    clear hT hq
    go_wp2_with fail
    go_at_call 67
    refine HT.out.mono ?_
    rintro e w1 ⟨rfl,hP1,hG1⟩
    have HP1:=hide hP1
    have HG1:=ħ (grown_trans HGj.out hG1)
    clear hP1 hG1 HT
    go_wp2_with fail
    go_roundw
    case rel=>exact ⟨j+1,by omega,by go_num,r.tail,HS2,HP1,HG1⟩
    case measure=>simp [intOf];omega
   rw [decide_eq_false hq,if_neg hq] at hT
   have HS2:Hid (asks xs ts=(false,r)):=HD.out r (by rw [HS.out,if_neg hq])
   have HT:=hide hT
   clear hT hq
   go_wp2_with fail
   go_at_call 67
   refine HT.out.mono ?_
   rintro e w1 ⟨rfl,hP1,hG1⟩
   have HP1:=hide hP1
   have HG1:=ħ (grown_trans HGj.out hG1)
   clear hP1 hG1 HT
   go_wp2_with fail
   go_at_call 120
   refine (HU.out _ HP1.out).mono ?_
   rintro e w2 ⟨rfl,rfl⟩
   exact ⟨rfl,by rw [HS2.out];exact ⟨rfl,HP1.out,HG1.out⟩⟩
  obtain rfl:j=xs.length:=by omega
  have hlt':¬ ((xs.length:Nat):Int)<xs.length:=by omega
  have HS2:Hid (asks xs ts=(true,r)):=by have:=HA.out;rwa [List.take_length] at this
  go_wp2_with fail
  go_end0
  rw [HS2.out]
  exact ⟨rfl,HPj.out,HGj.out⟩
end Go.Proofs.YthcfianhdkolhaaGreatDoor.Y
namespace Go.Proofs.YthcfianhdkolhaaGreatDoor.Y
open Go.RowKit Go.Proofs.YthcfianhdkolhaaGreatDoor.X Go.Proofs.YthcfianhdkolhaaGreatDoor.T Go.Proofs.YthcfianhdkolhaaGreatDoor.S
set_option linter.unusedVariables false
set_option linter.unusedSimpArgs false
inductive NdV (w:World) (A:Nat→Prop):Nd→Value→Prop
 | leaf (kind:Int) (text:List UInt8) (num:Int) (ka:Option Addr) (kc:Nat):kc≤9223372036854775807→NdV w A (.mk kind text num []) (.agg #[.int .i64 kind,.string (str text),.int .i64 num,.slice ka 0 kc])
 | full (kind:Int) (text:List UInt8) (num:Int) (kids:List Nd) (g kc:Nat) (c:Nat→Nat→Value):kids≠[]→kids.length≤kc→kc≤9223372036854775807→A g →
   (∀ j o,j<kids.length→o<4→w.cell? ⟨g,j*4+o,none⟩=some (c j o)) →
   (∀ j (hj:j<kids.length),NdV w A kids[j] (.agg #[c j 0,c j 1,c j 2,c j 3])) →
   NdV w A (.mk kind text num kids) (.agg #[.int .i64 kind,.string (str text),.int .i64 num,.slice (some ⟨g,0,none⟩) kids.length kc])
theorem NdV.bare {w:World} {A:Nat→Prop} (kind:Int) (text:List UInt8) (num:Int) (ka:Option Addr) (kc:Nat) (h:kc≤9223372036854775807:=by decide):NdV w A (.mk kind text num []) (.agg #[.int .i64 kind,.string (str text),.int .i64 num,.slice ka 0 kc]):=NdV.leaf kind text num ka kc h
theorem NdV.move {w w':World} {A A':Nat→Prop} {n:Nd} {v:Value} (h:NdV w A n v) (hk:∀ g,A g→g<w.heap.size→w'.heap[g]?=w.heap[g]?∧A' g):NdV w' A' n v:=by
 induction h with
 | leaf kind text num ka kc h=>exact NdV.leaf kind text num ka kc h
 | full kind text num kids g kc c hne h1 h2 hA hc hs ih=>
  have hpos:0<kids.length:=List.length_pos_iff.2 hne
  have hlt:g<w.heap.size:=World.block_lt_of_cell? w ⟨g,0*4+0,none⟩ (hc 0 0 hpos (by omega))
  obtain ⟨hb,hx⟩:=hk g hA hlt
  refine NdV.full kind text num kids g kc c hne h1 h2 hx (fun j o hj ho=>?_) ih
  exact (World.cell?_of_block (a:=⟨g,j*4+o,none⟩) hb).trans (hc j o hj ho)
theorem NdV.mono {w:World} {A A':Nat→Prop} {n:Nd} {v:Value} (h:NdV w A n v) (hx:∀ g,A g→g<w.heap.size→A' g):NdV w A' n v:=h.move (fun g hA hl=>⟨rfl,hx g hA hl⟩)
theorem NdV.form {w:World} {A:Nat→Prop} {n:Nd} {v:Value} (h:NdV w A n v):∃ kind text num ka kn kc,v=.agg #[.int .i64 kind,.string text,.int .i64 num,.slice ka kn kc]:=by
 cases h with
 | leaf kind text num ka kc=>exact ⟨_,_,_,_,_,_,rfl⟩
 | full kind text num kids g kc c=>exact ⟨_,_,_,_,_,_,rfl⟩
def cellsN:List (Value × Value × Value × Value)→List Value
 | []=>[]
 | (a,b,c,d)::r=>a::b::c::d::cellsN r
theorem cellsN_app:∀ (l m:List (Value × Value × Value × Value)),cellsN (l++m)=cellsN l++cellsN m
 | [],m=>rfl
 | (a,b,c,d)::r,m=>by show a::b::c::d::cellsN (r++m)=_;rw [cellsN_app r m];rfl
theorem cellsN_at:∀ (l:List (Value × Value × Value × Value)) (j:Nat) (hj:j<l.length),(cellsN l)[j*4]?=some l[j].1∧(cellsN l)[j*4+1]?=some l[j].2.1∧(cellsN l)[j*4+2]?=some l[j].2.2.1∧(cellsN l)[j*4+3]?=some l[j].2.2.2
 | [],j,hj=>by simp at hj
 | (a,b,c,d)::r,0,_=>⟨rfl,rfl,rfl,rfl⟩
 | (a,b,c,d)::r,j+1,hj=>by
  have ih:=cellsN_at r j (by simpa using hj)
  have e:∀ o,(cellsN ((a,b,c,d)::r))[(j+1)*4+o]?=(cellsN r)[j*4+o]?:=fun o=>by
   rw [show (j+1)*4+o=(j*4+o)+4 by omega]
   rfl
  exact ⟨(e 0).trans ih.1,(e 1).trans ih.2.1,(e 2).trans ih.2.2.1,(e 3).trans ih.2.2.2⟩
structure RowN (w:World) (A:Nat→Prop) (v:Value) (l:List Nd):Prop where
 own:∀ k,v.ownBlock=some k→A k
 row:∃ cs:List (Value × Value × Value × Value),cs.length=l.length∧w.ownsRow 0 24 4 v l.length (cellsN cs)∧∀ j (hj:j<l.length) (hj':j<cs.length),NdV w (fun k=>A k∧some k≠v.ownBlock) l[j] (.agg #[cs[j].1,cs[j].2.1,cs[j].2.2.1,cs[j].2.2.2])
theorem RowN.nil (w:World) (A:Nat→Prop):RowN w A (.slice none 0 0) []:=⟨fun k hk=>by simp [Value.ownBlock] at hk,[],rfl,World.ownsRow_nil _ _ _ _,fun j hj=>by simp at hj⟩
theorem RowN.move {w w':World} {A A':Nat→Prop} {v:Value} {l:List Nd} (h:RowN w A v l) (hk:∀ g,A g→g<w.heap.size→w'.heap[g]?=w.heap[g]?∧A' g):RowN w' A' v l:=by
 obtain ⟨cs,h1,h2,h3⟩:=h.row
 rcases h2.2 with ⟨rfl,hl⟩|⟨g,cap,cu,rfl,hb,hh,r⟩
 ·obtain rfl:=List.eq_nil_of_length_eq_zero hl
  exact RowN.nil w' A'
 have hA:=h.own g rfl
 obtain ⟨e1,e2⟩:=hk g hA (Array.getElem?_eq_some_iff.1 hh).1
 refine ⟨fun k hk'=>?_,cs,h1,⟨h2.1,Or.inr ⟨g,cap,cu,rfl,hb,e1.trans hh,r⟩⟩,fun j hj hj'=>(h3 j hj hj').move (fun k hk' hl=>⟨(hk k hk'.1 hl).1,(hk k hk'.1 hl).2,hk'.2⟩)⟩
 obtain rfl:g=k:=by simpa [Value.ownBlock] using hk'
 exact e2
theorem RowN.node {w:World} {A:Nat→Prop} {v:Value} {l:List Nd} (h:RowN w A v l) (kind:Int) (text:List UInt8) (num:Int):NdV w A (.mk kind text num l) (.agg #[.int .i64 kind,.string (str text),.int .i64 num,v]):=by
 obtain ⟨cs,h1,h2,h3⟩:=h.row
 rcases h2.2 with ⟨rfl,hl⟩|⟨g,cap,cu,rfl,hb,hh,hn,hm,hs,ht⟩
 ·obtain rfl:=List.eq_nil_of_length_eq_zero hl
  exact NdV.bare kind text num none 0
 by_cases hne:l=[]
 ·subst hne
  exact NdV.leaf kind text num (some ⟨g,0,none⟩) cap hm
 have hc:∀ k,k<l.length*4→w.cell? ⟨g,k,none⟩=(cellsN cs)[k]?:=fun k hk=>by
  rw [← ht,List.getElem?_take_of_lt hk,Array.getElem?_toList]
  simp [World.cell?,hh]
 refine NdV.full kind text num l g cap (fun j o=>((cellsN cs)[j*4+o]?).getD undef) hne hn hm (h.own g rfl) (fun j o hj ho=>?_) (fun j hj=>?_)
 ·rw [hc _ (by omega)]
  have:=cellsN_at cs j (by omega)
  have ho':o=0∨o=1∨o=2∨o=3:=by omega
  rcases ho' with rfl|rfl|rfl|rfl
  ·show (cellsN cs)[j*4]?=some (((cellsN cs)[j*4]?).getD undef);rw [this.1];rfl
  ·rw [this.2.1];rfl
  ·rw [this.2.2.1];rfl
  rw [this.2.2.2];rfl
 have hj':j<cs.length:=by omega
 have:=cellsN_at cs j hj'
 have h4:=(h3 j hj hj').mono (A':=A) (fun k hk _=>hk.1)
 have e0:((cellsN cs)[j*4+0]?).getD undef=cs[j].1:=by show ((cellsN cs)[j*4]?).getD undef=_;rw [this.1];rfl
 have e1:((cellsN cs)[j*4+1]?).getD undef=cs[j].2.1:=by rw [this.2.1];rfl
 have e2:((cellsN cs)[j*4+2]?).getD undef=cs[j].2.2.1:=by rw [this.2.2.1];rfl
 have e3:((cellsN cs)[j*4+3]?).getD undef=cs[j].2.2.2:=by rw [this.2.2.2];rfl
 show NdV w A l[j] (.agg #[((cellsN cs)[j*4+0]?).getD undef,((cellsN cs)[j*4+1]?).getD undef,((cellsN cs)[j*4+2]?).getD undef,((cellsN cs)[j*4+3]?).getD undef])
 rw [e0,e1,e2,e3]
 exact h4
theorem info_parts {P:Program} {e:TypeId} {z:Value} {n m:Nat} (h:(P.info? e).map (fun i=>(i.zero,i.size,i.bytes))=some (some z,n,m)):∃ i,P.info? e=some i∧i.zero=some z∧i.size=n∧i.bytes=m:=by
 cases hi:P.info? e with
 | none=>rw [hi] at h;cases h
 | some i=>
  rw [hi] at h
  simp at h
  exact ⟨i,rfl,h.1,h.2.1,h.2.2⟩
theorem info24:(Tryz.prog.info? 24).map (fun i=>(i.zero,i.size,i.bytes))=some (some (.agg #[.int .i64 0,.string ⟨#[]⟩,.int .i64 0,.slice none 0 0]),4,56):=by kernel_rfl
theorem RowN.put {w w':World} {A A':Nat→Prop} {g cap:Nat} {v a b c d:Value} {l:List Nd} {x:Nd} {cs:List (Value × Value × Value × Value)} (h1:cs.length=l.length) (h3:∀ j (hj:j<l.length) (hj':j<cs.length),NdV w (fun k=>A k∧some k≠v.ownBlock) l[j] (.agg #[cs[j].1,cs[j].2.1,cs[j].2.2.1,cs[j].2.2.2]))
  (hx:NdV w (fun k=>A k∧some k≠v.ownBlock) x (.agg #[a,b,c,d])) (hown:w'.ownsRow 0 24 4 (.slice (some ⟨g,0,none⟩) (l.length+1) cap) (l.length+1) (cellsN cs++[a,b,c,d])) (hg:w.grownBy w' v.ownBlock) (hat:v.ownBlock=some g∨g=w.heap.size) (hA:∀ k,A k→A' k) (hgA:A' g):RowN w' A' (.slice (some ⟨g,0,none⟩) (l.length+1) cap) (l++[x]):=by
 have hn:∀ n u,NdV w (fun k=>A k∧some k≠v.ownBlock) n u→NdV w' (fun k=>A' k∧some k≠some g) n u:=fun n u hu=>hu.move (fun k hk hlt=>⟨hg.block k hlt hk.2,hA k hk.1,fun e2=>by
  injection e2 with e2
  rcases hat with e|e
  ·exact hk.2 (by rw [e,e2])
  omega⟩)
 refine ⟨fun k hk=>?_,cs++[(a,b,c,d)],by simp [h1],?_,fun j hj hj'=>?_⟩
 ·obtain rfl:g=k:=by simpa [Value.ownBlock] using hk
  exact hgA
 ·rw [cellsN_app,show (l++[x]).length=l.length+1 by simp]
  exact hown
 by_cases q:j<l.length
 ·have q':j<cs.length:=by omega
  rw [List.getElem_append_left q]
  simp only [List.getElem_append_left q']
  exact hn _ _ (h3 j q q')
 have e:j=l.length:=by simp at hj;omega
 subst e
 rw [List.getElem_append_right (Nat.le_refl _)]
 simp only [List.getElem_append_right (show cs.length≤l.length by omega),h1,Nat.sub_self,List.getElem_cons_zero]
 exact hn _ _ hx
theorem list_nd {w:World} {ops:Array Oper} {rest:List Oper} {o:Oper} {a:Act} {Q:Exit→Act→World→Prop} (p q:Operand) (hgd:o.guard=none)
  (ho:o.op=.call { callee:=.builtin .append,args:=#[p,q],argTypes:=#[22,22] })
  (A A':Nat→Prop) (v:Value) (l:List Nd) (hs:a.eval p=v) (hown:RowN w A v l)
  (B:Nat) (x:Nd) (k t n s:Value) (hx:a.eval q=.slice (some ⟨B,0,none⟩) 1 1) (hB:w.heap[B]?=some (.cells #[k,t,n,s] 24 (0,0))) (h1:k.oneCell'=true∧t.oneCell'=true∧n.oneCell'=true∧s.oneCell'=true) (hnd:NdV w (fun k=>A k∧some k≠v.ownBlock) x (.agg #[k,t,n,s]))
  (hn:l.length≤16000) (hA:∀ k,A k→A' k) (hA':A' w.heap.size)
  (h:∀ g cap w',RowN w' A' (.slice (some ⟨g,0,none⟩) (l.length+1) cap) (l++[x])→w.grownBy w' v.ownBlock→(v.ownBlock=some g∨g=w.heap.size)→g<w'.heap.size→wpList Tryz.prog ops Q rest (a.put o.dst (.slice (some ⟨g,0,none⟩) (l.length+1) cap)) w'):
  wpList Tryz.prog ops Q (o::rest) a w:=by
 obtain ⟨i0,hi,hz0,hz1,hz2⟩:=info_parts info24
 obtain ⟨cs,c1,c2,c3⟩:=hown.row
 refine wpList_append_lies w hgd p q 22 ho 0 24 i0 _ 4 56 Tryz.underlying22 hi hz0 hz1 hz2 rfl (by decide) v l.length (cellsN cs) hs c2 ⟨B,0,none⟩ 1 1 [k,t,n,s] hx rfl (World.news_of_block hB) ?_ (by decide) (by unfold maxLen;omega) (by omega) (Nat.zero_le _) w.heap.size rfl ?_
 ·intro u hu
  simp at hu
  rcases hu with rfl|rfl|rfl|rfl
  ·exact h1.1
  ·exact h1.2.1
  ·exact h1.2.2.1
  exact h1.2.2.2
 intro g cap w' h2 h3 h4 h5
 refine h g cap w' (RowN.put c1 c3 hnd h2 h3 h4 hA ?_) h3 h4 h5
 rcases h4 with e|e
 ·exact hA _ (hown.own g e)
 rw [e];exact hA'
theorem grown_alloc (w:World) (o:Obj):w.grownBy (w.alloc o) none:=⟨rfl,rfl,rfl,by simp,fun k hk _=>Below.heap_alloc _ _ _ hk⟩
theorem grown_none {a b c:World} {r:Option Nat} (h:a.grownBy b r) (k:b.grownBy c none):a.grownBy c r:=⟨k.os.trans h.os,k.tape.trans h.tape,k.output.trans h.output,Nat.le_trans h.size k.size,fun i hi hn=>(k.block i (Nat.lt_of_lt_of_le hi h.size) (by simp)).trans (h.block i hi hn)⟩
end Go.Proofs.YthcfianhdkolhaaGreatDoor.Y
namespace Go.Proofs.YthcfianhdkolhaaGreatDoor.Y
open Go.RowKit Go.Proofs.YthcfianhdkolhaaGreatDoor.X Go.Proofs.YthcfianhdkolhaaGreatDoor.T Go.Proofs.YthcfianhdkolhaaGreatDoor.S
set_option maxRecDepth 100000
set_option maxHeartbeats 2000000
set_option linter.unusedVariables false
set_option linter.unusedSimpArgs false
variable {w : World} {b g : Nat} {m : Value} {ts : List Tok} {t : Tok}
def tk (ts:List Tok):List Tk:=ts.map fun t=>⟨t.kind,t.text.data.toList⟩
structure Fit (t:Tok):Prop where
 short:t.text.size≤4000
 num:(t.kind=2∨t.kind=3)→(∃ c r,t.text.data.toList=c::r∧48≤c.toNat∧c.toNat≤57)∧Lib.parseIntB 64 t.text.data.toList=.ok (digits t.text.data.toList 0)
def Fits (ts:List Tok):Prop:=∀ t,t∈ts→Fit t
theorem Fits.short (h:Fits ts):Short ts:=fun t ht=>(h t ht).short
def Word (s:List UInt8):Prop:=∃ c r,s=c::r∧¬ (48≤c.toNat∧c.toNat≤57)
theorem tx_hd (h:Fits ts) (s:List UInt8) (hs:Word s):tx ts=str s ↔ hd (tk ts)=s:=by
 obtain ⟨c,r,rfl,hc⟩:=hs
 cases ts with
 | nil=>
  refine ⟨fun e=>?_,fun e=>by simp [tk,hd] at e⟩
  have:=congrArg (fun x:ByteArray=>x.data.toList) e
  simp [tx,str] at this
 | cons t ts=>
  have hb:t.text=str (c::r) ↔ t.text.data.toList=c::r:=⟨fun e=>by rw [e];simp [str],fun e=>by apply ByteArray.ext;apply Array.toList_inj.1;rw [e];simp [str]⟩
  show t.text=_ ↔ Tk.txt ⟨t.kind,t.text.data.toList⟩=_
  rw [hb]
  unfold Tk.txt
  by_cases hk:t.kind=2∨t.kind=3
  ·obtain ⟨⟨c',r',e,h1,h2⟩,_⟩:=(h t (List.mem_cons_self)).num hk
   rw [if_pos hk,e]
   refine ⟨fun q=>?_,fun q=>by simp at q⟩
   obtain ⟨rfl,_⟩:c'=c∧r'=r:=by simpa using q
   exact absurd ⟨h1,h2⟩ hc
  rw [if_neg hk]
theorem Ps.grown {w':World} (h:Ps w b g m ts) (hg:w.grownBy w' none):Ps w' b g m ts:=by
 obtain ⟨a,o,c,h1,h2,h3,h4,h5⟩:=h.blk
 refine ⟨h.ne,a,o,c,(hg.block b h.lt (by simp)).trans h1,h2,h3,h4,?_⟩
 cases ts with
 | nil=>exact fun j hj=>by simp at hj
 | cons t ts=>
  have hl:g<w.heap.size:=World.block_lt_of_cell? w ⟨g,o+0*3,none⟩ (h5 0 (by simp)).1
  exact h5.same (hg.block g hl (by simp))
theorem Ps.alloc (h:Ps w b g m ts) (o:Obj):Ps (w.alloc o) b g m ts:=h.grown (grown_alloc w o)
def NumP (w:World) (b g:Nat) (m:Value) (ts:List Tok) (e:Ending) (w':World):Prop:=w.grownBy w' (some b) ∧
 ((∃ k x,number (tk ts)=some (.ok (.nd (.mk k [] x [])) (tk ts.tail))∧e=.returned (.agg #[.int .i64 k,.string ⟨#[]⟩,.int .i64 x,.slice none 0 0])∧Ps w' b g m ts.tail)∨(number (tk ts)=some (.no (tk ts))∧e=up ts))
theorem number_nil (h:Ps w b g m []):Calls Tryz.prog 124 #[.pointer (some ⟨b,0,none⟩)] w (NumP w b g m []):=by
 have hA:=h.alloc (.cells #[.int .i64 0,.string ⟨#[]⟩,.int .i64 0,.slice none 0 0] 24)
 obtain ⟨a,o,c,h1,h2,h3,h4,h5⟩:=hA.blk
 have hc:=cells_at h1
 have HU:=ħ (giveUp_any hA)
 have HG:=ħ (grown_alloc w (.cells #[.int .i64 0,.string ⟨#[]⟩,.int .i64 0,.slice none 0 0] 24))
 clear h h1 h4 h5 hA
 go_enter Tryz.func124,Tryz.ntmps124
 go_wp2_with fail
 go_at_call 120
 refine HU.out.mono ?_
 rintro e w1 ⟨rfl,rfl⟩
 exact ⟨rfl,⟨HG.out.os,HG.out.tape,HG.out.output,HG.out.size,fun k hk _=>HG.out.block k hk (by simp)⟩,Or.inr ⟨rfl,rfl⟩⟩
theorem number_no (h:Ps w b g m (t::ts)) (hk:¬ (t.kind=2∨t.kind=3)):Calls Tryz.prog 124 #[.pointer (some ⟨b,0,none⟩)] w (NumP w b g m (t::ts)):=by
 have hA:=h.alloc (.cells #[.int .i64 0,.string ⟨#[]⟩,.int .i64 0,.slice none 0 0] 24)
 have hA2:=hA.alloc (.cells #[.int .i64 21,.string ⟨#[]⟩,.int .i64 0,.slice none 0 0] 24)
 obtain ⟨a,o,c,h1,h2,h3,h4,h5⟩:=hA.blk
 have hc:=cells_at h1
 obtain rfl:=h4 (by simp)
 obtain ⟨a',o',c',h1',h2',h3',h4',h5'⟩:=hA2.blk
 have hc':=cells_at h1'
 obtain rfl:=h4' (by simp)
 obtain ⟨k0,k1,k2⟩:=h5' 0 (by simp)
 simp only [Nat.zero_mul,Nat.add_zero,List.getElem_cons_zero] at k0 k1 k2
 have HU:=ħ (giveUp_any hA2)
 have HG:=ħ (grown_none (grown_alloc w (.cells #[.int .i64 0,.string ⟨#[]⟩,.int .i64 0,.slice none 0 0] 24)) (grown_alloc (w.alloc (.cells #[.int .i64 0,.string ⟨#[]⟩,.int .i64 0,.slice none 0 0] 24)) (.cells #[.int .i64 21,.string ⟨#[]⟩,.int .i64 0,.slice none 0 0] 24)))
 have hl:((t::ts).length:Int)≠0:=by rw [List.length_cons];omega
 have hl0:(0:Int)<((t::ts).length:Int):=by rw [List.length_cons];omega
 have HN:Hid (number (tk (t::ts))=some (.no (tk (t::ts)))):=by
  show number (⟨t.kind,t.text.data.toList⟩::tk ts)=_
  unfold number
  simp only
  rw [if_neg (fun e=>hk (Or.inl e)),if_neg (fun e=>hk (Or.inr e))]
  rfl
 have hk2:¬ t.kind=2:=fun e=>hk (Or.inl e)
 have hk3:¬ t.kind=3:=fun e=>hk (Or.inr e)
 generalize (t::ts).length=n at *
 clear h h1 h4 h5 hA h1' h4' h5' hA2 hk
 go_enter Tryz.func124,Tryz.ntmps124
 go_wp2_with fail
 go_at_call 120
 refine HU.out.mono ?_
 rintro e w1 ⟨rfl,rfl⟩
 exact ⟨rfl,⟨HG.out.os,HG.out.tape,HG.out.output,HG.out.size,fun k hk _=>HG.out.block k hk (by simp)⟩,Or.inr ⟨HN.out,rfl⟩⟩
theorem Ps.tok (h:Ps w b g m (t::ts)):g<w.heap.size:=by
 obtain ⟨a,o,c,h1,h2,h3,h4,h5⟩:=h.blk
 exact World.block_lt_of_cell? w ⟨g,o+0*3,none⟩ (h5 0 (by simp)).1
theorem Ps.set (h:Ps w b g m ts) {q i:Nat} {x:Value} (hq:q≠b) (hg:q≠g):Ps (w.setCell ⟨q,i,none⟩ x) b g m ts:=by
 obtain ⟨a,o,c,h1,h2,h3,h4,h5⟩:=h.blk
 exact ⟨h.ne,a,o,c,(heap_setCell_other w _ b x (fun e=>hq e.symm)).trans h1,h2,h3,h4,h5.same (heap_setCell_other w _ g x (fun e=>hg e.symm))⟩
theorem grown_set {a w:World} {r:Option Nat} {q o:Nat} {x:Value} (h:a.grownBy w r) (hq:a.heap.size≤q):a.grownBy (w.setCell ⟨q,o,none⟩ x) r:=
 ⟨h.os,h.tape,h.output,by simpa using h.size,fun k hk hn=>(heap_setCell_other w _ k x (fun e=>by have:k=q:=e;omega)).trans (h.block k hk hn)⟩
theorem set4 {w:World} {q:Nat} {c0 c1 c2 c3:Value} (a b c d:Value) (hq:w.heap[q]?=some (.cells #[c0,c1,c2,c3] 24 (0,0))):
  ((((w.setCell ⟨q,0,none⟩ a).setCell ⟨q,1,none⟩ b).setCell ⟨q,2,none⟩ c).setCell ⟨q,3,none⟩ d).heap[q]?=some (.cells #[a,b,c,d] 24 (0,0)) ∧
  (∀ bb g m ts,q≠bb→q≠g→Ps w bb g m ts→Ps ((((w.setCell ⟨q,0,none⟩ a).setCell ⟨q,1,none⟩ b).setCell ⟨q,2,none⟩ c).setCell ⟨q,3,none⟩ d) bb g m ts) ∧
  (∀ z r,World.grownBy z w r→z.heap.size≤q→z.grownBy ((((w.setCell ⟨q,0,none⟩ a).setCell ⟨q,1,none⟩ b).setCell ⟨q,2,none⟩ c).setCell ⟨q,3,none⟩ d) r):=by
 have k0:(w.setCell ⟨q,0,none⟩ a).heap[q]?=some (.cells #[a,c1,c2,c3] 24 (0,0)):=(heap_setCell_same w q 0 _ 24 _ hq).trans rfl
 have k1:((w.setCell ⟨q,0,none⟩ a).setCell ⟨q,1,none⟩ b).heap[q]?=some (.cells #[a,b,c2,c3] 24 (0,0)):=(heap_setCell_same _ q 1 _ 24 _ k0).trans rfl
 have k2:(((w.setCell ⟨q,0,none⟩ a).setCell ⟨q,1,none⟩ b).setCell ⟨q,2,none⟩ c).heap[q]?=some (.cells #[a,b,c,c3] 24 (0,0)):=(heap_setCell_same _ q 2 _ 24 _ k1).trans rfl
 have k3:((((w.setCell ⟨q,0,none⟩ a).setCell ⟨q,1,none⟩ b).setCell ⟨q,2,none⟩ c).setCell ⟨q,3,none⟩ d).heap[q]?=some (.cells #[a,b,c,d] 24 (0,0)):=(heap_setCell_same _ q 3 _ 24 _ k2).trans rfl
 exact ⟨k3,fun bb g m ts h1 h2 h=>(((h.set h1 h2).set h1 h2).set h1 h2).set h1 h2,fun z r h hz=>grown_set (grown_set (grown_set (grown_set h hz) hz) hz) hz⟩
theorem parse_any (s:ByteArray) (hs:s.size≤9223372036854775806) (v:Int) (h:Lib.parseIntB 64 s.data.toList=.ok v) (w:World):Calls Tryz.prog 64 #[.string s,.int .i64 10,.int .i64 64] w fun e w'=>e=.returned (.tuple #[.int .i64 v,.nilIface])∧w.grownBy w' none:=by
 refine (Tryz.strconv_ParseInt_10_at64_ok s hs v h w).mono ?_
 rintro e w' ⟨rfl,rfl|⟨t,rfl⟩⟩
 ·exact ⟨rfl,rfl,rfl,rfl,Nat.le_refl _,fun _ _ _=>rfl⟩
 have hb:=Lib.bytesWorld_below w 5 t
 exact ⟨rfl,hb.os,hb.tape,hb.output,hb.size,fun k hk _=>hb.block k hk⟩
theorem number_k2 (h:Ps w b g m (t::ts)) (hF:Fit t) (hk:t.kind=2):Calls Tryz.prog 124 #[.pointer (some ⟨b,0,none⟩)] w (NumP w b g m (t::ts)):=by
 have hA:=h.alloc (.cells #[.int .i64 0,.string ⟨#[]⟩,.int .i64 0,.slice none 0 0] 24)
 have hA0:=hA.alloc (.cells #[.int .i64 21,.string ⟨#[]⟩,.int .i64 0,.slice none 0 0] 24)
 have hA2:=hA.alloc (.cells #[.int .i64 21,.string ⟨#[]⟩,.int .i64 0,.slice none 0 0] 24)
 obtain ⟨a,o,c,h1,h2,h3,h4,h5⟩:=hA.blk
 have hc:=cells_at h1
 obtain rfl:=h4 (by simp)
 obtain ⟨a',o',c',h1',h2',h3',h4',h5'⟩:=hA0.blk
 have hc':=cells_at h1'
 obtain rfl:=h4' (by simp)
 obtain ⟨k0,k1,k2⟩:=h5' 0 (by simp)
 simp only [Nat.zero_mul,Nat.add_zero,List.getElem_cons_zero] at k0 k1 k2
 rw [hk] at k0
 have hbl:=h.lt
 have hgl:=h.tok
 have HT:=ħ (text_any hA2)
 have HPI:=ħ (parse_any t.text (by have:=hF.short;omega) _ (hF.num (by rw [hk];decide)).2)
 have HG2:=ħ (grown_none (grown_alloc w (.cells #[.int .i64 0,.string ⟨#[]⟩,.int .i64 0,.slice none 0 0] 24)) (grown_alloc (w.alloc (.cells #[.int .i64 0,.string ⟨#[]⟩,.int .i64 0,.slice none 0 0] 24)) (.cells #[.int .i64 21,.string ⟨#[]⟩,.int .i64 0,.slice none 0 0] 24)))
 have HA2:=hide hA2
 have HS1:Hid (((w.alloc (.cells #[.int .i64 0,.string ⟨#[]⟩,.int .i64 0,.slice none 0 0] 24)).alloc (.cells #[.int .i64 21,.string ⟨#[]⟩,.int .i64 0,.slice none 0 0] 24)).heap[w.heap.size+1]?=some (.cells #[.int .i64 21,.string ⟨#[]⟩,.int .i64 0,.slice none 0 0] 24 (0,0))):=by
  have:=heap_new (w.alloc (.cells #[.int .i64 0,.string ⟨#[]⟩,.int .i64 0,.slice none 0 0] 24)) #[.int .i64 21,.string ⟨#[]⟩,.int .i64 0,.slice none 0 0] 24
  rw [World.size_alloc] at this
  exact this
 have HS0:Hid (((w.alloc (.cells #[.int .i64 0,.string ⟨#[]⟩,.int .i64 0,.slice none 0 0] 24)).alloc (.cells #[.int .i64 21,.string ⟨#[]⟩,.int .i64 0,.slice none 0 0] 24)).heap[w.heap.size]?=some (.cells #[.int .i64 0,.string ⟨#[]⟩,.int .i64 0,.slice none 0 0] 24 (0,0))):=by
  have h1:=heap_new w #[.int .i64 0,.string ⟨#[]⟩,.int .i64 0,.slice none 0 0] 24
  exact (Below.heap_alloc _ _ _ (by simp)).trans h1
 have hl:((t::ts).length:Int)≠0:=by rw [List.length_cons];omega
 have hl0:(0:Int)<((t::ts).length:Int):=by rw [List.length_cons];omega
 have HN:Hid (number (tk (t::ts))=some (.ok (.nd (.mk 21 [] (digits t.text.data.toList 0) [])) (tk ts))):=by
  show number (⟨t.kind,t.text.data.toList⟩::tk ts)=_
  unfold number
  simp only
  rw [hk]
  rfl
 generalize (t::ts).length=n at *
 generalize digits t.text.data.toList 0=v at *
 clear h h1 h4 h5 hA h1' h4' h5' hA2 hA0 hk hF
 go_enter Tryz.func124,Tryz.ntmps124
 go_wp2_with fail
 go_at_call 91
 refine HT.out.mono ?_
 rintro e w1 ⟨rfl,rfl⟩
 go_wp2_with fail
 go_at_call 64
 refine (HPI.out _).mono ?_
 rintro e w2 ⟨rfl,hG⟩
 have HB1:=ħ ((hG.block (w.heap.size+1) (by simp) (by simp)).trans HS1.out)
 have HB0:=ħ ((hG.block w.heap.size (by simp;omega) (by simp)).trans HS0.out)
 have HP2:=ħ (HA2.out.grown hG)
 have HGG:=ħ (grown_none HG2.out hG)
 clear hG HS1 HS0 HT HPI HA2 HG2
 have hcq:=cells_at HB1.out
 have hfq:=frozen_at HB1.out
 have k3:(w2.setCell ⟨w.heap.size+1,2,none⟩ (.int .i64 v)).heap[w.heap.size+1]?=some (.cells #[.int .i64 21,.string ⟨#[]⟩,.int .i64 v,.slice none 0 0] 24 (0,0)):=(heap_setCell_same w2 _ 2 _ 24 _ HB1.out).trans rfl
 have k4:=(heap_setCell_other w2 ⟨w.heap.size+1,2,none⟩ w.heap.size (.int .i64 v) (by show w.heap.size≠w.heap.size+1;omega)).trans HB0.out
 have HP3:=ħ (HP2.out.set (q:=w.heap.size+1) (i:=2) (x:=.int .i64 v) (by omega) (by omega))
 have HG3:=ħ (grown_set (q:=w.heap.size+1) (o:=2) (x:=.int .i64 v) HGG.out (by omega))
 have H3:=hide k3
 have H4:=hide k4
 clear k3 k4 HP2 HGG HB1 HB0
 go_wp2_with fail
 generalize w2.setCell _ _=w3 at *
 go_at_call 92
 refine (pass_any HP3.out).mono ?_
 rintro e w4 ⟨rfl,hP4,hG4⟩
 have h31:=(Array.getElem?_eq_some_iff.1 H3.out).1
 have h41:=(Array.getElem?_eq_some_iff.1 H4.out).1
 have H5:=ħ ((hG4.block (w.heap.size+1) h31 (fun e=>by have:=Option.some.inj e;omega)).trans H3.out)
 have H6:=ħ ((hG4.block w.heap.size h41 (fun e=>by have:=Option.some.inj e;omega)).trans H4.out)
 have hc5:=cells_at H5.out
 have hc6:=cells_at H6.out
 have hf6:=frozen_at H6.out
 obtain ⟨m1,m2,m3⟩:=set4 (.int .i64 21) (.string ⟨#[]⟩) (.int .i64 v) (.slice none 0 0) H6.out
 have hc7:=cells_at m1
 have hl7:=(Array.getElem?_eq_some_iff.1 m1).1
 have HG4:Hid (w.grownBy w4 (some b)):=⟨hG4.os.trans HG3.out.os,hG4.tape.trans HG3.out.tape,hG4.output.trans HG3.out.output,Nat.le_trans HG3.out.size hG4.size,fun k hk hn=>(hG4.block k (Nat.lt_of_lt_of_le hk HG3.out.size) hn).trans (HG3.out.block k hk (by simp))⟩
 have HE:=ħ (And.intro (m2 b g m ts (by omega) (by omega) hP4) (m3 w _ HG4.out (Nat.le_refl _)))
 clear m1 m2 m3 hP4 hG4 H3 H4 H5 H6 HG3 HG4 HP3 h31 h41
 go_wp2_with fail
 generalize ((((w4.setCell ⟨w.heap.size,0,none⟩ (.int .i64 21)).setCell ⟨w.heap.size,1,none⟩ (.string ⟨#[]⟩)).setCell ⟨w.heap.size,2,none⟩ (.int .i64 v)).setCell ⟨w.heap.size,3,none⟩ (.slice none 0 0))=X at *
 refine bodyPost_ret (v:=(.agg #[.int .i64 21,.string ⟨#[]⟩,.int .i64 v,.slice none 0 0])) (by simp [results,Tryz.results124,go_sem,hc7,hl7]) rfl ?_
 exact ⟨HE.out.2,Or.inl ⟨21,v,HN.out,rfl,HE.out.1⟩⟩
theorem number_k3 (h:Ps w b g m (t::ts)) (hF:Fit t) (hk:t.kind=3):Calls Tryz.prog 124 #[.pointer (some ⟨b,0,none⟩)] w (NumP w b g m (t::ts)):=by
 have hA:=h.alloc (.cells #[.int .i64 0,.string ⟨#[]⟩,.int .i64 0,.slice none 0 0] 24)
 have hA0:=hA.alloc (.cells #[.int .i64 21,.string ⟨#[]⟩,.int .i64 0,.slice none 0 0] 24)
 have hA2:=hA.alloc (.cells #[.int .i64 22,.string ⟨#[]⟩,.int .i64 0,.slice none 0 0] 24)
 obtain ⟨a,o,c,h1,h2,h3,h4,h5⟩:=hA.blk
 have hc:=cells_at h1
 obtain rfl:=h4 (by simp)
 obtain ⟨a',o',c',h1',h2',h3',h4',h5'⟩:=hA0.blk
 have hc':=cells_at h1'
 obtain rfl:=h4' (by simp)
 obtain ⟨k0,k1,k2⟩:=h5' 0 (by simp)
 simp only [Nat.zero_mul,Nat.add_zero,List.getElem_cons_zero] at k0 k1 k2
 rw [hk] at k0
 have hbl:=h.lt
 have hgl:=h.tok
 have HT:=ħ (text_any hA2)
 have HPI:=ħ (parse_any t.text (by have:=hF.short;omega) _ (hF.num (by rw [hk];decide)).2)
 have HG2:=ħ (grown_none (grown_alloc w (.cells #[.int .i64 0,.string ⟨#[]⟩,.int .i64 0,.slice none 0 0] 24)) (grown_alloc (w.alloc (.cells #[.int .i64 0,.string ⟨#[]⟩,.int .i64 0,.slice none 0 0] 24)) (.cells #[.int .i64 22,.string ⟨#[]⟩,.int .i64 0,.slice none 0 0] 24)))
 have HA2:=hide hA2
 have HS1:Hid (((w.alloc (.cells #[.int .i64 0,.string ⟨#[]⟩,.int .i64 0,.slice none 0 0] 24)).alloc (.cells #[.int .i64 22,.string ⟨#[]⟩,.int .i64 0,.slice none 0 0] 24)).heap[w.heap.size+1]?=some (.cells #[.int .i64 22,.string ⟨#[]⟩,.int .i64 0,.slice none 0 0] 24 (0,0))):=by
  have:=heap_new (w.alloc (.cells #[.int .i64 0,.string ⟨#[]⟩,.int .i64 0,.slice none 0 0] 24)) #[.int .i64 22,.string ⟨#[]⟩,.int .i64 0,.slice none 0 0] 24
  rw [World.size_alloc] at this
  exact this
 have HS0:Hid (((w.alloc (.cells #[.int .i64 0,.string ⟨#[]⟩,.int .i64 0,.slice none 0 0] 24)).alloc (.cells #[.int .i64 22,.string ⟨#[]⟩,.int .i64 0,.slice none 0 0] 24)).heap[w.heap.size]?=some (.cells #[.int .i64 0,.string ⟨#[]⟩,.int .i64 0,.slice none 0 0] 24 (0,0))):=by
  have h1:=heap_new w #[.int .i64 0,.string ⟨#[]⟩,.int .i64 0,.slice none 0 0] 24
  exact (Below.heap_alloc _ _ _ (by simp)).trans h1
 have hl:((t::ts).length:Int)≠0:=by rw [List.length_cons];omega
 have hl0:(0:Int)<((t::ts).length:Int):=by rw [List.length_cons];omega
 have HN:Hid (number (tk (t::ts))=some (.ok (.nd (.mk 22 [] (digits t.text.data.toList 0) [])) (tk ts))):=by
  show number (⟨t.kind,t.text.data.toList⟩::tk ts)=_
  unfold number
  simp only
  rw [hk]
  rfl
 generalize (t::ts).length=n at *
 generalize digits t.text.data.toList 0=v at *
 clear h h1 h4 h5 hA h1' h4' h5' hA2 hA0 hk hF
 go_enter Tryz.func124,Tryz.ntmps124
 go_wp2_with fail
 go_at_call 91
 refine HT.out.mono ?_
 rintro e w1 ⟨rfl,rfl⟩
 go_wp2_with fail
 go_at_call 64
 refine (HPI.out _).mono ?_
 rintro e w2 ⟨rfl,hG⟩
 have HB1:=ħ ((hG.block (w.heap.size+1) (by simp) (by simp)).trans HS1.out)
 have HB0:=ħ ((hG.block w.heap.size (by simp;omega) (by simp)).trans HS0.out)
 have HP2:=ħ (HA2.out.grown hG)
 have HGG:=ħ (grown_none HG2.out hG)
 clear hG HS1 HS0 HT HPI HA2 HG2
 have hcq:=cells_at HB1.out
 have hfq:=frozen_at HB1.out
 have k3:(w2.setCell ⟨w.heap.size+1,2,none⟩ (.int .i64 v)).heap[w.heap.size+1]?=some (.cells #[.int .i64 22,.string ⟨#[]⟩,.int .i64 v,.slice none 0 0] 24 (0,0)):=(heap_setCell_same w2 _ 2 _ 24 _ HB1.out).trans rfl
 have k4:=(heap_setCell_other w2 ⟨w.heap.size+1,2,none⟩ w.heap.size (.int .i64 v) (by show w.heap.size≠w.heap.size+1;omega)).trans HB0.out
 have HP3:=ħ (HP2.out.set (q:=w.heap.size+1) (i:=2) (x:=.int .i64 v) (by omega) (by omega))
 have HG3:=ħ (grown_set (q:=w.heap.size+1) (o:=2) (x:=.int .i64 v) HGG.out (by omega))
 have H3:=hide k3
 have H4:=hide k4
 clear k3 k4 HP2 HGG HB1 HB0
 go_wp2_with fail
 generalize w2.setCell _ _=w3 at *
 go_at_call 92
 refine (pass_any HP3.out).mono ?_
 rintro e w4 ⟨rfl,hP4,hG4⟩
 have h31:=(Array.getElem?_eq_some_iff.1 H3.out).1
 have h41:=(Array.getElem?_eq_some_iff.1 H4.out).1
 have H5:=ħ ((hG4.block (w.heap.size+1) h31 (fun e=>by have:=Option.some.inj e;omega)).trans H3.out)
 have H6:=ħ ((hG4.block w.heap.size h41 (fun e=>by have:=Option.some.inj e;omega)).trans H4.out)
 have hc5:=cells_at H5.out
 have hc6:=cells_at H6.out
 have hf6:=frozen_at H6.out
 obtain ⟨m1,m2,m3⟩:=set4 (.int .i64 22) (.string ⟨#[]⟩) (.int .i64 v) (.slice none 0 0) H6.out
 have hc7:=cells_at m1
 have hl7:=(Array.getElem?_eq_some_iff.1 m1).1
 have HG4:Hid (w.grownBy w4 (some b)):=⟨hG4.os.trans HG3.out.os,hG4.tape.trans HG3.out.tape,hG4.output.trans HG3.out.output,Nat.le_trans HG3.out.size hG4.size,fun k hk hn=>(hG4.block k (Nat.lt_of_lt_of_le hk HG3.out.size) hn).trans (HG3.out.block k hk (by simp))⟩
 have HE:=ħ (And.intro (m2 b g m ts (by omega) (by omega) hP4) (m3 w _ HG4.out (Nat.le_refl _)))
 clear m1 m2 m3 hP4 hG4 H3 H4 H5 H6 HG3 HG4 HP3 h31 h41
 go_wp2_with fail
 generalize ((((w4.setCell ⟨w.heap.size,0,none⟩ (.int .i64 22)).setCell ⟨w.heap.size,1,none⟩ (.string ⟨#[]⟩)).setCell ⟨w.heap.size,2,none⟩ (.int .i64 v)).setCell ⟨w.heap.size,3,none⟩ (.slice none 0 0))=X at *
 refine bodyPost_ret (v:=(.agg #[.int .i64 22,.string ⟨#[]⟩,.int .i64 v,.slice none 0 0])) (by simp [results,Tryz.results124,go_sem,hc7,hl7]) rfl ?_
 exact ⟨HE.out.2,Or.inl ⟨22,v,HN.out,rfl,HE.out.1⟩⟩
theorem number_any (h:Ps w b g m ts) (hF:Fits ts):Calls Tryz.prog 124 #[.pointer (some ⟨b,0,none⟩)] w (NumP w b g m ts):=by
 cases ts with
 | nil=>exact number_nil h
 | cons t ts=>
  by_cases h2:t.kind=2
  ·exact number_k2 h (hF t (List.mem_cons_self)) h2
  by_cases h3:t.kind=3
  ·exact number_k3 h (hF t (List.mem_cons_self)) h3
  exact number_no h (fun e=>e.elim h2 h3)
end Go.Proofs.YthcfianhdkolhaaGreatDoor.Y
namespace Go.Proofs.YthcfianhdkolhaaGreatDoor.Y
open Go.RowKit Go.Proofs.YthcfianhdkolhaaGreatDoor.X Go.Proofs.YthcfianhdkolhaaGreatDoor.T Go.Proofs.YthcfianhdkolhaaGreatDoor.S
set_option linter.unusedVariables false
set_option linter.unusedSimpArgs false
variable {w w' : World} {b g : Nat} {m : Value} {ts : List Tok} {t : Tok}
def twoOf (s:ByteArray):Int × Int × Bool:=if s=str sINT then (9,30,true) else if s=str sLONG then (10,31,true) else (0,0,false)
def Two (w:World) (b:Nat) (m:Value):Prop:=∃ mb,m=.map (some mb)∧mb≠b∧mb<w.heap.size∧∀ w':World,w'.heap[mb]?=w.heap[mb]?→∀ s:ByteArray,s.size≤4000 →
 (Instr.lookup 53 m (.string s) true).run Tryz.prog w'=.ok (.tuple #[.agg #[.int .i64 (twoOf s).1,.int .i64 (twoOf s).2.1],.bool (twoOf s).2.2]) w'
theorem Two.kept (h:Two w b m) (hg:w.grownBy w' (some b)):Two w' b m:=by
 obtain ⟨mb,rfl,h1,h2,h3⟩:=h
 have e:=hg.block mb h2 (fun e=>h1 (Option.some.inj e))
 exact ⟨mb,rfl,h1,Nat.lt_of_lt_of_le h2 hg.size,fun w'' hw s hs=>h3 w'' (hw.trans e) s hs⟩
theorem Two.look (h:Two w b m) (s:ByteArray) (hs:s.size≤4000):(Instr.lookup 53 m (.string s) true).run Tryz.prog w=.ok (.tuple #[.agg #[.int .i64 (twoOf s).1,.int .i64 (twoOf s).2.1],.bool (twoOf s).2.2]) w:=by
 obtain ⟨mb,rfl,h1,h2,h3⟩:=h
 exact h3 w rfl s hs
def PostN (q:G) (w:World) (b g:Nat) (m:Value) (ts:List Tok) (e:Ending) (w':World):Prop:=w.grownBy w' (some b)∧∃ r,r <:+ ts ∧
 ((∃ n v,r.length<ts.length∧R q (tk ts) (.ok (.nd n) (tk r))∧e=.returned v∧NdV w' (fun k=>w.heap.size≤k) n v∧Ps w' b g m r)∨(R q (tk ts) (.no (tk r))∧e=up r))
theorem Fits.suf {r:List Tok} (h:Fits ts) (hr:r <:+ ts):Fits r:=fun t ht=>h t (hr.subset ht)
theorem tk_tail (ts:List Tok):tk ts.tail=(tk ts).tail:=by cases ts<;>rfl
theorem hd_lt {ts:List Tok} {s:List UInt8} (h:hd (tk ts)=s) (hs:s≠[]):ts.tail.length<ts.length:=by
 cases ts with
 | nil=>exact absurd h.symm hs
 | cons t r=>simp
theorem nm_hd (h:Fits ts):nmAt ts 0=nameB (hd (tk ts)):=by
 cases ts with
 | nil=>rfl
 | cons t ts=>
  show nameB t.text.data.toList=nameB (Tk.txt ⟨t.kind,t.text.data.toList⟩)
  unfold Tk.txt
  by_cases hk:t.kind=2∨t.kind=3
  ·rw [if_pos hk]
   obtain ⟨⟨c,r,e,h1,h2⟩,_⟩:=(h t (List.mem_cons_self)).num hk
   rw [e]
   have:letB c.toNat=false:=by unfold letB;simp;omega
   have h0:signB (c::r) 0=false:=by simp [signB,this]
   simp only [nameB,List.length_nil,List.range_zero,List.all_nil]
   have ha:((List.range (c::r).length).all fun i=>signB (c::r) i)=false:=by
    rw [List.all_eq_false]
    exact ⟨0,by simp,by simp [h0]⟩
   rw [ha]
   simp
  rw [if_neg hk]
end Go.Proofs.YthcfianhdkolhaaGreatDoor.Y
namespace Go.Proofs.YthcfianhdkolhaaGreatDoor.Y
open Go.RowKit Go.Proofs.YthcfianhdkolhaaGreatDoor.X Go.Proofs.YthcfianhdkolhaaGreatDoor.T Go.Proofs.YthcfianhdkolhaaGreatDoor.S
set_option maxRecDepth 100000
set_option maxHeartbeats 2000000
set_option linter.unusedVariables false
set_option linter.unusedSimpArgs false
variable {w w' : World} {b g : Nat} {m : Value} {ts : List Tok} {t : Tok}
def Ask1 (w:World) (b g:Nat) (m:Value) (ts:List Tok) (x:ByteArray) (e:Ending) (w':World):Prop:=w.grownBy w' (some b)∧((tx ts=x∧e=.returned (.tuple #[])∧Ps w' b g m ts.tail)∨(¬ tx ts=x∧e=up ts))
theorem ask_new (h:Ps w b g m ts) (x:ByteArray) (hx:x.size≠0):Calls Tryz.prog 94 #[.pointer (some ⟨b,0,none⟩),.slice (some ⟨w.heap.size,0,none⟩) 1 1] (w.alloc (.cells #[.string x] 9)) (Ask1 w b g m ts x):=by
 have hn:=cells_at (heap_new w #[.string x] 9)
 have hbl:=h.lt
 have hg0:=grown_alloc w (.cells #[.string x] 9)
 refine (ask_any (h.alloc (.cells #[.string x] 9)) [x] (by simpa using hx) (some ⟨w.heap.size,0,none⟩) 1 w.heap.size (fun _=>rfl) (by omega) (by simp) (fun j hj=>?_) (by simp)).mono ?_
 ·obtain rfl:j=0:=by simpa using hj
  rw [hn 0]
  rfl
 rintro e w' ⟨he,hP,hG⟩
 refine ⟨⟨hG.os.trans hg0.os,hG.tape.trans hg0.tape,hG.output.trans hg0.output,Nat.le_trans hg0.size hG.size,fun k hk hn=>(hG.block k (Nat.lt_of_lt_of_le hk hg0.size) hn).trans (hg0.block k hk (by simp))⟩,?_⟩
 by_cases hq:tx ts=x
 ·have e1:asks [x] ts=(true,ts.tail):=by simp [asks,hq]
  rw [e1] at he hP
  exact Or.inl ⟨hq,he,hP⟩
 have e1:asks [x] ts=(false,ts):=by simp [asks,hq]
 rw [e1] at he hP
 exact Or.inr ⟨hq,he⟩
theorem node_any (k:Int) (ka:Option Addr) (kn kc:Nat) (w:World):Calls Tryz.prog 140 #[.int .i64 k,.slice ka kn kc] w fun e w'=>e=.returned (.agg #[.int .i64 k,.string ⟨#[]⟩,.int .i64 0,.slice ka kn kc])∧w.grownBy w' none:=by
 have HG:=ħ (grown_alloc w (.cells #[.int .i64 k,.string ⟨#[]⟩,.int .i64 0,.slice ka kn kc] 24))
 have hc:=cells_at (heap_new w #[.int .i64 k,.string ⟨#[]⟩,.int .i64 0,.slice ka kn kc] 24)
 go_enter Tryz.func140,Tryz.ntmps140
 go_wp2_with fail
 have hl:=(Array.getElem?_eq_some_iff.1 (heap_new w #[.int .i64 k,.string ⟨#[]⟩,.int .i64 0,.slice ka kn kc] 24)).1
 generalize w.alloc (.cells #[.int .i64 k,.string ⟨#[]⟩,.int .i64 0,.slice ka kn kc] 24)=X at *
 refine bodyPost_ret (v:=(.agg #[.int .i64 k,.string ⟨#[]⟩,.int .i64 0,.slice ka kn kc])) (by simp [results,Tryz.results140,go_sem,hc,hl]) rfl ?_
 exact ⟨rfl,HG.out⟩
def EndP (w:World) (b g:Nat) (m:Value) (ts:List Tok) (v:Value) (e:Ending) (w':World):Prop:=w.grownBy w' (some b)∧((tx ts=str sSEMI∧e=.returned v∧Ps w' b g m ts.tail)∨(¬ tx ts=str sSEMI∧e=up ts))
theorem ended_any (h:Ps w b g m ts) (hgl:g<w.heap.size) (k v:Int) (tt:ByteArray) (ka:Option Addr) (kn kc:Nat):Calls Tryz.prog 142 #[.pointer (some ⟨b,0,none⟩),.agg #[.int .i64 k,.string tt,.int .i64 v,.slice ka kn kc]] w (EndP w b g m ts (.agg #[.int .i64 k,.string tt,.int .i64 v,.slice ka kn kc])):=by
 have hbl:=h.lt
 have hA:=(h.alloc (.cells #[.int .i64 k,.string tt,.int .i64 v,.slice ka kn kc] 24)).alloc (.cells #[.int .i64 0,.string ⟨#[]⟩,.int .i64 0,.slice none 0 0] 24)
 have HG0:=ħ (grown_none (grown_alloc w (.cells #[.int .i64 k,.string tt,.int .i64 v,.slice ka kn kc] 24)) (grown_alloc (w.alloc (.cells #[.int .i64 k,.string tt,.int .i64 v,.slice ka kn kc] 24)) (.cells #[.int .i64 0,.string ⟨#[]⟩,.int .i64 0,.slice none 0 0] 24)))
 have HB0:Hid (((w.alloc (.cells #[.int .i64 k,.string tt,.int .i64 v,.slice ka kn kc] 24)).alloc (.cells #[.int .i64 0,.string ⟨#[]⟩,.int .i64 0,.slice none 0 0] 24)).heap[w.heap.size]?=some (.cells #[.int .i64 k,.string tt,.int .i64 v,.slice ka kn kc] 24 (0,0))):=by
  have h1:=heap_new w #[.int .i64 k,.string tt,.int .i64 v,.slice ka kn kc] 24
  exact (Below.heap_alloc _ _ _ (by simp)).trans h1
 have HB1:Hid (((w.alloc (.cells #[.int .i64 k,.string tt,.int .i64 v,.slice ka kn kc] 24)).alloc (.cells #[.int .i64 0,.string ⟨#[]⟩,.int .i64 0,.slice none 0 0] 24)).heap[w.heap.size+1]?=some (.cells #[.int .i64 0,.string ⟨#[]⟩,.int .i64 0,.slice none 0 0] 24 (0,0))):=by
  have:=heap_new (w.alloc (.cells #[.int .i64 k,.string tt,.int .i64 v,.slice ka kn kc] 24)) #[.int .i64 0,.string ⟨#[]⟩,.int .i64 0,.slice none 0 0] 24
  rw [World.size_alloc] at this
  exact this
 have HK:=ħ (ask_new hA (str sSEMI) (by decide))
 have hsz:((w.alloc (.cells #[.int .i64 k,.string tt,.int .i64 v,.slice ka kn kc] 24)).alloc (.cells #[.int .i64 0,.string ⟨#[]⟩,.int .i64 0,.slice none 0 0] 24)).heap.size=w.heap.size+2:=by simp
 rw [hsz] at HK
 have HZ:=hide hsz
 clear h hA hsz
 go_enter Tryz.func142,Tryz.ntmps142
 go_wp2_with fail
 generalize ((w.alloc (.cells #[.int .i64 k,.string tt,.int .i64 v,.slice ka kn kc] 24)).alloc (.cells #[.int .i64 0,.string ⟨#[]⟩,.int .i64 0,.slice none 0 0] 24))=W at *
 go_at_call 94
 refine HK.out.mono ?_
 rintro e w1 ⟨hG,⟨hq,rfl,hP⟩|⟨hq,rfl⟩⟩
 ·have H0:=ħ ((hG.block w.heap.size (by rw [HZ.out];omega) (fun e=>by have:=Option.some.inj e;omega)).trans HB0.out)
  have H1:=ħ ((hG.block (w.heap.size+1) (by rw [HZ.out];omega) (fun e=>by have:=Option.some.inj e;omega)).trans HB1.out)
  have hc0:=cells_at H0.out
  have hc1:=cells_at H1.out
  have hf1:=frozen_at H1.out
  obtain ⟨m1,m2,m3⟩:=set4 (.int .i64 k) (.string tt) (.int .i64 v) (.slice ka kn kc) H1.out
  have hc7:=cells_at m1
  have hl7:=(Array.getElem?_eq_some_iff.1 m1).1
  have HGG:Hid (w.grownBy w1 (some b)):=⟨hG.os.trans HG0.out.os,hG.tape.trans HG0.out.tape,hG.output.trans HG0.out.output,Nat.le_trans HG0.out.size hG.size,fun k hk hn=>(hG.block k (Nat.lt_of_lt_of_le hk HG0.out.size) hn).trans (HG0.out.block k hk (by simp))⟩
  have HE:=ħ (And.intro (m2 b g m ts.tail (by omega) (by omega) hP) (m3 w _ HGG.out (by omega)))
  have HQ:=hide hq
  clear m1 m2 m3 hP hG H0 H1 HB0 HB1 HGG HK HG0 hq
  go_wp2_with fail
  generalize ((((w1.setCell ⟨w.heap.size+1,0,none⟩ (.int .i64 k)).setCell ⟨w.heap.size+1,1,none⟩ (.string tt)).setCell ⟨w.heap.size+1,2,none⟩ (.int .i64 v)).setCell ⟨w.heap.size+1,3,none⟩ (.slice ka kn kc))=X at *
  refine bodyPost_ret (v:=(.agg #[.int .i64 k,.string tt,.int .i64 v,.slice ka kn kc])) (by simp [results,Tryz.results142,go_sem,hc7,hl7]) rfl ?_
  exact ⟨HE.out.2,Or.inl ⟨HQ.out,rfl,HE.out.1⟩⟩
 exact ⟨rfl,⟨hG.os.trans HG0.out.os,hG.tape.trans HG0.out.tape,hG.output.trans HG0.out.output,Nat.le_trans HG0.out.size hG.size,fun k hk hn=>(hG.block k (Nat.lt_of_lt_of_le hk HG0.out.size) hn).trans (HG0.out.block k hk (by simp))⟩,Or.inr ⟨hq,rfl⟩⟩
end Go.Proofs.YthcfianhdkolhaaGreatDoor.Y
