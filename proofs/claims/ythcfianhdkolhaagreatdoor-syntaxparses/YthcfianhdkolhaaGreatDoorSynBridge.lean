/- SynText SynToks SynBridge -/
import Derived.Test.YthcfianhdkolhaaGreatDoorXLx
import Derived.Test.YthcfianhdkolhaaGreatDoorSynDig
namespace Go.Proofs.YthcfianhdkolhaaGreatDoor.S
open Go.Proofs.YthcfianhdkolhaaGreatDoor.X (Has Fine Like scan look rowEnd rowC rowCode rowText isL mostW mostL aboveB byteAt str sigN good_sign byteAt_str byteAt_get ba_ext insB raw signs)
set_option linter.unusedVariables false
set_option linter.unusedSimpArgs false
theorem dig_same (c:Nat):X.digB c=digB c:=rfl
theorem at_list {s:List UInt8} {j:Nat} (hj:j<s.length):byteAt (str s) j=(s[j]).toNat:=by
 rw [byteAt_str,List.getElem?_eq_getElem hj]
theorem size_str (s:List UInt8):(str s).size=s.length:=rfl
theorem not_above {s t:List UInt8} (hs:AllD s) (ht:AllD t) (hs0:s≠[]) (ht1:10 ^ (t.length - 1)≤valN t 0) (h:aboveB (str s) (str t)=false):valN s 0≤valN t 0:=by
 unfold aboveB at h
 simp only [Bool.or_eq_false_iff,decide_eq_false_iff_not,Bool.and_eq_false_iff] at h
 obtain ⟨h1,h2⟩:=h
 rw [size_str,size_str] at h1
 by_cases e:s.length=t.length
 ·have e1:(str s).toList=s:=by rw [ByteArray.toList_eq];simp [str]
  have e2:(str t).toList=t:=by rw [ByteArray.toList_eq];simp [str]
  rw [e1,e2] at h2
  have hc:=less_val s t 0 hs ht e
  rcases h2 with h2|h2
  ·exact absurd e h2
  ·simp only [Bool.not_eq_false',Bool.or_eq_true,beq_iff_eq] at h2
   rcases h2 with h2|h2
   ·exact Nat.le_of_lt (hc.1 h2)
   ·rw [h2];exact Nat.le_refl _
 ·have h3:=(val_bounds s 0 hs).2
  have h4:10 ^ s.length≤10 ^ (t.length - 1):=Nat.pow_le_pow_right (by omega) (by omega)
  omega
def lW:List UInt8:=[50,49,52,55,52,56,51,54,52,55]
def lL:List UInt8:=[57,50,50,51,51,55,50,48,51,54,56,53,52,55,55,53,56,48,55]
theorem lW_ok:AllD lW∧lW≠[]∧NoZ lW∧valN lW 0=2147483647:=by
 refine ⟨fun c hc=>?_,by decide,fun _ c hc=>?_,by decide⟩
 ·simp [lW] at hc
  rcases hc with rfl|rfl|rfl|rfl|rfl|rfl|rfl|rfl|rfl|rfl<;>decide
 ·simp [lW] at hc
  subst hc
  decide
theorem lL_ok:AllD lL∧lL≠[]∧NoZ lL∧valN lL 0=9223372036854775807:=by
 refine ⟨fun c hc=>?_,by decide,fun _ c hc=>?_,by decide⟩
 ·simp [lL] at hc
  rcases hc with rfl|rfl|rfl|rfl|rfl|rfl|rfl|rfl|rfl|rfl|rfl|rfl|rfl|rfl|rfl|rfl|rfl|rfl|rfl<;>decide
 ·simp [lL] at hc
  subst hc
  decide
end Go.Proofs.YthcfianhdkolhaaGreatDoor.S
namespace Go.Proofs.YthcfianhdkolhaaGreatDoor.S
open Go.Proofs.YthcfianhdkolhaaGreatDoor.X (Has Fine Like scan rowEnd rowC rowCode rowText isL mostW mostL aboveB byteAt str sigN good_sign byteAt_str byteAt_get ba_ext insB raw signs)
set_option linter.unusedVariables false
set_option linter.unusedSimpArgs false
end Go.Proofs.YthcfianhdkolhaaGreatDoor.S
namespace Go.Proofs.YthcfianhdkolhaaGreatDoor.S
open Go.Proofs.YthcfianhdkolhaaGreatDoor.X (Has Fine Like scan rowEnd rowC rowCode rowText isL mostW mostL aboveB byteAt str sigN byteAt_str ba_ext insB raw signs Tok rawLen spB spB_len scan_shown scan_fine fine_len)
set_option linter.unusedVariables false
set_option linter.unusedSimpArgs false
def tkOf (l:List Tok):List Tk:=l.map fun k=>⟨k.kind,k.text.data.toList⟩
def toTok (t:Tk):Tok:=⟨t.kind,str t.text,0⟩
def toToks (l:List Tk):List Tok:=l.map toTok
theorem raw_cost (t:Tk):(raw t.kind (str t.text)).size=t.raw:=by
 unfold raw Tk.raw
 split
 ·rename_i e
  rw [ByteArray.size_append]
  rfl
 ·rfl
theorem cost_tkOf (l:List Tok):cost (tkOf l)=rawLen l:=by
 induction l with
 | nil=>rfl
 | cons k r ih=>
  have e:rawLen (k::r)=(raw k.kind k.text).size+rawLen r:=by simp [rawLen]
  have e2:cost (tkOf (k::r))=Tk.raw ⟨k.kind,k.text.data.toList⟩+cost (tkOf r):=rfl
  rw [e,e2,ih,← raw_cost]
  rfl
def shown (n:Nd):List UInt8:=spB (toToks (shT n))
theorem row_ok {x:ByteArray} {most:ByteArray} (ml:List UInt8) (hm:most=str ml) (hml:AllD ml∧10 ^ (ml.length - 1)≤valN ml 0) (h0:1≤x.size) (hc:rowC x most=0):0≤digits x.data.toList 0∧digits x.data.toList 0≤valN ml 0∧(decN (digits x.data.toList 0).toNat).length≤x.data.toList.length:=by
 obtain ⟨s,rfl⟩:∃ s,x=str s:=⟨x.data.toList,rfl⟩
 have es:(str s).data.toList=s:=by simp [str]
 rw [es]
 have hs0:s≠[]:=by rintro rfl;simp [str] at h0;exact absurd h0 (by decide)
 have hpos:0<s.length:=List.length_pos_iff.2 hs0
 subst hm
 unfold rowC at hc
 split at hc
 ·cases hc
 rename_i c1
 split at hc
 ·cases hc
 rename_i c2
 split at hc
 ·cases hc
 rename_i c3
 have hall:AllD s:=fun c hcm=>by
  obtain ⟨j,hj,rfl⟩:=List.mem_iff_getElem.1 hcm
  simp only [Bool.not_eq_true',Bool.not_eq_false] at c1
  have:=(List.all_eq_true.1 c1) j (List.mem_range.2 hj)
  rw [at_list hj,dig_same] at this
  unfold digB at this
  simp at this
  exact this
 have hz:NoZ s:=fun hl c hcm h48=>by
  refine c2 ⟨hl,?_⟩
  rw [at_list hpos]
  cases s with
  | nil=>exact absurd rfl hs0
  | cons a r=>simp at hcm;subst hcm;exact h48
 have hv:=digits_val s 0 hall
 have hv':digits s 0=valN s 0:=hv
 have hle:=not_above hall hml.1 hs0 hml.2 (by simpa using c3)
 rw [hv']
 refine ⟨by omega,by omega,?_⟩
 have e:((valN s 0:Nat):Int).toNat=valN s 0:=by omega
 rw [e,dec_of_val _ s rfl hall hs0 hz]
 exact Nat.le_refl _
theorem has_self (x:ByteArray):Has x 0 x:=⟨by omega,fun j _=>by rw [Nat.zero_add],fun h=>by omega⟩
theorem tk_ok {kind:Int} {text:ByteArray} (h:X.Good (raw kind text) kind text) (h1:1≤(raw kind text).size):TkOk ⟨kind,text.data.toList⟩:=by
 obtain ⟨e,_⟩:=h _ _ (has_self _)
 generalize raw kind text=x at *
 obtain ⟨w1,w2,w3,w4⟩:=lW_ok
 obtain ⟨l1,l2,l3,l4⟩:=lL_ok
 unfold X.look at e
 split at e
 ·injection e with e1 e2 e3 e4
  subst e2
  exact ⟨fun q=>by simp at q,fun q=>by simp at q⟩
 rename_i hl
 split at e
 ·rename_i hd
  obtain ⟨f1,f2,f3,f4⟩:=X.row_facts (t:=x) (i:=0) (by omega) (X.dig_ins hd)
  generalize x.extract 0 (rowEnd x 0)=row at *
  injection e with e1 e2 e3 e4
  cases hL:X.isL row with
  | false=>
   rw [hL] at e2
   have er:rowText row=row:=by unfold rowText;rw [hL];rfl
   rw [er] at e3
   subst e3
   have e2':(2:Int)=kind:=by simpa using e2
   subst e2'
   refine ⟨fun _=>?_,fun q=>by simp at q⟩
   have hc:rowC row mostW=0:=by unfold rowCode at e1;rw [er,hL] at e1;exact e1
   have:=row_ok lW rfl ⟨w1,by decide⟩ f2 hc
   rw [w4] at this
   exact this
  | true=>
   rw [hL] at e2
   have e2':(3:Int)=kind:=by simpa using e2
   subst e2'
   refine ⟨fun q=>by simp at q,fun _=>?_⟩
   have hc:rowC (rowText row) mostL=0:=by unfold rowCode at e1;rw [hL] at e1;exact e1
   have hsz:1≤(rowText row).size:=by
    have h2:2≤row.size:=by
     by_cases q:row.size=1
     ·unfold X.isL at hL
      rw [q] at hL
      simp only [Nat.sub_self,decide_eq_true_eq] at hL
      rw [f3] at hL
      rw [hL] at hd
      exact absurd hd (by decide)
     ·omega
    unfold rowText
    rw [hL,if_pos rfl,ByteArray.size_extract]
    omega
   rw [← e3]
   have:=row_ok lL rfl ⟨l1,by decide⟩ hsz hc
   rw [l4] at this
   exact this
 ·injection e with e1 e2 e3 e4
  subst e2
  exact ⟨fun q=>by simp at q,fun q=>by simp at q⟩
theorem scanned {t:ByteArray} (hc:(scan t).2.1=0):Wf (tkOf (scan t).1)∧cost (tkOf (scan t).1)≤t.size:=by
 obtain ⟨h1,h2⟩:=scan_fine t hc
 refine ⟨fun x hx=>?_,by rw [cost_tkOf];exact h2⟩
 obtain ⟨k,hk,rfl⟩:=List.mem_map.1 hx
 exact tk_ok (h1 k hk).1 (h1 k hk).2
end Go.Proofs.YthcfianhdkolhaaGreatDoor.S
